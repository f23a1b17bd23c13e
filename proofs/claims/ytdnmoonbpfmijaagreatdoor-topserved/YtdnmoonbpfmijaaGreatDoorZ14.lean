/- Part 14 of the walk. -/
import Derived.Test.YtdnmoonbpfmijaaGreatDoorZ13
set_option maxRecDepth 100000
set_option maxHeartbeats 4000000
open Go.Proofs.Tryz
set_option linter.unusedVariables false
namespace Go.Proofs.YtdnmoonbpfmijaaGreatDoor
section
section
def NB(p:Nod):Prop:=∀ b vs,Pend.began b vs∉p.bw
variable{M N:Meet}{c j:Nat}{p q:Nod}{v:Vt}
theorem NB.snoc(h:NB p){x:Pend}(e:q.bw=p.bw++[x])(a:∀ b vs,Pend.began b vs≠x):NB q:=λb vs g=>by
 rw[e]at g
 rcases Q'.1 g with g|g
 .exact h b vs g
 .exact a b vs (D'.1 g)
theorem NB.same(h:NB p)(e:q.bw=p.bw):NB q:=λb a g=>h b a (by rw[<- e];exact g)
theorem ZL(p:Nod)(b:Bal):(p.au b).1.bw=p.bw:=by
 unfold Nod.au;split
 .rfl
 .split
  .rfl
  .split<;>rfl
theorem RA(p:Nod)(v:Vt):(p.cn v).1.bw=p.bw:=by
 unfold Nod.cn;split
 .rfl
 .split
  .rfl
  .split<;>rfl
theorem iP(p:Nod)(b:Bal):(p.au b).1.ae=p.ae:=by
 unfold Nod.au;split
 .rfl
 .split
  .rfl
  .split<;>rfl
theorem j5(p:Nod)(v:Vt):(p.cn v).1.ae=p.ae:=by
 unfold Nod.cn;split
 .rfl
 .split
  .rfl
  .split<;>rfl
theorem NB.fa(h:NB p)(to:Nat)(e:Int):NB (p.fa to e):=by
 unfold Nod.fa;split
 .exact h.snoc rfl (λ_ _ g=>by cases g)
 .exact h
theorem Sa(p:Nod)(j:Nat)(v:Vt):(p.count j v).bw=p.bw:=by
 unfold Nod.count;split
 .rfl
 .split<;>rfl
theorem Od(p:Nod)(l:List Cmd):(p.eb l).bw=p.bw:=by unfold Nod.eb;split<;>rfl
theorem NB.take(h:NB p)(l:Let):NB (p.take l):=by
 unfold Nod.take;split
 .split
  .exact h.fa _ _
  .exact h.snoc (by show(p.au l.jv).1.bw++_=_;rw[ZL]) (λ_ _ g=>by cases g)
 .simp only;split<;>exact h
 .exact h
 .split
  .exact h.fa _ _
  .exact h.snoc (by show(p.cn l.cn).1.bw++_=_;rw[RA]) (λ_ _ g=>by cases g)
 .exact h.same (Sa _ _ _)
 .split
  .exact h.snoc rfl (λ_ _ g=>by cases g)
  .exact h
 .simp only;split
  .exact h.snoc (by show((p.eb l.hZ).bw)++_=_;rw[Od]) (λ_ _ g=>by cases g)
  .exact h.same (Od _ _)
 .exact h
theorem Stp.nb(s:Stp wh0 c M N){j:Nat}(h:NB (M.ab j)):NB (N.ab j):=by
 have put:∀ {i:Nat} {p:Nod} {a:List Let} {f:List Tol},(j=i->NB p)->NB ((M.set i p a f).ab j):=λ{i p a f} g=>by
  rw[Am];split
  .rename_i e;exact g e
  .exact h
 cases s with
 | take _ l hl hd hu ht=>exact put λe=>by rw[<- e];exact h.take l
 | br _ a hl hd=>exact False.elim hd
 | one _ i c hi hu hc he=>exact put λe=>(e▸h:NB (M.ab i)).same (GO _ _).1
 | ask _ i hi hu=>exact put λe=>(e▸h:NB (M.ab i)).same (Jv _ _).1
 | prop _ i hi hu =>
  refine put λe=>?_;have h:NB (M.ab i):=e▸h;unfold Nod.cF;split
  .exact h
  .split
   .exact h
   .split
    .exact h
    .exact h.snoc (by show((M.ab i).cn _).1.bw++_=_;rw[RA]) (λ_ _ g=>by cases g)
 | rJ _ i hi hu hs hT=>exact put λe=>(e▸h:NB (M.ab i)).same rfl
 | run _ i hi hu q l hp hs=>exact put λe b m g=>(e▸h:NB (M.ab i)) b m (by rw[hp];exact I' _ g)
 | rG _ i hi hu hL=>exact put λe=>(e▸h:NB (M.ab i)).same rfl
 | lead _ i hi hu hL=>exact False.elim hL
 | sub _ i d hi hu hD=>exact False.elim hD
 | mv _ i k hi hu hk hC=>exact False.elim hC
 | start _ i hi hu hs=>exact False.elim hs
theorem Oa{k:Nat}{u:Vt}(hv:v∈((p.count k u).av.an j).vs):v∈(p.av.an j).vs\/v.b=p.av.jv:=by
 unfold Nod.count at hv;split at hv
 .exact .inl hv
 .rename_i hb
  split at hv
  .exact .inl hv
  .rename_i a
   have a:=mF.1 a;have hv:v∈(upN p.av.an k ⟨BJ (p.av.an k) u,Bv (p.av.an k) u⟩ j).vs:=hv;unfold upN at hv;split at hv
   .rename_i e
    have hv:v∈Bv (p.av.an k) u:=hv;unfold Bv at hv;rw[if_pos a,BC (Ap a).1.2.2]at hv
    rcases hv with hv|hv
    .exact .inr (by rw[hv];exact mF.1 hb)
    .exact .inl (by rw[e];exact hv.1)
   .exact .inl hv
theorem Stp.um(s:Stp wh0 c M N){i:Nat}(m:NB (M.ab i))(n:∀ j,j<5->(M.ab i).av.rA j=true){j:Nat}{v:Vt}(a:v∈((N.ab i).av.an j).vs):v∈((M.ab i).av.an j).vs\/v.b=(M.ab i).av.jv:=by
 have put:∀ {k:Nat} {p:Nod} {f:List Let} {h:List Tol},v∈(((M.set k p f h).ab i).av.an j).vs->(i=k->v∈(p.av.an j).vs->v∈((M.ab i).av.an j).vs\/v.b=(M.ab i).av.jv)->v∈((M.ab i).av.an j).vs\/v.b=(M.ab i).av.jv:=λ{k p f h} g e=>by
  rw[Am]at g
  split at g
  .rename_i e2;exact e e2 g
  .exact .inl g
 cases s with
 | take _ l hl hd hu ht =>
  refine put a λe g=>?_;rw[<- e]at g
  unfold Nod.take at g;split at g
  .split at g
   .unfold Nod.fa at g;split at g<;>exact .inl g
   .have g:v∈(((M.ab i).au l.jv).1.av.an j).vs:=g;rw[(AZ _ _).2]at g;exact .inl g
  .simp only at g;split at g
   .exact .inl g
   .rename_i hc
    exact absurd (.inr (.inr (n l.src hd.1))) hc
  .exact .inl g
  .split at g
   .unfold Nod.fa at g;split at g<;>exact .inl g
   .have g:v∈(((M.ab i).cn l.cn).1.av.an j).vs:=g;rw[(Co _ _).2]at g;exact .inl g
  .exact Oa g
  .split at g<;>exact .inl g
  .simp only at g;unfold Nod.eb at g;split at g<;>split at g<;>exact .inl g
  .exact .inl g
 | br _ f hl hd=>exact False.elim hd
 | one _ k c hi hu hc he =>
  refine put a λe g=>?_;rw[<- e]at g
  unfold Nod.gC at g;split at g<;>exact .inl g
 | ask _ k hi hu =>
  refine put a λe g=>?_;rw[<- e]at g
  unfold Nod.ln at g;split at g
  .exact .inl g
  .split at g
   .unfold Nod.eb at g;split at g<;>exact .inl g
   .exact .inl g
 | prop _ k hi hu =>
  refine put a λe g=>?_;rw[<- e]at g
  unfold Nod.cF at g;split at g
  .exact .inl g
  .split at g
   .exact .inl g
   .split at g<;>exact .inl g
 | rJ _ k hi hu hs hT=>exact put a λe g=>by rw[<- e]at g;exact .inl g
 | run _ k hi hu q l hp2 hs =>
  refine put a λe g=>?_;rw[<- e]at g hp2
  have g:v∈(((M.ab i).lp i q).av.an j).vs:=g;cases q with
  | began b vs=>exact absurd (by rw[hp2];exact O') (m b vs)
  | prop u=>exact Oa g
  | _=>exact .inl g
 | rG _ k hi hu hL=>exact put a λe g=>by rw[<- e]at g;exact .inl g
 | lead _ k hi hu hL=>exact False.elim hL
 | sub _ k d hi hu hD=>exact False.elim hD
 | mv _ k y hi hu hk hC=>exact False.elim hC
 | start _ k hi hu hs=>exact False.elim hs
theorem X9{b:Bal}(l:List Cmd){f:Cmd->Option Bal}(h:∀ c∈l,f c=some b):(Bd b f l).1=[]:=by
 induction l with
 | nil=>rfl
 | cons c l ih =>
  rw[Bd,if_neg (by rw[h c O'];exact λg=>g rfl)];exact ih λd a=>h d (I' _ a)
end
section
variable{C:List Cmd}{K:Int}{B:Nat->Bal}{cov:List (Bal × Nat)}{i:Nat}{b:Bal}
structure PhE(C:List Cmd)(K:Int)(B:Nat->Bal)(cov:List (Bal × Nat))(i:Nat)(b:Bal)(M:Meet):Prop where
 pb:PhB C K B cov i b M
 va:∀ j,j<5->(M.ab j).vo.p=b
 pr:∀ j,j<5->(M.ab i).av.rA j=true
 nb:NB (M.ab i)
 aw:∀ j,j<5->∀ c x,(M.ab j).cl c=some x->x=b
 l6:∀ m∈M.br,m.kind=6->m.hZ=[]
 qw:∀ j,j<5->∀ c∈(M.ab j).bn,c∈(M.ab i).av.fv
theorem PhE.nil{M:Meet}(h:PhE C K B cov i b M){j:Nat}(a:j<5):(Bd (M.ab j).vo.p (M.ab j).cl ((M.ab j).bn.take 40)).1=[]:=by
 rw[h.va j a];refine X9 _ λc e=>?_;obtain⟨x,d⟩:=nS.1 (((h.pb.ak j a).wa c).1 (mP e));rw[d,h.aw j a c x d]
theorem PhE.ln{M:Meet}(h:PhE C K B cov i b M){j:Nat}(a:j<5):(M.ab j).ln j=({ M.ab j with cl:=(Bd (M.ab j).vo.p (M.ab j).cl ((M.ab j).bn.take 40)).2 },[]):=by
 unfold Nod.ln;rw[if_pos (h.nil a)]
theorem DK{i:Nat}{l m:Let}{k:Nat}(h:m∈BV i l k):m.kind=l.kind/\m.hZ=l.hZ:=by
 unfold BV at h;obtain⟨j,_,rfl⟩:=mY.1 h;exact⟨rfl,rfl⟩
theorem PhE.step(r:PhC C K B cov i b){n:Nat}{M N:Meet}(s:Stp wh0 n M N)(h:PhE C K B cov i b M):PhE C K B cov i b N:=by
 refine⟨h.pb.step r s,λj a=>h.pb.cm.top r.hc s r.hb.pr r.hK a (h.va j a),λj a=>(s.ev i).rA j (h.pr j a),s.nb h.nb,λj a c x d=>?_,λm f o=>?_,λj a c u=>(s.ev i).qu.subset (h.qw j a c ((s.ev j).wa c u))⟩
 .rcases s.cl d with g|⟨_,rfl⟩
  .exact h.aw j a c x g
  .rw[Am,if_pos rfl,h.ln a]at d
   have d:(Bd (M.ab j).vo.p (M.ab j).cl ((M.ab j).bn.take 40)).2 c=some x:=d;have t:b≠Bf:=λe=>by have:=r.hb;rw[e]at this;exact absurd this (by decide)
   rw[h.va j a]at d
   have f:=Lm t ((M.ab j).bn.take 40) (M.ab j).cl;by_cases e:c∈(M.ab j).bn.take 40
   .rw[f.2.1 c e]at d;exact(ny d).symm
   .rw[f.1 c e]at d;exact h.aw j a c x d
 .have old:m∈M.br->m.hZ=[]:=λg=>h.l6 m g o;cases s with
  | br _ ls hl hd=>exact False.elim hd
  | ask _ k hi hu =>
   rw[h.ln hi]at f
   exact old (by simpa[Meet.set]using f)
  | run _ k hi hu q l hp hs =>
   rcases Q'.1 f with g|g
   .exact old g
   .cases q with
    | began b vs =>
     unfold Nod.rE at g;simp only at g;split at g
     .cases g
     .have:=(DK g).1;rw[o]at this;cases this
    | prop v=>have:=(DK g).1;rw[o]at this;cases this
    | start=>exact(DK g).2
    | askNews to=>rw[D'.1 g];rfl
    | _=>have e:=D'.1 g;rw[e]at o;cases o
  | rG _ k hi hu hL =>
   rcases Q'.1 f with g|g
   .exact old g
   .have:=(JZ 5 m g).1;omega
  | _=>exact old f
end
section
variable{C:List Cmd}{K:Int}{B:Nat->Bal}{cov:List (Bal × Nat)}{i:Nat}{b:Bal}{A:List Cmd}
section
structure Fin_(i:Nat)(A:List Cmd)(M:Meet):Prop where
 ag:(M.ab i).ae=A
 nx:(M.ab i).av.next<=A.length
 hd:A.length<40->∀ j,j<5->∀ v∈((M.ab i).av.an j).vs,v.bu≠(A.length:Int)
 qu:A.length<40->∀ c∈(M.ab i).av.fv,c∈A
variable{M:Meet}{k:Nat}{l:List Cmd}{σ:Gs}
theorem PhE.rd(a:PhC C K B cov i b){M:Meet}(h:PhE C K B cov i b M){σ:Gs}(g:AgI σ M):RdI σ i (M.ab i).av/\(M.ab i).av.jv=b:=by
 obtain⟨c,k⟩:=(g.nd i a.hi).up (h.pb.cm.up i a.hi);exact⟨k.rd,(h.pb.cm.jv i a.hi).trans a.hB⟩
theorem PhE.lt(d:PhC C K B cov i b){M:Meet}(h:PhE C K B cov i b M){σ:Gs}(g:AgI σ M){v:Vt}(a:σ.rW v)(c:v.b=b):v.bu<((M.ab i).av.next:Int):=by
 have k:=h.rd d g;have:=k.1.next v.bu.toNat v.w (by rw[k.2,<- c];exact a.2);have:=a.1.1;omega
theorem PhE.held(a:PhC C K B cov i b){M:Meet}(h:PhE C K B cov i b M){σ:Gs}(g:AgI σ M){s:Nat}(o:(M.ab i).av.next<=s)(m:∀ j,j<5->∀ v∈((M.ab i).av.an j).vs,v.bu≠(s:Int)){q:Nat}(d:q<5){v:Vt}(l:σ.held q v):v.bu≠(s:Int):=by
 intro e;have k:=h.rd a g;have c:=g.gs.hv q v l;have n:=g.so h.pb.cm.kb.2 c.1.2.1 (g.gs.w3 _ _ _ c.2);by_cases f:v.b.key<b.key
 .obtain⟨u,hu,eu,_⟩:=(k.1.prom q d (h.pr q d)).2 v l (by rw[k.2];exact f);exact m q d u hu (eu.trans e)
 .have e3:v.b=b:=DO c.1.2.1.pr a.hb.pr (by rw[a.hK]at f ⊢;omega);have:=h.lt a g c e3;omega
theorem gU(g:GsI σ){s:Nat}{c:Cmd}(h:σ.sK s c):∃ q,q<5/\∃ v,σ.held q v/\v.bu=(s:Int)/\v.w=c/\s<40:=by
 obtain⟨k,Q,d,j⟩:=h;obtain⟨q,e,a,_⟩:=G9 Q Q d d;obtain⟨v,b,f,_,i⟩:=j q e a;have:=(g.hv q v b).1.1;exact⟨q,e,v,b,f,i,by omega⟩
theorem Fin_.none(k:PhC C K B cov i b){M:Meet}(h:PhE C K B cov i b M)(f:Fin_ i A M){σ:Gs}(g:AgI σ M)(c:Cmd):¬ σ.sK A.length c:=λe=>by
 obtain⟨q,l,v,a,d,_,j⟩:=gU g.gs e;exact h.held k g f.nx (f.hd j) l a d
theorem AgL.le{a:Nat}(h:AgL σ l k)(d:∀ c,¬ σ.sK a c)(f:k<=a):k+l.length<=a:=qf λe=>by
 have b:a-k<l.length:=by omega
 exact d _ (by rw[show a=k+(a-k)by omega];exact h (a-k) _ (G' b))
theorem Fin_.le(a:PhC C K B cov i b){M:Meet}(h:PhE C K B cov i b M)(f:Fin_ i A M){j:Nat}(c:j<5):(M.ab j).ae.length<=A.length:=by
 obtain⟨σ,g,_⟩:=h.pb.cm.ex;have:=(g.nd j c).ag.le (f.none a h g) (nm _);omega
theorem Fin_.ry(f:Fin_ i A M):(M.ab i).ry (M.ab i).ae.length=Option.none:=by
 unfold Nod.ry;rw[f.ag];split
 .rfl
 .rename_i b
  have b:=mF.1 b;have k:A.length<40:=by
   unfold BY at b;split at b
   .cases b
   .omega
  have m:Ae ((M.ab i).av.kc.map (·.vs)).flatten (A.length:Int)=[]:=pc.2 λv h=>by
   obtain⟨n,o⟩:=AL.1 h;obtain⟨l,s,h⟩:=oJ.1 n;obtain⟨a,d,rfl⟩:=mY.1 s;unfold Rnd.kc at d;have:∃ j,j<5/\a=(M.ab i).av.an j:=by
    simp only[mO,P',or_false]at d;rcases d with e|e|e|e|e
    .exact⟨0,by omega,e⟩
    .exact⟨1,by omega,e⟩
    .exact⟨2,by omega,e⟩
    .exact⟨3,by omega,e⟩
    .exact⟨4,by omega,e⟩
   obtain⟨j,r,rfl⟩:=this;exact f.hd k j r v h o
  have p:Ea ((M.ab i).av.kc.map (·.vs)) (A.length:Int)=false:=by
   unfold Ea;rw[if_pos b];unfold Eg;rw[m];rfl
  rw[if_neg (by rw[p];decide)];exact nY.2 λc q g=>absurd (f.qu k c q) (nr g)
theorem Ou{a:List Cmd}(h:k+a.length<=l.length):l++a.drop (l.length-k)=l:=by rw[nC (by omega),mZ]
theorem Ze{r:Rnd}(k:Nat)(h:Db r.kc (l.length:Int)≠0):FP k r l=l:=by
 cases k with
 | zero=>rfl
 | succ k=>rw[FP,if_neg h]
def Ub(p q:Nod):Prop:=q.ae=p.ae/\q.av.next=p.av.next/\q.av.fv=p.av.fv
theorem Fin_.count(c:PhC C K B cov i b){M:Meet}(h:PhE C K B cov i b M)(f:Fin_ i A M){σ:Gs}(g:AgI σ M){j:Nat}{v:Vt}(m:σ.held j v):Ub (M.ab i) ((M.ab i).count j v):=by
 have k:=(h.rd c g).1;unfold Nod.count;split
 .exact⟨rfl,rfl,rfl⟩
 .rename_i hb
  split
  .exact⟨rfl,rfl,rfl⟩
  .rename_i he
   refine⟨Ze _ λe=>?_,rfl,rfl⟩;have e:Db (Rnd.kc _) ((M.ab i).ae.length:Int)=0:=e;have a:=Ud (λq d u l=>((k.count (mF.1 hb) (mF.1 he) m).an q d u l).1) e;rw[f.ag]at a
   exact f.none c h g _ a
theorem Fin_.same(m:PhC C K B cov i b){n:Nat}{M N:Meet}(s:Stp wh0 n M N)(h:PhE C K B cov i b M)(f:Fin_ i A M):Ub (M.ab i) (N.ab i):=by
 obtain⟨σ,g,_⟩:=h.pb.cm.ex;have put:∀ {k:Nat} {p:Nod} {r:List Let} {t:List Tol},(i=k->Ub (M.ab i) p)->Ub (M.ab i) ((M.set k p r t).ab i):=λ{k p r t} e=>by
  rw[Am];split
  .rename_i e2;exact e e2
  .exact⟨rfl,rfl,rfl⟩
 have o:∀ {l:List Cmd} {k:Nat},AgL σ l k->k<=A.length->k+l.length<=(M.ab i).ae.length:=λa e=>by rw[f.ag];exact a.le (f.none m h g) e
 cases s with
 | take _ l hl2 hd hu ht =>
  refine put λe=>?_;rw[<- e];have lt:=g.lt l hl2;unfold Nod.take;split
  .split
   .unfold Nod.fa;split<;>exact⟨rfl,rfl,rfl⟩
   .exact⟨iP _ _,by show(Nod.au _ _).1.av.next=_;rw[(AZ _ _).2],by show(Nod.au _ _).1.av.fv=_;rw[(AZ _ _).2]⟩
  .rename_i hk
   simp only;rw[if_pos (.inr (.inr (h.pr l.src hd.1)))];exact⟨Ou (o (lt.k1 hk).2.2 (nm _)),rfl,rfl⟩
  .exact⟨rfl,rfl,rfl⟩
  .split
   .unfold Nod.fa;split<;>exact⟨rfl,rfl,rfl⟩
   .exact⟨j5 _ _,by show(Nod.cn _ _).1.av.next=_;rw[(Co _ _).2],by show(Nod.cn _ _).1.av.fv=_;rw[(Co _ _).2]⟩
  .rename_i hk
   exact f.count m h g (lt.k4 hk)
  .rename_i hk
   split
   .exact⟨rfl,rfl,rfl⟩
   .rename_i h5
    exact⟨Ou (o (lt.k5 hk) (by rw[f.ag]at h5;omega)),rfl,rfl⟩
  .rename_i hk
   simp only;rw[h.l6 l hl2 hk];unfold Nod.eb;split<;>split<;>exact⟨rfl,rfl,rfl⟩
  .exact⟨rfl,rfl,rfl⟩
 | br _ r o hd=>exact False.elim hd
 | one _ k c hi hu hc he=>exact put λe=>by rw[<- e];unfold Nod.gC;split<;>exact⟨rfl,rfl,rfl⟩
 | ask _ k hi hu=>exact put λe=>by rw[h.ln hi,<- e];exact⟨rfl,rfl,rfl⟩
 | prop _ k hi hu =>
  refine put λe=>?_;rw[<- e];unfold Nod.cF;split
  .exact⟨rfl,rfl,rfl⟩
  .rw[f.ry];exact⟨rfl,rfl,rfl⟩
 | rJ _ k hi hu hs hT=>exact put λe=>by rw[<- e];exact⟨rfl,rfl,rfl⟩
 | run _ k hi hu q l hp hs =>
  refine put λe=>?_;rw[<- e]at hp hs ⊢
  cases q with
  | began b vs=>exact absurd (by rw[hp];exact O') (h.nb b vs)
  | prop v =>
   obtain⟨u,k⟩:=(g.nd i m.hi).up (h.pb.cm.up i m.hi);have:=f.count m h g (j:=i) (v:=v) (by
    have:=k.pe (.prop v) (by rw[hp];exact O');unfold Gs.held;rw[k.tp.all hs];exact this)
   exact this
  | _=>exact⟨rfl,rfl,rfl⟩
 | rG _ k hi hu hL=>exact put λe=>by rw[<- e];exact⟨rfl,rfl,rfl⟩
 | lead _ k hi hu hL=>exact False.elim hL
 | sub _ k d hi hu hD=>exact False.elim hD
 | mv _ k y hi hu hk hC=>exact False.elim hC
 | start _ k hi hu hs=>exact False.elim hs
theorem Fin_.step(a:PhC C K B cov i b){n:Nat}{M N:Meet}(s:Stp wh0 n M N)(h:PhE C K B cov i b M)(f:Fin_ i A M):Fin_ i A N:=by
 have e:=f.same a s h;have d:=h.step a s;obtain⟨τ,g,_⟩:=d.pb.cm.ex;refine⟨e.1.trans f.ag,by rw[e.2.1];exact f.nx,λl j m v o q=>?_,λl c p=>f.qu l c (by rw[<- e.2.2];exact p)⟩;rcases s.um h.nb h.pr o with k|k
 .exact f.hd l j m v k q
 .have:=d.lt a g (g.gs.hv j v ((d.rd a g).1.an j m v o).1) (k.trans ((h.pb.cm.jv i a.hi).trans a.hB));have:=e.2.1;have:=f.nx;omega
end
end
section
variable{j:Nat}{p:Nod}{r:Rnd}{v:Vt}
theorem Zt{l:List Vt}(h:v∈l):1<=BM (Ae l v.bu) v:=qm.2 ⟨v,AL.2 ⟨h,rfl⟩,M' rfl⟩
theorem XM(k:∀ j,j<5->Ag (r.an j)){v:Vt}(o:0<=v.bu/\v.bu<=39)(p:∀ j,j<5->v∈(r.an j).vs):Db r.kc v.bu=0:=by
 have e:D6 r.kc v.bu=Ae (r.an 0).vs v.bu++(Ae (r.an 1).vs v.bu++(Ae (r.an 2).vs v.bu++(Ae (r.an 3).vs v.bu++Ae (r.an 4).vs v.bu))):=by
  unfold D6 Rnd.kc Ae;simp[List.filter_append]
 have g:∀ j,j<5->1<=BM (Ae (r.an j).vs v.bu) v:=λj l=>Zt (p j l);have n:5<2*BM (D6 r.kc v.bu) v:=by
  rw[e,CA,CA,CA,CA];have:=g 0 (by omega);have:=g 1 (by omega);have:=g 2 (by omega);have:=g 3 (by omega);have:=g 4 (by omega);omega
 have m:v∈D6 r.kc v.bu:=by
  obtain⟨u,b,d⟩:=qm.1 (show 0<BM (D6 r.kc v.bu) v by omega);have c:u=v:=nr d;rw[c]at b;exact b
 have f:∀ a∈r.kc,Ag a:=λa h=>by
  unfold Rnd.kc at h;simp only[mO,P',or_false]at h;rcases h with e|e|e|e|e<;>rw[e]<;>exact k _ (by omega)
 have i:(Hp (D6 r.kc v.bu) r.kc.length).isSome=true:=List.find?_isSome.2 ⟨v,m,M' n⟩;unfold Db;rw[if_neg (λg=>g ⟨o,by show(1:Int)<=((5:Nat):Int)/\((5:Nat):Int)<=5;decide⟩),if_neg (λg=>g f),if_pos i]
theorem Qh(c:v.b=p.av.jv)(a:Ag (p.av.an j))(e:Ah v)(f:(p.av.an j).p=p.av.jv):v∈((p.count j v).av.an j).vs:=by
 have d:Bb (p.av.an j) v=0:=by
  unfold Bb;rw[if_neg (λg=>g a),if_neg (λg=>g e),if_neg];rw[f,c];unfold Bal.lt;omega
 unfold Nod.count;rw[if_neg (λg=>g c),if_neg (λg=>g d)];show v∈(upN p.av.an j ⟨BJ (p.av.an j) v,Bv (p.av.an j) v⟩ j).vs;rw[Dg];show v∈Bv (p.av.an j) v;rw[(DN d).2,BC a.2.2];exact .inl rfl
theorem RZ{k:Nat}{u:Vt}(a:v∈(p.av.an k).vs)(g:u.b=p.av.jv->u.bu=v.bu->u=v):v∈((p.count j u).av.an k).vs:=by
 unfold Nod.count;split
 .exact a
 .rename_i hb
  split
  .exact a
  .rename_i c
   have c:=mF.1 c;show v∈(upN p.av.an j ⟨BJ (p.av.an j) u,Bv (p.av.an j) u⟩ k).vs;unfold upN;split
   .rename_i e
    show v∈Bv (p.av.an j) u;rw[(DN c).2,BC (Ap c).1.2.2];by_cases d:u.bu=v.bu
    .exact .inl (g (mF.1 hb) d).symm
    .exact .inr ⟨by rw[<- e];exact a,λf=>d f.symm⟩
   .exact a
theorem bM(h:(p.cn v).2=0):Ah v:=by
 unfold Nod.cn at h;split at h
 .rename_i h0;exact absurd h h0
 .rename_i h0;exact(Ap (mF.1 h0)).2.1
theorem Wb{l:List Cmd}(k:Nat)(h:Db r.kc (l.length:Int)=0):l.length<(FP (k+1) r l).length:=by
 rw[FP,if_pos h];have:=(IL k r (l++[CT r.kc (l.length:Int)])).length_le;rw[H',nE]at this
 omega
end
section
variable{C:List Cmd}{K:Int}{B:Nat->Bal}{cov:List (Bal × Nat)}{i:Nat}{b:Bal}
theorem Stp.sq{n:Nat}{M N:Meet}(s:Stp wh0 n M N)(m:PhC C K B cov i b)(h:PhE C K B cov i b M){σ:Gs}(g:AgI σ M) :
  ((N.ab i).av.an=(M.ab i).av.an/\(N.ab i).av.next=(M.ab i).av.next)\/((N.ab i).av.an=(M.ab i).av.an/\(N.ab i).av.next=(M.ab i).ae.length+1/\(M.ab i).ae.length<40)\/∃ k u,k<5/\σ.held k u/\(N.ab i).av=((M.ab i).count k u).av/\(N.ab i).ae=((M.ab i).count k u).ae:=by
 have put:∀ {k:Nat} {p:Nod} {f:List Let} {j:List Tol},(i=k->p.av.an=(M.ab k).av.an/\p.av.next=(M.ab k).av.next)->((M.set k p f j).ab i).av.an=(M.ab i).av.an/\((M.set k p f j).ab i).av.next=(M.ab i).av.next:=λ{k p f j} e=>by
  rw[Am];split
  .rename_i e2;rw[e2];exact e e2
  .exact⟨rfl,rfl⟩
 cases s with
 | take _ l hl hd hu ht =>
  have lt:=g.lt l hl;by_cases a:l.kind=4/\i=l.dst
  .refine .inr (.inr ⟨l.src,l.cn,hd.1,lt.k4 a.1,?_⟩);rw[Am,if_pos a.2,<- a.2];unfold Nod.take;rw[a.1];exact⟨rfl,rfl⟩
  .refine .inl (put λe=>?_);rw[<- e];unfold Nod.take;split
   .split
    .unfold Nod.fa;split<;>exact⟨rfl,rfl⟩
    .show((M.ab i).au _).1.av.an=_/\((M.ab i).au _).1.av.next=_;rw[(AZ _ _).2];exact⟨rfl,rfl⟩
   .simp only;rw[if_pos (.inr (.inr (h.pr l.src hd.1)))];exact⟨rfl,rfl⟩
   .exact⟨rfl,rfl⟩
   .split
    .unfold Nod.fa;split<;>exact⟨rfl,rfl⟩
    .show((M.ab i).cn _).1.av.an=_/\((M.ab i).cn _).1.av.next=_;rw[(Co _ _).2];exact⟨rfl,rfl⟩
   .rename_i hk;exact absurd ⟨hk,e⟩ a
   .split<;>exact⟨rfl,rfl⟩
   .simp only;unfold Nod.eb;split<;>split<;>exact⟨rfl,rfl⟩
   .exact⟨rfl,rfl⟩
 | br _ f hl hd=>exact False.elim hd
 | one _ k c hi hu hc he=>exact .inl (put λe=>by unfold Nod.gC;split<;>exact⟨rfl,rfl⟩)
 | ask _ k hi hu=>exact .inl (put λe=>by rw[h.ln hi];exact⟨rfl,rfl⟩)
 | prop _ k hi hu =>
  by_cases e:i=k
  .subst e;rw[Am,if_pos rfl];unfold Nod.cF;split
   .exact .inl ⟨rfl,rfl⟩
   .split
    .exact .inl ⟨rfl,rfl⟩
    .split
     .exact .inl ⟨rfl,rfl⟩
     .rename_i he
      refine .inr (.inl ⟨rfl,rfl,?_⟩);have:=(bM (mF.1 he)).1.2;have:((M.ab i).ae.length:Int)<=39:=this;omega
  .refine .inl ?_;rw[Am,if_neg e];exact⟨rfl,rfl⟩
 | rJ _ k hi hu hs hT=>exact .inl (put λe=>⟨rfl,rfl⟩)
 | run _ k hi hu q l hp hs =>
  by_cases e:i=k
  .subst e;cases q with
   | began b vs=>exact absurd (by rw[hp];exact O') (h.nb b vs)
   | prop v =>
    refine .inr (.inr ⟨i,v,hi,?_,?_⟩)
    .obtain⟨rs,k⟩:=(g.nd i hi).up hu;have:=k.pe (.prop v) (by rw[hp];exact O');unfold Gs.held;rw[k.tp.all hs];exact this
    .rw[Am,if_pos rfl];exact⟨rfl,rfl⟩
   | _=>exact .inl (put λ_=>⟨rfl,rfl⟩)
  .refine .inl ?_;rw[Am,if_neg e];exact⟨rfl,rfl⟩
 | rG _ k hi hu hL=>exact .inl (put λe=>⟨rfl,rfl⟩)
 | lead _ k hi hu hL=>exact False.elim hL
 | sub _ k d hi hu hD=>exact False.elim hD
 | mv _ k y hi hu hk hC=>exact False.elim hC
 | start _ k hi hu hs=>exact False.elim hs
structure PhL(C:List Cmd)(K:Int)(B:Nat->Bal)(cov:List (Bal × Nat))(i:Nat)(b:Bal)(M:Meet):Prop where
 pe:PhE C K B cov i b M
 ld:∀ v:Vt,v.b=b->(∀ j,j<5->v∈((M.ab i).av.an j).vs)->v.bu<((M.ab i).ae.length:Int)
 nx:(M.ab i).av.next<=(M.ab i).ae.length+1/\(M.ab i).av.next<=40
theorem PhE.acc(c:PhC C K B cov i b){M:Meet}(h:PhE C K B cov i b M){j:Nat}(a:j<5):Ag ((M.ab i).av.an j)/\((M.ab i).av.an j).p=b:=by
 obtain⟨σ,g,_⟩:=h.pb.cm.ex;have k:=h.rd c g;exact⟨(k.1.acc j a).1,((k.1.acc j a).2 (h.pr j a)).trans k.2⟩
theorem PhE.rk(m:PhC C K B cov i b){n:Nat}{M N:Meet}(s:Stp wh0 n M N)(h:PhE C K B cov i b M){v:Vt}(l:v.b=b){j:Nat}(r:j<5)(a:v∈((M.ab i).av.an j).vs):v∈((N.ab i).av.an j).vs:=by
 obtain⟨σ,g,_⟩:=h.pb.cm.ex;have k:=h.rd m g;rcases s.sq m h g with e|e|⟨q,u,hq,hu,e,_⟩
 .rw[e.1];exact a
 .rw[e.1];exact a
 .rw[e];refine RZ a λc d=>?_;have o:=g.gs.hv q u hu;have p:=g.gs.hv j v (k.1.an j r v a).1;have f:=o.2;rw[c,k.2,d,<- l]at f
  exact(Vt.eq_iff u v).1 ⟨d,(c.trans k.2).trans l.symm,g.gs.w1 _ _ _ _ f p.2⟩
theorem PhL.step(d:PhC C K B cov i b){n:Nat}{M N:Meet}(s:Stp wh0 n M N)(h:PhL C K B cov i b M):PhL C K B cov i b N:=by
 have f:=h.pe.step d s;have x:=(s.ev i).ag.length_le;obtain⟨σ,g,_⟩:=h.pe.pb.cm.ex;have p:(N.ab i).av.next<=(N.ab i).ae.length+1/\(N.ab i).av.next<=40:=by
  have:=h.nx;rcases s.sq d h.pe g with e|e|⟨q,u,hq,hu,e,_⟩
  .rw[e.2];omega
  .rw[e.2.1];omega
  .have o:((M.ab i).count q u).av.next=(M.ab i).av.next:=by
    unfold Nod.count;split
    .rfl
    .split<;>rfl
   rw[e,o];omega
 refine⟨f,λv t a=>?_,p⟩;by_cases l:∀ j,j<5->v∈((M.ab i).av.an j).vs
 .have:=h.ld v t l;omega
 .obtain⟨τ,g2,_⟩:=f.pb.cm.ex;have z:=f.rd d g2;have m:=g2.gs.hv 0 v (z.1.an 0 (by omega) v (a 0 (by omega))).1;have k:=f.lt d g2 m t;rcases s.sq d h.pe g with e|e|⟨q,u,hq,hu,e,ea⟩
  .rw[e.1]at a;exact absurd a l
  .rw[e.1]at a;exact absurd a l
  .have hm:=m.1.1;rw[e]at a k
   rw[ea];have c:∀ j,j<5->Ag ((N.ab i).av.an j):=λj y=>(f.acc d y).1;rw[e]at c
   have A:=h.nx;have o:((M.ab i).count q u).av.next=(M.ab i).av.next:=by
    unfold Nod.count;split
    .rfl
    .split<;>rfl
   rw[o]at k
   unfold Nod.count at a c ⊢;split at a
   .exact absurd a l
   .split at a
    .exact absurd a l
    .rename_i h3 h4
     rw[if_neg h3,if_neg h4]at c ⊢
     by_cases w:v.bu<((M.ab i).ae.length:Int)
     .exact Int.lt_of_lt_of_le w (Int.ofNat_le.2 (IL 41 _ _).length_le)
     .have e6:v.bu=((M.ab i).ae.length:Int):=by omega
      have r:=XM c hm a;rw[e6]at r ⊢
      exact Int.ofNat_lt.2 (Wb 40 r)
end
section
variable{I J:Meet->Prop}
theorem ME(j:∀ c M N,Stp wh1 c M N->I M->I N)(p:∀ c M N,Stp wh1 c M N->I M->J M->J N){n:Nat}{M:Meet}(q:MOk n M)(u:n+5<=1000000)(h:I M){i:Nat}(r:i<5)(d:∀ N m,MOk m N->m+1<=1000000->I N->N.ab i=M.ab i->J (N.act (acN 3 (i:Int)))):J (M.dT (AE 3 5)):=by
 have d:∀ k,k<=5->MOk (n+k) (M.dT (AE 3 k))/\I (M.dT (AE 3 k))/\(k<=i->(M.dT (AE 3 k)).ab i=M.ab i)/\(i<k->J (M.dT (AE 3 k))):=by
  intro k;induction k with
  | zero=>exact λ_=>⟨q,h,λ_=>rfl,λe=>absurd e (oL _)⟩
  | succ k ih =>
   intro t;obtain⟨a,b,f,o⟩:=ih (by omega);rw[BT,AJ];refine⟨a.act (by omega) (Gd (by omega)),CD j a (by omega) b,λe=>by rw[EF _ (by omega)];exact f (by omega),λe=>?_⟩;by_cases l:i<k
   .exact(CD (I:=λN=>I N/\J N) (λc A B s g=>⟨j c A B s g.1,p c A B s g.1 g.2⟩) a (by omega) ⟨b,o l⟩).2
   .obtain rfl:k=i:=by omega
    exact d _ _ a (by omega) b (f (A' _))
 exact(d 5 (A' _)).2.2.2 r
end
theorem Ip(M:Meet){i:Nat}(d:i<5):∃ N:Meet,N.ab i=M.ab i/\N=M.dT (AE 3 i)/\(M.dT (AE 3 5)).ab i=(N.act (acN 3 (i:Int))).ab i:=by
 have b:∀ k,k<=i->(M.dT (AE 3 k)).ab i=M.ab i:=by
  intro k;induction k with
  | zero=>exact λ_=>rfl
  | succ k ih=>exact λa=>by rw[BT,AJ,EF _ (by omega)];exact ih (by omega)
 refine⟨_,b i (A' _),rfl,?_⟩;have c:∀ k,i<k->(M.dT (AE 3 k)).ab i=((M.dT (AE 3 i)).act (acN 3 (i:Int))).ab i:=by
  intro k a;induction k with
  | zero=>exact absurd a (oL _)
  | succ k ih =>
   rw[BT,AJ];by_cases e:k=i
   .rw[e]
   .rw[EF _ (Ne.symm e)];exact ih (by omega)
 exact c 5 d
theorem Stp.sa{M N:Meet}(s:Stp wh0 0 M N)(i:Nat):(N.ab i).av.next=(M.ab i).av.next:=by
 have put:∀ {k:Nat} {p:Nod} {a:List Let} {g:List Tol},p.av.next=(M.ab k).av.next->((M.set k p a g).ab i).av.next=(M.ab i).av.next:=λ{k p a g} e=>by
  rw[Am];split
  .rename_i e2;rw[e2];exact e
  .rfl
 have f:∀ (p:Nod) (j:Nat) (v:Vt),(p.count j v).av.next=p.av.next:=λp j v=>by
  unfold Nod.count;split
  .rfl
  .split<;>rfl
 cases s with
 | take _ l hl hd hu ht =>
  refine put ?_;unfold Nod.take;split
  .split
   .unfold Nod.fa;split<;>rfl
   .show((M.ab l.dst).au _).1.av.next=_;rw[(AZ _ _).2]
  .simp only;split<;>rfl
  .rfl
  .split
   .unfold Nod.fa;split<;>rfl
   .show((M.ab l.dst).cn _).1.av.next=_;rw[(Co _ _).2]
  .exact f _ _ _
  .split<;>rfl
  .simp only;unfold Nod.eb;split<;>split<;>rfl
  .rfl
 | br _ a hl hd=>exact False.elim hd
 | one _ k c hi hu hc he=>exact put (by unfold Nod.gC;split<;>rfl)
 | ask _ k hi hu =>
  refine put ?_;unfold Nod.ln;split
  .rfl
  .split
   .unfold Nod.eb;split<;>rfl
   .rfl
 | rJ _ k hi hu hs hT=>exact put rfl
 | run _ k hi hu q l hp hs =>
  refine put ?_;show((M.ab k).lp k q).av.next=_;cases q with
  | began b vs=>simp only[Nod.lp];split<;>rfl
  | prop v=>exact f _ _ _
  | _=>rfl
 | rG _ k hi hu hL=>exact put rfl
 | lead _ k hi hu hL=>exact False.elim hL
 | sub _ k d hi hu hD=>exact False.elim hD
 | mv _ k y hi hu hk hC=>exact False.elim hC
 | start _ k hi hu hs=>exact False.elim hs
theorem Sts.sa{M N:Meet}(s:Sts wh1 0 M N)(i:Nat):(N.ab i).av.next=(M.ab i).av.next:=by
 generalize a:0=z at s;induction s with
 | nil=>rfl
 | @snoc n c m A B E h s hm ih =>
  obtain rfl:c=0:=by omega
  exact(s.calm.sa i).trans (ih (by omega))
theorem SR{p q:Nod}(a:q.av=p.av)(b:q.ae=p.ae)(s:Nat):q.ry s=p.ry s:=by unfold Nod.ry;rw[a,b]
section
variable{C:List Cmd}{K:Int}{B:Nat->Bal}{cov:List (Bal × Nat)}{i:Nat}{b:Bal}
def J3(i:Nat)(v:Vt)(N:Meet):Prop:=v∈((N.ab i).av.an i).vs/\∀ j,j<5->j≠i->({ BE 3 with cn:=v,src:=i,dst:=j }:Let)∈N.br
theorem J3.step(a:PhC C K B cov i b){n:Nat}{M N:Meet}(s:Stp wh0 n M N)(h:PhE C K B cov i b M){v:Vt}(c:v.b=b)(k:J3 i v M):J3 i v N:=⟨h.rk a s c a.hi k.1,λj d e=>s.rP (k.2 j d e)⟩
theorem PhE.rH{M:Meet}(h:PhE C K B cov i b M):(M.ab i).av.rH=true:=by
 unfold Rnd.rH Jz;rw[h.pr 0 (by omega),h.pr 1 (by omega),h.pr 2 (by omega),h.pr 3 (by omega),h.pr 4 (by omega)];decide
theorem OI(a:PhC C K B cov i b)(H:14*K+38*(cov.length:Int)<=99000)(q:∀ c∈C,c.e=0){M:Meet}(h:PhL C K B cov i b M)(S:(M.ab i).ae.length<40)(L:(M.ab i).av.next<=(M.ab i).ae.length){c:Cmd}(z:(M.ab i).ry (M.ab i).ae.length=some c) :
  J3 i ⟨((M.ab i).ae.length:Int),b,c⟩ (M.act (acN 3 (i:Int)))/\((M.act (acN 3 (i:Int))).ab i).av.next=(M.ab i).ae.length+1:=by
 have E:=h.pe.pb.cm.up i a.hi;obtain⟨R,s0,T,O,a0,n,G,Q,P,F⟩:=Io (D:=wh1) a.hi E;have r:∀ c A N,Stp wh1 c A N->PhL C K B cov i b A->PhL C K B cov i b N:=λc A N s g=>g.step a s.calm;have x:=s0.inv r h;have o:=P.inv r x;have f:(n.ab i).av=(M.ab i).av/\(n.ab i).ae=(M.ab i).ae:=by
  rw[G,Bj,x.pe.ln a.hi];exact⟨O,a0⟩
 have u:Ah ⟨((M.ab i).ae.length:Int),b,c⟩:=⟨by show(0:Int)<=((M.ab i).ae.length:Int)/\((M.ab i).ae.length:Int)<=39;omega,a.hb,q c (KZ (h.pe.pb.cm.s.nd i a.hi) z)⟩;generalize w:(⟨((M.ab i).ae.length:Int),b,c⟩:Vt)=v at u;have m:v.b=b:=by rw[<- w]
 have t:=eq a H o.pe.pb o.pe.rH (by rw[f.1,f.2];exact L) (c:=c) (by rw[SR f.1 f.2,f.2];exact z) (by rw[f.2,w];exact u);rw[f.2,w]at t
 have p:=(Stp.prop (D:=wh1) n i a.hi Q).calm;have p:=o.step a p;have k:=F.inv (I:=λN=>PhL C K B cov i b N/\(Pend.prop v∈(N.ab i).bw\/J3 i v N)) (λd A N s g=>⟨r d A N s g.1,by
  rcases g.2 with g2|g2
  .rcases O4 s.calm g2 with g3|⟨l,g3,rfl⟩
   .exact .inl g3
   .refine .inr ⟨?_,λj J e=>mG _ (My { BE 3 with cn:=v } J e)⟩;rw[Am,if_pos rfl];have ac:=g.1.pe.acc a a.hi;have y:(A.ab i).av.jv=b:=(g.1.pe.pb.cm.jv i a.hi).trans a.hB;exact Qh (m.trans y.symm) ac.1 u (ac.2.trans y.symm)
  .exact .inr (g2.step a s.calm g.1.pe m)⟩) ⟨p,.inl (by rw[Bj];exact t.2)⟩
 refine⟨k.2.resolve_left λg=>?_,by rw[F.sa i,Bj];exact t.1⟩;rw[Hl E,Am,if_pos rfl,Ik (h.pe.pb.cm.sm a.hi)]at g
 cases g
theorem WP(a:PhC C K B cov i b){M:Meet}(h:PhL C K B cov i b M)(m:(M.ab i).ae.length<(M.ab i).av.next):((M.act (acN 3 (i:Int))).ab i).av.next=(M.ab i).av.next:=by
 have l:=h.pe.pb.cm.up i a.hi;obtain⟨p,s0,r,n,a0,e,f,t,q,o⟩:=Io (D:=wh1) a.hi l;have k:∀ c A N,Stp wh1 c A N->PhL C K B cov i b A->PhL C K B cov i b N:=λc A N s g=>g.step a s.calm;have j:=s0.inv k h;have d:(e.ab i).av=(M.ab i).av/\(e.ab i).ae=(M.ab i).ae:=by
  rw[f,Bj,j.pe.ln a.hi];exact⟨n,a0⟩
 rw[o.sa i,Bj];unfold Nod.cF;rw[if_pos (.inr (.inr (by rw[d.1,d.2];exact m))),d.1]
def Bz(i:Nat)(v:Vt)(N:Meet):Prop:=v∈((N.ab i).av.an i).vs/\∀ j,j<5->j≠i->Pend.voted i v∈(N.ab j).bw
theorem PhL.drop{N:Meet}(h:PhL C K B cov i b N):PhL C K B cov i b { N with br:=[] } :=
 ⟨⟨⟨h.pe.pb.cm.drop,h.pe.pb.ak,h.pe.pb.vi⟩,h.pe.va,h.pe.pr,h.pe.nb,h.pe.aw,λm a=>(by cases a),h.pe.qw⟩,h.ld,h.nx⟩
theorem EQ(M:Meet):M.dT An=(M.dT (AE 3 5)).act (acN 7 0):=by rw[show An=AE 3 5++[acN 7 0]from rfl,AJ]
theorem PhL.round(f:PhC C K B cov i b){n:Nat}{M:Meet}(k:MOk n M)(m:n+6<=1000000)(h:PhL C K B cov i b M):PhL C K B cov i b (M.dT An)/\MOk (n+6) (M.dT An)/\(M.dT An).br=[]/\(∀ j,Ev (M.ab j) ((M.dT An).ab j))/\((M.dT An).ab i).av.next=((M.dT (AE 3 5)).ab i).av.next:=by
 have d:=Bn (I:=λN=>PhL C K B cov i b N/\∀ j,Ev (M.ab j) (N.ab j)) (λc A N s g=>⟨g.1.step f s.calm,λj=>(g.2 j).trans (s.calm.ev j)⟩) k (by omega) ⟨h,λj=>.refl _⟩;rw[EQ];obtain⟨N,l,e,_⟩:=Cw (I:=λN=>PhL C K B cov i b N/\(∀ j,Ev (M.ab j) (N.ab j))/\(N.ab i).av.next=((M.dT (AE 3 5)).ab i).av.next) (λA N s g=>⟨g.1.step f s.rV,λj=>(g.2.1 j).trans (s.rV.ev j),(s.rV.sa i).trans g.2.2⟩) d.1 ⟨d.2.1,d.2.2,rfl⟩;have a:=d.1.act (x:=acN 7 0) (by omega) (by rw[<- DP];decide);rw[l]at a ⊢
 exact⟨e.1.drop,a,rfl,e.2.1,e.2.2⟩
theorem T3(a:PhC C K B cov i b)(u:14*K+38*(cov.length:Int)<=99000)(f:∀ c∈C,c.e=0){n:Nat}{M:Meet}(r:MOk n M)(P:n+6<=1000000)(h:PhL C K B cov i b M)(F:(M.ab i).ae.length<40)(H:(M.ab i).av.next<=(M.ab i).ae.length){c:Cmd}(x:(M.ab i).ry (M.ab i).ae.length=some c) :
  Bz i ⟨((M.ab i).ae.length:Int),b,c⟩ (M.dT An)/\((M.dT An).ab i).av.next=(M.ab i).ae.length+1:=by
 have G:Ah ⟨((M.ab i).ae.length:Int),b,c⟩:=⟨by show(0:Int)<=((M.ab i).ae.length:Int)/\((M.ab i).ae.length:Int)<=39;omega,a.hb,f c (KZ (h.pe.pb.cm.s.nd i a.hi) x)⟩;have w:∀ c A N,Stp wh1 c A N->PhL C K B cov i b A->PhL C K B cov i b N:=λc A N s g=>g.step a s.calm;have E:∀ A N,TkS A N->PhL C K B cov i b A->PhL C K B cov i b N:=λA N s g=>g.step a s.rV;have Q:=h.round a r P;have q:=ME (J:=λN=>J3 i ⟨((M.ab i).ae.length:Int),b,c⟩ N) w (λd A N s g k=>k.step a s.calm g.pe rfl) r (by omega) h a.hi (λN m _ _ g e=>by
  have:=(OI a u f g (by rw[e];exact F) (by rw[e];exact H) (c:=c) (by rw[e];exact x)).1;rw[e]at this;exact this)
 obtain⟨N,t,S,T⟩:=Ip M a.hi;have p:=Bn w r (by omega) h;have O:PhL C K B cov i b N:=by
  rw[S];have R:∀ k,k<=5->MOk (n+k) (M.dT (AE 3 k))/\PhL C K B cov i b (M.dT (AE 3 k)):=by
   intro k;induction k with
   | zero=>exact λ_=>⟨r,h⟩
   | succ k ih =>
    intro U;obtain⟨D,L⟩:=ih (by omega);rw[BT,AJ];exact⟨D.act (by omega) (Gd (by omega)),CD w D (by omega) L⟩
  have:=a.hi;exact(R i (by omega)).2
 have z:=(OI a u f O (by rw[t];exact F) (by rw[t];exact H) (c:=c) (by rw[t];exact x)).2;refine⟨?_,by rw[Q.2.2.2.2,T,z,t]⟩;have o:(⟨((M.ab i).ae.length:Int),b,c⟩:Vt).b=b:=rfl;generalize (⟨((M.ab i).ae.length:Int),b,c⟩:Vt)=v at G q o ⊢;rw[EQ];generalize M.dT (AE 3 5)=A at p q ⊢;refine⟨?_,λj y e=>?_⟩
 .obtain⟨N,k1,k2,_⟩:=Cw (I:=λN=>PhL C K B cov i b N/\v∈((N.ab i).av.an i).vs) (λA N s g=>⟨E A N s g.1,g.1.pe.rk a s.rV o a.hi g.2⟩) p.1 ⟨p.2,q.1⟩;rw[k1];exact k2.2
 .obtain⟨N,k1,_,k3,_⟩:=DT (J:=λN=>Pend.voted i v∈(N.ab j).bw) E (λA N s _ g=>by
   obtain⟨l,_,_,_,rfl⟩:=s;rw[Am];split
   .rename_i e3;rw[<- e3];exact Hm g
   .exact g) p.1 p.2 (q.2 j y e) (λN g=>g.pe.pb.cm.up j y) (λN g _=>by
   rw[Am,if_pos rfl];exact Xp a u g.pe.pb y G o (l:={ BE 3 with cn:=v,src:=i,dst:=j }) rfl rfl)
  rw[k1];exact k3
end
theorem m8(q:Nod){i j:Nat}(b:j<5)(c:j≠i) :
  (q.ae.length<=q.av.bN j/\(EI q i 5).av.bN j=q.av.bN j)\/(q.av.bN j<q.ae.length/\(EI q i 5).av.bN j=q.ae.length/\({ BE 5 with src:=i,dst:=j,bu:=q.av.bN j,hZ:=q.ae.drop (q.av.bN j) }:Let)∈Dx q i 5):=by
 have hin:∀ k,j<k->MN q i j=true->({ BE 5 with src:=i,dst:=j,bu:=q.av.bN j,hZ:=q.ae.drop (q.av.bN j) }:Let)∈Dx q i k:=by
  intro k;induction k with
  | zero=>exact λh=>absurd h (oL _)
  | succ k ih =>
   intro f a;rw[Dx];by_cases e:j=k
   .rw[<- e,a,if_pos rfl];exact mG _ (D'.2 rfl)
   .exact mI _ (ih (by omega) a)
 have d:(EI q i 5).av.bN j=if decide (j<5)&&MN q i j then q.ae.length else q.av.bN j:=rfl;by_cases h:q.av.bN j<q.ae.length
 .have a:MN q i j=true:=M' ⟨c,h⟩;exact .inr ⟨h,by rw[d,a,M' b];rfl,hin 5 b a⟩
 .have a:MN q i j=false:=E' λe=>h e.2;exact .inl ⟨by omega,by rw[d,a,M' b];rfl⟩
theorem Tu(p:Nod)(i:Nat)(d:List Let)(c:List Tol):∃ (q:Nod) (ks:List Let),(p.piece i d c).1=(q.bN i ks).1/\(p.piece i d c).2.1=(q.bN i ks).2/\q.av.bN=p.av.bN:=by
 unfold Nod.piece;simp only;have e:=Uq i (p.ae.drop p.done) p c;generalize rK i (p.ae.drop p.done) p c=a at e ⊢;have f:(a.1.ln i).1.av.bN=a.1.av.bN:=by
  unfold Nod.ln;split
  .rfl
  .split
   .unfold Nod.eb;split<;>rfl
   .rfl
 generalize a.1.ln i=b at f ⊢;have g:b.1.cF.av.bN=b.1.av.bN:=by
  unfold Nod.cF;split
  .rfl
  .split
   .rfl
   .split<;>rfl
 generalize b.1.cF=r at g ⊢;have h:(r.ov i (d++b.2)).1.av.bN=r.av.bN:=by
  have j:∀ (l:List Pend) (x:Nod) (k:List Let),(pf i l x k).1.av.bN=x.av.bN:=by
   intro l;induction l with
   | nil=>exact λx k=>rfl
   | cons y l ih =>
    intro x k;rw[pf,ih];cases y with
    | began b vs=>simp only[Nod.lp];split<;>rfl
    | prop v =>
     simp only[Nod.lp,Nod.count];split
     .rfl
     .split<;>rfl
    | _=>rfl
  unfold Nod.ov;split
  .rfl
  .rw[j];unfold Nod.rJ;split<;>rfl
 exact⟨_,_,rfl,rfl,by rw[h,g,f,e.1]⟩
section
variable{C:List Cmd}{K:Int}{B:Nat->Bal}{cov:List (Bal × Nat)}{i:Nat}{b:Bal}
theorem PhE.tk{M N:Meet}(s:TkS M N)(h:PhE C K B cov i b M):(N.ab i).av.bN=(M.ab i).av.bN:=by
 obtain⟨l,c,a,d,rfl⟩:=s;rw[Am];split
 .rename_i e
  rw[<- e];unfold Nod.take;split
  .split
   .unfold Nod.fa;split<;>rfl
   .show((M.ab i).au _).1.av.bN=_;rw[(AZ _ _).2]
  .simp only;rw[if_pos (.inr (.inr (h.pr l.src a.1)))];rfl
  .rfl
  .split
   .unfold Nod.fa;split<;>rfl
   .show((M.ab i).cn _).1.av.bN=_;rw[(Co _ _).2]
  .unfold Nod.count;split
   .rfl
   .split<;>rfl
  .split<;>rfl
  .simp only;unfold Nod.eb;split<;>split<;>rfl
  .rfl
 .rfl
def TT0(i:Nat)(M:Meet):Prop:=∀ j,j<5->j≠i->(M.ab i).av.bN j<=(M.ab j).ae.length
def TTx(i a0:Nat)(N:Meet):Prop:=∀ j,j<5->j≠i->a0<=(N.ab i).av.bN j/\((N.ab i).av.bN j<=(N.ab j).ae.length\/∃ m∈N.br,m.kind=5/\m.dst=j/\m.bu<=(N.ab j).ae.length/\(N.ab i).av.bN j<=m.bu+m.hZ.length)
theorem TE(k:PhC C K B cov i b){n:Nat}{M:Meet}(z:MOk n M)(F:n+1<=1000000)(h:PhL C K B cov i b M)(t:TT0 i M):TTx i (M.ab i).ae.length (M.act (acN 3 (i:Int))):=by
 have E:=h.pe.pb.cm.up i k.hi;have u:=CD (I:=λN=>PhL C K B cov i b N/\Ev (M.ab i) (N.ab i)) (λc A N s g=>⟨g.1.step k s.calm,g.2.trans (s.calm.ev i)⟩) z k.hi ⟨h,.refl _⟩;have l:=u.1.pe.pb.leads k;have d:=u.2.ag.length_le;intro j v a;have o:=EF M (i:=i) a;have f:=t j v a;have e:M.act (acN 3 (i:Int))=M.set i ((M.ab i).piece i M.br M.ew).1 ((M.ab i).piece i M.br M.ew).2.1 ((M.ab i).piece i M.br M.ew).2.2:=Hl E;obtain⟨q,w,x,y,r⟩:=Tu (M.ab i) i M.br M.ew;rw[o];rw[e,Bj,x]at l d ⊢
 have D:q.leads=true:=by
  refine nB λg=>?_;unfold Nod.bN at l;rw[if_neg g]at l
  exact g l
 have p:q.bN i w=(EI q i 5,w++Dx q i 5):=by unfold Nod.bN;rw[if_pos D]
 rw[p]at d ⊢
 have d:(M.ab i).ae.length<=q.ae.length:=d;show _<=(EI q i 5).av.bN j/\((EI q i 5).av.bN j<=_\/∃ m∈((M.ab i).piece i M.br M.ew).2.1,_/\_/\_/\(EI q i 5).av.bN j<=_);rw[y,p];rcases m8 q v a with⟨g1,g2⟩|⟨g1,g2,g3⟩
 .rw[g2];exact⟨by omega,.inl (by rw[r];exact f)⟩
 .rw[g2];refine⟨d,.inr ⟨_,mG _ g3,rfl,rfl,by show q.av.bN j<=_;rw[r];exact f,?_⟩⟩;show q.ae.length<=q.av.bN j+(q.ae.drop (q.av.bN j)).length;rw[mM];omega
theorem MT(u:PhC C K B cov i b){n:Nat}{M:Meet}(E:MOk n M)(L:n+6<=1000000)(h:PhL C K B cov i b M)(t:TT0 i M):TT0 i (M.dT An)/\∀ j,j<5->(M.ab i).ae.length<=((M.dT An).ab j).ae.length:=by
 have G:∀ c A N,Stp wh1 c A N->PhL C K B cov i b A->PhL C K B cov i b N:=λc A N s g=>g.step u s.calm;have O:∀ k,k<=5->MOk (n+k) (M.dT (AE 3 k))/\PhL C K B cov i b (M.dT (AE 3 k))/\(∀ j,Ev (M.ab j) ((M.dT (AE 3 k)).ab j))/\(k<=i->(M.dT (AE 3 k)).ab i=M.ab i)/\(i<k->TTx i (M.ab i).ae.length (M.dT (AE 3 k))):=by
  intro k;induction k with
  | zero=>exact λ_=>⟨E,h,λj=>.refl _,λ_=>rfl,λe=>absurd e (oL _)⟩
  | succ k ih =>
   intro P;obtain⟨d,o,r,y,p⟩:=ih (by omega);rw[BT,AJ];generalize M.dT (AE 3 k)=A at d o r y p ⊢;have q:=CD (I:=λN=>(∀ j,Ev (A.ab j) (N.ab j))/\∀ m∈A.br,m∈N.br) (λc X N s g=>⟨λj=>(g.1 j).trans (s.calm.ev j),λm z=>s.calm.rP (g.2 m z)⟩) d (show k<5 by omega) ⟨λj=>.refl _,λm z=>z⟩;refine⟨d.act (by omega) (Gd (by omega)),CD G d (by omega) o,λj=>(r j).trans (q.1 j),λe=>by rw[EF _ (by omega)];exact y (by omega),λe=>?_⟩;by_cases F:i<k
   .intro j f a;obtain⟨x,l⟩:=p F j f a;rw[EF A (i:=k) (j:=i) (by omega)];have:=(q.1 j).ag.length_le;refine⟨x,?_⟩;rcases l with l|⟨m,l,g3,g4,g5,g6⟩
    .exact .inl (by omega)
    .exact .inr ⟨m,q.2 m l,g3,g4,by omega,g6⟩
   .obtain rfl:k=i:=by omega
    have D:=y (A' _);have:=TE u d (by omega) o (λj f a=>by
     have:=(r j).ag.length_le;have:=t j f a;rw[D];omega)
    rw[D]at this;exact this
 obtain⟨d,o,r,_,p⟩:=O 5 (A' _);have p:=p u.hi;rw[EQ];generalize M.dT (AE 3 5)=A at d o r p ⊢;have key:∀ j,j<5->j≠i->((A.act (acN 7 0)).ab i).av.bN j<=((A.act (acN 7 0)).ab j).ae.length/\(M.ab i).ae.length<=((A.act (acN 7 0)).ab i).av.bN j:=λj f a=>by
  obtain⟨x,l⟩:=p j f a;rcases l with l|⟨m,l,g3,g4,g5,g6⟩
  .obtain⟨N,w,v,_⟩:=Cw (I:=λN=>PhL C K B cov i b N/\(N.ab i).av.bN=(A.ab i).av.bN/\Ev (A.ab j) (N.ab j)) (λX N s g=>⟨g.1.step u s.rV,(g.1.pe.tk s).trans g.2.1,g.2.2.trans (s.rV.ev j)⟩) d ⟨o,rfl,.refl _⟩;rw[w];show(N.ab i).av.bN j<=(N.ab j).ae.length/\_<=(N.ab i).av.bN j;have:=v.2.2.ag.length_le;rw[v.2.1];omega
  .obtain⟨N,w,v,k3,_⟩:=DT (I:=λN=>PhL C K B cov i b N/\(N.ab i).av.bN=(A.ab i).av.bN/\Ev (A.ab j) (N.ab j)) (J:=λN=>(A.ab i).av.bN j<=(N.ab j).ae.length) (λX N s g=>⟨g.1.step u s.rV,(g.1.pe.tk s).trans g.2.1,g.2.2.trans (s.rV.ev j)⟩) (λX N s g k=>by have:=(s.rV.ev j).ag.length_le;omega) d ⟨o,rfl,.refl _⟩ l (λN g=>by rw[g4];exact g.1.pe.pb.cm.up j f) (λN g _=>by
    have H:=g.2.2.ag.length_le;rw[g4,Am,if_pos rfl];unfold Nod.take;rw[g3];simp only;rw[if_neg (by omega)];show _<=((N.ab j).ae++m.hZ.drop ((N.ab j).ae.length-m.bu)).length;rw[H',mM];omega)
   rw[w];show(N.ab i).av.bN j<=(N.ab j).ae.length/\_<=(N.ab i).av.bN j;rw[v.2.1];exact⟨k3,x⟩
 refine⟨λj f a=>(key j f a).1,λj f=>?_⟩;by_cases e:j=i
 .subst e;have:=h.round u E L;rw[EQ]at this
  obtain⟨N,w,v,_⟩:=Cw (I:=λN=>Ev (A.ab j) (N.ab j)) (λX N s g=>g.trans (s.rV.ev j)) d (.refl _);rw[w];exact((r j).trans v).ag.length_le
 .have:=key j f e;omega
def K1(M:Meet):Prop:=∀ m∈M.br,m.kind=1->m.hZ.length<=(M.ab m.src).ae.length
theorem K1.step{c:Nat}{M N:Meet}(s:Stp wh0 c M N)(h:K1 M):K1 N:=by
 have f:∀ m∈M.br,m.kind=1->m.hZ.length<=(N.ab m.src).ae.length:=λm i a=>mH (h m i a) (s.ev m.src).ag.length_le;intro m i a;cases s with
 | br _ ls hl hd=>exact False.elim hd
 | ask _ k hi hu =>
  rcases Q'.1 i with g|g
  .exact f m g a
  .unfold Nod.ln at g;split at g
   .cases g
   .split at g
    .cases g
    .rw[D'.1 g]at a;cases a
 | run _ k hi hu q l hp hs =>
  rcases Q'.1 i with g|g
  .exact f m g a
  .cases q with
   | began b vs =>
    unfold Nod.rE at g;simp only at g;split at g
    .cases g
    .have:=(DK g).1;rw[a]at this;cases this
   | prop v=>have:=(DK g).1;rw[a]at this;cases this
   | start=>have:=(DK g).1;rw[a]at this;cases this
   | prom to b vs =>
    rw[D'.1 g];show(M.ab k).ae.length<=((M.set k { (M.ab k).lp k (.prom to b vs)with bw:=l } _ _).ab k).ae.length;rw[Bj];exact A' _
   | _=>have e:=D'.1 g;rw[e]at a;cases a
 | rG _ k hi hu hL =>
  rcases Q'.1 i with g|g
  .exact f m g a
  .have:=(JZ 5 m g).1;omega
 | lead _ k hi hu hL=>exact False.elim hL
 | sub _ k d hi hu hD=>exact False.elim hD
 | mv _ k x hi hu a hC=>exact False.elim hC
 | start _ k hi hu hs=>exact False.elim hs
 | _=>exact f m i a
end
section
variable{C:List Cmd}{K:Int}{B:Nat->Bal}{cov:List (Bal × Nat)}{i:Nat}{b:Bal}
theorem T4(a:PhC C K B cov i b){n:Nat}{M:Meet}(o:MOk n M)(O:n+6<=1000000)(h:PhL C K B cov i b M){v:Vt}(L:Ah v)(d:v.b=b)(z:Bz i v M)(Q:(M.ab i).ae.length<(M.ab i).av.next) :
  v.bu<(((M.dT An).ab i).ae.length:Int)/\((M.dT An).ab i).av.next=(M.ab i).av.next:=by
 have q:∀ c A N,Stp wh1 c A N->PhL C K B cov i b A->PhL C K B cov i b N:=λc A N s g=>g.step a s.calm;have x:∀ A N,TkS A N->PhL C K B cov i b A->PhL C K B cov i b N:=λA N s g=>g.step a s.rV;have E:=h.round a o O;have m:=Bn q o (by omega) h;have t:((M.dT (AE 3 5)).ab i).av.next=(M.ab i).av.next:=by
  obtain⟨N,F,S,T⟩:=Ip M a.hi;have H:PhL C K B cov i b N:=by
   rw[S];have P:∀ k,k<=5->MOk (n+k) (M.dT (AE 3 k))/\PhL C K B cov i b (M.dT (AE 3 k)):=by
    intro k;induction k with
    | zero=>exact λ_=>⟨o,h⟩
    | succ k ih =>
     intro r;obtain⟨w,G⟩:=ih (by omega);rw[BT,AJ];exact⟨w.act (by omega) (Gd (by omega)),CD q w (by omega) G⟩
   have:=a.hi;exact(P i (by omega)).2
  rw[T,WP a H (by rw[F];exact Q),F]
 refine⟨?_,by rw[E.2.2.2.2,t]⟩;have p:=Bn (I:=λN=>PhL C K B cov i b N/\v∈((N.ab i).av.an i).vs) (λc A N s g=>⟨q c A N s g.1,g.1.pe.rk a s.calm d a.hi g.2⟩) o (by omega) ⟨h,z.1⟩;have D:∀ j,j<5->j≠i->({ BE 4 with cn:=v,src:=j,dst:=i }:Let)∈(M.dT (AE 3 5)).br:=λj f e =>
  F9 (J:=λN=>({ BE 4 with cn:=v,src:=j,dst:=i }:Let)∈N.br) q (λc A N s _ g=>s.calm.rP g) (λA k g r=>⟨g.pe.pb.cm.up k r,g.pe.pb.cm.sm r⟩) o (by omega) h f (z.2 j f e) λN l g _ _=>mG _ (D'.2 rfl)
 refine E.1.ld v d λj f=>?_;rw[EQ];generalize M.dT (AE 3 5)=A at m D p ⊢;by_cases e:j=i
 .subst e;obtain⟨N,u,R,_⟩:=Cw (I:=λN=>PhL C K B cov j b N/\v∈((N.ab j).av.an j).vs) (λA N s g=>⟨x A N s g.1,g.1.pe.rk a s.rV d f g.2⟩) m.1 ⟨m.2,p.2.2⟩;rw[u];exact R.2
 .obtain⟨N,u,_,k3,_⟩:=DT (J:=λN=>v∈((N.ab i).av.an j).vs) x (λA N s g k=>g.pe.rk a s.rV d f k) m.1 m.2 (D j f e) (λN g=>g.pe.pb.cm.up i a.hi) (λN g _=>by
   rw[Am,if_pos rfl];have ac:=g.pe.acc a f;have y:(N.ab i).av.jv=b:=(g.pe.pb.cm.jv i a.hi).trans a.hB;exact Qh (d.trans y.symm) ac.1 L (ac.2.trans y.symm))
  rw[u];exact k3
def mu(i:Nat)(M:Meet):Nat:=2*(40-(M.ab i).ae.length)+(if(M.ab i).av.next<=(M.ab i).ae.length then 1 else 0)
def Zz(i:Nat)(b:Bal)(M:Meet):Prop:=(M.ab i).av.next<=(M.ab i).ae.length\/∃ v:Vt,Ah v/\v.b=b/\v.bu=((M.ab i).ae.length:Int)/\Bz i v M
theorem ig(q:PhC C K B cov i b){M:Meet}(h:PhL C K B cov i b M)(x:(M.ab i).av.next<=(M.ab i).ae.length)(d:(M.ab i).ae.length<40->(M.ab i).ry (M.ab i).ae.length=Option.none):Fin_ i (M.ab i).ae M:=by
 refine⟨rfl,x,λf j s v t e=>?_,λf c n=>nB λe=>?_⟩
 .have d:=d f;unfold Nod.ry at d;have p:∀ l∈(M.ab i).av.kc.map (·.vs),∀ u∈l,Ah u:=λl o u k=>by
   obtain⟨a,f,rfl⟩:=mY.1 o;unfold Rnd.kc at f;simp only[mO,P',or_false]at f;rcases f with e|e|e|e|e<;>(rw[e]at k;exact((h.pe.acc q (by omega)).1.2.1 u k).1)
  have m:BY ((M.ab i).av.kc.map (·.vs)) ((M.ab i).ae.length:Int)=0:=by unfold BY;rw[if_neg (λg=>g (by omega)),if_pos p]
  have r:Ea ((M.ab i).av.kc.map (·.vs)) ((M.ab i).ae.length:Int)=true:=by
   unfold Ea;rw[if_pos m];have:v∈Ae ((M.ab i).av.kc.map (·.vs)).flatten ((M.ab i).ae.length:Int):=AL.2 ⟨oJ.2 ⟨((M.ab i).av.an j).vs,mY.2 ⟨(M.ab i).av.an j,by unfold Rnd.kc;rcases rC s with rfl|rfl|rfl|rfl|rfl<;>simp,rfl⟩,t⟩,e⟩;unfold Eg;generalize Ae _ _=l at this;have key:∀ (l:List Vt) (u:Vt),(BS l (some u)).isSome=true:=by
    intro l;induction l with
    | nil=>exact λu=>rfl
    | cons w l ih=>intro u;rw[BS];split<;>exact ih _
   cases l with
   | nil=>cases this
   | cons w l=>exact key l w
  rw[if_neg (λg=>g m),if_pos r]at d
  cases d
 .have d:=d f;unfold Nod.ry at d;have p:∀ l∈(M.ab i).av.kc.map (·.vs),∀ u∈l,Ah u:=λl o u k=>by
   obtain⟨a,f,rfl⟩:=mY.1 o;unfold Rnd.kc at f;simp only[mO,P',or_false]at f;rcases f with e|e|e|e|e<;>(rw[e]at k;exact((h.pe.acc q (by omega)).1.2.1 u k).1)
  have m:BY ((M.ab i).av.kc.map (·.vs)) ((M.ab i).ae.length:Int)=0:=by unfold BY;rw[if_neg (λg=>g (by omega)),if_pos p]
  rw[if_neg (λg=>g m)]at d
  split at d
  .cases d
  .exact absurd (nY.1 d c n) (by simpa using e)
theorem LB(m:Nat):An++Al m=Al (m+1):=by
 induction m with
 | zero=>rfl
 | succ m ih=>show An++(Al m++An)=Al (m+1)++An;rw[<- mK,ih]
theorem iy(a:PhC C K B cov i b)(A:14*K+38*(cov.length:Int)<=99000)(j:∀ c∈C,c.e=0)(k:Nat){n:Nat}{M:Meet}(d:MOk n M)(H:n+6*k<=999000)(h:PhL C K B cov i b M)(z:Zz i b M)(t:TT0 i M)(f:mu i M<=k) :
  ∃ m,m<=k/\Fin_ i ((M.dT (Al m)).ab i).ae (M.dT (Al m))/\PhL C K B cov i b (M.dT (Al m))/\TT0 i (M.dT (Al m))/\MOk (n+6*m) (M.dT (Al m)):=by
 induction k generalizing n M with
 | zero =>
  have:=h.nx;unfold mu at f;split at f<;>omega
 | succ k ih =>
  have F:=h.nx;have D:=(d.ab i a.hi).ag;by_cases o:(M.ab i).av.next<=(M.ab i).ae.length
  .by_cases hf:(M.ab i).ae.length<40->(M.ab i).ry (M.ab i).ae.length=Option.none
   .exact⟨0,nm _,ig a h o hf,h,t,d⟩
   .obtain⟨ha,p⟩:=Classical.not_imp.1 hf;obtain⟨c,p⟩:=oM.1 p;have g:=h.round a d (by omega);have l:=T3 a A j d (by omega) h ha o p;have E:=(g.2.2.2.1 i).ag.length_le;have q:Ah ⟨((M.ab i).ae.length:Int),b,c⟩:=⟨by show(0:Int)<=((M.ab i).ae.length:Int)/\((M.ab i).ae.length:Int)<=39;omega,a.hb,j c (KZ (h.pe.pb.cm.s.nd i a.hi) p)⟩;obtain⟨m,y,r,u,x,w⟩:=ih (M:=M.dT An) (n:=n+6) g.2.1 (by omega) g.1 (by
     by_cases e:((M.dT An).ab i).ae.length=(M.ab i).ae.length
     .exact .inr ⟨_,q,rfl,by rw[e],l.1⟩
     .exact .inl (by rw[l.2];omega)) (MT a d (by omega) h t).1 (by
     unfold mu at f ⊢;rw[if_pos o]at f
     split<;>omega)
    refine⟨m+1,by omega,?_⟩;rw[<- LB,AB];exact⟨r,u,x,by rw[show n+6*(m+1)=n+6+6*m by omega];exact w⟩
  .rcases z with z|⟨v,q,hvb,hs,z⟩
   .exact absurd z o
   .have g:=h.round a d (by omega);have l:=T4 a d (by omega) h q hvb z (by omega);rw[hs]at l
    have G:=q.1.2;obtain⟨m,y,r,u,x,w⟩:=ih (M:=M.dT An) (n:=n+6) g.2.1 (by omega) g.1 (.inl (by rw[l.2];omega)) (MT a d (by omega) h t).1 (by
     unfold mu at f ⊢;rw[if_neg o]at f
     split<;>omega)
    refine⟨m+1,by omega,?_⟩;rw[<- LB,AB];exact⟨r,u,x,by rw[show n+6*(m+1)=n+6+6*m by omega];exact w⟩
end
section
variable{C:List Cmd}{K:Int}{B:Nat->Bal}{cov:List (Bal × Nat)}{i:Nat}{b:Bal}
def AW(b:Bal)(j:Nat)(N:Meet):Prop:=(N.ab j).vo.p=b/\∀ c x,(N.ab j).cl c=some x->x=b
theorem Uf(d:b≠Bf){p:Nod}{j:Nat}(g:p.vo.p=b){c:Cmd}{x:Bal}(a:(p.ln j).1.cl c=some x):x=b\/(p.cl c=some x/\c∉p.bn.take 40):=by
 have a:(Bd p.vo.p p.cl (p.bn.take 40)).2 c=some x:=by
  unfold Nod.ln at a;split at a
  .exact a
  .split at a
   .unfold Nod.eb at a;split at a<;>exact a
   .exact a
 rw[g]at a
 have f:=Lm d (p.bn.take 40) p.cl;by_cases e:c∈p.bn.take 40
 .rw[f.2.1 c e]at a;exact .inl (ny a).symm
 .rw[f.1 c e]at a;exact .inr ⟨a,e⟩
theorem PhC.b0(a:PhC C K B cov i b):b≠Bf:=λe=>by have:=a.hb;rw[e]at this;exact absurd this (by decide)
theorem AW.step(d:PhC C K B cov i b){n:Nat}{M N:Meet}(s:Stp wh0 n M N)(h:PhB C K B cov i b M){j:Nat}(f:j<5)(a:AW b j M):AW b j N:=by
 refine⟨h.cm.top d.hc s d.hb.pr d.hK f a.1,λc x e=>?_⟩;rcases s.cl e with g|⟨_,rfl⟩
 .exact a.2 c x g
 .rw[Am,if_pos rfl]at e
  exact(Uf d.b0 a.1 e).elim id λg=>a.2 c x g.1
theorem eV(a:PhC C K B cov i b){M:Meet}(h:PhB C K B cov i b M){j:Nat}(d:j<5)(w:(M.ab j).vo.p=b):AW b j (M.act (acN 3 (j:Int))):=by
 have v:=h.cm.up j d;obtain⟨k,s0,J,H,a0,l,q,F,z,E⟩:=Io (D:=wh1) d v;have m:∀ c A N,Stp wh1 c A N->(PhB C K B cov i b A/\(A.ab j).vo.p=b)->PhB C K B cov i b N/\(N.ab j).vo.p=b:=λc A N s g=>⟨g.1.step a s.calm,(s.tg j).trans g.2⟩;have e:=s0.inv m ⟨h,w⟩;have f:=z.inv m e;have n:=e.1.ak j d;have G:=KY n.nd λc r=>(e.1.cm.s.nd j d).wa c r;have t:=a.hC;have u:(k.ab j).bn.take 40=(k.ab j).bn:=mN (by omega);have y:AW b j l:=⟨f.2,λc x o=>by
  rw[q,Bj]at o
  refine(Uf a.b0 e.2 o).elim id λg=>absurd ?_ g.2;rw[u,n.wa c,g.1];rfl⟩
 have s3:=Stp.prop (D:=wh1) l j d F;exact(E.inv (I:=λN=>PhB C K B cov i b N/\AW b j N) (λc A N s g=>⟨g.1.step a s.calm,g.2.step a s.calm g.1 d⟩) ⟨f.1.step a s3.calm,y.step a s3.calm f.1 d⟩).2
def T1(i:Nat)(N:Meet):Prop:=∀ j,j<5->j≠i->(N.ab i).av.rA j=true->(N.ab i).av.bN j<=(N.ab j).ae.length
theorem T1.tk{M N:Meet}(s:TkS M N)(k:K1 M)(t:T1 i M):T1 i N:=by
 intro j n d f;have p:=(s.rV.ev j).ag.length_le;have a:(N.ab i).av.bN j=(M.ab i).av.bN j->(N.ab i).av.rA j=(M.ab i).av.rA j->(N.ab i).av.bN j<=(N.ab j).ae.length:=λq h=>by
  have:=t j n d (by rw[<- h];exact f);omega
 obtain⟨l,o,r,u,rfl⟩:=s;by_cases e:i=l.dst
 .have en:((M.set l.dst ((M.ab l.dst).take l) M.br M.ew).ab i)=(M.ab i).take l:=by rw[Am,if_pos e,<- e]
  by_cases c:l.kind=1
  .rw[en]at a f ⊢
   have m:(M.ab i).take l=if((M.ab i).lr 0 l.hZ).leads=false\/l.jv≠(M.ab i).av.jv\/(M.ab i).av.rA l.src=true then(M.ab i).lr 0 l.hZ else Nod.rF { (M.ab i).lr 0 l.hZ with av:={ (M.ab i).av.rM l.src l.ni with bN:=upN (M.ab i).av.bN l.src l.hZ.length } }:=by
    unfold Nod.take;rw[c];rfl
   rw[m]at a f ⊢
   split
   .rename_i hc
    rw[if_pos hc]at a
    exact a rfl rfl
   .rename_i hc
    rw[if_neg hc]at a
    show upN (M.ab i).av.bN l.src l.hZ.length j<=_;by_cases b:j=l.src
    .rw[<- b,Dg];have:=k l o c;rw[<- b]at this
     omega
    .rw[D3 _ _ b];have:=a (by show upN (M.ab i).av.bN l.src l.hZ.length j=_;rw[D3 _ _ b]) (by show upN (M.ab i).av.rA l.src true j=_;rw[D3 _ _ b]);have g:upN (M.ab i).av.bN l.src l.hZ.length j<=_:=this;rw[D3 _ _ b]at g
     exact g
  .have:((M.ab i).take l).av.bN=(M.ab i).av.bN/\((M.ab i).take l).av.rA=(M.ab i).av.rA:=by
    unfold Nod.take;split
    .split
     .unfold Nod.fa;split<;>exact⟨rfl,rfl⟩
     .show((M.ab i).au _).1.av.bN=_/\((M.ab i).au _).1.av.rA=_;rw[(AZ _ _).2];exact⟨rfl,rfl⟩
    .rename_i hk;exact absurd hk c
    .exact⟨rfl,rfl⟩
    .split
     .unfold Nod.fa;split<;>exact⟨rfl,rfl⟩
     .show((M.ab i).cn _).1.av.bN=_/\((M.ab i).cn _).1.av.rA=_;rw[(Co _ _).2];exact⟨rfl,rfl⟩
    .unfold Nod.count;split
     .exact⟨rfl,rfl⟩
     .split<;>exact⟨rfl,rfl⟩
    .split<;>exact⟨rfl,rfl⟩
    .simp only;unfold Nod.eb;split<;>split<;>exact⟨rfl,rfl⟩
    .exact⟨rfl,rfl⟩
   exact a (by rw[en,this.1]) (by rw[en,this.2])
 .have en:((M.set l.dst ((M.ab l.dst).take l) M.br M.ew).ab i)=M.ab i:=by rw[Am,if_neg e]
  exact a (by rw[en]) (by rw[en])
theorem ei(f:PhC C K B cov i b){n:Nat}{M:Meet}(u:MOk n M)(U:n+6<=1000000)(h:PhB C K B cov i b M)(q:QA i b M)(y:∀ j,j<5->(M.ab j).vo.p=b)(hp:(M.ab i).av.rA i=true)(hw:∀ j,j<5->j≠i->∃ vs,Pend.prom i b vs∈(M.ab j).bw)(o:P1 i (M.ab i))(hl:M.br=[]) :
  PhL C K B cov i b (M.dT An)/\Zz i b (M.dT An)/\TT0 i (M.dT An)/\MOk (n+6) (M.dT An):=by
 have hP:∀ A N,TkS A N->PhB C K B cov i b A->PhB C K B cov i b N:=λA N s g=>g.step f s.rV;have T:∀ c A N,Stp wh1 c A N->PhB C K B cov i b A->PhB C K B cov i b N:=λc A N s g=>g.step f s.calm;have hq:=QZ f u U h q;have d:∀ j,j<5->j≠i->((M.dT An).ab i).av.rA j=true:=λj a l=>by
  obtain⟨vs,g⟩:=hw j a l;exact Wx f u U h a g
 have Q:=Bn (I:=λN=>PhB C K B cov i b N/\(∀ j,j<5->(N.ab j).vo.p=b)/\P1 i (N.ab i)/\K1 N/\(N.ab i).av.rA i=true) (λc A N s g=>⟨T c A N s g.1,λj a=>(s.tg j).trans (g.2.1 j a),s.p1 g.2.2.1,g.2.2.2.1.step s.calm,(s.calm.ev i).rA i g.2.2.2.2⟩) u (by omega) ⟨h,y,o,λm w=>by rw[hl]at w;(cases w),hp⟩;have R:∀ j,j<5->AW b j (M.dT (AE 3 5)):=λj a=>ME (I:=λN=>PhB C K B cov i b N/\(N.ab j).vo.p=b) (J:=AW b j) (λc A N s g=>⟨T c A N s g.1,(s.tg j).trans g.2⟩) (λc A N s g k=>k.step f s.calm g.1 a) u (by omega) ⟨h,y j a⟩ a λN m _ _ g _=>eV f g.1 a g.2;have S:NB ((M.dT (AE 3 5)).ab i):=by
  obtain⟨N,W,n2,n3⟩:=Ip M f.hi;rw[n3,Hl (by rw[W];exact h.cm.up i f.hi),Am,if_pos rfl];intro x vs g;rw[Ik (by rw[W];exact h.cm.sm f.hi)]at g
  cases g
 obtain⟨z,D,L,E⟩:=hq;rw[EQ]at z D L E d ⊢
 generalize M.dT (AE 3 5)=A at Q R S z D L E d ⊢;obtain⟨Y,Z,a0,o,F,G⟩:=Q;obtain⟨N,k1,k2,_⟩:=Cw (I:=λN=>PhB C K B cov i b N/\(∀ j,j<5->AW b j N)/\NB (N.ab i)/\(N.ab i).av.rA i=true/\(N.ab i).av.next=0/\K1 N/\T1 i N) (λX N s g=>⟨hP X N s g.1,λj a=>(g.2.1 j a).step f s.rV g.1 a,s.rV.nb g.2.2.1,(s.rV.ev i).rA i g.2.2.2.1,(s.rV.sa i).trans g.2.2.2.2.1,g.2.2.2.2.2.1.step s.rV,g.2.2.2.2.2.2.tk s g.2.2.2.2.2.1⟩) Y ⟨Z,R,S,G,o.1,F,λj a l e=>by rw[o.2 j l]at e;cases e⟩;rw[k1]at z D L E d ⊢
 obtain⟨r1,O,r3,r4,P,r6,r7⟩:=k2;have d:∀ j,j<5->(N.ab i).av.rA j=true:=λj a=>by
  by_cases e:j=i
  .rw[e];exact r4
  .exact d j a e
 have t:PhE C K B cov i b { N with br:=[] }:=⟨z,λj a=>(O j a).1,d,r3,λj a=>(O j a).2,λm w=>(by cases w),λj a c hc=>by
  have ha:=((r1.ak j a).wa c).1 hc;obtain⟨x,V⟩:=nS.1 ha;exact D j a c (by rw[show((({ N with br:=[] }:Meet).ab j).cl c)=some x from V,(O j a).2 c x V])⟩
 refine⟨⟨t,λv H y=>?_,by show(N.ab i).av.next<=_/\(N.ab i).av.next<=40;rw[P];omega⟩,.inl (by show(N.ab i).av.next<=_;rw[P];exact nm _),λj a l=>r7 j a l (d j a),E⟩;obtain⟨σ,g,_⟩:=t.pb.cm.ex;have r:=g.gs.hv 0 v ((t.rd f g).1.an 0 (by omega) v (y 0 (by omega))).1;have:=t.lt f g r H;have e:(({ N with br:=[] }:Meet).ab i).av.next=0:=P;rw[e]at this
 have:=r.1.1;omega
end
theorem Py(p:Nod)(b:Bal):(p.au b).1.done=p.done:=by
 unfold Nod.au;split
 .rfl
 .split
  .rfl
  .split<;>rfl
theorem OP(p:Nod)(v:Vt):(p.cn v).1.done=p.done:=by
 unfold Nod.cn;split
 .rfl
 .split
  .rfl
  .split<;>rfl
theorem Ly(p:Nod)(j:Nat)(v:Vt):(p.count j v).done=p.done:=by
 unfold Nod.count;split
 .rfl
 .split<;>rfl
theorem Ky(p:Nod)(to:Nat)(e:Int):(p.fa to e).done=p.done:=by unfold Nod.fa;split<;>rfl
theorem IA(p:Nod)(l:List Cmd):(p.eb l).done=p.done:=by unfold Nod.eb;split<;>rfl
theorem Xd(p:Nod)(l:Let):(p.take l).done=p.done:=by
 unfold Nod.take;split
 .split
  .exact Ky _ _ _
  .exact Py p l.jv
 .simp only;split<;>rfl
 .rfl
 .split
  .exact Ky _ _ _
  .exact OP p l.cn
 .exact Ly p _ _
 .split<;>rfl
 .simp only;split<;>exact IA p l.hZ
 .rfl
theorem OE(p:Nod)(i:Nat)(q:Pend):(p.lp i q).done=p.done:=by
 cases q with
 | began b vs=>unfold Nod.lp;simp only;split<;>rfl
 | prop v=>exact Ly p i v
 | _=>rfl
theorem Sg(i:Nat)(l:List Pend)(p:Nod)(a:List Let):(pf i l p a).1.done=p.done:=by
 induction l generalizing p a with
 | nil=>rfl
 | cons q l ih=>exact(ih _ _).trans (OE p i q)
def WS(l:List Cmd):Sto:=l.foldl dnS EO
theorem WT(l:List Cmd)(c:Cmd):WS (l++[c])=dnS (WS l) c:=by unfold WS;rw[o0];rfl
theorem aQ(l:List Cmd)(h:∀ c∈l,c.e=0):Iy (WS l):=by
 have key:∀ (l:List Cmd) (s:Sto),Iy s->(∀ c∈l,c.e=0)->Iy (l.foldl dnS s):=by
  intro l;induction l with
  | nil=>exact λs a _=>a
  | cons c l ih=>exact λs a h=>ih _ (Up a (h c O')) λd b=>h d (I' _ b)
 exact key l EO aP h
def StI(p:Nod):Prop:=p.nn=WS (p.ae.take p.done)
theorem StI.rk{p q:Nod}(h:StI p)(d:q.nn=p.nn)(b:q.done=p.done)(a:p.ae <+: q.ae)(c:p.done<=p.ae.length):StI q:=by
 unfold StI;rw[d,b,R3 a c];exact h
theorem bm(p:Nod)(l:Let):(p.take l).nn=p.nn:=by
 unfold Nod.take;split
 .split
  .unfold Nod.fa;split<;>rfl
  .show(p.au l.jv).1.nn=_;unfold Nod.au;split
   .rfl
   .split
    .rfl
    .split<;>rfl
 .simp only;split<;>rfl
 .rfl
 .split
  .unfold Nod.fa;split<;>rfl
  .show(p.cn l.cn).1.nn=_;unfold Nod.cn;split
   .rfl
   .split
    .rfl
    .split<;>rfl
 .unfold Nod.count;split
  .rfl
  .split<;>rfl
 .split<;>rfl
 .simp only;unfold Nod.eb;split<;>split<;>rfl
 .rfl
theorem StI.bare(p:Nod)(u:Bool)(d:List Int)(s:Int)(a:Acc)(x:List Pend):StI (p.bare u d s a x):=rfl
theorem StI.step{D:Wh}{c:Nat}{M N:Meet}(s:Stp D c M N)(a:∀ j,j<5->(M.ab j).done<=(M.ab j).ae.length)(h:∀ j,j<5->StI (M.ab j)):∀ j,j<5->StI (N.ab j):=by
 intro j g;have put:∀ {k:Nat} {p:Nod} {f:List Let} {i:List Tol},(k<5->StI p)->StI ((M.set k p f i).ab j):=λ{k p f i} e=>by
  rw[Am];split
  .rename_i e2;exact e (by omega)
  .exact h j g
 cases s with
 | take _ l hl hd2 hu ht=>exact put λ_=>(h _ hd2.2).rk (bm _ l) (Xd _ l) (Ev.take _ l).ag (a _ hd2.2)
 | br _ f hl a=>exact h j g
 | one _ k c hi hu hc he =>
  refine put λ_=>?_;have e:StI { M.ab k with nn:=doS (M.ab k).nn c,done:=(M.ab k).done+1 }:=by
   unfold StI;show doS (M.ab k).nn c=WS ((M.ab k).ae.take ((M.ab k).done+1));rw[nR,hc,Sf he,h k hi];exact(WT _ c).symm
  unfold Nod.gC;split<;>exact e
 | ask _ k hi hu =>
  refine put λ_=>?_;have:=h k hi;unfold Nod.ln;split
  .exact this
  .split
   .unfold Nod.eb;split<;>exact this
   .exact this
 | prop _ k hi hu =>
  refine put λ_=>?_;have:=h k hi;unfold Nod.cF;split
  .exact this
  .split
   .exact this
   .split
    .exact this
    .show StI ((M.ab k).cn _).1;unfold Nod.cn;split
     .exact this
     .split
      .exact this
      .split<;>exact this
 | rJ _ k hi hu hs hT=>exact put λ_=>h k hi
 | run _ k hi hu q l hp hs =>
  refine put λ_=>(h k hi).rk ?_ ((OE (M.ab k) k q)) ((Ev.lp (M.ab k) k q).bw l).ag (a k hi);show((M.ab k).lp k q).nn=_;cases q with
  | began b vs=>simp only[Nod.lp];split<;>rfl
  | prop v =>
   simp only[Nod.lp,Nod.count];split
   .rfl
   .split<;>rfl
  | _=>rfl
 | rG _ k hi hu hL=>exact put λ_=>h k hi
 | lead _ k hi hu hL =>
  refine put λ_=>?_;have:=h k hi;unfold Nod.lead;simp only;split
  .exact this
  .generalize (⟨max (M.ab k).dc (M.ab k).vo.p.r+1,(k:Int)⟩:Bal)=b;show StI ((M.ab k).au b).1;unfold Nod.au;split
   .exact this
   .split
    .exact this
    .split<;>exact this
 | sub _ k d hi hu hD =>
  refine put λ_=>?_;have:=h k hi;unfold Nod.rO Nod.rQ;split
  .exact this
  .split
   .exact this
   .split
    .exact this
    .show StI (Nod.want _ _);unfold Nod.want;split<;>exact this
 | mv _ k x hi hu hk hC =>
  refine put λ_=>?_;unfold Nod.mv;split
  .exact h k hi
  .exact .bare _ _ _ _ _ _
 | start _ k hi hu hs =>
  refine put λ_=>?_;unfold Nod.start;split
  .exact h k hi
  .split<;>exact .bare _ _ _ _ _ _
theorem StI.zero:∀ j,j<5->StI (As.ab j):=λj _=>rfl
theorem cP(i:Nat)(l:List Cmd)(p:Nod)(k:List Tol)(j:Iy p.nn)(h:∀ c∈l,c.e=0):(rK i l p k).1.done=p.done+l.length:=by
 induction l generalizing p k with
 | nil=>rfl
 | cons c l ih =>
  have a:=h c O';have b:doE p.nn c=0:=(cO j).trans a;rw[rK,if_neg (λg=>g b)];have f:(Nod.gC { p with nn:=doS p.nn c,done:=p.done+1 } c).nn=dnS p.nn c/\(Nod.gC { p with nn:=doS p.nn c,done:=p.done+1 } c).done=p.done+1:=by
   unfold Nod.gC;split<;>exact⟨Sf b,rfl⟩
  rw[ih _ _ (by rw[f.1];exact Up j a) λd m=>h d (I' _ m),f.2,np];omega
theorem Ts(p:Nod)(i:Nat)(f:List Let)(e:List Tol):(p.piece i f e).1.done=(rK i (p.ae.drop p.done) p e).1.done:=by
 unfold Nod.piece;simp only;generalize (rK i (p.ae.drop p.done) p e).1=a;have g:(a.ln i).1.done=a.done:=by
  unfold Nod.ln;split
  .rfl
  .split
   .exact IA _ _
   .rfl
 generalize a.ln i=b at g ⊢;have h:b.1.cF.done=b.1.done:=by
  unfold Nod.cF;split
  .rfl
  .split
   .rfl
   .split
    .rfl
    .exact OP _ _
 generalize b.1.cF=c at h ⊢;generalize f++b.2=k;have j:(c.ov i k).1.done=c.done:=by
  unfold Nod.ov;split
  .rfl
  .rw[Sg];unfold Nod.rJ;split<;>rfl
 generalize c.ov i k=d at j ⊢;have l:(d.1.bN i d.2).1.done=d.1.done:=by unfold Nod.bN;split<;>rfl
 omega
theorem DD{I:Meet->Prop}(d:∀ c M N,Stp wh0 c M N->I M->I N)(j:∀ M,I M->I { M with br:=[] })(m:Nat){n:Nat}{M:Meet}(i:MOk n M)(o:n+6*m<=1000000)(h:I M):I (M.dT (Al m))/\MOk (n+6*m) (M.dT (Al m)):=by
 induction m with
 | zero=>exact⟨h,i⟩
 | succ m ih =>
  obtain⟨e,f⟩:=ih (by omega);show I (M.dT (Al m++An))/\MOk (n+6*(m+1)) (M.dT (Al m++An));rw[AB,EQ];have a:=Bn (λc A N s g=>d c A N s.calm g) f (by omega) e;obtain⟨N,k,l,_⟩:=Cw (λA N s g=>d _ A N s.rV g) a.1 a.2;have b:=a.1.act (x:=acN 7 0) (by omega) (by rw[<- DP];decide);rw[k]at b ⊢
  exact⟨j N l,b.mono (by omega)⟩
theorem JS{M:Meet}(h:∀ j,j<5->(M.ab j).up=true):M.dT Ax=M:=by
 have key:∀ l:List Lac,(∀ x∈l,M.act x=M)->M.dT l=M:=by
  intro l;induction l with
  | nil=>exact λ_=>rfl
  | cons x l ih =>
   intro a;show(M.act x).dT l=M;rw[a x O'];exact ih λy e=>a y (I' _ e)
 refine key _ λx d=>?_;obtain⟨k,b,rfl⟩:=mY.1 d;have c:=h k (oQ.1 b);unfold Meet.act;simp only[acN];rw[if_neg (by decide),if_neg (by decide),if_neg (by decide),if_neg (by decide),if_neg (by decide),if_neg (by decide),if_pos trivial];show M.set k (if(M.ab k).up=true then M.ab k else _) M.br M.ew=M;rw[if_pos c,EX]
theorem IK{M:Meet}{i:Nat}(a:(M.ab i).up=true):M.act (acN 2 (i:Int))=M.set i ((M.ab i).lead i) M.br M.ew:=by
 unfold Meet.act;simp only[acN];rw[if_neg (by decide),if_pos trivial];show M.set i (if(M.ab i).up=true then _ else _) M.br M.ew=_;rw[if_pos a];rfl
theorem Eu(a b:Nat):Al (a+b)=Al a++Al b:=by
 induction b with
 | zero=>exact(mZ _).symm
 | succ b ih=>show Al (a+b)++An=Al a++(Al b++An);rw[ih,mK]
theorem ml(f:Nat->Int):∃ j,j<5/\∀ k,k<5->f k<=f j:=by
 have key:∀ n,∃ j,j<n+1/\∀ k,k<n+1->f k<=f j:=by
  intro n;induction n with
  | zero=>exact⟨0,by omega,λk c=>by rw[show k=0 by omega];exact mE _⟩
  | succ n ih =>
   obtain⟨j,d,b⟩:=ih;by_cases e:f j<=f (n+1)
   .refine⟨n+1,by omega,λk c=>?_⟩;by_cases a:k=n+1
    .rw[a];exact mE _
    .exact na (b k (by omega)) e
   .refine⟨j,by omega,λk c=>?_⟩;by_cases a:k=n+1
    .rw[a];omega
    .exact b k (by omega)
 exact key 4
def FJ(b:Bal):List (Bal × Nat):=(List.range 40).map λs=>(b,s)
theorem FK(b:Bal){s:Nat}(h:s<40):(b,s)∈FJ b:=mY.2 ⟨s,oQ.2 h,rfl⟩
section
variable{S:Cmd->Prop}{K:Int}{B:Nat->Bal}{cov:List (Bal × Nat)}
theorem Cm.to{M:Meet}(h:Cm S K B cov M){K':Int}(c:∀ j,j<5->(M.ab j).vo.p.key<=K')(b:K'<=3600):Cm S K' B cov M :=
 ⟨h.ex,⟨b,λj a=>⟨by unfold Nod.pk;rw[if_pos (h.up j a)];exact c j a,(h.kb.2 j a).2⟩⟩,h.up,h.jv,h.s⟩
structure Led(i:Nat)(p q:Nod)(b:Bal):Prop where
 may:Ab b
 n:b.n=(i:Int)
 gt:5*p.dc+4<b.key/\p.vo.p.key<b.key
 le:b.key<=max (5*p.dc) p.vo.p.key+9
 up:q.up=p.up
 vo:q.vo.p=b
 jv:q.av.jv=b
 p1:P1 i q
 pe:∃ vs,Pend.began b vs∈q.bw
 ask:q.bn=p.bn/\q.cl=p.cl/\q.done=p.done
 ro:q.dc=p.dc
theorem Cm.lead{M:Meet}(h:Cm S K B cov M)(z:14*K+38*(cov.length:Int)<=99000){i:Nat}(d:i<5)(I:K<=3591)(J:0<=(M.ab i).dc/\5*(M.ab i).dc<=3591) :
  ∃ b,Led i (M.ab i) ((M.ab i).lead i) b/\Cm S 3600 (upN B i b) (cov++FJ b) (M.set i ((M.ab i).lead i) M.br M.ew):=by
 have m:=h.up i d;have O:=h.le d;have u:=(h.acc d).1;have N:=YO u;have F:0<=(M.ab i).vo.p.r/\0<=(M.ab i).vo.p.n/\(M.ab i).vo.p.n<=4:=by unfold Ao Ab at u;omega
 obtain⟨b,l⟩:∃ b:Bal,(⟨max (M.ab i).dc (M.ab i).vo.p.r+1,(i:Int)⟩:Bal)=b:=⟨_,rfl⟩;have L:b.key=5*(max (M.ab i).dc (M.ab i).vo.p.r+1)+(i:Int):=by rw[<- l];rfl
 have C:(M.ab i).vo.p.key=5*(M.ab i).vo.p.r+(M.ab i).vo.p.n:=rfl;have t:Ab b:=by rw[<- l];refine⟨⟨?_,?_⟩,?_,?_⟩<;>simp only<;>omega
 have f:=h.prom z d t (by rw[Fg t.pr u];omega);have E:(M.ab i).lead i=Nod.wait { ((M.ab i).au b).1 with av:=⟨b,λ_=>false,λ_=>Ej,λ_=>(M.ab i).ae.length,0,[]⟩ } (.began b ((M.ab i).au b).2.1):=by
  unfold Nod.lead;simp only;rw[l,if_neg (λg=>g f.1)]
 have v:((M.ab i).au b).1.dc=(M.ab i).dc:=by
  unfold Nod.au;split
  .rfl
  .split
   .rfl
   .split<;>rfl
 have a:Led i (M.ab i) ((M.ab i).lead i) b:=by
  rw[E];exact⟨t,by rw[<- l],by omega,by omega,(Ev.au _ b).up,f.2,rfl,⟨rfl,λ_ _=>rfl⟩,⟨_,mG _ (D'.2 rfl)⟩,(AZ _ b).1,v⟩
 refine⟨b,a,?_⟩;obtain⟨σ,g,A⟩:=h.ex;obtain⟨τ,G,H,w,x,y⟩:=g.step (D:=whT) (.lead M i d m trivial);refine⟨⟨τ,w,λo s c k=>?_⟩,⟨mE _,?_⟩,λj q=>?_,λj q=>?_,h.s.step (D:=⟨λ_ _=>False,True,False,False,False,False⟩) (λ_ _ e=>False.elim e) (.lead M i d m trivial)⟩
 .rcases x o s c k with k|k
  .exact mI _ (A o s c k)
  .exact absurd (y o s k).1 (by decide)
 .refine(h.kb.2.mono h.kb.1 (mE _)).set ⟨?_,by rw[a.ro];omega⟩ _ _;unfold Nod.pk;rw[if_pos (a.up.trans m),a.vo];omega
 .rw[Am];split
  .exact a.up.trans m
  .exact h.up j q
 .rw[Am];unfold upN;split
  .exact a.jv
  .exact h.jv j q
theorem ki{a:Int}{n:Nat}{M:Meet}(O:MOk n M){m:Nat}(hm:2<=m)(hn:n+6*m+20<=1000000)(U:∀ j,j<5->∀ s,s<40->(B j,s)∈cov)(h:Cm S K B cov M)(z:KbI a a M)(W:K<=a)(T:a<=3500)(Z:14*a+38*(cov.length:Int)<=97000){i:Nat}(q:i<5) :
  ∃ K' B' cov',K'<=a+9/\Cm S K' B' cov' (((M.act (acN 2 (i:Int))).dT Ax).dT (Al m))/\(∀ j,j<5->∀ s,s<40->(B' j,s)∈cov')/\cov'.length<=cov.length+40/\Gr8 K' ((((M.act (acN 2 (i:Int))).dT Ax).dT (Al m)).ab i)/\KbI (a+9) (a+9) (((M.act (acN 2 (i:Int))).dT Ax).dT (Al m))/\MOk (n+6*m+1) (((M.act (acN 2 (i:Int))).dT Ax).dT (Al m)):=by
 have G:=h.up i q;have hr:=z i q;have F:=(O.ab i q).ro;have d:=O.act (x:=acN 2 (i:Int)) (by omega) (Fc ⟨.inl rfl,by omega,by omega⟩);obtain⟨b,y,f⟩:=h.lead (by omega) q (by omega) ⟨F.1,by omega⟩;obtain⟨σ,g,_⟩:=h.ex;have o:=z.lead g q G M.br M.ew;have H:∀ j,j<5->((M.act (acN 2 (i:Int))).ab j).up=true:=by rw[IK G];exact f.up
 rw[JS H];rw[IK G]at d ⊢
 have u:=Bj M i ((M.ab i).lead i) M.br M.ew;generalize M.set i ((M.ab i).lead i) M.br M.ew=N at f o d u ⊢;rw[<- u]at y
 obtain⟨j,v,C⟩:=ml λj=>(N.ab j).vo.p.key;have E:∀ j,j<5->(N.ab j).vo.p.key<=a+9:=λj v=>by
  have:=(o j v).1;unfold Nod.pk at this
  rwa [if_pos (f.up j v)]at this
 have t:=E j v;have f:=f.to C (by omega);have l:∀ k,k<5->∀ s,s<40->(upN B i b k,s)∈cov++FJ b:=λk z s P=>by
  unfold upN;split
  .exact mG _ (FK b P)
  .exact mI _ (U k z s P)
 obtain⟨vs,V⟩:=y.pe;have A:=iN l d (by omega) f q v rfl y.vo y.may V;generalize (N.ab j).vo.p.key=K' at f A t;have L:∀ c X Y,Stp wh0 c X Y->(Cm S K' (upN B i b) (cov++FJ b) X/\KbI (a+9) (a+9) X)->(Cm S K' (upN B i b) (cov++FJ b) Y/\KbI (a+9) (a+9) Y):=λc X Y s g=>by
  obtain⟨σ,R,_⟩:=g.1.ex;exact⟨g.1.step l s,g.2.step (D:=wh0) (λe=>e) R s (mE _)⟩
 have J:=DD L (λX g=>⟨g.1.drop,g.2⟩) 2 d (by omega) ⟨f,o⟩;obtain⟨r,rfl⟩:∃ r,m=2+r:=⟨m-2,by omega⟩;rw[Eu,AB];have Q:N.dT (Al 2)=N.dT (An++An):=rfl;rw[<- Q]at A
 have w:=DD (I:=λX=>(Cm S K' (upN B i b) (cov++FJ b) X/\KbI (a+9) (a+9) X)/\Gr8 K' (X.ab i)) (λc X Y s g=>⟨L c X Y s g.1,g.2.ev (s.ev i)⟩) (λX g=>⟨⟨g.1.1.drop,g.1.2⟩,g.2⟩) r J.2 (by omega) ⟨J.1,A⟩;refine⟨K',_,_,t,w.1.1.1,l,?_,w.1.2,w.1.1.2,w.2.mono (by omega)⟩;rw[H'];unfold FJ;rw[mV,oV];exact A' _
end
section
variable{C:List Cmd}{K:Int}{B:Nat->Bal}{cov:List (Bal × Nat)}{i:Nat}{b:Bal}{A:List Cmd}
theorem Fin_.drop{N:Meet}(f:Fin_ i A N):Fin_ i A { N with br:=[] }:=⟨f.ag,f.nx,f.hd,f.qu⟩
theorem Fin_.sS(a:PhC C K B cov i b){M:Meet}(h:PhE C K B cov i b M)(f:Fin_ i A M){j:Nat}(c:j<5)(p:A.length<=(M.ab j).ae.length):(M.ab j).ae=A:=by
 have o:=f.le a h c;obtain⟨σ,g,_⟩:=h.pb.cm.ex;refine pj (by omega) λs k l=>?_;obtain⟨m,d⟩:=(g.nd j c).ag s _ (G' k);obtain⟨n,e⟩:=(g.nd i a.hi).ag s _ (by rw[f.ag];exact G' l);exact g.gs.sI.agree d e
structure Fz(C:List Cmd)(K:Int)(B:Nat->Bal)(cov:List (Bal × Nat))(i:Nat)(b:Bal)(A:List Cmd)(M:Meet):Prop where
 l:PhL C K B cov i b M
 f:Fin_ i A M
 a:∀ j,j<5->(M.ab j).ae=A
 s:∀ j,j<5->StI (M.ab j)
theorem Fz.step(d:PhC C K B cov i b){n:Nat}{M N:Meet}(s:Stp wh0 n M N)(h:Fz C K B cov i b A M):Fz C K B cov i b A N:=by
 have e:=h.l.step d s;have g:=Fin_.step d s h.l.pe h.f;exact⟨e,g,λj c=>g.sS d e.pe c (by have:=(s.ev j).ag.length_le;rw[h.a j c]at this;exact this),StI.step s (λj c=>(h.l.pe.pb.ak j c).dn) h.s⟩
theorem Fz.drop{N:Meet}(h:Fz C K B cov i b A N):Fz C K B cov i b A { N with br:=[] }:=⟨h.l.drop,h.f.drop,h.a,h.s⟩
structure Rst(C:List Cmd)(K:Int)(B:Nat->Bal)(cov:List (Bal × Nat))(i:Nat)(b:Bal)(A:List Cmd)(M:Meet):Prop where
 z:Fz C K B cov i b A M
 d:∀ j,j<5->(M.ab j).done=A.length
theorem Pg(g:PhC C K B cov i b){n:Nat}{M N:Meet}(s:Stp wh0 n M N)(h:Fz C K B cov i b A M){j:Nat}(e:j<5)(d:(M.ab j).done=A.length):(N.ab j).done=A.length:=by
 have c:=h.step g s;have k:=(s.ev j).dn;have f:=(c.l.pe.pb.ak j e).dn;rw[c.a j e]at f
 omega
theorem Rst.step(a:PhC C K B cov i b){n:Nat}{M N:Meet}(s:Stp wh0 n M N)(h:Rst C K B cov i b A M):Rst C K B cov i b A N:=⟨h.z.step a s,λj c=>Pg a s h.z c (h.d j c)⟩
theorem WQ(o:PhC C K B cov i b)(g:∀ c∈C,c.e=0){M:Meet}(h:Fz C K B cov i b A M){j:Nat}(d:j<5):((M.act (acN 3 (j:Int))).ab j).done=A.length:=by
 have n:=h.l.pe.pb.cm.up j d;have m:=(h.l.pe.pb.ak j d).dn;have k:∀ c∈(M.ab j).ae,c.e=0:=λc f=>g c ((h.l.pe.pb.cm.s.nd j d).ag c f);rw[Hl n,Am,if_pos rfl,Ts,cP]
 .rw[mM,h.a j d];rw[h.a j d]at m
  omega
 .rw[h.s j d];exact aQ _ λc f=>k c (mP f)
 .exact λc f=>k c (nX f)
theorem Gr8.gt{p q:Nod}{K:Int}(h:Gr8 K p)(a:Ao p.vo.p){i:Nat}{b:Bal}(l:Led i p q b):K<b.key:=by
 have:=l.gt;unfold Gr8 at h;omega
theorem kl(R:∀ c∈C,c.e=0)(hC:C.length<40){K1:Int}{n:Nat}{M:Meet}(hM:MOk n M){m:Nat}(hm:85<=m)(hn:n+6*m+20<=990000)(hc:∀ j,j<5->∀ s,s<40->(B j,s)∈cov)(h:Cm (λc=>c∈C) K B cov M)(gr:Gr8 K (M.ab i))(hk:KbI K1 K1 M)(hK:K<=K1)(a4:K1<=3510)(hQ:14*K1+38*(cov.length:Int)<=97000)(t:i<5)(hA:∀ j,j<5->AskI (M.ab j))(hS:∀ j,j<5->StI (M.ab j)) :
  ∃ K' B' cov' b A,PhC C K' B' cov' i b/\Rst C K' B' cov' i b A (((M.act (acN 2 (i:Int))).dT Ax).dT (Al m)):=by
 have hu:=h.up i t;have hr:=hk i t;have a2:=(hM.ab i t).ro;have u:=hM.act (x:=acN 2 (i:Int)) (by omega) (Fc ⟨.inl rfl,by omega,by omega⟩);obtain⟨b,q,o⟩:=h.lead (by omega) t (by omega) ⟨a2.1,by omega⟩;obtain⟨σ,g,_⟩:=h.ex;have L:=AskI.step (Stp.lead (D:=whT) M i t hu trivial) g hA;have T:=StI.step (Stp.lead (D:=whT) M i t hu trivial) (λj f=>(hA j f).dn) hS;have a5:=gr.gt (h.acc t).1 q;have a6:b.key<=K1+9:=by
  have:=q.le;have:=h.le t;omega
 have a3:∀ j,j<5->((M.act (acN 2 (i:Int))).ab j).up=true:=by rw[IK hu];exact o.up
 rw[JS a3];rw[IK hu]at u ⊢
 have G:=Bj M i ((M.ab i).lead i) M.br M.ew;have S:∀ j,j≠i->((M.set i ((M.ab i).lead i) M.br M.ew).ab j)=M.ab j:=λj f=>by rw[Am,if_neg f]
 have V:QA i b (M.set i ((M.ab i).lead i) M.br M.ew):=λj f c hx=>by
  refine absurd ?_ (show ¬ b.key<=max K (M.ab i).vo.p.key by have:=q.gt;omega);by_cases e:j=i
  .rw[e,G,q.ask.2.1]at hx
   have:=(hA i t).le c b hx;omega
  .rw[S j e]at hx
   have:=(hA j f).le c b hx;have:=h.le f;omega
 have F:∀ j,j<5->j≠i->((M.set i ((M.ab i).lead i) M.br M.ew).ab j).vo.p.key<b.key:=λj f e=>by
  rw[S j e];have:=h.le f;omega
 generalize M.set i ((M.ab i).lead i) M.br M.ew=N at o u G L T V F ⊢;rw[<- G]at q
 have o:=o.to (K':=b.key) (λj f=>by
  by_cases e:j=i
  .rw[e,q.vo];exact mE _
  .have:=F j f e;omega) (by omega)
 have E:∀ k,k<5->∀ s,s<40->(upN B i b k,s)∈cov++FJ b:=λk hk s hs=>by
  unfold upN;split
  .exact mG _ (FK b hs)
  .exact mI _ (hc k hk s hs)
 have l:PhC C b.key (upN B i b) (cov++FJ b) i b:=⟨E,hC,t,q.may,q.n,Dg _ _ _,rfl⟩;have y:14*b.key+38*((cov++FJ b).length:Int)<=99000:=by
  have:(cov++FJ b).length=cov.length+40:=by rw[H'];unfold FJ;rw[mV,oV]
  omega
 obtain⟨vs,hq⟩:=q.pe;generalize cov++FJ b=cov' at o E l y;generalize upN B i b=B' at o E l;generalize a0:b.key=K' at o l y F;have O:PhB C K' B' cov' i b N:=⟨o,L,q.vo⟩;obtain⟨p1,p2,p3,p4,p5,p6,p7⟩:=eh E y u (by omega) o t q.may a0 l.hB q.vo F hq q.p1;obtain⟨q1,q2,_,_⟩:=QZ l u (by omega) O V;have U:=DD (I:=λX=>PhB C K' B' cov' i b X/\∀ j,j<5->StI (X.ab j)) (λc X Y s g=>⟨g.1.step l s,StI.step s (λj f=>(g.1.ak j f).dn) g.2⟩) (λX g=>⟨⟨g.1.cm.drop,g.1.ak,g.1.vi⟩,g.2⟩);have H:∀ a X k,MOk k X->k+6*a<=1000000->PhB C K' B' cov' i b X->(∀ j,j<5->StI (X.ab j))->∀ j,j<5->StI ((X.dT (Al a)).ab j):=λa X k h1 h2 h3 h4=>(U a h1 h2 ⟨h3,h4⟩).1.2;clear U;have s1:=H 1 N _ u (by omega) O T;rw[show Al 1=An from rfl]at s1
 obtain⟨r1,r2,r3,r4⟩:=ei l p7 (by omega) q1 (λj f c e=>.inl (q2 j f c e)) p2 p3 p4 p5 p6;have s2:=H 1 _ _ p7 (by omega) q1 s1;rw[show Al 1=An from rfl]at s2
 obtain⟨W,t1,t2,t3,t4,t5⟩:=iy l y R 81 r4 (by omega) r1 r2 r3 (by unfold mu;split<;>omega);have s3:=H W _ _ r4 (by omega) r1.pe.pb s2;obtain⟨r,rfl⟩:∃ r,m=1+(1+(W+(1+(1+r)))):=⟨m-W-4,by omega⟩;rw[Eu,AB,Eu,AB,Eu,AB,Eu,AB,Eu,AB];simp only[show Al 1=An from rfl];generalize (((N.dT An).dT An).dT (Al W))=X at t2 t3 t4 t5 s3 ⊢;generalize (X.ab i).ae=A at t2;obtain⟨u1,u2⟩:=MT l t5 (by omega) t3 t4;rw[t2.ag]at u2
 have v:=DD (I:=λY=>PhL C K' B' cov' i b Y/\Fin_ i A Y/\∀ j,j<5->StI (Y.ab j)) (λc Y Z s g=>⟨g.1.step l s,Fin_.step l s g.1.pe g.2.1,StI.step s (λj f=>(g.1.pe.pb.ak j f).dn) g.2.2⟩) (λY g=>⟨g.1.drop,g.2.1.drop,g.2.2⟩) 1 t5 (by omega) ⟨t3,t2,s3⟩;rw[show Al 1=An from rfl]at v
 obtain⟨⟨v1,v2,v3⟩,v4⟩:=v;have w:Fz C K' B' cov' i b A (X.dT An):=⟨v1,v2,λj f=>v2.sS l v1.pe f (u2 j f),v3⟩;generalize X.dT An=Y at w v4 ⊢;have x:Rst C K' B' cov' i b A (Y.dT An):=by
  have hz:=DD (λc Y Z s g=>Fz.step l s g) (λY g=>Fz.drop g) 1 v4 (by omega) w;rw[show Al 1=An from rfl]at hz
  refine⟨hz.1,λj f=>?_⟩;have a:=Bn (λc A N s g=>Fz.step l s.calm g) v4 (by omega) w;have d:=ME (J:=λZ=>(Z.ab j).done=A.length) (λc A N s g=>Fz.step l s.calm g) (λc A N s g d=>Pg l s.calm g f d) v4 (by omega) w f λZ _ _ _ g _=>WQ l R g f;rw[EQ];obtain⟨Z,k1,k2,_⟩:=Cw (I:=λZ=>Fz C K' B' cov' i b A Z/\(Z.ab j).done=A.length) (λP Q s g=>⟨g.1.step l s.rV,Pg l s.rV g.1 f g.2⟩) a.1 ⟨a.2,d⟩;rw[k1];exact k2.2
 have a1:MOk (n+1+6+6+6*W+6*1+6*1) (Y.dT An):=(DD (λc Y Z s g=>Fz.step l s g) (λY g=>Fz.drop g) 1 v4 (by omega) w).2;exact⟨K',B',cov',b,A,l,(DD (λc Y Z s g=>Rst.step l s g) (λY g=>⟨g.z.drop,g.d⟩) r a1 (by omega) x).1⟩
end
section
def je(l:List Int):Cmd:=⟨Ac (unQ l) 0,Ac (unQ l) 4,Ac (unQ l) 8,Ac (unQ l) 12,Ac (unQ l) 16⟩
variable{l:List Int}{now:Int}
theorem kG(h:opE l now=0):unE l=0:=by
 unfold opE at h;split at h
 .rename_i g;exact absurd h g
 .rename_i g;exact mF.1 g
theorem lA(h:unE l=0):(je l).e=0:=by
 have:=(R7 h).2;unfold Ck at this;split at this
 .cases this
 .exact this
theorem QN(h:opE l now=0):En l now=je l:=by unfold En;rw[if_pos h];rfl
def JU(L:List Lac):List Cmd:=(L.filter λx=>decide (x.k=1/\unE x.d=0)).map λx=>je x.d
theorem eY{L:List Lac}{x:Lac}(c:x∈L)(b:x.k=1){a:Int}(h:opE x.d a=0):En x.d a∈JU L:=by
 refine mY.2 ⟨x,pO.2 ⟨c,M' ⟨b,kG h⟩⟩,?_⟩;unfold En;rw[if_pos h];rfl
theorem jt(L:List Lac):∀ c∈JU L,c.e=0:=λc a=>by
 obtain⟨x,b,rfl⟩:=mY.1 a;exact lA (nr (pO.1 b).2).2
theorem Lj(L:List Lac)(e:∀ x∈L,LacOk x)(k:L.length<=100000):(∀ j,j<5->AskI ((As.dT L).ab j))/\∀ j,j<5->StI ((As.dT L).ab j):=by
 have s:Sts whT L.length As (As.dT L):=I1 L MOk.zero (by omega) λx i=>⟨e x i,Vl x⟩;exact(s.inv (I:=λM=>(∃ σ,AgI σ M)/\(∀ j,j<5->AskI (M.ab j))/\∀ j,j<5->StI (M.ab j)) (λc M N h ⟨⟨σ,g⟩,a,b⟩=>by
  obtain⟨τ,_,_,d,_⟩:=g.step h;exact⟨⟨τ,d⟩,AskI.step h g a,StI.step h (λj f=>(a j f).dn) b⟩) ⟨⟨_,AgI.zero⟩,AskI.zero,StI.zero⟩).2
theorem dH(L M:List Lac):lds (L++M)=lds L+lds M:=by unfold lds;rw[pP]
theorem settled(L:List Lac)(v:∀ x∈L,LacOk x)(a2:9*lds L<=3480)(n:(JU L).length<40)(hq:126*lds L+38*L.length<=85000)(m:Nat)(hm:85<=m)(hl:L.length+12*m<=99000){i:Nat}(O:i<5) :
  ∃ K B cov b A,PhC (JU L) K B cov i b/\Rst (JU L) K B cov i b A (As.dT (L++(Cz m (i:Int)++Cz m (i:Int)))):=by
 have C:∀ x∈Cz m (i:Int),LacOk x:=λx hx=>by
  rcases Q'.1 hx with hx|hx
  .rcases Q'.1 hx with hx|hx
   .exact P7 0 x hx
   .rw[D'.1 hx];exact Fc ⟨.inl rfl,by omega,by omega⟩
  .exact P7 m x hx
 have a0:(Cz m (i:Int)).length=6*m+11:=by
  have V:∀ m,(Dw m).length=5+6*m:=λm=>by unfold Dw;rw[H',Id];rfl
  unfold Cz;simp only[H',V,nE];omega
 have l:∀ x∈L++Ax,LacOk x:=λx hx=>(Q'.1 hx).elim (v x) λe=>P7 0 x (mI _ e);have a1:(L++Ax).length=L.length+5:=by rw[H'];rfl
 have t:∀ j,j<5->((As.dT (L++Ax)).ab j).up=true:=λj z=>by
  have:=jg L v 0 (by omega) z
  rwa [show Dw 0=Ax from mZ _]at this
 have Y:∀ x∈L++Ax,x.k=1->∀ o:Nat,opE x.d (o:Int)=0->En x.d (o:Int)∈JU L:=λx hx H o h=>by
  rcases Q'.1 hx with e|e
  .exact eY e H h
  .obtain⟨k,_,rfl⟩:=mY.1 e;exact absurd H (by show(9:Int)≠1;decide)
 have g:=gu (S:=λc=>c∈JU L) (L++Ax) l (by omega) Y;obtain⟨τ,cov,_,J,u,w,y⟩:=WG (L++Ax) MOk.zero (by omega) l AgI.zero KbI.zero (cov:=[]) (λb s c h=>h.elim);rw[show lds (L++Ax)=lds L by rw[dH];rfl,Int.zero_add]at u
 have r:=I0 (L++Ax) l (by omega);have F:As.dT (L++(Cz m (i:Int)++Cz m (i:Int)))=(((((((As.dT (L++Ax)).act (acN 2 (i:Int))).dT Ax).dT (Al m)).dT Ax).act (acN 2 (i:Int))).dT Ax).dT (Al m):=by
  have e:∀ X:Meet,X.dT (Cz m (i:Int))=(((X.dT Ax).act (acN 2 (i:Int))).dT Ax).dT (Al m):=λX=>by
   unfold Cz;rw[AB,show Dw 0=Ax from mZ _,AJ];unfold Dw;rw[AB]
  rw[AB,AB,e,e,AB]
 rw[F];have G:((((As.dT (L++Ax)).act (acN 2 (i:Int))).dT Ax).dT (Al m))=As.dT (L++Cz m (i:Int)):=by
  rw[AB _ L (Cz m (i:Int)),AB _ L Ax];unfold Cz;rw[AB,show Dw 0=Ax from mZ _,AJ];unfold Dw;rw[AB]
 have a:=Lj (L++Cz m (i:Int)) (λx hx=>(Q'.1 hx).elim (v x) (C x)) (by rw[H'];omega);rw[<- G]at a
 clear F G;generalize As.dT (L++Ax)=M at t g J u r a ⊢;obtain⟨q,f⟩:∃ q,cov++(FJ (M.ab 0).av.jv++(FJ (M.ab 1).av.jv++(FJ (M.ab 2).av.jv++(FJ (M.ab 3).av.jv++FJ (M.ab 4).av.jv))))=q:=⟨_,rfl⟩;have I:q.length<=L.length+205:=by
  rw[<- f];simp only[H',FJ,mV,oV];simp only[List.length_nil]at w;omega
 have Z:∀ j,j<5->∀ s,s<40->((M.ab j).av.jv,s)∈q:=λj z s n=>by
  rw[<- f];refine mG _ ?_;simp only[Q'];rcases rC z with rfl|rfl|rfl|rfl|rfl
  .exact .inl (FK _ n)
  .exact .inr (.inl (FK _ n))
  .exact .inr (.inr (.inl (FK _ n)))
  .exact .inr (.inr (.inr (.inl (FK _ n))))
  .exact .inr (.inr (.inr (.inr (FK _ n))))
 have W:Cm (λc=>c∈JU L) (9*(lds L:Int)) (λj=>(M.ab j).av.jv) q M:=⟨⟨τ,J,λb s c h=>by rw[<- f];exact mI _ (y b s c h)⟩,⟨by omega,u.mono (mE _) (by omega)⟩,t,λ_ _=>rfl,g⟩;obtain⟨K',B',E,k1,D,k3,k4,P,Q,R⟩:=ki r (m:=m) (by omega) (by omega) Z W u (mE _) (by omega) (by omega) O;generalize (((M.act (acN 2 (i:Int))).dT Ax).dT (Al m))=N at D P Q R a ⊢;rw[JS D.up];obtain⟨U,T,p,b,A,z1,z2⟩:=kl (jt L) n R hm (by omega) k3 D P Q (by omega) (by omega) (by omega) O a.1 a.2;exact⟨U,T,p,b,A,z1,z2⟩
end
section
variable{C:List Cmd}{K:Int}{B:Nat->Bal}{cov:List (Bal × Nat)}{i:Nat}{b:Bal}{A:List Cmd}
theorem Rst.log{N:Meet}(r:Rst C K B cov i b A N){j:Nat}(c:j<5):N.log j=A:=by unfold Meet.log;rw[r.z.a j c,r.d j c,oh]
theorem Rst.bn{N:Meet}(r:Rst C K B cov i b A N)(k:A.length<40){j:Nat}(e:j<5):(N.ab j).bn=[]:=pc.2 λc h=>by
 have g:=(r.z.l.pe.pb.ak j e).un c h;rw[r.z.a j e,r.d j e,oh]at g
 exact g (r.z.f.qu k c (r.z.l.pe.qw j e c h))
end
section
theorem Rv(L:List Lac):(JU L).length<=L.countP λx=>decide (x.k=1):=by
 unfold JU;rw[mV,<- List.countP_eq_length_filter];exact List.countP_mono_left λx _ h=>M' (nr h).1
theorem az(G:List Gr)(m:Nat)(a:Bool):(scr G m a).countP (λx=>decide (x.k=1))<=6:=by
 have key:∀ (l:List Gr) (s:Nat),(Mw a s l).countP (λx=>decide (x.k=1))<=6-s:=by
  intro l;induction l with
  | nil=>exact λs=>nm _
  | cons g l ih =>
   intro s;rw[Mw,pD];unfold WK eN;generalize Nr g a=x;by_cases h:x.k=1
   .have:=ih (s+1);by_cases b:6<s+1
    .rw[if_pos h,if_pos (⟨h,b⟩:x.k=1/\6<s+1),if_neg (by decide)];omega
    .rw[if_pos h,if_neg (λe:x.k=1/\6<s+1=>b e.2),if_pos (M' h)];omega
   .have:=ih s;rw[if_neg h,if_neg (λe:x.k=1/\6<s+1=>h e.1),if_neg (λe=>h (nr e))];omega
 exact key _ 0
theorem iz(L:List Lac):lds L<=L.length:=List.countP_le_length
variable{L:List Lac}{M N:Meet}{U:Nat->Bool}{a x:Lac}{c:Cmd}{i k n:Nat}{α:Type}{σ:Gs}
theorem eT(L:List Lac)(a:∀ x∈L,LacOk x)(g:L.length<=380)(h:L.countP (λx=>decide (x.k=1))<40){i:Nat}(c:i<5) :
  ∃ K B cov b A,PhC (JU L) K B cov i b/\Rst (JU L) K B cov i b A (As.dT (L++Es L (i:Int))):=by
 have d:=iz L;have e:(L.filter hvy).length<=L.length:=pz _ _;have f:=Rv L;exact settled L a (by omega) (by omega) (by omega) (Fw L) (by unfold Fw;omega) (by unfold Fw;omega) c
theorem Zp{p:Nod}{s:Nat}(h:p.ry s=some c):(∃ j,j<5/\∃ v∈(p.av.an j).vs,v.bu=(s:Int)/\v.w=c)\/c∉p.ae:=by
 unfold Nod.ry at h;split at h
 .cases h
 .rename_i d
  have d:=mF.1 d;split at h
  .rename_i hF
   left;have f:Ea (p.av.kc.map (·.vs)) (s:Int)=(Eg (p.av.kc.map (·.vs)) (s:Int)).isSome:=if_pos d;have o:GD (p.av.kc.map (·.vs)) (s:Int)=((Eg (p.av.kc.map (·.vs)) (s:Int)).map (·.w)).getD ⟨0,0,0,0,0⟩:=if_pos d;have g:∀ l∈p.av.kc.map (·.vs),∀ v∈l,Ah v:=by
    unfold BY at d;split at d
    .cases d
    .split at d
     .assumption
     .cases d
   have n:∀ v∈Ae (p.av.kc.map (·.vs)).flatten (s:Int),Ao v.b:=λv e=>by
    obtain⟨l,q,r⟩:=oJ.1 (AL.1 e).1;exact(g l q v r).2.1.pr
   rcases Lo _ n with⟨h0,hO⟩|⟨x,hO,hx,_⟩
   .have hO:Eg (p.av.kc.map (·.vs)) (s:Int)=none:=hO;rw[hO]at f;rw[f]at hF;cases hF
   .have hO:Eg (p.av.kc.map (·.vs)) (s:Int)=some x:=hO;rw[hO]at o
    obtain⟨u,i⟩:=AL.1 hx;obtain⟨l,t,e⟩:=oJ.1 u;obtain⟨a,m,rfl⟩:=mY.1 t;have k:x.w=c:=o.symm.trans (ny h);unfold Rnd.kc at m;simp only[mO,P',or_false]at m;rcases m with rfl|rfl|rfl|rfl|rfl
    .exact⟨0,by decide,x,e,i,k⟩
    .exact⟨1,by decide,x,e,i,k⟩
    .exact⟨2,by decide,x,e,i,k⟩
    .exact⟨3,by decide,x,e,i,k⟩
    .exact⟨4,by decide,x,e,i,k⟩
  .exact .inr (by have:=ri h;simpa using this)
def NdW(σ:Gs):Prop:=∀ b s c,σ.W b s c->∃ l:List Cmd,l.length=s/\AgL σ l 0/\c∉l
theorem NdW.step{D:Wh}(h:AgI σ M)(k:NdW σ)(s:Stp D n M N):∃ τ,AgI τ N/\NdW τ:=by
 obtain⟨τ,w,d,r,t,u⟩:=h.sT s;refine⟨τ,r,λb s c g=>?_⟩;have a:∀ {b s c},σ.W b s c->∃ l:List Cmd,l.length=s/\AgL τ l 0/\c∉l:=λ{b s c} g=>by
  obtain⟨l,m,o,p⟩:=k b s c g;exact⟨l,m,o.mono d,p⟩
 rcases t b s c g with g2|e
 .exact a g2
 .obtain⟨_,_,i,hi,_,hu,rfl,hx⟩:=u b s e;rcases Zp (hx c g)with⟨j,hj,v,hv,hs,rfl⟩|hc
  .obtain⟨rs,q⟩:=(h.nd i hi).up hu;have f:=(h.gs.hv j v (q.rd.an j hj v hv).1).2;rw[hs,nt]at f
   exact a f
  .exact⟨_,rfl,(h.nd i hi).ag.mono d,hc⟩
theorem NdW.dT(L:List Lac)(a:∀ x∈L,LacOk x)(c:L.length<=100000):∃ σ,AgI σ (As.dT L)/\NdW σ:=by
 have s:Sts whT L.length As (As.dT L):=I1 L MOk.zero (by omega) λx b=>⟨a x b,Vl x⟩;exact s.inv (I:=λM=>∃ σ,AgI σ M/\NdW σ) (λ_ M N g ⟨σ,h,k⟩=>NdW.step h k g) ⟨_,AgI.zero,λ_ _ _ g=>g.elim⟩
theorem AgI.nodup(h:AgI σ M)(k:NdW σ){j:Nat}(r:j<5):(M.ab j).ae.Nodup:=by
 refine oc.2 λs t w y x e=>?_;have c:=(h.nd j r).ag;obtain⟨b,Q,E,d⟩:=c t _ (G' y);rw[nA]at d
 obtain⟨q,u,p,_⟩:=G9 Q Q (by omega) (by omega);obtain⟨v,g,z,F,A⟩:=d q u p;have f:=(h.gs.hv q v g).2;rw[z,nt]at f
 obtain⟨l,D,n,o⟩:=k _ _ _ f;have a:s<l.length:=by omega
 obtain⟨B,i⟩:=n s _ (G' a);obtain⟨C,m⟩:=c s _ (G' w);have:=h.gs.sI.agree i m;exact o (by rw[A,<- e,<- this];exact nu a)
theorem OX(a:∀ x∈L,LacOk x)(c:L.length<=100000){j:Nat}(b:j<5):((As.dT L).ab j).ae.Nodup:=by
 obtain⟨σ,h,k⟩:=NdW.dT L a c;exact h.nodup k b
def whS:Wh:=⟨λ_ _=>True,True,False,True,True,False⟩
def Li(n:Nat)(c:Cmd)(ts:List Tol):Prop:=∃ t∈ts,t.n=n/\t.c=c.c/\t.s=c.s
def SvI(n:Nat)(c:Cmd)(M:Meet):Prop:=(M.ab n).up=true/\(c∈(M.ab n).bn\/c∈(M.ab n).ae.take (M.ab n).done/\Li n c M.ew)
theorem iA{l m:List α}{a:Nat}(h:l <+: m)(d:k<=a){c:α}(b:c∈l.take k):c∈m.take a :=
 (List.prefix_take_iff.2 ⟨(pl _ _).trans h,by rw[X'];omega⟩).subset b
theorem SvI.step{E:Nat}(s:Stp whS E M N)(y:∀ j,j<5->AskI (M.ab j))(h:SvI n c M):SvI n c N:=by
 obtain⟨a,h⟩:=h;have put:∀ {i:Nat} {p:Nod} (b:List Let) {m:List Tol},(∀ t∈M.ew,t∈m)->(p.up=(M.ab i).up)->(M.ab i).done<=p.done->(M.ab i).ae <+: p.ae->(i=n->c∈(M.ab i).bn->c∈p.bn\/c∈p.ae.take p.done/\Li n c m)->SvI n c (M.set i p b m):=λ{i p} b {m} u A B C D=>by
  unfold SvI;rw[Am];split
  .rename_i e
   subst e;refine⟨A.trans a,?_⟩;rcases h with h|⟨g1,t,g2,g3⟩
   .exact D rfl h
   .exact .inr ⟨iA C B g1,t,u t g2,g3⟩
  .refine⟨a,?_⟩;rcases h with h|⟨g1,t,g2,g3⟩
   .exact .inl h
   .exact .inr ⟨g1,t,u t g2,g3⟩
 have k:∀ {i:Nat} {p:Nod} (b:List Let),Ev (M.ab i) p->p.bn=(M.ab i).bn/\p.done=(M.ab i).done->SvI n c (M.set i p b M.ew):=λ{i p} b e w=>put b (λ_ h=>h) e.up (Nat.le_of_eq w.2.symm) e.ag λ_ g=>.inl (by rw[w.1];exact g);cases s with
 | take _ l hl hd hu z =>
  have:=(MK (M.ab l.dst) l (y _ hd.2).qn).1;exact k _ (Ev.take _ l) ⟨this.1,this.2.2⟩
 | br _ b hl hd=>exact⟨a,h⟩
 | one _ i d hi hu hc he =>
  have z:(M.ab i).ae.take ((M.ab i).done+1)=(M.ab i).ae.take (M.ab i).done++[d]:=by rw[nR,hc];rfl
  have o:=congrArg Prod.fst (OM { M.ab i with nn:=doS (M.ab i).nn d,done:=(M.ab i).done+1 } d);refine put M.br (λt h=>?_) o ?_ ?_ λe g=>?_
  .split
   .exact mI _ h
   .exact h
  .unfold Nod.gC;split<;>exact nO _
  .unfold Nod.gC;split<;>exact mJ _
  .by_cases e2:c=d
   .subst e2;have f:=((y i hi).wa c).1 g;right;rw[if_pos f];unfold Nod.gC;rw[if_pos f];exact⟨by show c∈(M.ab i).ae.take ((M.ab i).done+1);rw[z];exact mG _ (D'.2 rfl),_,mG _ (D'.2 rfl),e,rfl,rfl⟩
   .left;unfold Nod.gC;split
    .exact(qh e2).2 g
    .exact g
 | ask _ i hi hu =>
  refine k _ (Ev.ln _ i) ?_;unfold Nod.ln;split
  .exact⟨rfl,rfl⟩
  .split
   .unfold Nod.eb;split<;>exact⟨rfl,rfl⟩
   .exact⟨rfl,rfl⟩
 | prop _ i hi hu =>
  refine k _ (Ev.cF _) ?_;unfold Nod.cF;split
  .exact⟨rfl,rfl⟩
  .split
   .exact⟨rfl,rfl⟩
   .split
    .exact⟨rfl,rfl⟩
    .exact(Co (M.ab i) _).1.imp_right And.right
 | rJ _ i hi hu f hT=>exact put _ (λ_ h=>h) rfl (A' _) (mJ _) λ_ g=>.inl g
 | run _ i hi hu q l hp f =>
  refine k _ ((Ev.lp _ i q).bw l) ?_;show((M.ab i).lp i q).bn=_/\((M.ab i).lp i q).done=_;cases q<;>first|exact⟨rfl,rfl⟩|(simp only[Nod.lp];split<;>exact⟨rfl,rfl⟩)|(simp only[Nod.lp,Nod.count];split<;>first|exact⟨rfl,rfl⟩|(split<;>exact⟨rfl,rfl⟩))
 | rG _ i hi hu hL=>exact put _ (λ_ h=>h) rfl (A' _) (mJ _) λ_ g=>.inl g
 | lead _ i hi hu hL =>
  have e:=AZ (M.ab i) ⟨max (M.ab i).dc (M.ab i).vo.p.r+1,(i:Int)⟩;have v:=Ev.au (M.ab i) ⟨max (M.ab i).dc (M.ab i).vo.p.r+1,(i:Int)⟩;refine put _ (λ_ h=>h) (congrArg Prod.fst (Pp (M.ab i) i)) ?_ ?_ λ_ g=>.inl ?_
  .unfold Nod.lead;simp only;split
   .exact A' _
   .exact Nat.le_of_eq e.1.2.2.symm
  .unfold Nod.lead;simp only;split
   .exact mJ _
   .exact v.ag
  .unfold Nod.lead;simp only;split
   .exact g
   .show c∈(Nod.au _ _).1.bn;rw[e.1.1];exact g
 | sub _ i d hi hu hD =>
  unfold Nod.rO Nod.rQ;split
  .exact put _ (λ_ h=>h) rfl (A' _) (mJ _) λ_ g=>.inl g
  .split
   .exact put _ (λ_ h=>h) rfl (A' _) (mJ _) λ_ g=>.inl g
   .split
    .exact put _ (λ_ h=>mI _ h) rfl (A' _) (mJ _) λ_ g=>.inl g
    .refine put _ (λ_ h=>h) ?_ ?_ ?_ λ_ g=>.inl ?_
     .unfold Nod.want;split<;>rfl
     .unfold Nod.want;split<;>exact A' _
     .unfold Nod.want;split<;>exact mJ _
     .unfold Nod.want;split
      .exact g
      .exact mI _ g
 | mv _ i x hi hu hk hC=>exact False.elim hC
 | start _ i hi hu f=>exact False.elim f
theorem SvI.act(D:n<5){c:Cmd}{P:List Lac}(b:∀ x∈P,LacOk x)(C:P.length<100000){x:Lac}(l:LacOk x)(u:¬ (x.k=8/\x.n=(n:Int)))(h:SvI n c (As.dT P)):SvI n c (As.dT (P++[x])):=by
 rw[AB];have same:∀ {N:Meet},N.ab n=(As.dT P).ab n->N.ew=(As.dT P).ew->SvI n c N:=λr t=>by unfold SvI at h ⊢;rw[r,t];exact h
 have f:=(Lj P b (by omega)).1;have d:=I0 P b (by omega);obtain⟨σ,i,_⟩:=NdW.dT P b (by omega);generalize As.dT P=M at h f d i same ⊢;by_cases a:x.k=8
 .have hne:x.n≠(n:Int):=λe=>u ⟨a,e⟩;have v:=l.n (by rw[a];rfl);have e:M.dT [x]=M.set x.n.toNat (if(M.ab x.n.toNat).up then(M.ab x.n.toNat).mv x.p else M.ab x.n.toNat) M.br M.ew:=by
   show M.act x=_;unfold Meet.act;simp only;rw[if_neg (by omega),if_neg (by omega),if_neg (by omega),if_neg (by omega),if_neg (by omega),if_pos a]
  rw[e];exact same (by rw[Am,if_neg (by omega)]) rfl
 .by_cases k9:x.k=9
  .have e:M.dT [x]=M.set x.n.toNat (if(M.ab x.n.toNat).up then M.ab x.n.toNat else(M.ab x.n.toNat).start) M.br M.ew:=by
    show M.act x=_;unfold Meet.act;simp only;rw[if_neg (by omega),if_neg (by omega),if_neg (by omega),if_neg (by omega),if_neg (by omega),if_neg (by omega),if_pos k9]
   rw[e];refine same ?_ rfl;rw[Am];split
   .rename_i g;rw[<- g,if_pos h.1]
   .rfl
  .have s:Sts whS [x].length M (M.dT [x]):=I1 [x] d (by simp;omega) λy w=>by
    rw[D'.1 w];exact⟨l,λ_=>trivial,λ_=>trivial,λe=>absurd e a,λ_=>⟨trivial,trivial⟩,λe=>absurd e k9⟩
   exact(s.inv (I:=λN=>SvI n c N/\(∃ σ,AgI σ N)/\∀ j,j<5->AskI (N.ab j)) (λ_ A B g ⟨z,⟨σ,m⟩,o⟩=>⟨z.step g o,(by obtain⟨τ,_,_,q,_⟩:=m.step g;exact⟨τ,q⟩),AskI.step g m o⟩) ⟨h,⟨σ,i⟩,f⟩).1
theorem SvI.dT(f:n<5){c:Cmd}{P:List Lac}(R:List Lac)(a:∀ x∈P++R,LacOk x)(b:(P++R).length<=100000)(e:∀ x∈R,¬ (x.k=8/\x.n=(n:Int)))(h:SvI n c (As.dT P)):SvI n c (As.dT (P++R)):=by
 induction R generalizing P with
 | nil=>rwa [mZ]
 | cons x R ih =>
  rw[show P++x::R=P++[x]++R by simp]at a b ⊢
  rw[H',H']at b
  simp only[nE]at b;refine ih (P:=P++[x]) a (by rw[H',H'];simp only[nE];omega) (λy d=>e y (I' _ d)) ?_;exact h.act f (λy d=>a y (mI _ (mI _ d))) (by omega) (a x (mI _ (mG _ (D'.2 rfl)))) (e x O')
theorem SvI.sub(b:x.k=1)(i:x.n=(n:Int))(a:(M.ab n).up=true)(e:AskI (M.ab n))(h:opE x.d ((M.ab n).done:Int)=0){c:Cmd}(f:En x.d ((M.ab n).done:Int)=c):SvI n c (M.act x):=by
 unfold Meet.act;simp only;rw[if_pos b,i,nt];unfold SvI;rw[Bj];unfold Nod.rO Nod.rQ;rw[if_neg (by rw[a];decide),if_neg (λg=>g h),f];split
 .rename_i g
  exact⟨a,.inr ⟨g,_,mG _ (D'.2 rfl),rfl,rfl,rfl⟩⟩
 .refine⟨by unfold Nod.want;split<;>exact a,.inl ?_⟩;unfold Nod.want;split
  .rename_i g;exact(e.wa c).2 g
  .exact mG _ (D'.2 rfl)
theorem jl(v:∀ x∈L,LacOk x)(Q:L.length<=380)(T:L.countP (λx=>decide (x.k=1))<40){j:Nat}(P:j<5){N:Meet}(J:As.dT (L++Es L (j:Int))=N)(F:∀ x∈Es L (j:Int),LacOk x/\x.k≠8)(p:(L++Es L (j:Int)).length<=100000) :
  (N.log 0).length<40/\∀ {i:Nat} {x:Lac} {n:Nat} {c:Cmd},L[i]?=some x->x.k=1->x.n=(n:Int)->n<5->((As.dT (L.take i)).ab n).up=true->opE x.d (((As.dT (L.take i)).ab n).done:Int)=0->En x.d (((As.dT (L.take i)).ab n).done:Int)=c->(∀ y∈L.drop (i+1),¬ (y.k=8/\y.n=(n:Int)))->c∈N.log 0/\Li n c N.ew:=by
 subst J;have t:∀ x∈L++Es L (j:Int),LacOk x:=λx o=>(Q'.1 o).elim (v x) λe=>(F x e).1;obtain⟨K,B,H,b,A,W,h⟩:=eT L v Q T P;have r:=OX t p (j:=0) (by omega);rw[h.z.a 0 (by omega)]at r
 have E:A.length<40:=by
  have C:=KY r (m:=JU L) λx o=>(h.z.l.pe.pb.cm.s.nd 0 (by omega)).ag x (by rw[h.z.a 0 (by omega)];exact o);have:=Rv L;omega
 refine⟨by rw[h.log (by omega)];exact E,λ{i x n c} o C R f U S O I=>?_⟩;have X:=(U'.1 o).1;have e:L=L.take i++[x]++L.drop (i+1):=by
  have D:=nH (i+1) L;rw[nR,o]at D
  exact D.symm
 have M:∀ y∈L.take i,LacOk y:=λy w=>v y (mP w);have V:SvI n c (As.dT (L.take i++[x])):=by
  rw[AB];exact SvI.sub C R U ((Lj (L.take i) M (by rw[X'];omega)).1 n f) S O
 have u:L++Es L (j:Int)=L.take i++[x]++(L.drop (i+1)++Es L (j:Int)):=by rw[<- mK,<- e]
 have G:=V.dT f (L.drop (i+1)++Es L (j:Int)) (by rw[<- u];exact t) (by rw[<- u];exact p) λy w=>(Q'.1 w).elim (I y) λg q=>(F y g).2 q.1;rw[<- u]at G
 rcases G.2 with g|⟨g1,g2⟩
 .rw[h.bn E f]at g;cases g
 .rw[h.z.a n f,h.d n f,oh]at g1
  exact⟨by rw[h.log (by omega)];exact g1,g2⟩
def upL(L:List Lac)(n:Nat):Bool:=L.foldl (λu x=>if x.n=(n:Int)/\x.k=9 then true else if x.n=(n:Int)/\x.k=8 then false else u) true
theorem Jp(L:List Lac)(x:Lac)(n:Nat):upL (L++[x]) n=if x.n=(n:Int)/\x.k=9 then true else if x.n=(n:Int)/\x.k=8 then false else upL L n:=by unfold upL;rw[o0];rfl
theorem j1(f:∀ x∈L,LacOk x)(p:L.length<=100000){n:Nat}(j:n<5){k:Nat}(o:k<=L.length)(h:upL (L.take k) n=true):((As.dT (L.take k)).ab n).up=true:=by
 induction k with
 | zero=>rfl
 | succ k ih =>
  obtain⟨x,i⟩:∃ x,L[k]?=some x:=⟨_,G' (by omega)⟩;have e:L.take (k+1)=L.take k++[x]:=by rw[nR,i];rfl
  have d:=f x (mU i);have l:=Ue (L.take k) (λy m=>f y (mP m)) (by rw[X'];omega) j;rw[e,Jp]at h
  rw[e,AB];show((Meet.act _ x).ab n).up=true;by_cases c:x.n=(n:Int)/\x.k=9
  .unfold Meet.act;simp only;rw[if_neg (by omega),if_neg (by omega),if_neg (by omega),if_neg (by omega),if_neg (by omega),if_neg (by omega),if_pos c.2,c.1,nt,Bj];split
   .assumption
   .exact(F8 l).2.1
  .rw[if_neg c]at h
   by_cases b:x.n=(n:Int)/\x.k=8
   .rw[if_pos b]at h;cases h
   .rw[if_neg b]at h
    have g:=ih (by omega) h;by_cases a:x.k=8
    .have hx0:=d.n (by rw[a];rfl);have:x.n≠(n:Int):=λe=>b ⟨e,a⟩;unfold Meet.act;simp only;rw[if_neg (by omega),if_neg (by omega),if_neg (by omega),if_neg (by omega),if_neg (by omega),if_pos a,Am,if_neg (by omega)];exact g
    .exact X1 _ a g
theorem bF(c:∀ m,m<5->U m=upL L m)(f:a.n=(n:Int))(b:a.k=9):∀ m,m<5->AP U n true m=upL (L++[a]) m:=λm d=>by
 rw[Jp];by_cases e:m=n
 .subst e;rw[IV,if_pos ⟨f,b⟩]
 .rw[IW _ _ e,if_neg (λg=>e (by have:=g.1;omega)),if_neg (λg=>e (by have:=g.1;omega))];exact c m d
theorem Xk(c:∀ m,m<5->U m=upL L m)(f:a.n=(n:Int))(b:a.k=8):∀ m,m<5->AP U n false m=upL (L++[a]) m:=λm d=>by
 rw[Jp];by_cases e:m=n
 .subst e;rw[IV,if_neg (λg=>by have:=g.2;omega),if_pos ⟨f,b⟩]
 .rw[IW _ _ e,if_neg (λg=>e (by have:=g.1;omega)),if_neg (λg=>e (by have:=g.1;omega))];exact c m d
theorem Xl(d:∀ m,m<5->U m=upL L m)(c:a.k≠9)(b:a.k≠8):∀ m,m<5->U m=upL (L++[a]) m:=λm e=>by
 rw[Jp,if_neg (λg=>c g.2),if_neg (λg=>b g.2)];exact d m e
def crD(n:Nat)(y:Lac):Bool:=decide (y.k=8/\y.n=(n:Int))
theorem PR{L:List α}{f:α->Bool}(c:i<=k){b:α}(a:L[k]?=some b):((L.take (k+1)).drop i).any f=(((L.take k).drop i).any f||f b):=by
 have d:=(U'.1 a).1;rw[nR,a];show((L.take k++[b]).drop i).any f=_;rw[og (by rw[X'];omega),List.any_append];simp
def tdD(n:Nat)(c:Cmd)(t:Tol):Bool:=decide (t.n=n/\t.c=c.c/\t.s=c.s)
theorem bD{a:List Tol}(h:Li n c a):a.any (tdD n c)=true:=by
 obtain⟨t,b,d⟩:=h;exact List.any_eq_true.2 ⟨t,b,M' d⟩
theorem T8(G:List Gr){L:List Lac}(C:scr G 100 true=L){q:Nat}(p:q<5){N:Meet}(D:As.dT (L++Es L (q:Int))=N)(r:∀ x∈Es L (q:Int),LacOk x/\x.k≠8)(o:(L++Es L (q:Int)).length<=100000) :
  (N.log 0).length<40/\∀ {i:Nat} {x:Lac} {n:Nat},L[i]?=some x->x.k=1->x.n=(n:Int)->n<5->upL (L.take i) n=true->opE x.d 0=0->(L.drop (i+1)).any (crD n)=false->En x.d 0∈N.log 0/\Li n (En x.d 0) N.ew:=by
 have c:=ar G 100 true;have m:=UT G 100 true;have l:=az G 100 true;have j:=jk G 100 true;rw[C]at c m l j
 obtain⟨A,B⟩:=jl c (by omega) (by omega) p D r o;refine⟨A,λ{i x n} s v H f I z F=>?_⟩;have J:=(U'.1 s).1;have E:∀ y∈L.take i,LacOk y:=λy t=>c y (mP t);have w:=(I0 (L.take i) E (by rw[X'];omega)).ab n f;obtain⟨g,u⟩:=j x (mU s) v;have h:opE x.d (((As.dT (L.take i)).ab n).done:Int)=0:=by
  have a:=w.ag;have b:=w.dn;rw[u,ej g (by omega) (by omega),<- u];exact z
 refine B s v H f (j1 c (by omega) f (by omega) I) h (by rw[QN h,QN z]) λy t e=>?_;have:(L.drop (i+1)).any (crD n)=true:=List.any_eq_true.2 ⟨y,t,M' e⟩;rw[F]at this;cases this
end
end
section
open Go.RowKit
section
variable{W w:World}{b n off:Nat}{c:Cmd}{t:Tol}{x:S3}
theorem Xv{n a c:Int}(h:I64 n)(d:pick n a=c)(f:0<a:=by decide)(b:a<=9223372036854775807:=by decide) :
  Calls prog 7 #[iv n,iv a] w λe w'=>e=.returned (iv c)/\Bw w w':=by subst d;exact Cp h a f b
theorem dU{v:S3}{l:List Int}{a:Int}(h:Sl w v.v l)(b:Tabs w){c:Cmd}(f:En l a=c){E:Int}(d:opE l a=E) :
  Calls prog 8 #[v.v,iv a] w λe w'=>e=.returned (.tuple #[.agg #[iv c.k,iv c.c,iv c.s,iv c.n,iv c.v],iv E])/\Bw w w':=by
 subst f d;have:=Ox v.v l a w h b.t b.q b.n;rw[Zv]at this
 exact this
theorem ZP(c:x.a=some ⟨b,off,none⟩)(j:Nat){v:Int}(e:(j:Int)=v)(d:j<x.n):(Instr.indexAt 26 x.v (iv v)).run prog W=.ok (pt b (off+j)) W:=by subst e;exact kQ c j d
theorem ZQ(c:x.a=some ⟨b,off,none⟩)(j:Nat)(d:j<x.n):(Instr.indexAt 28 x.v (iv (j:Int))).run prog W=.ok (pt b (off+5*j)) W:=by
 obtain⟨f,h,g⟩:=x;simp only at c d;subst c;exact Mo (P:=prog) (e:=47) (z:=5) underlying28 (by kernel_rfl) (by kernel_rfl) d _ rfl
theorem TT{l:List Tol}(h:RdV w x 5 (l.flatMap EP)){i b c:Nat}(n:x.a=some ⟨b,c,none⟩){t:Tol}(e:l[i]?=some t){j:Nat}{u:Value}(m:(EP t)[j]?=some u):w.cell? ⟨b,c+5*i+j,none⟩=some u:=by
 have q:=gh h;have p:=(U'.1 e).1;obtain⟨o,g,d,_,k⟩:=h.spot (i:=i) (by omega);rw[n]at d;cases d
 exact k j u (Hd (f:=EP) (sz:=5) (λ_=>rfl) l e m)
theorem iV(a:n<5):(Instr.indexAt 25 (pt b 0) (iv (n:Int))).run prog W=.ok (pt b n) W:=by
 rcases rC a with rfl|rfl|rfl|rfl|rfl<;>kernel_rfl
theorem bU{U:Nat->Bool}(a:n<5):[Value.bool (U 0),.bool (U 1),.bool (U 2),.bool (U 3),.bool (U 4)][n]?=some (.bool (U n)):=by
 rcases rC a with rfl|rfl|rfl|rfl|rfl<;>rfl
theorem PI{b:Bool}(h:(t.n=n/\t.c=c.c/\t.s=c.s)↔b=true):tdD n c t=b:=by
 unfold tdD;cases b with
 | true=>exact M' (h.2 rfl)
 | false=>exact E' λg=>Bool.noConfusion (h.1 g)
theorem MQ{l:S3}{G:List Gr}{ld:Int}(h:RdV w l 5 (grL G))(hG:∀ g∈G,GrOk g)(c6:I64 ld)(hT:Vp w) :
  Calls prog 3 #[l.v,iv ld] w λe w'=>e=.returned (.bool true)/\Bw w w':=by
 obtain⟨L,hL⟩:∃ L,scr G 100 true=L:=⟨_,rfl⟩;have a9:=ar G 100 true;have c7:=UT G 100 true;rw[hL]at a9 c7
 have hr:=Br ld 5 (by omega);obtain⟨q,hq,c9⟩:∃ q:Nat,pick ld 5=(q:Int)/\q<5:=⟨(pick ld 5).toNat,by omega,by omega⟩;have q5:=aF L (q:Int);have b5:∀ x∈Es L (q:Int),LacOk x/\x.k≠8:=Rn (P:=λx=>LacOk x/\x.k≠8) (λn hn=>⟨Fc ⟨.inr (.inr rfl),by omega,by omega⟩,by show(9:Int)≠8;decide⟩) (λn hn=>⟨Fc ⟨.inr (.inl rfl),by omega,by omega⟩,by show(3:Int)≠8;decide⟩) ⟨by rw[<- DP];decide,by decide⟩ ⟨Fc ⟨.inl rfl,by omega,by omega⟩,by show(2:Int)≠8;decide⟩ L;have a6:∀ x∈L++Es L (q:Int),LacOk x:=λx hx=>(Q'.1 hx).elim (a9 x) λe=>(b5 x e).1;have a8:(L++Es L (q:Int)).length<=100000:=by rw[H'];omega
 obtain⟨N,hN⟩:∃ N,As.dT (L++Es L (q:Int))=N:=⟨_,rfl⟩;obtain⟨i4,d0⟩:=T8 G hL c9 hN b5 a8;have d2:=(I0 _ a6 a8).ew;rw[hN]at d2
 refine tIn [] func3 trivial (tR 7 [] λq9 _ _=>tC 1 (λF C=>WL (most:=100) (cr:=true) (h.af (CgQ.af C)) hG (by decide) (tbA hT.1 C)) λNz=>?_);rintro _ _ ⟨s,P,rfl,hP,c2,b2⟩;refine⟨_,Fa.ac s P::_,rfl,b2,λF=>⟨c2.ac Nz,F⟩,?_⟩;rw[hL]at hP
 have q3:P.length=L.length:=by rw[<- hP,mV]
 refine tR 6 [] λr0 _ _=>tC1 2 (λF C=>Xv c6 hq) λ_=>tC 3 (λF C=>T9 (n:=(q:Int)) (AcR.of F.1 hP) (by omega)) λNz=>?_;rintro _ _ ⟨z,rfl,hz,b6⟩;refine⟨_,Fa.ac z (P++rnP (Es L (q:Int)))::_,rfl,b6,λF=>⟨⟨hz.fz Nz,Dat.app F.1.2 (P6 _ _ (Rn (P:=λa=>a.d=[]) (λ_ _=>rfl) (λ_ _=>rfl) rfl rfl L))⟩,F⟩,?_⟩;have c3:(P++rnP (Es L (q:Int))).map (·.1)=L++Es L (q:Int):=by rw[ng,hP,eF]
 refine tC 4 (λF C=>jc (AcR.of F.1 c3) a6 a8 (tb5 hT C) hN) λNz=>?_;rintro _ _ ⟨R,tv,ys,rfl,hW,hO,b8⟩;refine⟨_,[Fa.ot R tv ys N,Fa.ac s P],rfl,b8,λF=>⟨UK hW hO Nz,F.2.1,trivial⟩,?_⟩;refine tF λF _=>?_;have q6:=(AcR.of F.2.1 hP).n;have q4:=(UL F.1).n5;obtain⟨bl,fl,al,_⟩:=F.1.rX.rd.spot (i:=0) (by omega);have q8:=jT (F.1.log 0 (by omega)).rd;have q7:=gh F.1.ew.rd;obtain⟨bt,ft,b9⟩:∃ bt ft,0<N.ew.length->tv.a=some ⟨bt,ft,none⟩:=by
  by_cases g:0<N.ew.length
  .obtain⟨bt,ft,h,_⟩:=F.1.ew.rd.spot (i:=0) (by omega);exact⟨bt,ft,λ_=>h⟩
  .exact⟨0,0,λe=>absurd e g⟩
 obtain⟨W,d1⟩:∃ W:Nat->Tol,∀ k,k<N.ew.length->N.ew[k]?=some (W k):=⟨λk=>N.ew.getD k ⟨0,0,0,0,0⟩,λk hk=>by simp[List.getD_eq_getElem?_getD,List.getElem?_eq_getElem hk]⟩;obtain⟨Z,c8⟩:∃ Z:Nat->Lac × S3,∀ k,k<P.length->P[k]?=some (Z k):=⟨λk=>P.getD k (acN 0 0,s30),λk hk=>by simp[List.getD_eq_getElem?_getD,List.getElem?_eq_getElem hk]⟩;refine tR 20 [1,0,0,0,0] λA _ _=>tV 2 (pt bl (fl+0)) (λF C=>(ZP al 0 rfl (by omega))) (tF λF _=>tV 3 (S3.v (ys 0)) (λF C=>(Bh underlying35 rfl (UA F.1.rX.rd al (by omega)))) (tR 1 [] λi5 _ _=>tV 5 (.bool false) (λF C=>(rGe (t:=3) (m:=((ys 0).n:Int)) (n:=40) (x:=(.tmp 33)) (y:=(.const (iv 40))) (E' (by omega)))) (tR 15 [1,0,1,0] λp _ _=>DB 166 [(5,S3.v s),(6,pt (A 0) 0),(8,pt (p 0) 0),(9,iv 0)] [true,true] [⟨(A 0),.cells #[iv (N.br.length:Int),.bool (N.ab 0).up,.bool (N.ab 1).up,.bool (N.ab 2).up,.bool (N.ab 3).up,.bool (N.ab 4).up,S3.v R,iv ((N.ab 0).bad:Int),iv ((N.ab 1).bad:Int),iv ((N.ab 2).bad:Int),iv ((N.ab 3).bad:Int),iv ((N.ab 4).bad:Int),S3.v tv] 30,.l,false⟩,⟨(p 0),.cells #[.bool true,.bool true,.bool true,.bool true,.bool true] 25,.l,false⟩] [Fa.ac s P,Fa.ot R tv ys N] (λkk ee LL I=>∃ (i:Nat) (U:Nat->Bool),kk=L.length-i/\ee=[(5,S3.v s),(6,pt (A 0) 0),(8,pt (p 0) 0),(9,iv (i:Int))]/\LL=[⟨(A 0),.cells (GA N R tv) 30,.l,false⟩,⟨(p 0),.cells #[.bool (U 0),.bool (U 1),.bool (U 2),.bool (U 3),.bool (U 4)] 25,.l,false⟩]/\I=[Fa.ac s P,Fa.ot R tv ys N]/\i<=L.length/\∀ m,m<5->U m=upL (L.take i) m) (L.length) ⟨0,λ_=>true,rfl,rfl,rfl,rfl,nm _,λ_ _=>rfl⟩ (λF=>⟨F.2.1,F.1,trivial⟩) ?_)));rintro k _ _ _ ⟨i,U,rfl,rfl,rfl,rfl,hi,hU⟩ _ _ _ JI D;refine tR 8 [] λi6 _ _=>?_;by_cases h1:i<L.length
 .refine tI ((decide ((i:Int)<(s.n:Int)))) true (M' (by omega)) ?_;obtain⟨⟨a,yd⟩,O⟩:∃ a,P[i]?=some a:=⟨_,G' (by omega)⟩;have a7:L[i]?=some a:=by rw[<- hP,nz,O];rfl
  have b1:=a9 a (mU a7);obtain⟨c,hc⟩:∃ c,En a.d 0=c:=⟨_,rfl⟩;obtain⟨E,hE⟩:∃ E,opE a.d 0=E:=⟨_,rfl⟩;have H:L.take (i+1)=L.take i++[a]:=by rw[nR,a7];rfl
  obtain⟨n,hn,T⟩:∃ n:Nat,a.n=(n:Int)/\n<5:=by
   cases hu:Gi a.k with
   | true=>have:=b1.n hu;exact⟨a.n.toNat,by omega,by omega⟩
   | false=>have:=b1.n0 hu;exact⟨0,by omega,by omega⟩
  refine tF λF _=>?_;obtain⟨b,u,o,_,hin⟩:=fN F.1 O;refine tR 7 [] λi7 _ _=>tV 2 (pt b (u+5*i)) (λF C=>(Cn (c:=s.c) o i hin)) (tR 1 [] λi8 _ _=>tF λF _=>tV 4 (iv (n:Int)) (λF C=>(Bh underlying3 rfl (by rw[<- hn];exact acS F.1 o O 1 _ rfl))) (tR 7 [] λi9 _ _=>tV 2 (pt b (u+5*i)) (λF C=>(Cn (c:=s.c) o i hin)) (tR 1 [] λj0 _ _=>tF λF _=>tV 4 (iv a.k) (λF C=>(Bh underlying3 rfl (acK F.1 o O))) (tR 2 [] λj1 _ _=>?_))));by_cases h2:a.k=9
  .refine tI ((a.k==9)) true (by simpa using h2) ?_;have a1:=bF hU hn h2;rcases rC T with rfl|rfl|rfl|rfl|rfl
   .refine tR 10 [1,0] λj2 _ _=>tV 2 (pt b (u+5*i)) (λF C=>(Cn (c:=s.c) o i hin)) (tR 1 [] λj3 _ _=>tF λF _=>tV 4 (iv a.k) (λF C=>(Bh underlying3 rfl (acK F.1 o O))) (tR 2 [] λj4 _ _=>tI ((a.k==8)) false (by simp;omega) (tR 6 [] λj5 _ _=>tV 2 (pt b (u+5*i)) (λF C=>(Cn (c:=s.c) o i hin)) (tR 1 [] λj6 _ _=>tF λF _=>tV 4 (iv a.k) (λF C=>(Bh underlying3 rfl (acK F.1 o O))) (tV 5 (.bool true) (λF C=>(D8 (t:=3) (m:=a.k) (n:=1) (x:=(.tmp 67)) (y:=(.const (iv 1))) (by simp;omega))) (tR 11 [] λj7 _ _=>tV 1 (iv ((i:Int)+1)) (λF C=>(Ay 40 (i:Int) underlying3 (by omega))) (tR 2 [] λj8 _ _=>tB D (L.length-(i+1)) (by omega) [true,true] ⟨i+1,AP U 0 true,rfl,rfl,rfl,rfl,by omega,by rw[H];exact a1⟩ (λF=>⟨F.1,F.2.1,trivial⟩))))))))
   .refine tR 10 [1,0] λj9 _ _=>tV 2 (pt b (u+5*i)) (λF C=>(Cn (c:=s.c) o i hin)) (tR 1 [] λk0 _ _=>tF λF _=>tV 4 (iv a.k) (λF C=>(Bh underlying3 rfl (acK F.1 o O))) (tR 2 [] λk1 _ _=>tI ((a.k==8)) false (by simp;omega) (tR 6 [] λk2 _ _=>tV 2 (pt b (u+5*i)) (λF C=>(Cn (c:=s.c) o i hin)) (tR 1 [] λk3 _ _=>tF λF _=>tV 4 (iv a.k) (λF C=>(Bh underlying3 rfl (acK F.1 o O))) (tV 5 (.bool true) (λF C=>(D8 (t:=3) (m:=a.k) (n:=1) (x:=(.tmp 67)) (y:=(.const (iv 1))) (by simp;omega))) (tR 11 [] λk4 _ _=>tV 1 (iv ((i:Int)+1)) (λF C=>(Ay 40 (i:Int) underlying3 (by omega))) (tR 2 [] λk5 _ _=>tB D (L.length-(i+1)) (by omega) [true,true] ⟨i+1,AP U 1 true,rfl,rfl,rfl,rfl,by omega,by rw[H];exact a1⟩ (λF=>⟨F.1,F.2.1,trivial⟩))))))))
   .refine tR 10 [1,0] λk6 _ _=>tV 2 (pt b (u+5*i)) (λF C=>(Cn (c:=s.c) o i hin)) (tR 1 [] λk7 _ _=>tF λF _=>tV 4 (iv a.k) (λF C=>(Bh underlying3 rfl (acK F.1 o O))) (tR 2 [] λk8 _ _=>tI ((a.k==8)) false (by simp;omega) (tR 6 [] λk9 _ _=>tV 2 (pt b (u+5*i)) (λF C=>(Cn (c:=s.c) o i hin)) (tR 1 [] λl0 _ _=>tF λF _=>tV 4 (iv a.k) (λF C=>(Bh underlying3 rfl (acK F.1 o O))) (tV 5 (.bool true) (λF C=>(D8 (t:=3) (m:=a.k) (n:=1) (x:=(.tmp 67)) (y:=(.const (iv 1))) (by simp;omega))) (tR 11 [] λl1 _ _=>tV 1 (iv ((i:Int)+1)) (λF C=>(Ay 40 (i:Int) underlying3 (by omega))) (tR 2 [] λl2 _ _=>tB D (L.length-(i+1)) (by omega) [true,true] ⟨i+1,AP U 2 true,rfl,rfl,rfl,rfl,by omega,by rw[H];exact a1⟩ (λF=>⟨F.1,F.2.1,trivial⟩))))))))
   .refine tR 10 [1,0] λl3 _ _=>tV 2 (pt b (u+5*i)) (λF C=>(Cn (c:=s.c) o i hin)) (tR 1 [] λl4 _ _=>tF λF _=>tV 4 (iv a.k) (λF C=>(Bh underlying3 rfl (acK F.1 o O))) (tR 2 [] λl5 _ _=>tI ((a.k==8)) false (by simp;omega) (tR 6 [] λl6 _ _=>tV 2 (pt b (u+5*i)) (λF C=>(Cn (c:=s.c) o i hin)) (tR 1 [] λl7 _ _=>tF λF _=>tV 4 (iv a.k) (λF C=>(Bh underlying3 rfl (acK F.1 o O))) (tV 5 (.bool true) (λF C=>(D8 (t:=3) (m:=a.k) (n:=1) (x:=(.tmp 67)) (y:=(.const (iv 1))) (by simp;omega))) (tR 11 [] λl8 _ _=>tV 1 (iv ((i:Int)+1)) (λF C=>(Ay 40 (i:Int) underlying3 (by omega))) (tR 2 [] λl9 _ _=>tB D (L.length-(i+1)) (by omega) [true,true] ⟨i+1,AP U 3 true,rfl,rfl,rfl,rfl,by omega,by rw[H];exact a1⟩ (λF=>⟨F.1,F.2.1,trivial⟩))))))))
   .refine tR 10 [1,0] λm0 _ _=>tV 2 (pt b (u+5*i)) (λF C=>(Cn (c:=s.c) o i hin)) (tR 1 [] λm1 _ _=>tF λF _=>tV 4 (iv a.k) (λF C=>(Bh underlying3 rfl (acK F.1 o O))) (tR 2 [] λm2 _ _=>tI ((a.k==8)) false (by simp;omega) (tR 6 [] λm3 _ _=>tV 2 (pt b (u+5*i)) (λF C=>(Cn (c:=s.c) o i hin)) (tR 1 [] λm4 _ _=>tF λF _=>tV 4 (iv a.k) (λF C=>(Bh underlying3 rfl (acK F.1 o O))) (tV 5 (.bool true) (λF C=>(D8 (t:=3) (m:=a.k) (n:=1) (x:=(.tmp 67)) (y:=(.const (iv 1))) (by simp;omega))) (tR 11 [] λm5 _ _=>tV 1 (iv ((i:Int)+1)) (λF C=>(Ay 40 (i:Int) underlying3 (by omega))) (tR 2 [] λm6 _ _=>tB D (L.length-(i+1)) (by omega) [true,true] ⟨i+1,AP U 4 true,rfl,rfl,rfl,rfl,by omega,by rw[H];exact a1⟩ (λF=>⟨F.1,F.2.1,trivial⟩))))))))
  .refine tI ((a.k==9)) false (by simpa using h2) (tR 6 [] λm7 _ _=>tV 2 (pt b (u+5*i)) (λF C=>(Cn (c:=s.c) o i hin)) (tR 1 [] λm8 _ _=>tF λF _=>tV 4 (iv a.k) (λF C=>(Bh underlying3 rfl (acK F.1 o O))) (tR 2 [] λm9 _ _=>?_)));by_cases h3:a.k=8
   .refine tI ((a.k==8)) true (by simpa using h3) ?_;have a0:=Xk hU hn h3;rcases rC T with rfl|rfl|rfl|rfl|rfl
    .refine tR 10 [1,0] λn1 _ _=>tV 2 (pt b (u+5*i)) (λF C=>(Cn (c:=s.c) o i hin)) (tR 1 [] λn2 _ _=>tF λF _=>tV 4 (iv a.k) (λF C=>(Bh underlying3 rfl (acK F.1 o O))) (tV 5 (.bool true) (λF C=>(D8 (t:=3) (m:=a.k) (n:=1) (x:=(.tmp 67)) (y:=(.const (iv 1))) (by simp;omega))) (tR 11 [] λn3 _ _=>tV 1 (iv ((i:Int)+1)) (λF C=>(Ay 40 (i:Int) underlying3 (by omega))) (tR 2 [] λn4 _ _=>tB D (L.length-(i+1)) (by omega) [true,true] ⟨i+1,AP U 0 false,rfl,rfl,rfl,rfl,by omega,by rw[H];exact a0⟩ (λF=>⟨F.1,F.2.1,trivial⟩)))))
    .refine tR 10 [1,0] λn6 _ _=>tV 2 (pt b (u+5*i)) (λF C=>(Cn (c:=s.c) o i hin)) (tR 1 [] λn7 _ _=>tF λF _=>tV 4 (iv a.k) (λF C=>(Bh underlying3 rfl (acK F.1 o O))) (tV 5 (.bool true) (λF C=>(D8 (t:=3) (m:=a.k) (n:=1) (x:=(.tmp 67)) (y:=(.const (iv 1))) (by simp;omega))) (tR 11 [] λn8 _ _=>tV 1 (iv ((i:Int)+1)) (λF C=>(Ay 40 (i:Int) underlying3 (by omega))) (tR 2 [] λn9 _ _=>tB D (L.length-(i+1)) (by omega) [true,true] ⟨i+1,AP U 1 false,rfl,rfl,rfl,rfl,by omega,by rw[H];exact a0⟩ (λF=>⟨F.1,F.2.1,trivial⟩)))))
    .refine tR 10 [1,0] λo0 _ _=>tV 2 (pt b (u+5*i)) (λF C=>(Cn (c:=s.c) o i hin)) (tR 1 [] λo1 _ _=>tF λF _=>tV 4 (iv a.k) (λF C=>(Bh underlying3 rfl (acK F.1 o O))) (tV 5 (.bool true) (λF C=>(D8 (t:=3) (m:=a.k) (n:=1) (x:=(.tmp 67)) (y:=(.const (iv 1))) (by simp;omega))) (tR 11 [] λo2 _ _=>tV 1 (iv ((i:Int)+1)) (λF C=>(Ay 40 (i:Int) underlying3 (by omega))) (tR 2 [] λo3 _ _=>tB D (L.length-(i+1)) (by omega) [true,true] ⟨i+1,AP U 2 false,rfl,rfl,rfl,rfl,by omega,by rw[H];exact a0⟩ (λF=>⟨F.1,F.2.1,trivial⟩)))))
    .refine tR 10 [1,0] λo4 _ _=>tV 2 (pt b (u+5*i)) (λF C=>(Cn (c:=s.c) o i hin)) (tR 1 [] λo5 _ _=>tF λF _=>tV 4 (iv a.k) (λF C=>(Bh underlying3 rfl (acK F.1 o O))) (tV 5 (.bool true) (λF C=>(D8 (t:=3) (m:=a.k) (n:=1) (x:=(.tmp 67)) (y:=(.const (iv 1))) (by simp;omega))) (tR 11 [] λo6 _ _=>tV 1 (iv ((i:Int)+1)) (λF C=>(Ay 40 (i:Int) underlying3 (by omega))) (tR 2 [] λo7 _ _=>tB D (L.length-(i+1)) (by omega) [true,true] ⟨i+1,AP U 3 false,rfl,rfl,rfl,rfl,by omega,by rw[H];exact a0⟩ (λF=>⟨F.1,F.2.1,trivial⟩)))))
    .refine tR 10 [1,0] λo8 _ _=>tV 2 (pt b (u+5*i)) (λF C=>(Cn (c:=s.c) o i hin)) (tR 1 [] λo9 _ _=>tF λF _=>tV 4 (iv a.k) (λF C=>(Bh underlying3 rfl (acK F.1 o O))) (tV 5 (.bool true) (λF C=>(D8 (t:=3) (m:=a.k) (n:=1) (x:=(.tmp 67)) (y:=(.const (iv 1))) (by simp;omega))) (tR 11 [] λp0 _ _=>tV 1 (iv ((i:Int)+1)) (λF C=>(Ay 40 (i:Int) underlying3 (by omega))) (tR 2 [] λp1 _ _=>tB D (L.length-(i+1)) (by omega) [true,true] ⟨i+1,AP U 4 false,rfl,rfl,rfl,rfl,by omega,by rw[H];exact a0⟩ (λF=>⟨F.1,F.2.1,trivial⟩)))))
   .refine tI ((a.k==8)) false (by simpa using h3) ?_;have a2:=Xl hU h2 h3;refine tR 6 [] λp2 _ _=>tV 2 (pt b (u+5*i)) (λF C=>(Cn (c:=s.c) o i hin)) (tR 1 [] λp3 _ _=>tF λF _=>tV 4 (iv a.k) (λF C=>(Bh underlying3 rfl (acK F.1 o O))) ?_);by_cases h4:a.k≠1
    .refine tV 5 (.bool true) (λF C=>(D8 (t:=3) (m:=a.k) (n:=1) (x:=(.tmp 67)) (y:=(.const (iv 1))) (by simpa using h4))) (tR 11 [] λp4 _ _=>tV 1 (iv ((i:Int)+1)) (λF C=>(Ay 40 (i:Int) underlying3 (by omega))) (tR 2 [] λp5 _ _=>tB D (L.length-(i+1)) (by omega) [true,true] ⟨i+1,U,rfl,rfl,rfl,rfl,by omega,by rw[H];exact a2⟩ (λF=>⟨F.1,F.2.1,trivial⟩)))
    .have h40:a.k=1:=mF.1 h4;refine tV 5 (.bool false) (λF C=>(D8 (t:=3) (m:=a.k) (n:=1) (x:=(.tmp 67)) (y:=(.const (iv 1))) (by simpa using h4))) (tR 2 [] λp6 _ _=>tV 8 (pt (p 0) n) (λF C=>(iV T)) ?_);cases hun:U n
     .refine tW 9 (.bool false) (λF K=>Bh underlying4 rfl (lD K 1 (p 0) [.bool (U 0),.bool (U 1),.bool (U 2),.bool (U 3),.bool (U 4)] 25 .l false (j:=n) (by kernel_rfl) (by rw[bU T,hun]))) (tR 7 [] λp7 _ _=>tV 1 (iv ((i:Int)+1)) (λF C=>(Ay 40 (i:Int) underlying3 (by omega))) (tR 2 [] λp8 _ _=>tB D (L.length-(i+1)) (by omega) [true,true] ⟨i+1,U,rfl,rfl,rfl,rfl,by omega,by rw[H];exact a2⟩ (λF=>⟨F.1,F.2.1,trivial⟩)))
     .refine tW 9 (.bool true) (λF K=>Bh underlying4 rfl (lD K 1 (p 0) [.bool (U 0),.bool (U 1),.bool (U 2),.bool (U 3),.bool (U 4)] 25 .l false (j:=n) (by kernel_rfl) (by rw[bU T,hun]))) (tR 13 [] λp9 _ _=>tV 1 (iv ((i:Int)+1)) (λF C=>(Ay 75 (i:Int) underlying3 (by omega))) (tR 3 [] λq0 _ _=>DB 166 [(5,S3.v s),(6,pt (A 0) 0),(8,pt (p 0) 0),(9,iv (i:Int)),(10,iv (n:Int)),(11,.bool false),(12,iv ((i:Int)+1))] [true,true] [⟨(A 0),.cells (GA N R tv) 30,.l,false⟩,⟨(p 0),.cells #[.bool (U 0),.bool (U 1),.bool (U 2),.bool (U 3),.bool (U 4)] 25,.l,false⟩] [Fa.ac s P,Fa.ot R tv ys N] (λkk ee LL I=>∃ (k:Nat) (cr:Bool),kk=L.length-k/\ee=[(5,S3.v s),(6,pt (A 0) 0),(8,pt (p 0) 0),(9,iv (i:Int)),(10,iv (n:Int)),(11,.bool cr),(12,iv (k:Int))]/\LL=[⟨(A 0),.cells (GA N R tv) 30,.l,false⟩,⟨(p 0),.cells #[.bool (U 0),.bool (U 1),.bool (U 2),.bool (U 3),.bool (U 4)] 25,.l,false⟩]/\I=[Fa.ac s P,Fa.ot R tv ys N]/\i+1<=k/\k<=L.length/\cr=((L.take k).drop (i+1)).any (crD n)) (L.length-(i+1)) ⟨i+1,false,rfl,rfl,rfl,rfl,A' _,by omega,by rw[nC (by rw[X'];omega)];rfl⟩ (λF=>⟨F.1,F.2.1,trivial⟩) ?_));rintro k _ _ _ ⟨k,cr,rfl,rfl,rfl,rfl,c5,hk,Y⟩ _ _ _ JK c0;refine tR 8 [] λq1 _ _=>?_;by_cases h5:k<L.length
      .refine tI ((decide ((k:Int)<(s.n:Int)))) true (M' (by omega)) ?_;have hb:P[k]?=some ((Z k).1,(Z k).2):=c8 k (by omega);have a5:k<s.n:=by omega
       have c4:L[k]?=some (Z k).1:=by rw[<- hP,nz,hb];rfl
       have Q:=PR (f:=crD n) (i:=i+1) c5 c4;refine tR 3 [] λq2 _ _=>Is 166 (λee LL I=>∃ (a3:Bool),ee=[(5,S3.v s),(6,pt (A 0) 0),(8,pt (p 0) 0),(9,iv (i:Int)),(10,iv (n:Int)),(11,.bool a3),(12,iv (k:Int))]/\LL=[⟨(A 0),.cells (GA N R tv) 30,.l,false⟩,⟨(p 0),.cells #[.bool (U 0),.bool (U 1),.bool (U 2),.bool (U 3),.bool (U 4)] 25,.l,false⟩]/\I=[Fa.ac s P,Fa.ot R tv ys N]/\a3=((L.take (k+1)).drop (i+1)).any (crD n)) (λJ hJ=>?_) ?_
       .cases cr
        .refine tR 5 [] λd3 _ _=>tV 4 (pt b (u+5*k)) (λF C=>(Cn (c:=s.c) o k a5)) (tR 1 [] λd4 _ _=>tF λF _=>tV 6 (iv (Z k).1.k) (λF C=>(Bh underlying3 rfl (acK F.1 o hb))) ?_);by_cases h6:(Z k).1.k=8
         .refine tV 7 (.bool true) (λF C=>(Dv (t:=3) (m:=(Z k).1.k) (n:=8) (x:=(.tmp 89)) (y:=(.const (iv 8))) (by simpa using h6))) (tR 3 [] λd5 _ _=>tV 11 (pt b (u+5*k)) (λF C=>(Cn (c:=s.c) o k a5)) (tR 1 [] λd6 _ _=>tF λF _=>tV 13 (iv (Z k).1.n) (λF C=>(Bh underlying3 rfl (acS F.1 o hb 1 _ rfl))) (tR 1 [] λd7 _ _=>?_)));by_cases h7:(Z k).1.n=(n:Int)
          .refine tV 15 (.bool true) (λF C=>(Dv (t:=3) (m:=(Z k).1.n) (n:=(n:Int)) (x:=(.tmp 96)) (y:=(.tmp 97)) (by simpa using h7))) (tR 4 [] λd8 _ _=>tD hJ [true,true] ⟨true,rfl,rfl,rfl,(by rw[Q,<- Y];exact(M' ⟨h6,h7⟩).symm)⟩ (λF=>F))
          .refine tV 15 (.bool false) (λF C=>(Dv (t:=3) (m:=(Z k).1.n) (n:=(n:Int)) (x:=(.tmp 96)) (y:=(.tmp 97)) (by simpa using h7))) (tR 4 [] λd9 _ _=>tD hJ [true,true] ⟨false,rfl,rfl,rfl,(by rw[Q,<- Y];exact(E' λg=>h7 g.2).symm)⟩ (λF=>F))
         .refine tV 7 (.bool false) (λF C=>(Dv (t:=3) (m:=(Z k).1.k) (n:=8) (x:=(.tmp 89)) (y:=(.const (iv 8))) (by simpa using h6))) (tR 12 [] λe0 _ _=>tD hJ [true,true] ⟨false,rfl,rfl,rfl,(by rw[Q,<- Y];exact(E' λg=>h6 g.1).symm)⟩ (λF=>F))
        .refine tR 21 [] λe4 _ _=>tD hJ [true,true] ⟨true,rfl,rfl,rfl,(by rw[Q,<- Y];rfl)⟩ (λF=>F)
       rintro _ _ _ ⟨a3,rfl,rfl,rfl,b3⟩ _ _ _;refine tR 3 [] λe5 _ _=>tV 1 (iv ((k:Int)+1)) (λF C=>(Ay 81 (k:Int) underlying3 (by omega))) (tR 2 [] λe6 _ _=>tB c0 (L.length-(k+1)) (by omega) [true,true] ⟨k+1,a3,rfl,rfl,rfl,rfl,by omega,by omega,b3⟩ (λF=>F))
      .refine tI ((decide ((k:Int)<(s.n:Int)))) false (E' (by omega)) ?_;rw[mN (by omega)]at Y
       refine tR 5 [] λe7 _ _=>tV 2 (pt b (u+5*i)) (λF C=>(Cn (c:=s.c) o i hin)) (tR 1 [] λe8 _ _=>tF λF _=>tV 4 (S3.v yd) (λF C=>(Bh underlying36 rfl (acS F.1 o O 4 _ rfl))) (tC1 5 (λF C=>dU (F.1.2 _ (mU O)).s (tbA hT.1 C) hc hE) λ_=>tR 9 [1,0,2,0] λM _ _=>?_));cases cr
       .refine tR 4 [] λe9 _ _=>?_;by_cases h8:E≠0
        .refine tV 3 (.bool true) (λF C=>(D8 (t:=41) (m:=E) (n:=0) (x:=(.tmp 112)) (y:=(.const (iv 0))) (by simpa using h8))) (tR 6 [] λf0 _ _=>tV 1 (iv ((i:Int)+1)) (λF C=>(Ay 40 (i:Int) underlying3 (by omega))) (tR 2 [] λf1 _ _=>tB D (L.length-(i+1)) (by omega) [true,true,false] ⟨i+1,U,rfl,rfl,rfl,rfl,by omega,by rw[H];exact a2⟩ (λF=>⟨F.1,F.2.1,trivial⟩)))
        .refine tV 3 (.bool false) (λF C=>(D8 (t:=41) (m:=E) (n:=0) (x:=(.tmp 112)) (y:=(.const (iv 0))) (by simpa using h8))) ?_;have S:=d0 a7 h40 hn T (by rw[<- hU n T];exact hun) (hE.trans (mF.1 h8)) Y.symm;rw[hc]at S
         have b4:=S.1;have b0:=S.2;refine tR 14 [] λf2 _ _=>DB 166 [(5,S3.v s),(6,pt (A 0) 0),(8,pt (p 0) 0),(9,iv (i:Int)),(10,iv (n:Int)),(13,pt (M 0) 0),(15,.bool false),(16,iv 0)] [true,true,true] [⟨(A 0),.cells (GA N R tv) 30,.l,false⟩,⟨(p 0),.cells #[.bool (U 0),.bool (U 1),.bool (U 2),.bool (U 3),.bool (U 4)] 25,.l,false⟩,⟨(M 0),.cells #[iv c.k,iv c.c,iv c.s,iv c.n,iv c.v] 40,.l,false⟩] [Fa.ac s P,Fa.ot R tv ys N] (λkk ee LL I=>∃ (k:Nat) (td:Bool),kk=N.ew.length-k/\ee=[(5,S3.v s),(6,pt (A 0) 0),(8,pt (p 0) 0),(9,iv (i:Int)),(10,iv (n:Int)),(13,pt (M 0) 0),(15,.bool td),(16,iv (k:Int))]/\LL=[⟨(A 0),.cells (GA N R tv) 30,.l,false⟩,⟨(p 0),.cells #[.bool (U 0),.bool (U 1),.bool (U 2),.bool (U 3),.bool (U 4)] 25,.l,false⟩,⟨(M 0),.cells #[iv c.k,iv c.c,iv c.s,iv c.n,iv c.v] 40,.l,false⟩]/\I=[Fa.ac s P,Fa.ot R tv ys N]/\k<=N.ew.length/\td=(N.ew.take k).any (tdD n c)) (N.ew.length) ⟨0,false,rfl,rfl,rfl,rfl,nm _,rfl⟩ (λF=>⟨F.1,F.2.1,trivial⟩) ?_;rintro k _ _ _ ⟨k,td,rfl,rfl,rfl,rfl,hk,V⟩ _ _ _ JT c1;refine tR 9 [0] λf3 _ _=>?_;by_cases h9:k<N.ew.length
         .refine tI ((decide ((k:Int)<(tv.n:Int)))) true (M' (by omega)) ?_;have ht:=d1 k (by omega);have X:=b9 (by omega);have Q:=PR (f:=tdD n c) (i:=0) (nm _) ht;rw[oD,oD]at Q
          refine tR 3 [] λf4 _ _=>Is 166 (λee LL I=>∃ (a4:Bool),ee=[(5,S3.v s),(6,pt (A 0) 0),(8,pt (p 0) 0),(9,iv (i:Int)),(10,iv (n:Int)),(13,pt (M 0) 0),(15,.bool a4),(16,iv (k:Int))]/\LL=[⟨(A 0),.cells (GA N R tv) 30,.l,false⟩,⟨(p 0),.cells #[.bool (U 0),.bool (U 1),.bool (U 2),.bool (U 3),.bool (U 4)] 25,.l,false⟩,⟨(M 0),.cells #[iv c.k,iv c.c,iv c.s,iv c.n,iv c.v] 40,.l,false⟩]/\I=[Fa.ac s P,Fa.ot R tv ys N]/\a4=(N.ew.take (k+1)).any (tdD n c)) (λJ hJ=>?_) ?_
          .cases td
           .refine tR 6 [34,0,2,4,6,0,8] λf5 _ _=>tT 5 (pt bt (ft+5*k)) (λ_=>(ZQ X k (by omega))) (tR 2 [12,16] λf6 _ _=>tF λF _=>tV 7 (iv ((W k).n:Int)) (λF C=>(Bh underlying3 rfl (TT F.2.1.ew.rd X ht (j:=0) rfl))) ?_);by_cases e1:(W k).n=n
            .refine tT 9 (.bool true) (λ_=>(Dv (t:=3) (m:=((W k).n:Int)) (n:=(n:Int)) (x:=(.tmp 129)) (y:=(.tmp 130)) (by simp;omega))) (tR 4 [20,22,24,0,26] λf7 _ _=>tT 14 (pt bt (ft+5*k)) (λ_=>(ZQ X k (by omega))) (tR 3 [30,34,36,2] λf8 _ _=>tF λF _=>tV 16 (iv (W k).c) (λF C=>(Bh underlying3 rfl (TT F.2.1.ew.rd X ht (j:=1) rfl))) ?_));by_cases e2:(W k).c=c.c
             .refine tT 19 (.bool true) (λ_=>(Dv (t:=3) (m:=(W k).c) (n:=c.c) (x:=(.tmp 138)) (y:=(.tmp 140)) (by simpa using e2))) (tR 5 [40,42,44,46,0,48] λf9 _ _=>tT 25 (pt bt (ft+5*k)) (λ_=>(ZQ X k (by omega))) (tR 3 [52,56,58,2] λg0 _ _=>tF λF _=>tV 27 (iv (W k).s) (λF C=>(Bh underlying3 rfl (TT F.2.1.ew.rd X ht (j:=2) rfl))) ?_));by_cases e3:(W k).s=c.s
              .refine tT 30 (.bool true) (λ_=>(Dv (t:=3) (m:=(W k).s) (n:=c.s) (x:=(.tmp 149)) (y:=(.tmp 151)) (by simpa using e3))) (tR 4 [62,64,66] λg1 _ _=>tD hJ [true,true,true] ⟨true,rfl,rfl,rfl,(by rw[Q,<- V];exact(PI ⟨λ_=>rfl,λ_=>⟨e1,e2,e3⟩⟩).symm)⟩ (λF=>F))
              .refine tT 30 (.bool false) (λ_=>(Dv (t:=3) (m:=(W k).s) (n:=c.s) (x:=(.tmp 149)) (y:=(.tmp 151)) (by simpa using e3))) (tR 4 [62,64,66] λg2 _ _=>tD hJ [true,true,true] ⟨false,rfl,rfl,rfl,(by rw[Q,<- V];exact(PI ⟨λg=>absurd g.2.2 e3,λg=>(by cases g)⟩).symm)⟩ (λF=>F))
             .refine tT 19 (.bool false) (λ_=>(Dv (t:=3) (m:=(W k).c) (n:=c.c) (x:=(.tmp 138)) (y:=(.tmp 140)) (by simpa using e2))) (tR 15 [40,42,44,46,48,50,52,54,56,58,60,62,64,66] λg3 _ _=>tD hJ [true,true,true] ⟨false,rfl,rfl,rfl,(by rw[Q,<- V];exact(PI ⟨λg=>absurd g.2.1 e2,λg=>(by cases g)⟩).symm)⟩ (λF=>F))
            .refine tT 9 (.bool false) (λ_=>(Dv (t:=3) (m:=((W k).n:Int)) (n:=(n:Int)) (x:=(.tmp 129)) (y:=(.tmp 130)) (by simp;omega))) (tR 25 [20,22,24,26,28,30,32,34,36,38,40,42,44,46,48,50,52,54,56,58,60,62,64,66] λg4 _ _=>tD hJ [true,true,true] ⟨false,rfl,rfl,rfl,(by rw[Q,<- V];exact(PI ⟨λg=>absurd g.1 e1,λg=>(by cases g)⟩).symm)⟩ (λF=>F))
           .refine tR 36 [34,0,2,4,6,8,10,12,14,16,18,20,22,24,26,28,30,32,34,36,38,40,42,44,46,48,50,52,54,56,58,60,62,64,66] λg5 _ _=>tD hJ [true,true,true] ⟨true,rfl,rfl,rfl,(by rw[Q,<- V];rfl)⟩ (λF=>F)
          rintro _ _ _ ⟨a4,rfl,rfl,rfl,b7⟩ _ _ _;refine tR 3 [] λg6 _ _=>tV 1 (iv ((k:Int)+1)) (λF C=>(Ay 120 (k:Int) underlying3 (by omega))) (tR 2 [] λg7 _ _=>tB c1 (N.ew.length-(k+1)) (by omega) [true,true,true] ⟨k+1,a4,rfl,rfl,rfl,rfl,by omega,b7⟩ (λF=>F))
         .refine tI ((decide ((k:Int)<(tv.n:Int)))) false (E' (by omega)) ?_;rw[mN (by omega),bD b0]at V
          subst V;refine tR 5 [5,0,2,0] λg8 _ _=>tT 2 (pt bl (fl+0)) (λ_=>(ZP al 0 rfl (by omega))) (tR 1 [8,2] λg9 _ _=>tF λF _=>tV 3 (S3.v (ys 0)) (λF C=>(Bh underlying35 rfl (UA F.2.1.rX.rd al (by omega)))) (tC1 5 (λF C=>ip (F.2.1.log 0 (by omega)).rd (by omega) (r:=true) (M' b4)) λ_=>tR 11 [12,14,16,18,20] λh0 _ _=>tV 1 (iv ((i:Int)+1)) (λF C=>(Ay 40 (i:Int) underlying3 (by omega))) (tR 2 [] λi0 _ _=>tB D (L.length-(i+1)) (by omega) [true,true,false] ⟨i+1,U,rfl,rfl,rfl,rfl,by omega,by rw[H];exact a2⟩ (λF=>⟨F.1,F.2.1,trivial⟩))))
       .refine tR 11 [] λi1 _ _=>tV 1 (iv ((i:Int)+1)) (λF C=>(Ay 40 (i:Int) underlying3 (by omega))) (tR 2 [] λi2 _ _=>tB D (L.length-(i+1)) (by omega) [true,true,false] ⟨i+1,U,rfl,rfl,rfl,rfl,by omega,by rw[H];exact a2⟩ (λF=>⟨F.1,F.2.1,trivial⟩))
 .refine tI ((decide ((i:Int)<(s.n:Int)))) false (E' (by omega)) (tR 5 [] λi3 _ _=>tE (.bool true) λ_ B=>⟨rfl,B⟩)
end
end
end Go.Proofs.YtdnmoonbpfmijaaGreatDoor
