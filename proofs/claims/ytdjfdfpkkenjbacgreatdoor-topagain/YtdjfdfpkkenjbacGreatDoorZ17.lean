/- Part 17 of the walk. -/
import Derived.Test.YtdjfdfpkkenjbacGreatDoorZ16
set_option maxRecDepth 100000
set_option maxHeartbeats 4000000
set_option linter.unusedVariables false
namespace Go.Proofs.YtdjfdfpkkenjbacGreatDoor
section
def NB(p:Nod):Prop:=∀ b vs,Pend.began b vs∉p.br
variable{M N:Meet}{c j:Nat}{p q:Nod}{v:Vt}
theorem NB.snoc(h:NB p){x:Pend}(e:q.br=p.br++[x])(a:∀ b vs,Pend.began b vs≠x):NB q:=λb vs g=>by
 rw[e]at g
 rcases Q'.1 g with g|g
 .exact h b vs g
 .exact a b vs (D'.1 g)
theorem NB.same(h:NB p)(e:q.br=p.br):NB q:=λb a g=>h b a (by rw[<- e];exact g)
theorem Zx(p:Nod)(b:Bal):(p.an b).1.br=p.br:=by
 unfold Nod.an;split
 .rfl
 .split
  .rfl
  .split<;>rfl
theorem R8(p:Nod)(v:Vt):(p.bN v).1.br=p.br:=by
 unfold Nod.bN;split
 .rfl
 .split
  .rfl
  .split<;>rfl
theorem i6(p:Nod)(b:Bal):(p.an b).1.ae=p.ae:=by
 unfold Nod.an;split
 .rfl
 .split
  .rfl
  .split<;>rfl
theorem jg(p:Nod)(v:Vt):(p.bN v).1.ae=p.ae:=by
 unfold Nod.bN;split
 .rfl
 .split
  .rfl
  .split<;>rfl
theorem NB.ew(h:NB p)(to:Nat)(e:Int):NB (p.ew to e):=by
 unfold Nod.ew;split
 .exact h.snoc rfl (λ_ _ g=>by cases g)
 .exact h
theorem RZ(p:Nod)(j:Nat)(v:Vt):(p.count j v).br=p.br:=by
 unfold Nod.count;split
 .rfl
 .split<;>rfl
theorem NO(p:Nod)(l:List Cmd):(p.dT l).br=p.br:=by unfold Nod.dT;split<;>rfl
theorem NB.take(h:NB p)(l:Let):NB (p.take l):=by
 unfold Nod.take;split
 .split
  .exact h.ew _ _
  .exact h.snoc (by show(p.an l.fv).1.br++_=_;rw[Zx]) (λ_ _ g=>by cases g)
 .simp only;split<;>exact h
 .exact h
 .split
  .exact h.ew _ _
  .exact h.snoc (by show(p.bN l.bN).1.br++_=_;rw[R8]) (λ_ _ g=>by cases g)
 .exact h.same (RZ _ _ _)
 .split
  .exact h.snoc rfl (λ_ _ g=>by cases g)
  .exact h
 .simp only;split
  .exact h.snoc (by show((p.dT l.fm).br)++_=_;rw[NO]) (λ_ _ g=>by cases g)
  .exact h.same (NO _ _)
 .exact h
theorem Stp.nb(s:Stp wh0 c M N){j:Nat}(h:NB (M.ab j)):NB (N.ab j):=by
 have put:∀ {i:Nat} {p:Nod} {a:List Let} {f:List Tol},(j=i->NB p)->NB ((M.set i p a f).ab j):=λ{i p a f} g=>by
  rw[Aj];split
  .rename_i e;exact g e
  .exact h
 cases s with
 | take _ l hl hd hu ht=>exact put λe=>by rw[<- e];exact h.take l
 | bm _ a hl hd=>exact False.elim hd
 | one _ i c hi hu hc he=>exact put λe=>(e▸h:NB (M.ab i)).same (GH _ _).1
 | ask _ i hi hu=>exact put λe=>(e▸h:NB (M.ab i)).same (Jl _ _).1
 | prop _ i hi hu =>
  refine put λe=>?_;have h:NB (M.ab i):=e▸h;unfold Nod.cl;split
  .exact h
  .split
   .exact h
   .split
    .exact h
    .exact h.snoc (by show((M.ab i).bN _).1.br++_=_;rw[R8]) (λ_ _ g=>by cases g)
 | qJ _ i hi hu hs hT=>exact put λe=>(e▸h:NB (M.ab i)).same rfl
 | run _ i hi hu q l hp hs=>exact put λe b m g=>(e▸h:NB (M.ab i)) b m (by rw[hp];exact I' _ g)
 | qA _ i hi hu hL=>exact put λe=>(e▸h:NB (M.ab i)).same rfl
 | lead _ i hi hu hL=>exact False.elim hL
 | sub _ i d hi hu hD=>exact False.elim hD
 | ib _ i k hi hu hk hC=>exact False.elim hC
 | start _ i hi hu hs=>exact False.elim hs
theorem NL{k:Nat}{u:Vt}(hv:v∈((p.count k u).av.al j).vs):v∈(p.av.al j).vs\/v.b=p.av.fv:=by
 unfold Nod.count at hv;split at hv
 .exact .inl hv
 .rename_i hb
  split at hv
  .exact .inl hv
  .rename_i a
   have a:=mh.1 a;have hv:v∈(upN p.av.al k ⟨BI (p.av.al k) u,Br (p.av.al k) u⟩ j).vs:=hv;unfold upN at hv;split at hv
   .rename_i e
    have hv:v∈Br (p.av.al k) u:=hv;unfold Br at hv;rw[if_pos a,BB (Ap a).1.2.2]at hv
    rcases hv with hv|hv
    .exact .inr (by rw[hv];exact mh.1 hb)
    .exact .inl (by rw[e];exact hv.1)
   .exact .inl hv
theorem Stp.tj(s:Stp wh0 c M N){i:Nat}(m:NB (M.ab i))(n:∀ j,j<5->(M.ab i).av.nn j=true){j:Nat}{v:Vt}(a:v∈((N.ab i).av.al j).vs):v∈((M.ab i).av.al j).vs\/v.b=(M.ab i).av.fv:=by
 have put:∀ {k:Nat} {p:Nod} {f:List Let} {h:List Tol},v∈(((M.set k p f h).ab i).av.al j).vs->(i=k->v∈(p.av.al j).vs->v∈((M.ab i).av.al j).vs\/v.b=(M.ab i).av.fv)->v∈((M.ab i).av.al j).vs\/v.b=(M.ab i).av.fv:=λ{k p f h} g e=>by
  rw[Aj]at g
  split at g
  .rename_i e2;exact e e2 g
  .exact .inl g
 cases s with
 | take _ l hl hd hu ht =>
  refine put a λe g=>?_;rw[<- e]at g
  unfold Nod.take at g;split at g
  .split at g
   .unfold Nod.ew at g;split at g<;>exact .inl g
   .have g:v∈(((M.ab i).an l.fv).1.av.al j).vs:=g;rw[(AY _ _).2]at g;exact .inl g
  .simp only at g;split at g
   .exact .inl g
   .rename_i hc
    exact absurd (.inr (.inr (n l.src hd.1))) hc
  .exact .inl g
  .split at g
   .unfold Nod.ew at g;split at g<;>exact .inl g
   .have g:v∈(((M.ab i).bN l.bN).1.av.al j).vs:=g;rw[(Cn _ _).2]at g;exact .inl g
  .exact NL g
  .split at g<;>exact .inl g
  .simp only at g;unfold Nod.dT at g;split at g<;>split at g<;>exact .inl g
  .exact .inl g
 | bm _ f hl hd=>exact False.elim hd
 | one _ k c hi hu hc he =>
  refine put a λe g=>?_;rw[<- e]at g
  unfold Nod.fu at g;split at g<;>exact .inl g
 | ask _ k hi hu =>
  refine put a λe g=>?_;rw[<- e]at g
  unfold Nod.hU at g;split at g
  .exact .inl g
  .split at g
   .unfold Nod.dT at g;split at g<;>exact .inl g
   .exact .inl g
 | prop _ k hi hu =>
  refine put a λe g=>?_;rw[<- e]at g
  unfold Nod.cl at g;split at g
  .exact .inl g
  .split at g
   .exact .inl g
   .split at g<;>exact .inl g
 | qJ _ k hi hu hs hT=>exact put a λe g=>by rw[<- e]at g;exact .inl g
 | run _ k hi hu q l hp2 hs =>
  refine put a λe g=>?_;rw[<- e]at g hp2
  have g:v∈(((M.ab i).hZ i q).av.al j).vs:=g;cases q with
  | began b vs=>exact absurd (by rw[hp2];exact M') (m b vs)
  | prop u=>exact NL g
  | _=>exact .inl g
 | qA _ k hi hu hL=>exact put a λe g=>by rw[<- e]at g;exact .inl g
 | lead _ k hi hu hL=>exact False.elim hL
 | sub _ k d hi hu hD=>exact False.elim hD
 | ib _ k y hi hu hk hC=>exact False.elim hC
 | start _ k hi hu hs=>exact False.elim hs
theorem Xu{b:Bal}(l:List Cmd){f:Cmd->Option Bal}(h:∀ c∈l,f c=some b):(Bb b f l).1=[]:=by
 induction l with
 | nil=>rfl
 | cons c l ih =>
  rw[Bb,if_neg (by rw[h c M'];exact λg=>g rfl)];exact ih λd a=>h d (I' _ a)
end
section
variable{C:List Cmd}{K:Int}{B:Nat->Bal}{cov:List (Bal × Nat)}{i:Nat}{b:Bal}
structure PhE(C:List Cmd)(K:Int)(B:Nat->Bal)(cov:List (Bal × Nat))(i:Nat)(b:Bal)(M:Meet):Prop where
 pb:PhB C K B cov i b M
 va:∀ j,j<5->(M.ab j).vo.p=b
 pr:∀ j,j<5->(M.ab i).av.nn j=true
 nb:NB (M.ab i)
 aw:∀ j,j<5->∀ c x,(M.ab j).bw c=some x->x=b
 l6:∀ m∈M.bm,m.kind=6->m.fm=[]
 qw:∀ j,j<5->∀ c∈(M.ab j).au,c∈(M.ab i).av.fa
theorem PhE.nil{M:Meet}(h:PhE C K B cov i b M){j:Nat}(a:j<5):(Bb (M.ab j).vo.p (M.ab j).bw ((M.ab j).au.take 40)).1=[]:=by
 rw[h.va j a];refine Xu _ λc e=>?_;obtain⟨x,d⟩:=nm.1 (((h.pb.ak j a).wa c).1 (mx e));rw[d,h.aw j a c x d]
theorem PhE.hU{M:Meet}(h:PhE C K B cov i b M){j:Nat}(a:j<5):(M.ab j).hU j=({ M.ab j with bw:=(Bb (M.ab j).vo.p (M.ab j).bw ((M.ab j).au.take 40)).2 },[]):=by
 unfold Nod.hU;rw[if_pos (h.nil a)]
theorem DJ{i:Nat}{l m:Let}{k:Nat}(h:m∈BV i l k):m.kind=l.kind/\m.fm=l.fm:=by
 unfold BV at h;obtain⟨j,_,rfl⟩:=mB.1 h;exact⟨rfl,rfl⟩
theorem PhE.step(r:PhC C K B cov i b){n:Nat}{M N:Meet}(s:Stp wh0 n M N)(h:PhE C K B cov i b M):PhE C K B cov i b N:=by
 refine⟨h.pb.step r s,λj a=>h.pb.cm.top r.hc s r.hb.pr r.hK a (h.va j a),λj a=>(s.ev i).nn j (h.pr j a),s.nb h.nb,λj a c x d=>?_,λm f o=>?_,λj a c u=>(s.ev i).qu.subset (h.qw j a c ((s.ev j).wa c u))⟩
 .rcases s.bw d with g|⟨_,rfl⟩
  .exact h.aw j a c x g
  .rw[Aj,if_pos rfl,h.hU a]at d
   have d:(Bb (M.ab j).vo.p (M.ab j).bw ((M.ab j).au.take 40)).2 c=some x:=d;have t:b≠Be:=λe=>by have:=r.hb;rw[e]at this;exact absurd this (by decide)
   rw[h.va j a]at d
   have f:=La t ((M.ab j).au.take 40) (M.ab j).bw;by_cases e:c∈(M.ab j).au.take 40
   .rw[f.2.1 c e]at d;exact(mT d).symm
   .rw[f.1 c e]at d;exact h.aw j a c x d
 .have old:m∈M.bm->m.fm=[]:=λg=>h.l6 m g o;cases s with
  | bm _ ls hl hd=>exact False.elim hd
  | ask _ k hi hu =>
   rw[h.hU hi]at f
   exact old (by simpa[Meet.set]using f)
  | run _ k hi hu q l hp hs =>
   rcases Q'.1 f with g|g
   .exact old g
   .cases q with
    | began b vs =>
     unfold Nod.pd at g;simp only at g;split at g
     .cases g
     .have:=(DJ g).1;rw[o]at this;cases this
    | prop v=>have:=(DJ g).1;rw[o]at this;cases this
    | start=>exact(DJ g).2
    | askNews to=>rw[D'.1 g];rfl
    | _=>have e:=D'.1 g;rw[e]at o;cases o
  | qA _ k hi hu hL =>
   rcases Q'.1 f with g|g
   .exact old g
   .have:=(JL 5 m g).1;omega
  | _=>exact old f
end
section
variable{C:List Cmd}{K:Int}{B:Nat->Bal}{cov:List (Bal × Nat)}{i:Nat}{b:Bal}{A:List Cmd}
section
structure Fin_(i:Nat)(A:List Cmd)(M:Meet):Prop where
 ag:(M.ab i).ae=A
 nx:(M.ab i).av.next<=A.length
 hd:A.length<40->∀ j,j<5->∀ v∈((M.ab i).av.al j).vs,v.bn≠(A.length:Int)
 qu:A.length<40->∀ c∈(M.ab i).av.fa,c∈A
variable{M:Meet}{k:Nat}{l:List Cmd}{σ:Gs}
theorem PhE.rd(a:PhC C K B cov i b){M:Meet}(h:PhE C K B cov i b M){σ:Gs}(g:AgI σ M):RdI σ i (M.ab i).av/\(M.ab i).av.fv=b:=by
 obtain⟨c,k⟩:=(g.nd i a.hi).up (h.pb.cm.up i a.hi);exact⟨k.rd,(h.pb.cm.fv i a.hi).trans a.hB⟩
theorem PhE.lt(d:PhC C K B cov i b){M:Meet}(h:PhE C K B cov i b M){σ:Gs}(g:AgI σ M){v:Vt}(a:σ.rj v)(c:v.b=b):v.bn<((M.ab i).av.next:Int):=by
 have k:=h.rd d g;have:=k.1.next v.bn.toNat v.w (by rw[k.2,<- c];exact a.2);have:=a.1.1;omega
theorem PhE.held(a:PhC C K B cov i b){M:Meet}(h:PhE C K B cov i b M){σ:Gs}(g:AgI σ M){s:Nat}(o:(M.ab i).av.next<=s)(m:∀ j,j<5->∀ v∈((M.ab i).av.al j).vs,v.bn≠(s:Int)){q:Nat}(d:q<5){v:Vt}(l:σ.held q v):v.bn≠(s:Int):=by
 intro e;have k:=h.rd a g;have c:=g.gs.hv q v l;have n:=g.rI h.pb.cm.kb.2 c.1.2.1 (g.gs.w3 _ _ _ c.2);by_cases f:v.b.key<b.key
 .obtain⟨u,hu,eu,_⟩:=(k.1.prom q d (h.pr q d)).2 v l (by rw[k.2];exact f);exact m q d u hu (eu.trans e)
 .have e3:v.b=b:=DN c.1.2.1.pr a.hb.pr (by rw[a.hK]at f ⊢;omega);have:=h.lt a g c e3;omega
theorem gw(g:GsI σ){s:Nat}{c:Cmd}(h:σ.sa s c):∃ q,q<5/\∃ v,σ.held q v/\v.bn=(s:Int)/\v.w=c/\s<40:=by
 obtain⟨k,Q,d,j⟩:=h;obtain⟨q,e,a,_⟩:=Gy Q Q d d;obtain⟨v,b,f,_,i⟩:=j q e a;have:=(g.hv q v b).1.1;exact⟨q,e,v,b,f,i,by omega⟩
theorem Fin_.none(k:PhC C K B cov i b){M:Meet}(h:PhE C K B cov i b M)(f:Fin_ i A M){σ:Gs}(g:AgI σ M)(c:Cmd):¬ σ.sa A.length c:=λe=>by
 obtain⟨q,l,v,a,d,_,j⟩:=gw g.gs e;exact h.held k g f.nx (f.hd j) l a d
theorem AgL.le{a:Nat}(h:AgL σ l k)(d:∀ c,¬ σ.sa a c)(f:k<=a):k+l.length<=a:=pH λe=>by
 have b:a-k<l.length:=by omega
 exact d _ (by rw[show a=k+(a-k)by omega];exact h (a-k) _ (H' b))
theorem Fin_.le(a:PhC C K B cov i b){M:Meet}(h:PhE C K B cov i b M)(f:Fin_ i A M){j:Nat}(c:j<5):(M.ab j).ae.length<=A.length:=by
 obtain⟨σ,g,_⟩:=h.pb.cm.ex;have:=(g.nd j c).ag.le (f.none a h g) (mL _);omega
theorem Fin_.mv(f:Fin_ i A M):(M.ab i).mv (M.ab i).ae.length=Option.none:=by
 unfold Nod.mv;rw[f.ag];split
 .rfl
 .rename_i b
  have b:=mh.1 b;have k:A.length<40:=by
   unfold BY at b;split at b
   .cases b
   .omega
  have m:Ae ((M.ab i).av.gC.map (·.vs)).flatten (A.length:Int)=[]:=oC.2 λv h=>by
   obtain⟨n,o⟩:=AL.1 h;obtain⟨l,s,h⟩:=nT.1 n;obtain⟨a,d,rfl⟩:=mB.1 s;unfold Rnd.gC at d;have:∃ j,j<5/\a=(M.ab i).av.al j:=by
    simp only[mp,O',or_false]at d;rcases d with e|e|e|e|e
    .exact⟨0,by omega,e⟩
    .exact⟨1,by omega,e⟩
    .exact⟨2,by omega,e⟩
    .exact⟨3,by omega,e⟩
    .exact⟨4,by omega,e⟩
   obtain⟨j,r,rfl⟩:=this;exact f.hd k j r v h o
  have p:DZ ((M.ab i).av.gC.map (·.vs)) (A.length:Int)=false:=by
   unfold DZ;rw[if_pos b];unfold Eh;rw[m];rfl
  rw[if_neg (by rw[p];decide)];exact nz.2 λc q g=>absurd (f.qu k c q) (mN g)
theorem Og{a:List Cmd}(h:k+a.length<=l.length):l++a.drop (l.length-k)=l:=by rw[na (by omega),mI]
theorem YP{r:Rnd}(k:Nat)(h:CZ r.gC (l.length:Int)≠0):FG k r l=l:=by
 cases k with
 | zero=>rfl
 | succ k=>rw[FG,if_neg h]
def TZ(p q:Nod):Prop:=q.ae=p.ae/\q.av.next=p.av.next/\q.av.fa=p.av.fa
theorem Fin_.count(c:PhC C K B cov i b){M:Meet}(h:PhE C K B cov i b M)(f:Fin_ i A M){σ:Gs}(g:AgI σ M){j:Nat}{v:Vt}(m:σ.held j v):TZ (M.ab i) ((M.ab i).count j v):=by
 have k:=(h.rd c g).1;unfold Nod.count;split
 .exact⟨rfl,rfl,rfl⟩
 .rename_i hb
  split
  .exact⟨rfl,rfl,rfl⟩
  .rename_i he
   refine⟨YP _ λe=>?_,rfl,rfl⟩;have e:CZ (Rnd.gC _) ((M.ab i).ae.length:Int)=0:=e;have a:=Ua (λq d u l=>((k.count (mh.1 hb) (mh.1 he) m).al q d u l).1) e;rw[f.ag]at a
   exact f.none c h g _ a
theorem Fin_.same(m:PhC C K B cov i b){n:Nat}{M N:Meet}(s:Stp wh0 n M N)(h:PhE C K B cov i b M)(f:Fin_ i A M):TZ (M.ab i) (N.ab i):=by
 obtain⟨σ,g,_⟩:=h.pb.cm.ex;have put:∀ {k:Nat} {p:Nod} {r:List Let} {t:List Tol},(i=k->TZ (M.ab i) p)->TZ (M.ab i) ((M.set k p r t).ab i):=λ{k p r t} e=>by
  rw[Aj];split
  .rename_i e2;exact e e2
  .exact⟨rfl,rfl,rfl⟩
 have o:∀ {l:List Cmd} {k:Nat},AgL σ l k->k<=A.length->k+l.length<=(M.ab i).ae.length:=λa e=>by rw[f.ag];exact a.le (f.none m h g) e
 cases s with
 | take _ l hl2 hd hu ht =>
  refine put λe=>?_;rw[<- e];have lt:=g.lt l hl2;unfold Nod.take;split
  .split
   .unfold Nod.ew;split<;>exact⟨rfl,rfl,rfl⟩
   .exact⟨i6 _ _,by show(Nod.an _ _).1.av.next=_;rw[(AY _ _).2],by show(Nod.an _ _).1.av.fa=_;rw[(AY _ _).2]⟩
  .rename_i hk
   simp only;rw[if_pos (.inr (.inr (h.pr l.src hd.1)))];exact⟨Og (o (lt.k1 hk).2.2 (mL _)),rfl,rfl⟩
  .exact⟨rfl,rfl,rfl⟩
  .split
   .unfold Nod.ew;split<;>exact⟨rfl,rfl,rfl⟩
   .exact⟨jg _ _,by show(Nod.bN _ _).1.av.next=_;rw[(Cn _ _).2],by show(Nod.bN _ _).1.av.fa=_;rw[(Cn _ _).2]⟩
  .rename_i hk
   exact f.count m h g (lt.k4 hk)
  .rename_i hk
   split
   .exact⟨rfl,rfl,rfl⟩
   .rename_i h5
    exact⟨Og (o (lt.k5 hk) (by rw[f.ag]at h5;omega)),rfl,rfl⟩
  .rename_i hk
   simp only;rw[h.l6 l hl2 hk];unfold Nod.dT;split<;>split<;>exact⟨rfl,rfl,rfl⟩
  .exact⟨rfl,rfl,rfl⟩
 | bm _ r o hd=>exact False.elim hd
 | one _ k c hi hu hc he=>exact put λe=>by rw[<- e];unfold Nod.fu;split<;>exact⟨rfl,rfl,rfl⟩
 | ask _ k hi hu=>exact put λe=>by rw[h.hU hi,<- e];exact⟨rfl,rfl,rfl⟩
 | prop _ k hi hu =>
  refine put λe=>?_;rw[<- e];unfold Nod.cl;split
  .exact⟨rfl,rfl,rfl⟩
  .rw[f.mv];exact⟨rfl,rfl,rfl⟩
 | qJ _ k hi hu hs hT=>exact put λe=>by rw[<- e];exact⟨rfl,rfl,rfl⟩
 | run _ k hi hu q l hp hs =>
  refine put λe=>?_;rw[<- e]at hp hs ⊢
  cases q with
  | began b vs=>exact absurd (by rw[hp];exact M') (h.nb b vs)
  | prop v =>
   obtain⟨u,k⟩:=(g.nd i m.hi).up (h.pb.cm.up i m.hi);have:=f.count m h g (j:=i) (v:=v) (by
    have:=k.pe (.prop v) (by rw[hp];exact M');unfold Gs.held;rw[k.tp.all hs];exact this)
   exact this
  | _=>exact⟨rfl,rfl,rfl⟩
 | qA _ k hi hu hL=>exact put λe=>by rw[<- e];exact⟨rfl,rfl,rfl⟩
 | lead _ k hi hu hL=>exact False.elim hL
 | sub _ k d hi hu hD=>exact False.elim hD
 | ib _ k y hi hu hk hC=>exact False.elim hC
 | start _ k hi hu hs=>exact False.elim hs
theorem Fin_.step(a:PhC C K B cov i b){n:Nat}{M N:Meet}(s:Stp wh0 n M N)(h:PhE C K B cov i b M)(f:Fin_ i A M):Fin_ i A N:=by
 have e:=f.same a s h;have d:=h.step a s;obtain⟨τ,g,_⟩:=d.pb.cm.ex;refine⟨e.1.trans f.ag,by rw[e.2.1];exact f.nx,λl j m v o q=>?_,λl c p=>f.qu l c (by rw[<- e.2.2];exact p)⟩;rcases s.tj h.nb h.pr o with k|k
 .exact f.hd l j m v k q
 .have:=d.lt a g (g.gs.hv j v ((d.rd a g).1.al j m v o).1) (k.trans ((h.pb.cm.fv i a.hi).trans a.hB));have:=e.2.1;have:=f.nx;omega
end
end
section
variable{j:Nat}{p:Nod}{r:Rnd}{v:Vt}
theorem Ze{l:List Vt}(h:v∈l):1<=BK (Ae l v.bn) v:=pO.2 ⟨v,AL.2 ⟨h,rfl⟩,P' rfl⟩
theorem X8(k:∀ j,j<5->Ag (r.al j)){v:Vt}(o:0<=v.bn/\v.bn<=39)(p:∀ j,j<5->v∈(r.al j).vs):CZ r.gC v.bn=0:=by
 have e:D2 r.gC v.bn=Ae (r.al 0).vs v.bn++(Ae (r.al 1).vs v.bn++(Ae (r.al 2).vs v.bn++(Ae (r.al 3).vs v.bn++Ae (r.al 4).vs v.bn))):=by
  unfold D2 Rnd.gC Ae;simp[List.filter_append]
 have g:∀ j,j<5->1<=BK (Ae (r.al j).vs v.bn) v:=λj l=>Ze (p j l);have n:5<2*BK (D2 r.gC v.bn) v:=by
  rw[e,C1,C1,C1,C1];have:=g 0 (by omega);have:=g 1 (by omega);have:=g 2 (by omega);have:=g 3 (by omega);have:=g 4 (by omega);omega
 have m:v∈D2 r.gC v.bn:=by
  obtain⟨u,b,d⟩:=pO.1 (show 0<BK (D2 r.gC v.bn) v by omega);have c:u=v:=mN d;rw[c]at b;exact b
 have f:∀ a∈r.gC,Ag a:=λa h=>by
  unfold Rnd.gC at h;simp only[mp,O',or_false]at h;rcases h with e|e|e|e|e<;>rw[e]<;>exact k _ (by omega)
 have i:(Hj (D2 r.gC v.bn) r.gC.length).isSome=true:=List.find?_isSome.2 ⟨v,m,P' n⟩;unfold CZ;rw[if_neg (λg=>g ⟨o,by show(1:Int)<=((5:Nat):Int)/\((5:Nat):Int)<=5;decide⟩),if_neg (λg=>g f),if_pos i]
theorem Qf(c:v.b=p.av.fv)(a:Ag (p.av.al j))(e:Ah v)(f:(p.av.al j).p=p.av.fv):v∈((p.count j v).av.al j).vs:=by
 have d:Ba (p.av.al j) v=0:=by
  unfold Ba;rw[if_neg (λg=>g a),if_neg (λg=>g e),if_neg];rw[f,c];unfold Bal.lt;omega
 unfold Nod.count;rw[if_neg (λg=>g c),if_neg (λg=>g d)];show v∈(upN p.av.al j ⟨BI (p.av.al j) v,Br (p.av.al j) v⟩ j).vs;rw[Dd];show v∈Br (p.av.al j) v;rw[(DM d).2,BB a.2.2];exact .inl rfl
theorem RY{k:Nat}{u:Vt}(a:v∈(p.av.al k).vs)(g:u.b=p.av.fv->u.bn=v.bn->u=v):v∈((p.count j u).av.al k).vs:=by
 unfold Nod.count;split
 .exact a
 .rename_i hb
  split
  .exact a
  .rename_i c
   have c:=mh.1 c;show v∈(upN p.av.al j ⟨BI (p.av.al j) u,Br (p.av.al j) u⟩ k).vs;unfold upN;split
   .rename_i e
    show v∈Br (p.av.al j) u;rw[(DM c).2,BB (Ap c).1.2.2];by_cases d:u.bn=v.bn
    .exact .inl (g (mh.1 hb) d).symm
    .exact .inr ⟨by rw[<- e];exact a,λf=>d f.symm⟩
   .exact a
theorem bk(h:(p.bN v).2=0):Ah v:=by
 unfold Nod.bN at h;split at h
 .rename_i h0;exact absurd h h0
 .rename_i h0;exact(Ap (mh.1 h0)).2.1
theorem VU{l:List Cmd}(k:Nat)(h:CZ r.gC (l.length:Int)=0):l.length<(FG (k+1) r l).length:=by
 rw[FG,if_pos h];have:=(IB k r (l++[CR r.gC (l.length:Int)])).length_le;rw[E',mQ]at this
 omega
end
section
variable{C:List Cmd}{K:Int}{B:Nat->Bal}{cov:List (Bal × Nat)}{i:Nat}{b:Bal}
theorem Stp.rJ{n:Nat}{M N:Meet}(s:Stp wh0 n M N)(m:PhC C K B cov i b)(h:PhE C K B cov i b M){σ:Gs}(g:AgI σ M) :
  ((N.ab i).av.al=(M.ab i).av.al/\(N.ab i).av.next=(M.ab i).av.next)\/((N.ab i).av.al=(M.ab i).av.al/\(N.ab i).av.next=(M.ab i).ae.length+1/\(M.ab i).ae.length<40)\/∃ k u,k<5/\σ.held k u/\(N.ab i).av=((M.ab i).count k u).av/\(N.ab i).ae=((M.ab i).count k u).ae:=by
 have put:∀ {k:Nat} {p:Nod} {f:List Let} {j:List Tol},(i=k->p.av.al=(M.ab k).av.al/\p.av.next=(M.ab k).av.next)->((M.set k p f j).ab i).av.al=(M.ab i).av.al/\((M.set k p f j).ab i).av.next=(M.ab i).av.next:=λ{k p f j} e=>by
  rw[Aj];split
  .rename_i e2;rw[e2];exact e e2
  .exact⟨rfl,rfl⟩
 cases s with
 | take _ l hl hd hu ht =>
  have lt:=g.lt l hl;by_cases a:l.kind=4/\i=l.dst
  .refine .inr (.inr ⟨l.src,l.bN,hd.1,lt.k4 a.1,?_⟩);rw[Aj,if_pos a.2,<- a.2];unfold Nod.take;rw[a.1];exact⟨rfl,rfl⟩
  .refine .inl (put λe=>?_);rw[<- e];unfold Nod.take;split
   .split
    .unfold Nod.ew;split<;>exact⟨rfl,rfl⟩
    .show((M.ab i).an _).1.av.al=_/\((M.ab i).an _).1.av.next=_;rw[(AY _ _).2];exact⟨rfl,rfl⟩
   .simp only;rw[if_pos (.inr (.inr (h.pr l.src hd.1)))];exact⟨rfl,rfl⟩
   .exact⟨rfl,rfl⟩
   .split
    .unfold Nod.ew;split<;>exact⟨rfl,rfl⟩
    .show((M.ab i).bN _).1.av.al=_/\((M.ab i).bN _).1.av.next=_;rw[(Cn _ _).2];exact⟨rfl,rfl⟩
   .rename_i hk;exact absurd ⟨hk,e⟩ a
   .split<;>exact⟨rfl,rfl⟩
   .simp only;unfold Nod.dT;split<;>split<;>exact⟨rfl,rfl⟩
   .exact⟨rfl,rfl⟩
 | bm _ f hl hd=>exact False.elim hd
 | one _ k c hi hu hc he=>exact .inl (put λe=>by unfold Nod.fu;split<;>exact⟨rfl,rfl⟩)
 | ask _ k hi hu=>exact .inl (put λe=>by rw[h.hU hi];exact⟨rfl,rfl⟩)
 | prop _ k hi hu =>
  by_cases e:i=k
  .subst e;rw[Aj,if_pos rfl];unfold Nod.cl;split
   .exact .inl ⟨rfl,rfl⟩
   .split
    .exact .inl ⟨rfl,rfl⟩
    .split
     .exact .inl ⟨rfl,rfl⟩
     .rename_i he
      refine .inr (.inl ⟨rfl,rfl,?_⟩);have:=(bk (mh.1 he)).1.2;have:((M.ab i).ae.length:Int)<=39:=this;omega
  .refine .inl ?_;rw[Aj,if_neg e];exact⟨rfl,rfl⟩
 | qJ _ k hi hu hs hT=>exact .inl (put λe=>⟨rfl,rfl⟩)
 | run _ k hi hu q l hp hs =>
  by_cases e:i=k
  .subst e;cases q with
   | began b vs=>exact absurd (by rw[hp];exact M') (h.nb b vs)
   | prop v =>
    refine .inr (.inr ⟨i,v,hi,?_,?_⟩)
    .obtain⟨rs,k⟩:=(g.nd i hi).up hu;have:=k.pe (.prop v) (by rw[hp];exact M');unfold Gs.held;rw[k.tp.all hs];exact this
    .rw[Aj,if_pos rfl];exact⟨rfl,rfl⟩
   | _=>exact .inl (put λ_=>⟨rfl,rfl⟩)
  .refine .inl ?_;rw[Aj,if_neg e];exact⟨rfl,rfl⟩
 | qA _ k hi hu hL=>exact .inl (put λe=>⟨rfl,rfl⟩)
 | lead _ k hi hu hL=>exact False.elim hL
 | sub _ k d hi hu hD=>exact False.elim hD
 | ib _ k y hi hu hk hC=>exact False.elim hC
 | start _ k hi hu hs=>exact False.elim hs
structure PhL(C:List Cmd)(K:Int)(B:Nat->Bal)(cov:List (Bal × Nat))(i:Nat)(b:Bal)(M:Meet):Prop where
 pe:PhE C K B cov i b M
 ld:∀ v:Vt,v.b=b->(∀ j,j<5->v∈((M.ab i).av.al j).vs)->v.bn<((M.ab i).ae.length:Int)
 nx:(M.ab i).av.next<=(M.ab i).ae.length+1/\(M.ab i).av.next<=40
theorem PhE.acc(c:PhC C K B cov i b){M:Meet}(h:PhE C K B cov i b M){j:Nat}(a:j<5):Ag ((M.ab i).av.al j)/\((M.ab i).av.al j).p=b:=by
 obtain⟨σ,g,_⟩:=h.pb.cm.ex;have k:=h.rd c g;exact⟨(k.1.acc j a).1,((k.1.acc j a).2 (h.pr j a)).trans k.2⟩
theorem PhE.jv(m:PhC C K B cov i b){n:Nat}{M N:Meet}(s:Stp wh0 n M N)(h:PhE C K B cov i b M){v:Vt}(l:v.b=b){j:Nat}(r:j<5)(a:v∈((M.ab i).av.al j).vs):v∈((N.ab i).av.al j).vs:=by
 obtain⟨σ,g,_⟩:=h.pb.cm.ex;have k:=h.rd m g;rcases s.rJ m h g with e|e|⟨q,u,hq,hu,e,_⟩
 .rw[e.1];exact a
 .rw[e.1];exact a
 .rw[e];refine RY a λc d=>?_;have o:=g.gs.hv q u hu;have p:=g.gs.hv j v (k.1.al j r v a).1;have f:=o.2;rw[c,k.2,d,<- l]at f
  exact(Vt.eq_iff u v).1 ⟨d,(c.trans k.2).trans l.symm,g.gs.w1 _ _ _ _ f p.2⟩
theorem PhL.step(d:PhC C K B cov i b){n:Nat}{M N:Meet}(s:Stp wh0 n M N)(h:PhL C K B cov i b M):PhL C K B cov i b N:=by
 have f:=h.pe.step d s;have x:=(s.ev i).ag.length_le;obtain⟨σ,g,_⟩:=h.pe.pb.cm.ex;have p:(N.ab i).av.next<=(N.ab i).ae.length+1/\(N.ab i).av.next<=40:=by
  have:=h.nx;rcases s.rJ d h.pe g with e|e|⟨q,u,hq,hu,e,_⟩
  .rw[e.2];omega
  .rw[e.2.1];omega
  .have o:((M.ab i).count q u).av.next=(M.ab i).av.next:=by
    unfold Nod.count;split
    .rfl
    .split<;>rfl
   rw[e,o];omega
 refine⟨f,λv t a=>?_,p⟩;by_cases l:∀ j,j<5->v∈((M.ab i).av.al j).vs
 .have:=h.ld v t l;omega
 .obtain⟨τ,g2,_⟩:=f.pb.cm.ex;have z:=f.rd d g2;have m:=g2.gs.hv 0 v (z.1.al 0 (by omega) v (a 0 (by omega))).1;have k:=f.lt d g2 m t;rcases s.rJ d h.pe g with e|e|⟨q,u,hq,hu,e,ea⟩
  .rw[e.1]at a;exact absurd a l
  .rw[e.1]at a;exact absurd a l
  .have hm:=m.1.1;rw[e]at a k
   rw[ea];have c:∀ j,j<5->Ag ((N.ab i).av.al j):=λj y=>(f.acc d y).1;rw[e]at c
   have A:=h.nx;have o:((M.ab i).count q u).av.next=(M.ab i).av.next:=by
    unfold Nod.count;split
    .rfl
    .split<;>rfl
   rw[o]at k
   unfold Nod.count at a c ⊢;split at a
   .exact absurd a l
   .split at a
    .exact absurd a l
    .rename_i h3 h4
     rw[if_neg h3,if_neg h4]at c ⊢
     by_cases w:v.bn<((M.ab i).ae.length:Int)
     .exact Int.lt_of_lt_of_le w (Int.ofNat_le.2 (IB 41 _ _).length_le)
     .have e6:v.bn=((M.ab i).ae.length:Int):=by omega
      have r:=X8 c hm a;rw[e6]at r ⊢
      exact Int.ofNat_lt.2 (VU 40 r)
end
section
variable{I J:Meet->Prop}
theorem Mr(j:∀ c M N,Stp wh1 c M N->I M->I N)(p:∀ c M N,Stp wh1 c M N->I M->J M->J N){n:Nat}{M:Meet}(q:MOk n M)(u:n+5<=1000000)(h:I M){i:Nat}(r:i<5)(d:∀ N m,MOk m N->m+1<=1000000->I N->N.ab i=M.ab i->J (N.act (acN 3 (i:Int)))):J (M.dc (AC 3 5)):=by
 have d:∀ k,k<=5->MOk (n+k) (M.dc (AC 3 k))/\I (M.dc (AC 3 k))/\(k<=i->(M.dc (AC 3 k)).ab i=M.ab i)/\(i<k->J (M.dc (AC 3 k))):=by
  intro k;induction k with
  | zero=>exact λ_=>⟨q,h,λ_=>rfl,λe=>absurd e (nW _)⟩
  | succ k ih =>
   intro t;obtain⟨a,b,f,o⟩:=ih (by omega);rw[BS,AJ];refine⟨a.act (by omega) (FU (by omega)),CB j a (by omega) b,λe=>by rw[EF _ (by omega)];exact f (by omega),λe=>?_⟩;by_cases l:i<k
   .exact(CB (I:=λN=>I N/\J N) (λc A B s g=>⟨j c A B s g.1,p c A B s g.1 g.2⟩) a (by omega) ⟨b,o l⟩).2
   .obtain rfl:k=i:=by omega
    exact d _ _ a (by omega) b (f (A' _))
 exact(d 5 (A' _)).2.2.2 r
end
theorem Ii(M:Meet){i:Nat}(d:i<5):∃ N:Meet,N.ab i=M.ab i/\N=M.dc (AC 3 i)/\(M.dc (AC 3 5)).ab i=(N.act (acN 3 (i:Int))).ab i:=by
 have b:∀ k,k<=i->(M.dc (AC 3 k)).ab i=M.ab i:=by
  intro k;induction k with
  | zero=>exact λ_=>rfl
  | succ k ih=>exact λa=>by rw[BS,AJ,EF _ (by omega)];exact ih (by omega)
 refine⟨_,b i (A' _),rfl,?_⟩;have c:∀ k,i<k->(M.dc (AC 3 k)).ab i=((M.dc (AC 3 i)).act (acN 3 (i:Int))).ab i:=by
  intro k a;induction k with
  | zero=>exact absurd a (nW _)
  | succ k ih =>
   rw[BS,AJ];by_cases e:k=i
   .rw[e]
   .rw[EF _ (Ne.symm e)];exact ih (by omega)
 exact c 5 d
theorem Stp.rz{M N:Meet}(s:Stp wh0 0 M N)(i:Nat):(N.ab i).av.next=(M.ab i).av.next:=by
 have put:∀ {k:Nat} {p:Nod} {a:List Let} {g:List Tol},p.av.next=(M.ab k).av.next->((M.set k p a g).ab i).av.next=(M.ab i).av.next:=λ{k p a g} e=>by
  rw[Aj];split
  .rename_i e2;rw[e2];exact e
  .rfl
 have f:∀ (p:Nod) (j:Nat) (v:Vt),(p.count j v).av.next=p.av.next:=λp j v=>by
  unfold Nod.count;split
  .rfl
  .split<;>rfl
 cases s with
 | take _ l hl hd hu ht =>
  refine put ?_;unfold Nod.take;split
  .split
   .unfold Nod.ew;split<;>rfl
   .show((M.ab l.dst).an _).1.av.next=_;rw[(AY _ _).2]
  .simp only;split<;>rfl
  .rfl
  .split
   .unfold Nod.ew;split<;>rfl
   .show((M.ab l.dst).bN _).1.av.next=_;rw[(Cn _ _).2]
  .exact f _ _ _
  .split<;>rfl
  .simp only;unfold Nod.dT;split<;>split<;>rfl
  .rfl
 | bm _ a hl hd=>exact False.elim hd
 | one _ k c hi hu hc he=>exact put (by unfold Nod.fu;split<;>rfl)
 | ask _ k hi hu =>
  refine put ?_;unfold Nod.hU;split
  .rfl
  .split
   .unfold Nod.dT;split<;>rfl
   .rfl
 | qJ _ k hi hu hs hT=>exact put rfl
 | run _ k hi hu q l hp hs =>
  refine put ?_;show((M.ab k).hZ k q).av.next=_;cases q with
  | began b vs=>simp only[Nod.hZ];split<;>rfl
  | prop v=>exact f _ _ _
  | _=>rfl
 | qA _ k hi hu hL=>exact put rfl
 | lead _ k hi hu hL=>exact False.elim hL
 | sub _ k d hi hu hD=>exact False.elim hD
 | ib _ k y hi hu hk hC=>exact False.elim hC
 | start _ k hi hu hs=>exact False.elim hs
theorem Sts.rz{M N:Meet}(s:Sts wh1 0 M N)(i:Nat):(N.ab i).av.next=(M.ab i).av.next:=by
 generalize a:0=z at s;induction s with
 | nil=>rfl
 | @snoc n c m A B E h s hm ih =>
  obtain rfl:c=0:=by omega
  exact(s.calm.rz i).trans (ih (by omega))
theorem SR{p q:Nod}(a:q.av=p.av)(b:q.ae=p.ae)(s:Nat):q.mv s=p.mv s:=by unfold Nod.mv;rw[a,b]
section
variable{C:List Cmd}{K:Int}{B:Nat->Bal}{cov:List (Bal × Nat)}{i:Nat}{b:Bal}
def J3(i:Nat)(v:Vt)(N:Meet):Prop:=v∈((N.ab i).av.al i).vs/\∀ j,j<5->j≠i->({ BD 3 with bN:=v,src:=i,dst:=j }:Let)∈N.bm
theorem J3.step(a:PhC C K B cov i b){n:Nat}{M N:Meet}(s:Stp wh0 n M N)(h:PhE C K B cov i b M){v:Vt}(c:v.b=b)(k:J3 i v M):J3 i v N:=⟨h.jv a s c a.hi k.1,λj d e=>s.qX (k.2 j d e)⟩
theorem PhE.qD{M:Meet}(h:PhE C K B cov i b M):(M.ab i).av.qD=true:=by
 unfold Rnd.qD Jp;rw[h.pr 0 (by omega),h.pr 1 (by omega),h.pr 2 (by omega),h.pr 3 (by omega),h.pr 4 (by omega)];decide
theorem O7(a:PhC C K B cov i b)(H:14*K+38*(cov.length:Int)<=99000)(q:∀ c∈C,c.e=0){M:Meet}(h:PhL C K B cov i b M)(S:(M.ab i).ae.length<40)(L:(M.ab i).av.next<=(M.ab i).ae.length){c:Cmd}(z:(M.ab i).mv (M.ab i).ae.length=some c) :
  J3 i ⟨((M.ab i).ae.length:Int),b,c⟩ (M.act (acN 3 (i:Int)))/\((M.act (acN 3 (i:Int))).ab i).av.next=(M.ab i).ae.length+1:=by
 have E:=h.pe.pb.cm.up i a.hi;obtain⟨R,s0,T,O,a0,n,G,Q,P,F⟩:=Ih (D:=wh1) a.hi E;have r:∀ c A N,Stp wh1 c A N->PhL C K B cov i b A->PhL C K B cov i b N:=λc A N s g=>g.step a s.calm;have x:=s0.inv r h;have o:=P.inv r x;have f:(n.ab i).av=(M.ab i).av/\(n.ab i).ae=(M.ab i).ae:=by
  rw[G,Bi,x.pe.hU a.hi];exact⟨O,a0⟩
 have u:Ah ⟨((M.ab i).ae.length:Int),b,c⟩:=⟨by show(0:Int)<=((M.ab i).ae.length:Int)/\((M.ab i).ae.length:Int)<=39;omega,a.hb,q c (KP (h.pe.pb.cm.s.nd i a.hi) z)⟩;generalize w:(⟨((M.ab i).ae.length:Int),b,c⟩:Vt)=v at u;have m:v.b=b:=by rw[<- w]
 have t:=dS a H o.pe.pb o.pe.qD (by rw[f.1,f.2];exact L) (c:=c) (by rw[SR f.1 f.2,f.2];exact z) (by rw[f.2,w];exact u);rw[f.2,w]at t
 have p:=(Stp.prop (D:=wh1) n i a.hi Q).calm;have p:=o.step a p;have k:=F.inv (I:=λN=>PhL C K B cov i b N/\(Pend.prop v∈(N.ab i).br\/J3 i v N)) (λd A N s g=>⟨r d A N s g.1,by
  rcases g.2 with g2|g2
  .rcases Oq s.calm g2 with g3|⟨l,g3,rfl⟩
   .exact .inl g3
   .refine .inr ⟨?_,λj J e=>mj _ (Mk { BD 3 with bN:=v } J e)⟩;rw[Aj,if_pos rfl];have ac:=g.1.pe.acc a a.hi;have y:(A.ab i).av.fv=b:=(g.1.pe.pb.cm.fv i a.hi).trans a.hB;exact Qf (m.trans y.symm) ac.1 u (ac.2.trans y.symm)
  .exact .inr (g2.step a s.calm g.1.pe m)⟩) ⟨p,.inl (by rw[Bi];exact t.2)⟩
 refine⟨k.2.resolve_left λg=>?_,by rw[F.rz i,Bi];exact t.1⟩;rw[Hg E,Aj,if_pos rfl,Id (h.pe.pb.cm.rG a.hi)]at g
 cases g
theorem WE(a:PhC C K B cov i b){M:Meet}(h:PhL C K B cov i b M)(m:(M.ab i).ae.length<(M.ab i).av.next):((M.act (acN 3 (i:Int))).ab i).av.next=(M.ab i).av.next:=by
 have l:=h.pe.pb.cm.up i a.hi;obtain⟨p,s0,r,n,a0,e,f,t,q,o⟩:=Ih (D:=wh1) a.hi l;have k:∀ c A N,Stp wh1 c A N->PhL C K B cov i b A->PhL C K B cov i b N:=λc A N s g=>g.step a s.calm;have j:=s0.inv k h;have d:(e.ab i).av=(M.ab i).av/\(e.ab i).ae=(M.ab i).ae:=by
  rw[f,Bi,j.pe.hU a.hi];exact⟨n,a0⟩
 rw[o.rz i,Bi];unfold Nod.cl;rw[if_pos (.inr (.inr (by rw[d.1,d.2];exact m))),d.1]
def Bz(i:Nat)(v:Vt)(N:Meet):Prop:=v∈((N.ab i).av.al i).vs/\∀ j,j<5->j≠i->Pend.voted i v∈(N.ab j).br
theorem PhL.drop{N:Meet}(h:PhL C K B cov i b N):PhL C K B cov i b { N with bm:=[] } :=
 ⟨⟨⟨h.pe.pb.cm.drop,h.pe.pb.ak,h.pe.pb.vi⟩,h.pe.va,h.pe.pr,h.pe.nb,h.pe.aw,λm a=>(by cases a),h.pe.qw⟩,h.ld,h.nx⟩
theorem EN(M:Meet):M.dc An=(M.dc (AC 3 5)).act (acN 7 0):=by rw[show An=AC 3 5++[acN 7 0]from rfl,AJ]
theorem PhL.round(f:PhC C K B cov i b){n:Nat}{M:Meet}(k:MOk n M)(m:n+6<=1000000)(h:PhL C K B cov i b M):PhL C K B cov i b (M.dc An)/\MOk (n+6) (M.dc An)/\(M.dc An).bm=[]/\(∀ j,Ev (M.ab j) ((M.dc An).ab j))/\((M.dc An).ab i).av.next=((M.dc (AC 3 5)).ab i).av.next:=by
 have d:=Bm (I:=λN=>PhL C K B cov i b N/\∀ j,Ev (M.ab j) (N.ab j)) (λc A N s g=>⟨g.1.step f s.calm,λj=>(g.2 j).trans (s.calm.ev j)⟩) k (by omega) ⟨h,λj=>.refl _⟩;rw[EN];obtain⟨N,l,e,_⟩:=Cu (I:=λN=>PhL C K B cov i b N/\(∀ j,Ev (M.ab j) (N.ab j))/\(N.ab i).av.next=((M.dc (AC 3 5)).ab i).av.next) (λA N s g=>⟨g.1.step f s.ri,λj=>(g.2.1 j).trans (s.ri.ev j),(s.ri.rz i).trans g.2.2⟩) d.1 ⟨d.2.1,d.2.2,rfl⟩;have a:=d.1.act (x:=acN 7 0) (by omega) (by rw[<- DO];decide);rw[l]at a ⊢
 exact⟨e.1.drop,a,rfl,e.2.1,e.2.2⟩
theorem T3(a:PhC C K B cov i b)(u:14*K+38*(cov.length:Int)<=99000)(f:∀ c∈C,c.e=0){n:Nat}{M:Meet}(r:MOk n M)(P:n+6<=1000000)(h:PhL C K B cov i b M)(F:(M.ab i).ae.length<40)(H:(M.ab i).av.next<=(M.ab i).ae.length){c:Cmd}(x:(M.ab i).mv (M.ab i).ae.length=some c) :
  Bz i ⟨((M.ab i).ae.length:Int),b,c⟩ (M.dc An)/\((M.dc An).ab i).av.next=(M.ab i).ae.length+1:=by
 have G:Ah ⟨((M.ab i).ae.length:Int),b,c⟩:=⟨by show(0:Int)<=((M.ab i).ae.length:Int)/\((M.ab i).ae.length:Int)<=39;omega,a.hb,f c (KP (h.pe.pb.cm.s.nd i a.hi) x)⟩;have w:∀ c A N,Stp wh1 c A N->PhL C K B cov i b A->PhL C K B cov i b N:=λc A N s g=>g.step a s.calm;have E:∀ A N,TkS A N->PhL C K B cov i b A->PhL C K B cov i b N:=λA N s g=>g.step a s.ri;have Q:=h.round a r P;have q:=Mr (J:=λN=>J3 i ⟨((M.ab i).ae.length:Int),b,c⟩ N) w (λd A N s g k=>k.step a s.calm g.pe rfl) r (by omega) h a.hi (λN m _ _ g e=>by
  have:=(O7 a u f g (by rw[e];exact F) (by rw[e];exact H) (c:=c) (by rw[e];exact x)).1;rw[e]at this;exact this)
 obtain⟨N,t,S,T⟩:=Ii M a.hi;have p:=Bm w r (by omega) h;have O:PhL C K B cov i b N:=by
  rw[S];have R:∀ k,k<=5->MOk (n+k) (M.dc (AC 3 k))/\PhL C K B cov i b (M.dc (AC 3 k)):=by
   intro k;induction k with
   | zero=>exact λ_=>⟨r,h⟩
   | succ k ih =>
    intro U;obtain⟨D,L⟩:=ih (by omega);rw[BS,AJ];exact⟨D.act (by omega) (FU (by omega)),CB w D (by omega) L⟩
  have:=a.hi;exact(R i (by omega)).2
 have z:=(O7 a u f O (by rw[t];exact F) (by rw[t];exact H) (c:=c) (by rw[t];exact x)).2;refine⟨?_,by rw[Q.2.2.2.2,T,z,t]⟩;have o:(⟨((M.ab i).ae.length:Int),b,c⟩:Vt).b=b:=rfl;generalize (⟨((M.ab i).ae.length:Int),b,c⟩:Vt)=v at G q o ⊢;rw[EN];generalize M.dc (AC 3 5)=A at p q ⊢;refine⟨?_,λj y e=>?_⟩
 .obtain⟨N,k1,k2,_⟩:=Cu (I:=λN=>PhL C K B cov i b N/\v∈((N.ab i).av.al i).vs) (λA N s g=>⟨E A N s g.1,g.1.pe.jv a s.ri o a.hi g.2⟩) p.1 ⟨p.2,q.1⟩;rw[k1];exact k2.2
 .obtain⟨N,k1,_,k3,_⟩:=DS (J:=λN=>Pend.voted i v∈(N.ab j).br) E (λA N s _ g=>by
   obtain⟨l,_,_,_,rfl⟩:=s;rw[Aj];split
   .rename_i e3;rw[<- e3];exact Hh g
   .exact g) p.1 p.2 (q.2 j y e) (λN g=>g.pe.pb.cm.up j y) (λN g _=>by
   rw[Aj,if_pos rfl];exact Xd a u g.pe.pb y G o (l:={ BD 3 with bN:=v,src:=i,dst:=j }) rfl rfl)
  rw[k1];exact k3
end
theorem lX(q:Nod){i j:Nat}(b:j<5)(c:j≠i) :
  (q.ae.length<=q.av.bu j/\(EH q i 5).av.bu j=q.av.bu j)\/(q.av.bu j<q.ae.length/\(EH q i 5).av.bu j=q.ae.length/\({ BD 5 with src:=i,dst:=j,bn:=q.av.bu j,fm:=q.ae.drop (q.av.bu j) }:Let)∈Ds q i 5):=by
 have hin:∀ k,j<k->MB q i j=true->({ BD 5 with src:=i,dst:=j,bn:=q.av.bu j,fm:=q.ae.drop (q.av.bu j) }:Let)∈Ds q i k:=by
  intro k;induction k with
  | zero=>exact λh=>absurd h (nW _)
  | succ k ih =>
   intro f a;rw[Ds];by_cases e:j=k
   .rw[<- e,a,if_pos rfl];exact mj _ (D'.2 rfl)
   .exact mn _ (ih (by omega) a)
 have d:(EH q i 5).av.bu j=if decide (j<5)&&MB q i j then q.ae.length else q.av.bu j:=rfl;by_cases h:q.av.bu j<q.ae.length
 .have a:MB q i j=true:=P' ⟨c,h⟩;exact .inr ⟨h,by rw[d,a,P' b];rfl,hin 5 b a⟩
 .have a:MB q i j=false:=G' λe=>h e.2;exact .inl ⟨by omega,by rw[d,a,P' b];rfl⟩
theorem Tu(p:Nod)(i:Nat)(d:List Let)(c:List Tol):∃ (q:Nod) (ks:List Let),(p.piece i d c).1=(q.bu i ks).1/\(p.piece i d c).2.1=(q.bu i ks).2/\q.av.bu=p.av.bu:=by
 unfold Nod.piece;simp only;have e:=Ul i (p.ae.drop p.done) p c;generalize qL i (p.ae.drop p.done) p c=a at e ⊢;have f:(a.1.hU i).1.av.bu=a.1.av.bu:=by
  unfold Nod.hU;split
  .rfl
  .split
   .unfold Nod.dT;split<;>rfl
   .rfl
 generalize a.1.hU i=b at f ⊢;have g:b.1.cl.av.bu=b.1.av.bu:=by
  unfold Nod.cl;split
  .rfl
  .split
   .rfl
   .split<;>rfl
 generalize b.1.cl=r at g ⊢;have h:(r.ln i (d++b.2)).1.av.bu=r.av.bu:=by
  have j:∀ (l:List Pend) (x:Nod) (k:List Let),(lr i l x k).1.av.bu=x.av.bu:=by
   intro l;induction l with
   | nil=>exact λx k=>rfl
   | cons y l ih =>
    intro x k;rw[lr,ih];cases y with
    | began b vs=>simp only[Nod.hZ];split<;>rfl
    | prop v =>
     simp only[Nod.hZ,Nod.count];split
     .rfl
     .split<;>rfl
    | _=>rfl
  unfold Nod.ln;split
  .rfl
  .rw[j];unfold Nod.qJ;split<;>rfl
 exact⟨_,_,rfl,rfl,by rw[h,g,f,e.1]⟩
section
variable{C:List Cmd}{K:Int}{B:Nat->Bal}{cov:List (Bal × Nat)}{i:Nat}{b:Bal}
theorem PhE.tk{M N:Meet}(s:TkS M N)(h:PhE C K B cov i b M):(N.ab i).av.bu=(M.ab i).av.bu:=by
 obtain⟨l,c,a,d,rfl⟩:=s;rw[Aj];split
 .rename_i e
  rw[<- e];unfold Nod.take;split
  .split
   .unfold Nod.ew;split<;>rfl
   .show((M.ab i).an _).1.av.bu=_;rw[(AY _ _).2]
  .simp only;rw[if_pos (.inr (.inr (h.pr l.src a.1)))];rfl
  .rfl
  .split
   .unfold Nod.ew;split<;>rfl
   .show((M.ab i).bN _).1.av.bu=_;rw[(Cn _ _).2]
  .unfold Nod.count;split
   .rfl
   .split<;>rfl
  .split<;>rfl
  .simp only;unfold Nod.dT;split<;>split<;>rfl
  .rfl
 .rfl
def TT0(i:Nat)(M:Meet):Prop:=∀ j,j<5->j≠i->(M.ab i).av.bu j<=(M.ab j).ae.length
def TTx(i a0:Nat)(N:Meet):Prop:=∀ j,j<5->j≠i->a0<=(N.ab i).av.bu j/\((N.ab i).av.bu j<=(N.ab j).ae.length\/∃ m∈N.bm,m.kind=5/\m.dst=j/\m.bn<=(N.ab j).ae.length/\(N.ab i).av.bu j<=m.bn+m.fm.length)
theorem TE(k:PhC C K B cov i b){n:Nat}{M:Meet}(z:MOk n M)(F:n+1<=1000000)(h:PhL C K B cov i b M)(t:TT0 i M):TTx i (M.ab i).ae.length (M.act (acN 3 (i:Int))):=by
 have E:=h.pe.pb.cm.up i k.hi;have u:=CB (I:=λN=>PhL C K B cov i b N/\Ev (M.ab i) (N.ab i)) (λc A N s g=>⟨g.1.step k s.calm,g.2.trans (s.calm.ev i)⟩) z k.hi ⟨h,.refl _⟩;have l:=u.1.pe.pb.leads k;have d:=u.2.ag.length_le;intro j v a;have o:=EF M (i:=i) a;have f:=t j v a;have e:M.act (acN 3 (i:Int))=M.set i ((M.ab i).piece i M.bm M.eb).1 ((M.ab i).piece i M.bm M.eb).2.1 ((M.ab i).piece i M.bm M.eb).2.2:=Hg E;obtain⟨q,w,x,y,r⟩:=Tu (M.ab i) i M.bm M.eb;rw[o];rw[e,Bi,x]at l d ⊢
 have D:q.leads=true:=by
  refine mV λg=>?_;unfold Nod.bu at l;rw[if_neg g]at l
  exact g l
 have p:q.bu i w=(EH q i 5,w++Ds q i 5):=by unfold Nod.bu;rw[if_pos D]
 rw[p]at d ⊢
 have d:(M.ab i).ae.length<=q.ae.length:=d;show _<=(EH q i 5).av.bu j/\((EH q i 5).av.bu j<=_\/∃ m∈((M.ab i).piece i M.bm M.eb).2.1,_/\_/\_/\(EH q i 5).av.bu j<=_);rw[y,p];rcases lX q v a with⟨g1,g2⟩|⟨g1,g2,g3⟩
 .rw[g2];exact⟨by omega,.inl (by rw[r];exact f)⟩
 .rw[g2];refine⟨d,.inr ⟨_,mj _ g3,rfl,rfl,by show q.av.bu j<=_;rw[r];exact f,?_⟩⟩;show q.ae.length<=q.av.bu j+(q.ae.drop (q.av.bu j)).length;rw[mo];omega
theorem MF(u:PhC C K B cov i b){n:Nat}{M:Meet}(E:MOk n M)(L:n+6<=1000000)(h:PhL C K B cov i b M)(t:TT0 i M):TT0 i (M.dc An)/\∀ j,j<5->(M.ab i).ae.length<=((M.dc An).ab j).ae.length:=by
 have G:∀ c A N,Stp wh1 c A N->PhL C K B cov i b A->PhL C K B cov i b N:=λc A N s g=>g.step u s.calm;have O:∀ k,k<=5->MOk (n+k) (M.dc (AC 3 k))/\PhL C K B cov i b (M.dc (AC 3 k))/\(∀ j,Ev (M.ab j) ((M.dc (AC 3 k)).ab j))/\(k<=i->(M.dc (AC 3 k)).ab i=M.ab i)/\(i<k->TTx i (M.ab i).ae.length (M.dc (AC 3 k))):=by
  intro k;induction k with
  | zero=>exact λ_=>⟨E,h,λj=>.refl _,λ_=>rfl,λe=>absurd e (nW _)⟩
  | succ k ih =>
   intro P;obtain⟨d,o,r,y,p⟩:=ih (by omega);rw[BS,AJ];generalize M.dc (AC 3 k)=A at d o r y p ⊢;have q:=CB (I:=λN=>(∀ j,Ev (A.ab j) (N.ab j))/\∀ m∈A.bm,m∈N.bm) (λc X N s g=>⟨λj=>(g.1 j).trans (s.calm.ev j),λm z=>s.calm.qX (g.2 m z)⟩) d (show k<5 by omega) ⟨λj=>.refl _,λm z=>z⟩;refine⟨d.act (by omega) (FU (by omega)),CB G d (by omega) o,λj=>(r j).trans (q.1 j),λe=>by rw[EF _ (by omega)];exact y (by omega),λe=>?_⟩;by_cases F:i<k
   .intro j f a;obtain⟨x,l⟩:=p F j f a;rw[EF A (i:=k) (j:=i) (by omega)];have:=(q.1 j).ag.length_le;refine⟨x,?_⟩;rcases l with l|⟨m,l,g3,g4,g5,g6⟩
    .exact .inl (by omega)
    .exact .inr ⟨m,q.2 m l,g3,g4,by omega,g6⟩
   .obtain rfl:k=i:=by omega
    have D:=y (A' _);have:=TE u d (by omega) o (λj f a=>by
     have:=(r j).ag.length_le;have:=t j f a;rw[D];omega)
    rw[D]at this;exact this
 obtain⟨d,o,r,_,p⟩:=O 5 (A' _);have p:=p u.hi;rw[EN];generalize M.dc (AC 3 5)=A at d o r p ⊢;have key:∀ j,j<5->j≠i->((A.act (acN 7 0)).ab i).av.bu j<=((A.act (acN 7 0)).ab j).ae.length/\(M.ab i).ae.length<=((A.act (acN 7 0)).ab i).av.bu j:=λj f a=>by
  obtain⟨x,l⟩:=p j f a;rcases l with l|⟨m,l,g3,g4,g5,g6⟩
  .obtain⟨N,w,v,_⟩:=Cu (I:=λN=>PhL C K B cov i b N/\(N.ab i).av.bu=(A.ab i).av.bu/\Ev (A.ab j) (N.ab j)) (λX N s g=>⟨g.1.step u s.ri,(g.1.pe.tk s).trans g.2.1,g.2.2.trans (s.ri.ev j)⟩) d ⟨o,rfl,.refl _⟩;rw[w];show(N.ab i).av.bu j<=(N.ab j).ae.length/\_<=(N.ab i).av.bu j;have:=v.2.2.ag.length_le;rw[v.2.1];omega
  .obtain⟨N,w,v,k3,_⟩:=DS (I:=λN=>PhL C K B cov i b N/\(N.ab i).av.bu=(A.ab i).av.bu/\Ev (A.ab j) (N.ab j)) (J:=λN=>(A.ab i).av.bu j<=(N.ab j).ae.length) (λX N s g=>⟨g.1.step u s.ri,(g.1.pe.tk s).trans g.2.1,g.2.2.trans (s.ri.ev j)⟩) (λX N s g k=>by have:=(s.ri.ev j).ag.length_le;omega) d ⟨o,rfl,.refl _⟩ l (λN g=>by rw[g4];exact g.1.pe.pb.cm.up j f) (λN g _=>by
    have H:=g.2.2.ag.length_le;rw[g4,Aj,if_pos rfl];unfold Nod.take;rw[g3];simp only;rw[if_neg (by omega)];show _<=((N.ab j).ae++m.fm.drop ((N.ab j).ae.length-m.bn)).length;rw[E',mo];omega)
   rw[w];show(N.ab i).av.bu j<=(N.ab j).ae.length/\_<=(N.ab i).av.bu j;rw[v.2.1];exact⟨k3,x⟩
 refine⟨λj f a=>(key j f a).1,λj f=>?_⟩;by_cases e:j=i
 .subst e;have:=h.round u E L;rw[EN]at this
  obtain⟨N,w,v,_⟩:=Cu (I:=λN=>Ev (A.ab j) (N.ab j)) (λX N s g=>g.trans (s.ri.ev j)) d (.refl _);rw[w];exact((r j).trans v).ag.length_le
 .have:=key j f e;omega
def K1(M:Meet):Prop:=∀ m∈M.bm,m.kind=1->m.fm.length<=(M.ab m.src).ae.length
theorem K1.step{c:Nat}{M N:Meet}(s:Stp wh0 c M N)(h:K1 M):K1 N:=by
 have f:∀ m∈M.bm,m.kind=1->m.fm.length<=(N.ab m.src).ae.length:=λm i a=>mg (h m i a) (s.ev m.src).ag.length_le;intro m i a;cases s with
 | bm _ ls hl hd=>exact False.elim hd
 | ask _ k hi hu =>
  rcases Q'.1 i with g|g
  .exact f m g a
  .unfold Nod.hU at g;split at g
   .cases g
   .split at g
    .cases g
    .rw[D'.1 g]at a;cases a
 | run _ k hi hu q l hp hs =>
  rcases Q'.1 i with g|g
  .exact f m g a
  .cases q with
   | began b vs =>
    unfold Nod.pd at g;simp only at g;split at g
    .cases g
    .have:=(DJ g).1;rw[a]at this;cases this
   | prop v=>have:=(DJ g).1;rw[a]at this;cases this
   | start=>have:=(DJ g).1;rw[a]at this;cases this
   | prom to b vs =>
    rw[D'.1 g];show(M.ab k).ae.length<=((M.set k { (M.ab k).hZ k (.prom to b vs)with br:=l } _ _).ab k).ae.length;rw[Bi];exact A' _
   | _=>have e:=D'.1 g;rw[e]at a;cases a
 | qA _ k hi hu hL =>
  rcases Q'.1 i with g|g
  .exact f m g a
  .have:=(JL 5 m g).1;omega
 | lead _ k hi hu hL=>exact False.elim hL
 | sub _ k d hi hu hD=>exact False.elim hD
 | ib _ k x hi hu a hC=>exact False.elim hC
 | start _ k hi hu hs=>exact False.elim hs
 | _=>exact f m i a
end
section
variable{C:List Cmd}{K:Int}{B:Nat->Bal}{cov:List (Bal × Nat)}{i:Nat}{b:Bal}
theorem T4(a:PhC C K B cov i b){n:Nat}{M:Meet}(o:MOk n M)(O:n+6<=1000000)(h:PhL C K B cov i b M){v:Vt}(L:Ah v)(d:v.b=b)(z:Bz i v M)(Q:(M.ab i).ae.length<(M.ab i).av.next) :
  v.bn<(((M.dc An).ab i).ae.length:Int)/\((M.dc An).ab i).av.next=(M.ab i).av.next:=by
 have q:∀ c A N,Stp wh1 c A N->PhL C K B cov i b A->PhL C K B cov i b N:=λc A N s g=>g.step a s.calm;have x:∀ A N,TkS A N->PhL C K B cov i b A->PhL C K B cov i b N:=λA N s g=>g.step a s.ri;have E:=h.round a o O;have m:=Bm q o (by omega) h;have t:((M.dc (AC 3 5)).ab i).av.next=(M.ab i).av.next:=by
  obtain⟨N,F,S,T⟩:=Ii M a.hi;have H:PhL C K B cov i b N:=by
   rw[S];have P:∀ k,k<=5->MOk (n+k) (M.dc (AC 3 k))/\PhL C K B cov i b (M.dc (AC 3 k)):=by
    intro k;induction k with
    | zero=>exact λ_=>⟨o,h⟩
    | succ k ih =>
     intro r;obtain⟨w,G⟩:=ih (by omega);rw[BS,AJ];exact⟨w.act (by omega) (FU (by omega)),CB q w (by omega) G⟩
   have:=a.hi;exact(P i (by omega)).2
  rw[T,WE a H (by rw[F];exact Q),F]
 refine⟨?_,by rw[E.2.2.2.2,t]⟩;have p:=Bm (I:=λN=>PhL C K B cov i b N/\v∈((N.ab i).av.al i).vs) (λc A N s g=>⟨q c A N s g.1,g.1.pe.jv a s.calm d a.hi g.2⟩) o (by omega) ⟨h,z.1⟩;have D:∀ j,j<5->j≠i->({ BD 4 with bN:=v,src:=j,dst:=i }:Let)∈(M.dc (AC 3 5)).bm:=λj f e =>
  Ft (J:=λN=>({ BD 4 with bN:=v,src:=j,dst:=i }:Let)∈N.bm) q (λc A N s _ g=>s.calm.qX g) (λA k g r=>⟨g.pe.pb.cm.up k r,g.pe.pb.cm.rG r⟩) o (by omega) h f (z.2 j f e) λN l g _ _=>mj _ (D'.2 rfl)
 refine E.1.ld v d λj f=>?_;rw[EN];generalize M.dc (AC 3 5)=A at m D p ⊢;by_cases e:j=i
 .subst e;obtain⟨N,u,R,_⟩:=Cu (I:=λN=>PhL C K B cov j b N/\v∈((N.ab j).av.al j).vs) (λA N s g=>⟨x A N s g.1,g.1.pe.jv a s.ri d f g.2⟩) m.1 ⟨m.2,p.2.2⟩;rw[u];exact R.2
 .obtain⟨N,u,_,k3,_⟩:=DS (J:=λN=>v∈((N.ab i).av.al j).vs) x (λA N s g k=>g.pe.jv a s.ri d f k) m.1 m.2 (D j f e) (λN g=>g.pe.pb.cm.up i a.hi) (λN g _=>by
   rw[Aj,if_pos rfl];have ac:=g.pe.acc a f;have y:(N.ab i).av.fv=b:=(g.pe.pb.cm.fv i a.hi).trans a.hB;exact Qf (d.trans y.symm) ac.1 L (ac.2.trans y.symm))
  rw[u];exact k3
def mu(i:Nat)(M:Meet):Nat:=2*(40-(M.ab i).ae.length)+(if(M.ab i).av.next<=(M.ab i).ae.length then 1 else 0)
def Zz(i:Nat)(b:Bal)(M:Meet):Prop:=(M.ab i).av.next<=(M.ab i).ae.length\/∃ v:Vt,Ah v/\v.b=b/\v.bn=((M.ab i).ae.length:Int)/\Bz i v M
theorem gJ(q:PhC C K B cov i b){M:Meet}(h:PhL C K B cov i b M)(x:(M.ab i).av.next<=(M.ab i).ae.length)(d:(M.ab i).ae.length<40->(M.ab i).mv (M.ab i).ae.length=Option.none):Fin_ i (M.ab i).ae M:=by
 refine⟨rfl,x,λf j s v t e=>?_,λf c n=>mV λe=>?_⟩
 .have d:=d f;unfold Nod.mv at d;have p:∀ l∈(M.ab i).av.gC.map (·.vs),∀ u∈l,Ah u:=λl o u k=>by
   obtain⟨a,f,rfl⟩:=mB.1 o;unfold Rnd.gC at f;simp only[mp,O',or_false]at f;rcases f with e|e|e|e|e<;>(rw[e]at k;exact((h.pe.acc q (by omega)).1.2.1 u k).1)
  have m:BY ((M.ab i).av.gC.map (·.vs)) ((M.ab i).ae.length:Int)=0:=by unfold BY;rw[if_neg (λg=>g (by omega)),if_pos p]
  have r:DZ ((M.ab i).av.gC.map (·.vs)) ((M.ab i).ae.length:Int)=true:=by
   unfold DZ;rw[if_pos m];have:v∈Ae ((M.ab i).av.gC.map (·.vs)).flatten ((M.ab i).ae.length:Int):=AL.2 ⟨nT.2 ⟨((M.ab i).av.al j).vs,mB.2 ⟨(M.ab i).av.al j,by unfold Rnd.gC;rcases qk s with rfl|rfl|rfl|rfl|rfl<;>simp,rfl⟩,t⟩,e⟩;unfold Eh;generalize Ae _ _=l at this;have key:∀ (l:List Vt) (u:Vt),(BR l (some u)).isSome=true:=by
    intro l;induction l with
    | nil=>exact λu=>rfl
    | cons w l ih=>intro u;rw[BR];split<;>exact ih _
   cases l with
   | nil=>cases this
   | cons w l=>exact key l w
  rw[if_neg (λg=>g m),if_pos r]at d
  cases d
 .have d:=d f;unfold Nod.mv at d;have p:∀ l∈(M.ab i).av.gC.map (·.vs),∀ u∈l,Ah u:=λl o u k=>by
   obtain⟨a,f,rfl⟩:=mB.1 o;unfold Rnd.gC at f;simp only[mp,O',or_false]at f;rcases f with e|e|e|e|e<;>(rw[e]at k;exact((h.pe.acc q (by omega)).1.2.1 u k).1)
  have m:BY ((M.ab i).av.gC.map (·.vs)) ((M.ab i).ae.length:Int)=0:=by unfold BY;rw[if_neg (λg=>g (by omega)),if_pos p]
  rw[if_neg (λg=>g m)]at d
  split at d
  .cases d
  .exact absurd (nz.1 d c n) (by simpa using e)
theorem Lw(m:Nat):An++Am m=Am (m+1):=by
 induction m with
 | zero=>rfl
 | succ m ih=>show An++(Am m++An)=Am (m+1)++An;rw[<- mm,ih]
theorem gV(a:PhC C K B cov i b)(A:14*K+38*(cov.length:Int)<=99000)(j:∀ c∈C,c.e=0)(k:Nat){n:Nat}{M:Meet}(d:MOk n M)(H:n+6*k<=999000)(h:PhL C K B cov i b M)(z:Zz i b M)(t:TT0 i M)(f:mu i M<=k) :
  ∃ m,m<=k/\Fin_ i ((M.dc (Am m)).ab i).ae (M.dc (Am m))/\PhL C K B cov i b (M.dc (Am m))/\TT0 i (M.dc (Am m))/\MOk (n+6*m) (M.dc (Am m)):=by
 induction k generalizing n M with
 | zero =>
  have:=h.nx;unfold mu at f;split at f<;>omega
 | succ k ih =>
  have F:=h.nx;have D:=(d.ab i a.hi).ag;by_cases o:(M.ab i).av.next<=(M.ab i).ae.length
  .by_cases hf:(M.ab i).ae.length<40->(M.ab i).mv (M.ab i).ae.length=Option.none
   .exact⟨0,mL _,gJ a h o hf,h,t,d⟩
   .obtain⟨ha,p⟩:=Classical.not_imp.1 hf;obtain⟨c,p⟩:=nX.1 p;have g:=h.round a d (by omega);have l:=T3 a A j d (by omega) h ha o p;have E:=(g.2.2.2.1 i).ag.length_le;have q:Ah ⟨((M.ab i).ae.length:Int),b,c⟩:=⟨by show(0:Int)<=((M.ab i).ae.length:Int)/\((M.ab i).ae.length:Int)<=39;omega,a.hb,j c (KP (h.pe.pb.cm.s.nd i a.hi) p)⟩;obtain⟨m,y,r,u,x,w⟩:=ih (M:=M.dc An) (n:=n+6) g.2.1 (by omega) g.1 (by
     by_cases e:((M.dc An).ab i).ae.length=(M.ab i).ae.length
     .exact .inr ⟨_,q,rfl,by rw[e],l.1⟩
     .exact .inl (by rw[l.2];omega)) (MF a d (by omega) h t).1 (by
     unfold mu at f ⊢;rw[if_pos o]at f
     split<;>omega)
    refine⟨m+1,by omega,?_⟩;rw[<- Lw,AH];exact⟨r,u,x,by rw[show n+6*(m+1)=n+6+6*m by omega];exact w⟩
  .rcases z with z|⟨v,q,hvb,hs,z⟩
   .exact absurd z o
   .have g:=h.round a d (by omega);have l:=T4 a d (by omega) h q hvb z (by omega);rw[hs]at l
    have G:=q.1.2;obtain⟨m,y,r,u,x,w⟩:=ih (M:=M.dc An) (n:=n+6) g.2.1 (by omega) g.1 (.inl (by rw[l.2];omega)) (MF a d (by omega) h t).1 (by
     unfold mu at f ⊢;rw[if_neg o]at f
     split<;>omega)
    refine⟨m+1,by omega,?_⟩;rw[<- Lw,AH];exact⟨r,u,x,by rw[show n+6*(m+1)=n+6+6*m by omega];exact w⟩
end
section
variable{C:List Cmd}{K:Int}{B:Nat->Bal}{cov:List (Bal × Nat)}{i:Nat}{b:Bal}
def AW(b:Bal)(j:Nat)(N:Meet):Prop:=(N.ab j).vo.p=b/\∀ c x,(N.ab j).bw c=some x->x=b
theorem Ub(d:b≠Be){p:Nod}{j:Nat}(g:p.vo.p=b){c:Cmd}{x:Bal}(a:(p.hU j).1.bw c=some x):x=b\/(p.bw c=some x/\c∉p.au.take 40):=by
 have a:(Bb p.vo.p p.bw (p.au.take 40)).2 c=some x:=by
  unfold Nod.hU at a;split at a
  .exact a
  .split at a
   .unfold Nod.dT at a;split at a<;>exact a
   .exact a
 rw[g]at a
 have f:=La d (p.au.take 40) p.bw;by_cases e:c∈p.au.take 40
 .rw[f.2.1 c e]at a;exact .inl (mT a).symm
 .rw[f.1 c e]at a;exact .inr ⟨a,e⟩
theorem PhC.b0(a:PhC C K B cov i b):b≠Be:=λe=>by have:=a.hb;rw[e]at this;exact absurd this (by decide)
theorem AW.step(d:PhC C K B cov i b){n:Nat}{M N:Meet}(s:Stp wh0 n M N)(h:PhB C K B cov i b M){j:Nat}(f:j<5)(a:AW b j M):AW b j N:=by
 refine⟨h.cm.top d.hc s d.hb.pr d.hK f a.1,λc x e=>?_⟩;rcases s.bw e with g|⟨_,rfl⟩
 .exact a.2 c x g
 .rw[Aj,if_pos rfl]at e
  exact(Ub d.b0 a.1 e).elim id λg=>a.2 c x g.1
theorem eC(a:PhC C K B cov i b){M:Meet}(h:PhB C K B cov i b M){j:Nat}(d:j<5)(w:(M.ab j).vo.p=b):AW b j (M.act (acN 3 (j:Int))):=by
 have v:=h.cm.up j d;obtain⟨k,s0,J,H,a0,l,q,F,z,E⟩:=Ih (D:=wh1) d v;have m:∀ c A N,Stp wh1 c A N->(PhB C K B cov i b A/\(A.ab j).vo.p=b)->PhB C K B cov i b N/\(N.ab j).vo.p=b:=λc A N s g=>⟨g.1.step a s.calm,(s.sA j).trans g.2⟩;have e:=s0.inv m ⟨h,w⟩;have f:=z.inv m e;have n:=e.1.ak j d;have G:=KO n.nd λc r=>(e.1.cm.s.nd j d).wa c r;have t:=a.hC;have u:(k.ab j).au.take 40=(k.ab j).au:=mr (by omega);have y:AW b j l:=⟨f.2,λc x o=>by
  rw[q,Bi]at o
  refine(Ub a.b0 e.2 o).elim id λg=>absurd ?_ g.2;rw[u,n.wa c,g.1];rfl⟩
 have s3:=Stp.prop (D:=wh1) l j d F;exact(E.inv (I:=λN=>PhB C K B cov i b N/\AW b j N) (λc A N s g=>⟨g.1.step a s.calm,g.2.step a s.calm g.1 d⟩) ⟨f.1.step a s3.calm,y.step a s3.calm f.1 d⟩).2
def T1(i:Nat)(N:Meet):Prop:=∀ j,j<5->j≠i->(N.ab i).av.nn j=true->(N.ab i).av.bu j<=(N.ab j).ae.length
theorem T1.tk{M N:Meet}(s:TkS M N)(k:K1 M)(t:T1 i M):T1 i N:=by
 intro j n d f;have p:=(s.ri.ev j).ag.length_le;have a:(N.ab i).av.bu j=(M.ab i).av.bu j->(N.ab i).av.nn j=(M.ab i).av.nn j->(N.ab i).av.bu j<=(N.ab j).ae.length:=λq h=>by
  have:=t j n d (by rw[<- h];exact f);omega
 obtain⟨l,o,r,u,rfl⟩:=s;by_cases e:i=l.dst
 .have en:((M.set l.dst ((M.ab l.dst).take l) M.bm M.eb).ab i)=(M.ab i).take l:=by rw[Aj,if_pos e,<- e]
  by_cases c:l.kind=1
  .rw[en]at a f ⊢
   have m:(M.ab i).take l=if((M.ab i).ia 0 l.fm).leads=false\/l.fv≠(M.ab i).av.fv\/(M.ab i).av.nn l.src=true then(M.ab i).ia 0 l.fm else Nod.qv { (M.ab i).ia 0 l.fm with av:={ (M.ab i).av.qQ l.src l.ic with bu:=upN (M.ab i).av.bu l.src l.fm.length } }:=by
    unfold Nod.take;rw[c];rfl
   rw[m]at a f ⊢
   split
   .rename_i hc
    rw[if_pos hc]at a
    exact a rfl rfl
   .rename_i hc
    rw[if_neg hc]at a
    show upN (M.ab i).av.bu l.src l.fm.length j<=_;by_cases b:j=l.src
    .rw[<- b,Dd];have:=k l o c;rw[<- b]at this
     omega
    .rw[Dz _ _ b];have:=a (by show upN (M.ab i).av.bu l.src l.fm.length j=_;rw[Dz _ _ b]) (by show upN (M.ab i).av.nn l.src true j=_;rw[Dz _ _ b]);have g:upN (M.ab i).av.bu l.src l.fm.length j<=_:=this;rw[Dz _ _ b]at g
     exact g
  .have:((M.ab i).take l).av.bu=(M.ab i).av.bu/\((M.ab i).take l).av.nn=(M.ab i).av.nn:=by
    unfold Nod.take;split
    .split
     .unfold Nod.ew;split<;>exact⟨rfl,rfl⟩
     .show((M.ab i).an _).1.av.bu=_/\((M.ab i).an _).1.av.nn=_;rw[(AY _ _).2];exact⟨rfl,rfl⟩
    .rename_i hk;exact absurd hk c
    .exact⟨rfl,rfl⟩
    .split
     .unfold Nod.ew;split<;>exact⟨rfl,rfl⟩
     .show((M.ab i).bN _).1.av.bu=_/\((M.ab i).bN _).1.av.nn=_;rw[(Cn _ _).2];exact⟨rfl,rfl⟩
    .unfold Nod.count;split
     .exact⟨rfl,rfl⟩
     .split<;>exact⟨rfl,rfl⟩
    .split<;>exact⟨rfl,rfl⟩
    .simp only;unfold Nod.dT;split<;>split<;>exact⟨rfl,rfl⟩
    .exact⟨rfl,rfl⟩
   exact a (by rw[en,this.1]) (by rw[en,this.2])
 .have en:((M.set l.dst ((M.ab l.dst).take l) M.bm M.eb).ab i)=M.ab i:=by rw[Aj,if_neg e]
  exact a (by rw[en]) (by rw[en])
theorem dN(f:PhC C K B cov i b){n:Nat}{M:Meet}(u:MOk n M)(U:n+6<=1000000)(h:PhB C K B cov i b M)(q:QA i b M)(y:∀ j,j<5->(M.ab j).vo.p=b)(hp:(M.ab i).av.nn i=true)(hw:∀ j,j<5->j≠i->∃ vs,Pend.prom i b vs∈(M.ab j).br)(o:P1 i (M.ab i))(hl:M.bm=[]) :
  PhL C K B cov i b (M.dc An)/\Zz i b (M.dc An)/\TT0 i (M.dc An)/\MOk (n+6) (M.dc An):=by
 have hP:∀ A N,TkS A N->PhB C K B cov i b A->PhB C K B cov i b N:=λA N s g=>g.step f s.ri;have T:∀ c A N,Stp wh1 c A N->PhB C K B cov i b A->PhB C K B cov i b N:=λc A N s g=>g.step f s.calm;have hq:=QZ f u U h q;have d:∀ j,j<5->j≠i->((M.dc An).ab i).av.nn j=true:=λj a l=>by
  obtain⟨vs,g⟩:=hw j a l;exact Wq f u U h a g
 have Q:=Bm (I:=λN=>PhB C K B cov i b N/\(∀ j,j<5->(N.ab j).vo.p=b)/\P1 i (N.ab i)/\K1 N/\(N.ab i).av.nn i=true) (λc A N s g=>⟨T c A N s g.1,λj a=>(s.sA j).trans (g.2.1 j a),s.p1 g.2.2.1,g.2.2.2.1.step s.calm,(s.calm.ev i).nn i g.2.2.2.2⟩) u (by omega) ⟨h,y,o,λm w=>by rw[hl]at w;(cases w),hp⟩;have R:∀ j,j<5->AW b j (M.dc (AC 3 5)):=λj a=>Mr (I:=λN=>PhB C K B cov i b N/\(N.ab j).vo.p=b) (J:=AW b j) (λc A N s g=>⟨T c A N s g.1,(s.sA j).trans g.2⟩) (λc A N s g k=>k.step f s.calm g.1 a) u (by omega) ⟨h,y j a⟩ a λN m _ _ g _=>eC f g.1 a g.2;have S:NB ((M.dc (AC 3 5)).ab i):=by
  obtain⟨N,W,n2,n3⟩:=Ii M f.hi;rw[n3,Hg (by rw[W];exact h.cm.up i f.hi),Aj,if_pos rfl];intro x vs g;rw[Id (by rw[W];exact h.cm.rG f.hi)]at g
  cases g
 obtain⟨z,D,L,E⟩:=hq;rw[EN]at z D L E d ⊢
 generalize M.dc (AC 3 5)=A at Q R S z D L E d ⊢;obtain⟨Y,Z,a0,o,F,G⟩:=Q;obtain⟨N,k1,k2,_⟩:=Cu (I:=λN=>PhB C K B cov i b N/\(∀ j,j<5->AW b j N)/\NB (N.ab i)/\(N.ab i).av.nn i=true/\(N.ab i).av.next=0/\K1 N/\T1 i N) (λX N s g=>⟨hP X N s g.1,λj a=>(g.2.1 j a).step f s.ri g.1 a,s.ri.nb g.2.2.1,(s.ri.ev i).nn i g.2.2.2.1,(s.ri.rz i).trans g.2.2.2.2.1,g.2.2.2.2.2.1.step s.ri,g.2.2.2.2.2.2.tk s g.2.2.2.2.2.1⟩) Y ⟨Z,R,S,G,o.1,F,λj a l e=>by rw[o.2 j l]at e;cases e⟩;rw[k1]at z D L E d ⊢
 obtain⟨r1,O,r3,r4,P,r6,r7⟩:=k2;have d:∀ j,j<5->(N.ab i).av.nn j=true:=λj a=>by
  by_cases e:j=i
  .rw[e];exact r4
  .exact d j a e
 have t:PhE C K B cov i b { N with bm:=[] }:=⟨z,λj a=>(O j a).1,d,r3,λj a=>(O j a).2,λm w=>(by cases w),λj a c hc=>by
  have ha:=((r1.ak j a).wa c).1 hc;obtain⟨x,V⟩:=nm.1 ha;exact D j a c (by rw[show((({ N with bm:=[] }:Meet).ab j).bw c)=some x from V,(O j a).2 c x V])⟩
 refine⟨⟨t,λv H y=>?_,by show(N.ab i).av.next<=_/\(N.ab i).av.next<=40;rw[P];omega⟩,.inl (by show(N.ab i).av.next<=_;rw[P];exact mL _),λj a l=>r7 j a l (d j a),E⟩;obtain⟨σ,g,_⟩:=t.pb.cm.ex;have r:=g.gs.hv 0 v ((t.rd f g).1.al 0 (by omega) v (y 0 (by omega))).1;have:=t.lt f g r H;have e:(({ N with bm:=[] }:Meet).ab i).av.next=0:=P;rw[e]at this
 have:=r.1.1;omega
end
end Go.Proofs.YtdjfdfpkkenjbacGreatDoor
