/- Part 17 of the walk. -/
import Derived.Test.YtdjfdfpkkenjbadGreatDoorZ16
set_option maxRecDepth 100000
set_option maxHeartbeats 4000000
set_option linter.unusedVariables false
namespace Go.Proofs.YtdjfdfpkkenjbadGreatDoor
section
def NB(p:Nod):Prop:=∀ b vs,Pend.began b vs∉p.bu
variable{M N:Meet}{c j:Nat}{p q:Nod}{v:Vt}
theorem NB.snoc(h:NB p){x:Pend}(e:q.bu=p.bu++[x])(a:∀ b vs,Pend.began b vs≠x):NB q:=λb vs g=>by
 rw[e]at g
 rcases Q'.1 g with g|g
 .exact h b vs g
 .exact a b vs (D'.1 g)
theorem NB.same(h:NB p)(e:q.bu=p.bu):NB q:=λb a g=>h b a (by rw[<- e];exact g)
theorem Zu(p:Nod)(b:Bal):(p.au b).1.bu=p.bu:=by
 unfold Nod.au;split
 .rfl
 .split
  .rfl
  .split<;>rfl
theorem Rw(p:Nod)(v:Vt):(p.cl v).1.bu=p.bu:=by
 unfold Nod.cl;split
 .rfl
 .split
  .rfl
  .split<;>rfl
theorem iu(p:Nod)(b:Bal):(p.au b).1.ae=p.ae:=by
 unfold Nod.au;split
 .rfl
 .split
  .rfl
  .split<;>rfl
theorem jd(p:Nod)(v:Vt):(p.cl v).1.ae=p.ae:=by
 unfold Nod.cl;split
 .rfl
 .split
  .rfl
  .split<;>rfl
theorem NB.ew(h:NB p)(to:Nat)(e:Int):NB (p.ew to e):=by
 unfold Nod.ew;split
 .exact h.snoc rfl (λ_ _ g=>by cases g)
 .exact h
theorem RP(p:Nod)(j:Nat)(v:Vt):(p.count j v).bu=p.bu:=by
 unfold Nod.count;split
 .rfl
 .split<;>rfl
theorem NH(p:Nod)(l:List Cmd):(p.eb l).bu=p.bu:=by unfold Nod.eb;split<;>rfl
theorem NB.take(h:NB p)(l:Let):NB (p.take l):=by
 unfold Nod.take;split
 .split
  .exact h.ew _ _
  .exact h.snoc (by show(p.au l.hZ).1.bu++_=_;rw[Zu]) (λ_ _ g=>by cases g)
 .simp only;split<;>exact h
 .exact h
 .split
  .exact h.ew _ _
  .exact h.snoc (by show(p.cl l.cl).1.bu++_=_;rw[Rw]) (λ_ _ g=>by cases g)
 .exact h.same (RP _ _ _)
 .split
  .exact h.snoc rfl (λ_ _ g=>by cases g)
  .exact h
 .simp only;split
  .exact h.snoc (by show((p.eb l.gC).bu)++_=_;rw[NH]) (λ_ _ g=>by cases g)
  .exact h.same (NH _ _)
 .exact h
theorem Stp.nb(s:Stp wh0 c M N){j:Nat}(h:NB (M.ab j)):NB (N.ab j):=by
 have put:∀ {i:Nat} {p:Nod} {a:List Let} {f:List Tol},(j=i->NB p)->NB ((M.set i p a f).ab j):=λ{i p a f} g=>by
  rw[Aj];split
  .rename_i e;exact g e
  .exact h
 cases s with
 | take _ l hl hd hu ht=>exact put λe=>by rw[<- e];exact h.take l
 | br _ a hl hd=>exact False.elim hd
 | one _ i c hi hu hc he=>exact put λe=>(e▸h:NB (M.ab i)).same (GC _ _).1
 | ask _ i hi hu=>exact put λe=>(e▸h:NB (M.ab i)).same (Jk _ _).1
 | prop _ i hi hu =>
  refine put λe=>?_;have h:NB (M.ab i):=e▸h;unfold Nod.cF;split
  .exact h
  .split
   .exact h
   .split
    .exact h
    .exact h.snoc (by show((M.ab i).cl _).1.bu++_=_;rw[Rw]) (λ_ _ g=>by cases g)
 | qH _ i hi hu hs hT=>exact put λe=>(e▸h:NB (M.ab i)).same rfl
 | run _ i hi hu q l hp hs=>exact put λe b m g=>(e▸h:NB (M.ab i)) b m (by rw[hp];exact I' _ g)
 | qz _ i hi hu hL=>exact put λe=>(e▸h:NB (M.ab i)).same rfl
 | lead _ i hi hu hL=>exact False.elim hL
 | sub _ i d hi hu hD=>exact False.elim hD
 | jv _ i k hi hu hk hC=>exact False.elim hC
 | start _ i hi hu hs=>exact False.elim hs
theorem NF{k:Nat}{u:Vt}(hv:v∈((p.count k u).bn.an j).vs):v∈(p.bn.an j).vs\/v.b=p.bn.hZ:=by
 unfold Nod.count at hv;split at hv
 .exact .inl hv
 .rename_i hb
  split at hv
  .exact .inl hv
  .rename_i a
   have a:=mf.1 a;have hv:v∈(upN p.bn.an k ⟨BI (p.bn.an k) u,Br (p.bn.an k) u⟩ j).vs:=hv;unfold upN at hv;split at hv
   .rename_i e
    have hv:v∈Br (p.bn.an k) u:=hv;unfold Br at hv;rw[if_pos a,BB (Ap a).1.2.2]at hv
    rcases hv with hv|hv
    .exact .inr (by rw[hv];exact mf.1 hb)
    .exact .inl (by rw[e];exact hv.1)
   .exact .inl hv
theorem Stp.ti(s:Stp wh0 c M N){i:Nat}(m:NB (M.ab i))(n:∀ j,j<5->(M.ab i).bn.qk j=true){j:Nat}{v:Vt}(a:v∈((N.ab i).bn.an j).vs):v∈((M.ab i).bn.an j).vs\/v.b=(M.ab i).bn.hZ:=by
 have put:∀ {k:Nat} {p:Nod} {f:List Let} {h:List Tol},v∈(((M.set k p f h).ab i).bn.an j).vs->(i=k->v∈(p.bn.an j).vs->v∈((M.ab i).bn.an j).vs\/v.b=(M.ab i).bn.hZ)->v∈((M.ab i).bn.an j).vs\/v.b=(M.ab i).bn.hZ:=λ{k p f h} g e=>by
  rw[Aj]at g
  split at g
  .rename_i e2;exact e e2 g
  .exact .inl g
 cases s with
 | take _ l hl hd hu ht =>
  refine put a λe g=>?_;rw[<- e]at g
  unfold Nod.take at g;split at g
  .split at g
   .unfold Nod.ew at g;split at g<;>exact .inl g
   .have g:v∈(((M.ab i).au l.hZ).1.bn.an j).vs:=g;rw[(AY _ _).2]at g;exact .inl g
  .simp only at g;split at g
   .exact .inl g
   .rename_i hc
    exact absurd (.inr (.inr (n l.src hd.1))) hc
  .exact .inl g
  .split at g
   .unfold Nod.ew at g;split at g<;>exact .inl g
   .have g:v∈(((M.ab i).cl l.cl).1.bn.an j).vs:=g;rw[(Ck _ _).2]at g;exact .inl g
  .exact NF g
  .split at g<;>exact .inl g
  .simp only at g;unfold Nod.eb at g;split at g<;>split at g<;>exact .inl g
  .exact .inl g
 | br _ f hl hd=>exact False.elim hd
 | one _ k c hi hu hc he =>
  refine put a λe g=>?_;rw[<- e]at g
  unfold Nod.hU at g;split at g<;>exact .inl g
 | ask _ k hi hu =>
  refine put a λe g=>?_;rw[<- e]at g
  unfold Nod.ib at g;split at g
  .exact .inl g
  .split at g
   .unfold Nod.eb at g;split at g<;>exact .inl g
   .exact .inl g
 | prop _ k hi hu =>
  refine put a λe g=>?_;rw[<- e]at g
  unfold Nod.cF at g;split at g
  .exact .inl g
  .split at g
   .exact .inl g
   .split at g<;>exact .inl g
 | qH _ k hi hu hs hT=>exact put a λe g=>by rw[<- e]at g;exact .inl g
 | run _ k hi hu q l hp2 hs =>
  refine put a λe g=>?_;rw[<- e]at g hp2
  have g:v∈(((M.ab i).ic i q).bn.an j).vs:=g;cases q with
  | began b vs=>exact absurd (by rw[hp2];exact M') (m b vs)
  | prop u=>exact NF g
  | _=>exact .inl g
 | qz _ k hi hu hL=>exact put a λe g=>by rw[<- e]at g;exact .inl g
 | lead _ k hi hu hL=>exact False.elim hL
 | sub _ k d hi hu hD=>exact False.elim hD
 | jv _ k y hi hu hk hC=>exact False.elim hC
 | start _ k hi hu hs=>exact False.elim hs
theorem Xq{b:Bal}(l:List Cmd){f:Cmd->Option Bal}(h:∀ c∈l,f c=some b):(Bb b f l).1=[]:=by
 induction l with
 | nil=>rfl
 | cons c l ih =>
  rw[Bb,if_neg (by rw[h c M'];exact λg=>g rfl)];exact ih λd a=>h d (I' _ a)
end
section
variable{C:List Cmd}{K:Int}{B:Nat->Bal}{cov:List (Bal × Nat)}{i:Nat}{b:Bal}
structure PhE(C:List Cmd)(K:Int)(B:Nat->Bal)(cov:List (Bal × Nat))(i:Nat)(b:Bal)(M:Meet):Prop where
 pb:PhB C K B cov i b M
 va:∀ j,j<5->(M.ab j).vo.p=b
 pr:∀ j,j<5->(M.ab i).bn.qk j=true
 nb:NB (M.ab i)
 aw:∀ j,j<5->∀ c x,(M.ab j).bN c=some x->x=b
 l6:∀ m∈M.br,m.kind=6->m.gC=[]
 qw:∀ j,j<5->∀ c∈(M.ab j).av,c∈(M.ab i).bn.fv
theorem PhE.nil{M:Meet}(h:PhE C K B cov i b M){j:Nat}(a:j<5):(Bb (M.ab j).vo.p (M.ab j).bN ((M.ab j).av.take 40)).1=[]:=by
 rw[h.va j a];refine Xq _ λc e=>?_;obtain⟨x,d⟩:=nh.1 (((h.pb.ak j a).wa c).1 (mt e));rw[d,h.aw j a c x d]
theorem PhE.ib{M:Meet}(h:PhE C K B cov i b M){j:Nat}(a:j<5):(M.ab j).ib j=({ M.ab j with bN:=(Bb (M.ab j).vo.p (M.ab j).bN ((M.ab j).av.take 40)).2 },[]):=by
 unfold Nod.ib;rw[if_pos (h.nil a)]
theorem DF{i:Nat}{l m:Let}{k:Nat}(h:m∈BT i l k):m.kind=l.kind/\m.gC=l.gC:=by
 unfold BT at h;obtain⟨j,_,rfl⟩:=mz.1 h;exact⟨rfl,rfl⟩
theorem PhE.step(r:PhC C K B cov i b){n:Nat}{M N:Meet}(s:Stp wh0 n M N)(h:PhE C K B cov i b M):PhE C K B cov i b N:=by
 refine⟨h.pb.step r s,λj a=>h.pb.cm.top r.hc s r.hb.pr r.hK a (h.va j a),λj a=>(s.ev i).qk j (h.pr j a),s.nb h.nb,λj a c x d=>?_,λm f o=>?_,λj a c u=>(s.ev i).qu.subset (h.qw j a c ((s.ev j).wa c u))⟩
 .rcases s.bN d with g|⟨_,rfl⟩
  .exact h.aw j a c x g
  .rw[Aj,if_pos rfl,h.ib a]at d
   have d:(Bb (M.ab j).vo.p (M.ab j).bN ((M.ab j).av.take 40)).2 c=some x:=d;have t:b≠Be:=λe=>by have:=r.hb;rw[e]at this;exact absurd this (by decide)
   rw[h.va j a]at d
   have f:=KY t ((M.ab j).av.take 40) (M.ab j).bN;by_cases e:c∈(M.ab j).av.take 40
   .rw[f.2.1 c e]at d;exact(mQ d).symm
   .rw[f.1 c e]at d;exact h.aw j a c x d
 .have old:m∈M.br->m.gC=[]:=λg=>h.l6 m g o;cases s with
  | br _ ls hl hd=>exact False.elim hd
  | ask _ k hi hu =>
   rw[h.ib hi]at f
   exact old (by simpa[Meet.set]using f)
  | run _ k hi hu q l hp hs =>
   rcases Q'.1 f with g|g
   .exact old g
   .cases q with
    | began b vs =>
     unfold Nod.qx at g;simp only at g;split at g
     .cases g
     .have:=(DF g).1;rw[o]at this;cases this
    | prop v=>have:=(DF g).1;rw[o]at this;cases this
    | start=>exact(DF g).2
    | askNews to=>rw[D'.1 g];rfl
    | _=>have e:=D'.1 g;rw[e]at o;cases o
  | qz _ k hi hu hL =>
   rcases Q'.1 f with g|g
   .exact old g
   .have:=(JK 5 m g).1;omega
  | _=>exact old f
end
section
variable{C:List Cmd}{K:Int}{B:Nat->Bal}{cov:List (Bal × Nat)}{i:Nat}{b:Bal}{A:List Cmd}
section
structure Fin_(i:Nat)(A:List Cmd)(M:Meet):Prop where
 ag:(M.ab i).ae=A
 nx:(M.ab i).bn.next<=A.length
 hd:A.length<40->∀ j,j<5->∀ v∈((M.ab i).bn.an j).vs,v.bt≠(A.length:Int)
 qu:A.length<40->∀ c∈(M.ab i).bn.fv,c∈A
variable{M:Meet}{k:Nat}{l:List Cmd}{σ:Gs}
theorem PhE.rd(a:PhC C K B cov i b){M:Meet}(h:PhE C K B cov i b M){σ:Gs}(g:AgI σ M):RdI σ i (M.ab i).bn/\(M.ab i).bn.hZ=b:=by
 obtain⟨c,k⟩:=(g.nd i a.hi).up (h.pb.cm.up i a.hi);exact⟨k.rd,(h.pb.cm.hZ i a.hi).trans a.hB⟩
theorem PhE.lt(d:PhC C K B cov i b){M:Meet}(h:PhE C K B cov i b M){σ:Gs}(g:AgI σ M){v:Vt}(a:σ.rh v)(c:v.b=b):v.bt<((M.ab i).bn.next:Int):=by
 have k:=h.rd d g;have:=k.1.next v.bt.toNat v.w (by rw[k.2,<- c];exact a.2);have:=a.1.1;omega
theorem PhE.held(a:PhC C K B cov i b){M:Meet}(h:PhE C K B cov i b M){σ:Gs}(g:AgI σ M){s:Nat}(o:(M.ab i).bn.next<=s)(m:∀ j,j<5->∀ v∈((M.ab i).bn.an j).vs,v.bt≠(s:Int)){q:Nat}(d:q<5){v:Vt}(l:σ.held q v):v.bt≠(s:Int):=by
 intro e;have k:=h.rd a g;have c:=g.gs.hv q v l;have n:=g.rH h.pb.cm.kb.2 c.1.2.1 (g.gs.w3 _ _ _ c.2);by_cases f:v.b.key<b.key
 .obtain⟨u,hu,eu,_⟩:=(k.1.prom q d (h.pr q d)).2 v l (by rw[k.2];exact f);exact m q d u hu (eu.trans e)
 .have e3:v.b=b:=DJ c.1.2.1.pr a.hb.pr (by rw[a.hK]at f ⊢;omega);have:=h.lt a g c e3;omega
theorem gj(g:GsI σ){s:Nat}{c:Cmd}(h:σ.rZ s c):∃ q,q<5/\∃ v,σ.held q v/\v.bt=(s:Int)/\v.w=c/\s<40:=by
 obtain⟨k,Q,d,j⟩:=h;obtain⟨q,e,a,_⟩:=Gu Q Q d d;obtain⟨v,b,f,_,i⟩:=j q e a;have:=(g.hv q v b).1.1;exact⟨q,e,v,b,f,i,by omega⟩
theorem Fin_.none(k:PhC C K B cov i b){M:Meet}(h:PhE C K B cov i b M)(f:Fin_ i A M){σ:Gs}(g:AgI σ M)(c:Cmd):¬ σ.rZ A.length c:=λe=>by
 obtain⟨q,l,v,a,d,_,j⟩:=gj g.gs e;exact h.held k g f.nx (f.hd j) l a d
theorem AgL.le{a:Nat}(h:AgL σ l k)(d:∀ c,¬ σ.rZ a c)(f:k<=a):k+l.length<=a:=pE λe=>by
 have b:a-k<l.length:=by omega
 exact d _ (by rw[show a=k+(a-k)by omega];exact h (a-k) _ (G' b))
theorem Fin_.le(a:PhC C K B cov i b){M:Meet}(h:PhE C K B cov i b M)(f:Fin_ i A M){j:Nat}(c:j<5):(M.ab j).ae.length<=A.length:=by
 obtain⟨σ,g,_⟩:=h.pb.cm.ex;have:=(g.nd j c).ag.le (f.none a h g) (mJ _);omega
theorem Fin_.ov(f:Fin_ i A M):(M.ab i).ov (M.ab i).ae.length=Option.none:=by
 unfold Nod.ov;rw[f.ag];split
 .rfl
 .rename_i b
  have b:=mf.1 b;have k:A.length<40:=by
   unfold BW at b;split at b
   .cases b
   .omega
  have m:Ae ((M.ab i).bn.ia.map (·.vs)).flatten (A.length:Int)=[]:=oA.2 λv h=>by
   obtain⟨n,o⟩:=AK.1 h;obtain⟨l,s,h⟩:=nQ.1 n;obtain⟨a,d,rfl⟩:=mz.1 s;unfold Rnd.ia at d;have:∃ j,j<5/\a=(M.ab i).bn.an j:=by
    simp only[mn,P',or_false]at d;rcases d with e|e|e|e|e
    .exact⟨0,by omega,e⟩
    .exact⟨1,by omega,e⟩
    .exact⟨2,by omega,e⟩
    .exact⟨3,by omega,e⟩
    .exact⟨4,by omega,e⟩
   obtain⟨j,r,rfl⟩:=this;exact f.hd k j r v h o
  have p:DV ((M.ab i).bn.ia.map (·.vs)) (A.length:Int)=false:=by
   unfold DV;rw[if_pos b];unfold Ed;rw[m];rfl
  rw[if_neg (by rw[p];decide)];exact nv.2 λc q g=>absurd (f.qu k c q) (mL g)
theorem NY{a:List Cmd}(h:k+a.length<=l.length):l++a.drop (l.length-k)=l:=by rw[m8 (by omega),mG]
theorem YN{r:Rnd}(k:Nat)(h:CW r.ia (l.length:Int)≠0):FB k r l=l:=by
 cases k with
 | zero=>rfl
 | succ k=>rw[FB,if_neg h]
def TK(p q:Nod):Prop:=q.ae=p.ae/\q.bn.next=p.bn.next/\q.bn.fv=p.bn.fv
theorem Fin_.count(c:PhC C K B cov i b){M:Meet}(h:PhE C K B cov i b M)(f:Fin_ i A M){σ:Gs}(g:AgI σ M){j:Nat}{v:Vt}(m:σ.held j v):TK (M.ab i) ((M.ab i).count j v):=by
 have k:=(h.rd c g).1;unfold Nod.count;split
 .exact⟨rfl,rfl,rfl⟩
 .rename_i hb
  split
  .exact⟨rfl,rfl,rfl⟩
  .rename_i he
   refine⟨YN _ λe=>?_,rfl,rfl⟩;have e:CW (Rnd.ia _) ((M.ab i).ae.length:Int)=0:=e;have a:=TP (λq d u l=>((k.count (mf.1 hb) (mf.1 he) m).an q d u l).1) e;rw[f.ag]at a
   exact f.none c h g _ a
theorem Fin_.same(m:PhC C K B cov i b){n:Nat}{M N:Meet}(s:Stp wh0 n M N)(h:PhE C K B cov i b M)(f:Fin_ i A M):TK (M.ab i) (N.ab i):=by
 obtain⟨σ,g,_⟩:=h.pb.cm.ex;have put:∀ {k:Nat} {p:Nod} {r:List Let} {t:List Tol},(i=k->TK (M.ab i) p)->TK (M.ab i) ((M.set k p r t).ab i):=λ{k p r t} e=>by
  rw[Aj];split
  .rename_i e2;exact e e2
  .exact⟨rfl,rfl,rfl⟩
 have o:∀ {l:List Cmd} {k:Nat},AgL σ l k->k<=A.length->k+l.length<=(M.ab i).ae.length:=λa e=>by rw[f.ag];exact a.le (f.none m h g) e
 cases s with
 | take _ l hl2 hd hu ht =>
  refine put λe=>?_;rw[<- e];have lt:=g.lt l hl2;unfold Nod.take;split
  .split
   .unfold Nod.ew;split<;>exact⟨rfl,rfl,rfl⟩
   .exact⟨iu _ _,by show(Nod.au _ _).1.bn.next=_;rw[(AY _ _).2],by show(Nod.au _ _).1.bn.fv=_;rw[(AY _ _).2]⟩
  .rename_i hk
   simp only;rw[if_pos (.inr (.inr (h.pr l.src hd.1)))];exact⟨NY (o (lt.k1 hk).2.2 (mJ _)),rfl,rfl⟩
  .exact⟨rfl,rfl,rfl⟩
  .split
   .unfold Nod.ew;split<;>exact⟨rfl,rfl,rfl⟩
   .exact⟨jd _ _,by show(Nod.cl _ _).1.bn.next=_;rw[(Ck _ _).2],by show(Nod.cl _ _).1.bn.fv=_;rw[(Ck _ _).2]⟩
  .rename_i hk
   exact f.count m h g (lt.k4 hk)
  .rename_i hk
   split
   .exact⟨rfl,rfl,rfl⟩
   .rename_i h5
    exact⟨NY (o (lt.k5 hk) (by rw[f.ag]at h5;omega)),rfl,rfl⟩
  .rename_i hk
   simp only;rw[h.l6 l hl2 hk];unfold Nod.eb;split<;>split<;>exact⟨rfl,rfl,rfl⟩
  .exact⟨rfl,rfl,rfl⟩
 | br _ r o hd=>exact False.elim hd
 | one _ k c hi hu hc he=>exact put λe=>by rw[<- e];unfold Nod.hU;split<;>exact⟨rfl,rfl,rfl⟩
 | ask _ k hi hu=>exact put λe=>by rw[h.ib hi,<- e];exact⟨rfl,rfl,rfl⟩
 | prop _ k hi hu =>
  refine put λe=>?_;rw[<- e];unfold Nod.cF;split
  .exact⟨rfl,rfl,rfl⟩
  .rw[f.ov];exact⟨rfl,rfl,rfl⟩
 | qH _ k hi hu hs hT=>exact put λe=>by rw[<- e];exact⟨rfl,rfl,rfl⟩
 | run _ k hi hu q l hp hs =>
  refine put λe=>?_;rw[<- e]at hp hs ⊢
  cases q with
  | began b vs=>exact absurd (by rw[hp];exact M') (h.nb b vs)
  | prop v =>
   obtain⟨u,k⟩:=(g.nd i m.hi).up (h.pb.cm.up i m.hi);have:=f.count m h g (j:=i) (v:=v) (by
    have:=k.pe (.prop v) (by rw[hp];exact M');unfold Gs.held;rw[k.tp.all hs];exact this)
   exact this
  | _=>exact⟨rfl,rfl,rfl⟩
 | qz _ k hi hu hL=>exact put λe=>by rw[<- e];exact⟨rfl,rfl,rfl⟩
 | lead _ k hi hu hL=>exact False.elim hL
 | sub _ k d hi hu hD=>exact False.elim hD
 | jv _ k y hi hu hk hC=>exact False.elim hC
 | start _ k hi hu hs=>exact False.elim hs
theorem Fin_.step(a:PhC C K B cov i b){n:Nat}{M N:Meet}(s:Stp wh0 n M N)(h:PhE C K B cov i b M)(f:Fin_ i A M):Fin_ i A N:=by
 have e:=f.same a s h;have d:=h.step a s;obtain⟨τ,g,_⟩:=d.pb.cm.ex;refine⟨e.1.trans f.ag,by rw[e.2.1];exact f.nx,λl j m v o q=>?_,λl c p=>f.qu l c (by rw[<- e.2.2];exact p)⟩;rcases s.ti h.nb h.pr o with k|k
 .exact f.hd l j m v k q
 .have:=d.lt a g (g.gs.hv j v ((d.rd a g).1.an j m v o).1) (k.trans ((h.pb.cm.hZ i a.hi).trans a.hB));have:=e.2.1;have:=f.nx;omega
end
end
section
variable{j:Nat}{p:Nod}{r:Rnd}{v:Vt}
theorem Zc{l:List Vt}(h:v∈l):1<=BK (Ae l v.bt) v:=pL.2 ⟨v,AK.2 ⟨h,rfl⟩,O' rfl⟩
theorem X4(k:∀ j,j<5->Ag (r.an j)){v:Vt}(o:0<=v.bt/\v.bt<=39)(p:∀ j,j<5->v∈(r.an j).vs):CW r.ia v.bt=0:=by
 have e:D1 r.ia v.bt=Ae (r.an 0).vs v.bt++(Ae (r.an 1).vs v.bt++(Ae (r.an 2).vs v.bt++(Ae (r.an 3).vs v.bt++Ae (r.an 4).vs v.bt))):=by
  unfold D1 Rnd.ia Ae;simp[List.filter_append]
 have g:∀ j,j<5->1<=BK (Ae (r.an j).vs v.bt) v:=λj l=>Zc (p j l);have n:5<2*BK (D1 r.ia v.bt) v:=by
  rw[e,Cy,Cy,Cy,Cy];have:=g 0 (by omega);have:=g 1 (by omega);have:=g 2 (by omega);have:=g 3 (by omega);have:=g 4 (by omega);omega
 have m:v∈D1 r.ia v.bt:=by
  obtain⟨u,b,d⟩:=pL.1 (show 0<BK (D1 r.ia v.bt) v by omega);have c:u=v:=mL d;rw[c]at b;exact b
 have f:∀ a∈r.ia,Ag a:=λa h=>by
  unfold Rnd.ia at h;simp only[mn,P',or_false]at h;rcases h with e|e|e|e|e<;>rw[e]<;>exact k _ (by omega)
 have i:(He (D1 r.ia v.bt) r.ia.length).isSome=true:=List.find?_isSome.2 ⟨v,m,O' n⟩;unfold CW;rw[if_neg (λg=>g ⟨o,by show(1:Int)<=((5:Nat):Int)/\((5:Nat):Int)<=5;decide⟩),if_neg (λg=>g f),if_pos i]
theorem PV(c:v.b=p.bn.hZ)(a:Ag (p.bn.an j))(e:Ah v)(f:(p.bn.an j).p=p.bn.hZ):v∈((p.count j v).bn.an j).vs:=by
 have d:Ba (p.bn.an j) v=0:=by
  unfold Ba;rw[if_neg (λg=>g a),if_neg (λg=>g e),if_neg];rw[f,c];unfold Bal.lt;omega
 unfold Nod.count;rw[if_neg (λg=>g c),if_neg (λg=>g d)];show v∈(upN p.bn.an j ⟨BI (p.bn.an j) v,Br (p.bn.an j) v⟩ j).vs;rw[Db];show v∈Br (p.bn.an j) v;rw[(DI d).2,BB a.2.2];exact .inl rfl
theorem RO{k:Nat}{u:Vt}(a:v∈(p.bn.an k).vs)(g:u.b=p.bn.hZ->u.bt=v.bt->u=v):v∈((p.count j u).bn.an k).vs:=by
 unfold Nod.count;split
 .exact a
 .rename_i hb
  split
  .exact a
  .rename_i c
   have c:=mf.1 c;show v∈(upN p.bn.an j ⟨BI (p.bn.an j) u,Br (p.bn.an j) u⟩ k).vs;unfold upN;split
   .rename_i e
    show v∈Br (p.bn.an j) u;rw[(DI c).2,BB (Ap c).1.2.2];by_cases d:u.bt=v.bt
    .exact .inl (g (mf.1 hb) d).symm
    .exact .inr ⟨by rw[<- e];exact a,λf=>d f.symm⟩
   .exact a
theorem aW(h:(p.cl v).2=0):Ah v:=by
 unfold Nod.cl at h;split at h
 .rename_i h0;exact absurd h h0
 .rename_i h0;exact(Ap (mf.1 h0)).2.1
theorem VR{l:List Cmd}(k:Nat)(h:CW r.ia (l.length:Int)=0):l.length<(FB (k+1) r l).length:=by
 rw[FB,if_pos h];have:=(I7 k r (l++[CN r.ia (l.length:Int)])).length_le;rw[H',mT]at this
 omega
end
section
variable{C:List Cmd}{K:Int}{B:Nat->Bal}{cov:List (Bal × Nat)}{i:Nat}{b:Bal}
theorem Stp.rI{n:Nat}{M N:Meet}(s:Stp wh0 n M N)(m:PhC C K B cov i b)(h:PhE C K B cov i b M){σ:Gs}(g:AgI σ M) :
  ((N.ab i).bn.an=(M.ab i).bn.an/\(N.ab i).bn.next=(M.ab i).bn.next)\/((N.ab i).bn.an=(M.ab i).bn.an/\(N.ab i).bn.next=(M.ab i).ae.length+1/\(M.ab i).ae.length<40)\/∃ k u,k<5/\σ.held k u/\(N.ab i).bn=((M.ab i).count k u).bn/\(N.ab i).ae=((M.ab i).count k u).ae:=by
 have put:∀ {k:Nat} {p:Nod} {f:List Let} {j:List Tol},(i=k->p.bn.an=(M.ab k).bn.an/\p.bn.next=(M.ab k).bn.next)->((M.set k p f j).ab i).bn.an=(M.ab i).bn.an/\((M.set k p f j).ab i).bn.next=(M.ab i).bn.next:=λ{k p f j} e=>by
  rw[Aj];split
  .rename_i e2;rw[e2];exact e e2
  .exact⟨rfl,rfl⟩
 cases s with
 | take _ l hl hd hu ht =>
  have lt:=g.lt l hl;by_cases a:l.kind=4/\i=l.dst
  .refine .inr (.inr ⟨l.src,l.cl,hd.1,lt.k4 a.1,?_⟩);rw[Aj,if_pos a.2,<- a.2];unfold Nod.take;rw[a.1];exact⟨rfl,rfl⟩
  .refine .inl (put λe=>?_);rw[<- e];unfold Nod.take;split
   .split
    .unfold Nod.ew;split<;>exact⟨rfl,rfl⟩
    .show((M.ab i).au _).1.bn.an=_/\((M.ab i).au _).1.bn.next=_;rw[(AY _ _).2];exact⟨rfl,rfl⟩
   .simp only;rw[if_pos (.inr (.inr (h.pr l.src hd.1)))];exact⟨rfl,rfl⟩
   .exact⟨rfl,rfl⟩
   .split
    .unfold Nod.ew;split<;>exact⟨rfl,rfl⟩
    .show((M.ab i).cl _).1.bn.an=_/\((M.ab i).cl _).1.bn.next=_;rw[(Ck _ _).2];exact⟨rfl,rfl⟩
   .rename_i hk;exact absurd ⟨hk,e⟩ a
   .split<;>exact⟨rfl,rfl⟩
   .simp only;unfold Nod.eb;split<;>split<;>exact⟨rfl,rfl⟩
   .exact⟨rfl,rfl⟩
 | br _ f hl hd=>exact False.elim hd
 | one _ k c hi hu hc he=>exact .inl (put λe=>by unfold Nod.hU;split<;>exact⟨rfl,rfl⟩)
 | ask _ k hi hu=>exact .inl (put λe=>by rw[h.ib hi];exact⟨rfl,rfl⟩)
 | prop _ k hi hu =>
  by_cases e:i=k
  .subst e;rw[Aj,if_pos rfl];unfold Nod.cF;split
   .exact .inl ⟨rfl,rfl⟩
   .split
    .exact .inl ⟨rfl,rfl⟩
    .split
     .exact .inl ⟨rfl,rfl⟩
     .rename_i he
      refine .inr (.inl ⟨rfl,rfl,?_⟩);have:=(aW (mf.1 he)).1.2;have:((M.ab i).ae.length:Int)<=39:=this;omega
  .refine .inl ?_;rw[Aj,if_neg e];exact⟨rfl,rfl⟩
 | qH _ k hi hu hs hT=>exact .inl (put λe=>⟨rfl,rfl⟩)
 | run _ k hi hu q l hp hs =>
  by_cases e:i=k
  .subst e;cases q with
   | began b vs=>exact absurd (by rw[hp];exact M') (h.nb b vs)
   | prop v =>
    refine .inr (.inr ⟨i,v,hi,?_,?_⟩)
    .obtain⟨rs,k⟩:=(g.nd i hi).up hu;have:=k.pe (.prop v) (by rw[hp];exact M');unfold Gs.held;rw[k.tp.all hs];exact this
    .rw[Aj,if_pos rfl];exact⟨rfl,rfl⟩
   | _=>exact .inl (put λ_=>⟨rfl,rfl⟩)
  .refine .inl ?_;rw[Aj,if_neg e];exact⟨rfl,rfl⟩
 | qz _ k hi hu hL=>exact .inl (put λe=>⟨rfl,rfl⟩)
 | lead _ k hi hu hL=>exact False.elim hL
 | sub _ k d hi hu hD=>exact False.elim hD
 | jv _ k y hi hu hk hC=>exact False.elim hC
 | start _ k hi hu hs=>exact False.elim hs
structure PhL(C:List Cmd)(K:Int)(B:Nat->Bal)(cov:List (Bal × Nat))(i:Nat)(b:Bal)(M:Meet):Prop where
 pe:PhE C K B cov i b M
 ld:∀ v:Vt,v.b=b->(∀ j,j<5->v∈((M.ab i).bn.an j).vs)->v.bt<((M.ab i).ae.length:Int)
 nx:(M.ab i).bn.next<=(M.ab i).ae.length+1/\(M.ab i).bn.next<=40
theorem PhE.acc(c:PhC C K B cov i b){M:Meet}(h:PhE C K B cov i b M){j:Nat}(a:j<5):Ag ((M.ab i).bn.an j)/\((M.ab i).bn.an j).p=b:=by
 obtain⟨σ,g,_⟩:=h.pb.cm.ex;have k:=h.rd c g;exact⟨(k.1.acc j a).1,((k.1.acc j a).2 (h.pr j a)).trans k.2⟩
theorem PhE.lr(m:PhC C K B cov i b){n:Nat}{M N:Meet}(s:Stp wh0 n M N)(h:PhE C K B cov i b M){v:Vt}(l:v.b=b){j:Nat}(r:j<5)(a:v∈((M.ab i).bn.an j).vs):v∈((N.ab i).bn.an j).vs:=by
 obtain⟨σ,g,_⟩:=h.pb.cm.ex;have k:=h.rd m g;rcases s.rI m h g with e|e|⟨q,u,hq,hu,e,_⟩
 .rw[e.1];exact a
 .rw[e.1];exact a
 .rw[e];refine RO a λc d=>?_;have o:=g.gs.hv q u hu;have p:=g.gs.hv j v (k.1.an j r v a).1;have f:=o.2;rw[c,k.2,d,<- l]at f
  exact(Vt.eq_iff u v).1 ⟨d,(c.trans k.2).trans l.symm,g.gs.w1 _ _ _ _ f p.2⟩
theorem PhL.step(d:PhC C K B cov i b){n:Nat}{M N:Meet}(s:Stp wh0 n M N)(h:PhL C K B cov i b M):PhL C K B cov i b N:=by
 have f:=h.pe.step d s;have x:=(s.ev i).ag.length_le;obtain⟨σ,g,_⟩:=h.pe.pb.cm.ex;have p:(N.ab i).bn.next<=(N.ab i).ae.length+1/\(N.ab i).bn.next<=40:=by
  have:=h.nx;rcases s.rI d h.pe g with e|e|⟨q,u,hq,hu,e,_⟩
  .rw[e.2];omega
  .rw[e.2.1];omega
  .have o:((M.ab i).count q u).bn.next=(M.ab i).bn.next:=by
    unfold Nod.count;split
    .rfl
    .split<;>rfl
   rw[e,o];omega
 refine⟨f,λv t a=>?_,p⟩;by_cases l:∀ j,j<5->v∈((M.ab i).bn.an j).vs
 .have:=h.ld v t l;omega
 .obtain⟨τ,g2,_⟩:=f.pb.cm.ex;have z:=f.rd d g2;have m:=g2.gs.hv 0 v (z.1.an 0 (by omega) v (a 0 (by omega))).1;have k:=f.lt d g2 m t;rcases s.rI d h.pe g with e|e|⟨q,u,hq,hu,e,ea⟩
  .rw[e.1]at a;exact absurd a l
  .rw[e.1]at a;exact absurd a l
  .have hm:=m.1.1;rw[e]at a k
   rw[ea];have c:∀ j,j<5->Ag ((N.ab i).bn.an j):=λj y=>(f.acc d y).1;rw[e]at c
   have A:=h.nx;have o:((M.ab i).count q u).bn.next=(M.ab i).bn.next:=by
    unfold Nod.count;split
    .rfl
    .split<;>rfl
   rw[o]at k
   unfold Nod.count at a c ⊢;split at a
   .exact absurd a l
   .split at a
    .exact absurd a l
    .rename_i h3 h4
     rw[if_neg h3,if_neg h4]at c ⊢
     by_cases w:v.bt<((M.ab i).ae.length:Int)
     .exact Int.lt_of_lt_of_le w (Int.ofNat_le.2 (I7 41 _ _).length_le)
     .have e6:v.bt=((M.ab i).ae.length:Int):=by omega
      have r:=X4 c hm a;rw[e6]at r ⊢
      exact Int.ofNat_lt.2 (VR 40 r)
end
section
variable{I J:Meet->Prop}
theorem Mr(j:∀ c M N,Stp wh1 c M N->I M->I N)(p:∀ c M N,Stp wh1 c M N->I M->J M->J N){n:Nat}{M:Meet}(q:MOk n M)(u:n+5<=1000000)(h:I M){i:Nat}(r:i<5)(d:∀ N m,MOk m N->m+1<=1000000->I N->N.ab i=M.ab i->J (N.act (acN 3 (i:Int)))):J (M.dT (AC 3 5)):=by
 have d:∀ k,k<=5->MOk (n+k) (M.dT (AC 3 k))/\I (M.dT (AC 3 k))/\(k<=i->(M.dT (AC 3 k)).ab i=M.ab i)/\(i<k->J (M.dT (AC 3 k))):=by
  intro k;induction k with
  | zero=>exact λ_=>⟨q,h,λ_=>rfl,λe=>absurd e (nU _)⟩
  | succ k ih =>
   intro t;obtain⟨a,b,f,o⟩:=ih (by omega);rw[BR,AI];refine⟨a.act (by omega) (FP (by omega)),C1 j a (by omega) b,λe=>by rw[E9 _ (by omega)];exact f (by omega),λe=>?_⟩;by_cases l:i<k
   .exact(C1 (I:=λN=>I N/\J N) (λc A B s g=>⟨j c A B s g.1,p c A B s g.1 g.2⟩) a (by omega) ⟨b,o l⟩).2
   .obtain rfl:k=i:=by omega
    exact d _ _ a (by omega) b (f (A' _))
 exact(d 5 (A' _)).2.2.2 r
end
theorem Id(M:Meet){i:Nat}(d:i<5):∃ N:Meet,N.ab i=M.ab i/\N=M.dT (AC 3 i)/\(M.dT (AC 3 5)).ab i=(N.act (acN 3 (i:Int))).ab i:=by
 have b:∀ k,k<=i->(M.dT (AC 3 k)).ab i=M.ab i:=by
  intro k;induction k with
  | zero=>exact λ_=>rfl
  | succ k ih=>exact λa=>by rw[BR,AI,E9 _ (by omega)];exact ih (by omega)
 refine⟨_,b i (A' _),rfl,?_⟩;have c:∀ k,i<k->(M.dT (AC 3 k)).ab i=((M.dT (AC 3 i)).act (acN 3 (i:Int))).ab i:=by
  intro k a;induction k with
  | zero=>exact absurd a (nU _)
  | succ k ih =>
   rw[BR,AI];by_cases e:k=i
   .rw[e]
   .rw[E9 _ (Ne.symm e)];exact ih (by omega)
 exact c 5 d
theorem Stp.ry{M N:Meet}(s:Stp wh0 0 M N)(i:Nat):(N.ab i).bn.next=(M.ab i).bn.next:=by
 have put:∀ {k:Nat} {p:Nod} {a:List Let} {g:List Tol},p.bn.next=(M.ab k).bn.next->((M.set k p a g).ab i).bn.next=(M.ab i).bn.next:=λ{k p a g} e=>by
  rw[Aj];split
  .rename_i e2;rw[e2];exact e
  .rfl
 have f:∀ (p:Nod) (j:Nat) (v:Vt),(p.count j v).bn.next=p.bn.next:=λp j v=>by
  unfold Nod.count;split
  .rfl
  .split<;>rfl
 cases s with
 | take _ l hl hd hu ht =>
  refine put ?_;unfold Nod.take;split
  .split
   .unfold Nod.ew;split<;>rfl
   .show((M.ab l.dst).au _).1.bn.next=_;rw[(AY _ _).2]
  .simp only;split<;>rfl
  .rfl
  .split
   .unfold Nod.ew;split<;>rfl
   .show((M.ab l.dst).cl _).1.bn.next=_;rw[(Ck _ _).2]
  .exact f _ _ _
  .split<;>rfl
  .simp only;unfold Nod.eb;split<;>split<;>rfl
  .rfl
 | br _ a hl hd=>exact False.elim hd
 | one _ k c hi hu hc he=>exact put (by unfold Nod.hU;split<;>rfl)
 | ask _ k hi hu =>
  refine put ?_;unfold Nod.ib;split
  .rfl
  .split
   .unfold Nod.eb;split<;>rfl
   .rfl
 | qH _ k hi hu hs hT=>exact put rfl
 | run _ k hi hu q l hp hs =>
  refine put ?_;show((M.ab k).ic k q).bn.next=_;cases q with
  | began b vs=>simp only[Nod.ic];split<;>rfl
  | prop v=>exact f _ _ _
  | _=>rfl
 | qz _ k hi hu hL=>exact put rfl
 | lead _ k hi hu hL=>exact False.elim hL
 | sub _ k d hi hu hD=>exact False.elim hD
 | jv _ k y hi hu hk hC=>exact False.elim hC
 | start _ k hi hu hs=>exact False.elim hs
theorem Sts.ry{M N:Meet}(s:Sts wh1 0 M N)(i:Nat):(N.ab i).bn.next=(M.ab i).bn.next:=by
 generalize a:0=z at s;induction s with
 | nil=>rfl
 | @snoc n c m A B E h s hm ih =>
  obtain rfl:c=0:=by omega
  exact(s.calm.ry i).trans (ih (by omega))
theorem SH{p q:Nod}(a:q.bn=p.bn)(b:q.ae=p.ae)(s:Nat):q.ov s=p.ov s:=by unfold Nod.ov;rw[a,b]
section
variable{C:List Cmd}{K:Int}{B:Nat->Bal}{cov:List (Bal × Nat)}{i:Nat}{b:Bal}
def J3(i:Nat)(v:Vt)(N:Meet):Prop:=v∈((N.ab i).bn.an i).vs/\∀ j,j<5->j≠i->({ BD 3 with cl:=v,src:=i,dst:=j }:Let)∈N.br
theorem J3.step(a:PhC C K B cov i b){n:Nat}{M N:Meet}(s:Stp wh0 n M N)(h:PhE C K B cov i b M){v:Vt}(c:v.b=b)(k:J3 i v M):J3 i v N:=⟨h.lr a s c a.hi k.1,λj d e=>s.qQ (k.2 j d e)⟩
theorem PhE.qA{M:Meet}(h:PhE C K B cov i b M):(M.ab i).bn.qA=true:=by
 unfold Rnd.qA Jo;rw[h.pr 0 (by omega),h.pr 1 (by omega),h.pr 2 (by omega),h.pr 3 (by omega),h.pr 4 (by omega)];decide
theorem O0(a:PhC C K B cov i b)(H:14*K+38*(cov.length:Int)<=99000)(q:∀ c∈C,c.e=0){M:Meet}(h:PhL C K B cov i b M)(S:(M.ab i).ae.length<40)(L:(M.ab i).bn.next<=(M.ab i).ae.length){c:Cmd}(z:(M.ab i).ov (M.ab i).ae.length=some c) :
  J3 i ⟨((M.ab i).ae.length:Int),b,c⟩ (M.act (acN 3 (i:Int)))/\((M.act (acN 3 (i:Int))).ab i).bn.next=(M.ab i).ae.length+1:=by
 have E:=h.pe.pb.cm.up i a.hi;obtain⟨R,s0,T,O,a0,n,G,Q,P,F⟩:=Ic (D:=wh1) a.hi E;have r:∀ c A N,Stp wh1 c A N->PhL C K B cov i b A->PhL C K B cov i b N:=λc A N s g=>g.step a s.calm;have x:=s0.inv r h;have o:=P.inv r x;have f:(n.ab i).bn=(M.ab i).bn/\(n.ab i).ae=(M.ab i).ae:=by
  rw[G,Bg,x.pe.ib a.hi];exact⟨O,a0⟩
 have u:Ah ⟨((M.ab i).ae.length:Int),b,c⟩:=⟨by show(0:Int)<=((M.ab i).ae.length:Int)/\((M.ab i).ae.length:Int)<=39;omega,a.hb,q c (KP (h.pe.pb.cm.s.nd i a.hi) z)⟩;generalize w:(⟨((M.ab i).ae.length:Int),b,c⟩:Vt)=v at u;have m:v.b=b:=by rw[<- w]
 have t:=dI a H o.pe.pb o.pe.qA (by rw[f.1,f.2];exact L) (c:=c) (by rw[SH f.1 f.2,f.2];exact z) (by rw[f.2,w];exact u);rw[f.2,w]at t
 have p:=(Stp.prop (D:=wh1) n i a.hi Q).calm;have p:=o.step a p;have k:=F.inv (I:=λN=>PhL C K B cov i b N/\(Pend.prop v∈(N.ab i).bu\/J3 i v N)) (λd A N s g=>⟨r d A N s g.1,by
  rcases g.2 with g2|g2
  .rcases Oj s.calm g2 with g3|⟨l,g3,rfl⟩
   .exact .inl g3
   .refine .inr ⟨?_,λj J e=>mg _ (Mk { BD 3 with cl:=v } J e)⟩;rw[Aj,if_pos rfl];have ac:=g.1.pe.acc a a.hi;have y:(A.ab i).bn.hZ=b:=(g.1.pe.pb.cm.hZ i a.hi).trans a.hB;exact PV (m.trans y.symm) ac.1 u (ac.2.trans y.symm)
  .exact .inr (g2.step a s.calm g.1.pe m)⟩) ⟨p,.inl (by rw[Bg];exact t.2)⟩
 refine⟨k.2.resolve_left λg=>?_,by rw[F.ry i,Bg];exact t.1⟩;rw[Ha E,Aj,if_pos rfl,H8 (h.pe.pb.cm.rF a.hi)]at g
 cases g
theorem W9(a:PhC C K B cov i b){M:Meet}(h:PhL C K B cov i b M)(m:(M.ab i).ae.length<(M.ab i).bn.next):((M.act (acN 3 (i:Int))).ab i).bn.next=(M.ab i).bn.next:=by
 have l:=h.pe.pb.cm.up i a.hi;obtain⟨p,s0,r,n,a0,e,f,t,q,o⟩:=Ic (D:=wh1) a.hi l;have k:∀ c A N,Stp wh1 c A N->PhL C K B cov i b A->PhL C K B cov i b N:=λc A N s g=>g.step a s.calm;have j:=s0.inv k h;have d:(e.ab i).bn=(M.ab i).bn/\(e.ab i).ae=(M.ab i).ae:=by
  rw[f,Bg,j.pe.ib a.hi];exact⟨n,a0⟩
 rw[o.ry i,Bg];unfold Nod.cF;rw[if_pos (.inr (.inr (by rw[d.1,d.2];exact m))),d.1]
def Bz(i:Nat)(v:Vt)(N:Meet):Prop:=v∈((N.ab i).bn.an i).vs/\∀ j,j<5->j≠i->Pend.voted i v∈(N.ab j).bu
theorem PhL.drop{N:Meet}(h:PhL C K B cov i b N):PhL C K B cov i b { N with br:=[] } :=
 ⟨⟨⟨h.pe.pb.cm.drop,h.pe.pb.ak,h.pe.pb.vi⟩,h.pe.va,h.pe.pr,h.pe.nb,h.pe.aw,λm a=>(by cases a),h.pe.qw⟩,h.ld,h.nx⟩
theorem EI(M:Meet):M.dT An=(M.dT (AC 3 5)).act (acN 7 0):=by rw[show An=AC 3 5++[acN 7 0]from rfl,AI]
theorem PhL.round(f:PhC C K B cov i b){n:Nat}{M:Meet}(k:MOk n M)(m:n+6<=1000000)(h:PhL C K B cov i b M):PhL C K B cov i b (M.dT An)/\MOk (n+6) (M.dT An)/\(M.dT An).br=[]/\(∀ j,Ev (M.ab j) ((M.dT An).ab j))/\((M.dT An).ab i).bn.next=((M.dT (AC 3 5)).ab i).bn.next:=by
 have d:=Bm (I:=λN=>PhL C K B cov i b N/\∀ j,Ev (M.ab j) (N.ab j)) (λc A N s g=>⟨g.1.step f s.calm,λj=>(g.2 j).trans (s.calm.ev j)⟩) k (by omega) ⟨h,λj=>.refl _⟩;rw[EI];obtain⟨N,l,e,_⟩:=Cr (I:=λN=>PhL C K B cov i b N/\(∀ j,Ev (M.ab j) (N.ab j))/\(N.ab i).bn.next=((M.dT (AC 3 5)).ab i).bn.next) (λA N s g=>⟨g.1.step f s.qZ,λj=>(g.2.1 j).trans (s.qZ.ev j),(s.qZ.ry i).trans g.2.2⟩) d.1 ⟨d.2.1,d.2.2,rfl⟩;have a:=d.1.act (x:=acN 7 0) (by omega) (by rw[<- DK];decide);rw[l]at a ⊢
 exact⟨e.1.drop,a,rfl,e.2.1,e.2.2⟩
theorem Tr(a:PhC C K B cov i b)(u:14*K+38*(cov.length:Int)<=99000)(f:∀ c∈C,c.e=0){n:Nat}{M:Meet}(r:MOk n M)(P:n+6<=1000000)(h:PhL C K B cov i b M)(F:(M.ab i).ae.length<40)(H:(M.ab i).bn.next<=(M.ab i).ae.length){c:Cmd}(x:(M.ab i).ov (M.ab i).ae.length=some c) :
  Bz i ⟨((M.ab i).ae.length:Int),b,c⟩ (M.dT An)/\((M.dT An).ab i).bn.next=(M.ab i).ae.length+1:=by
 have G:Ah ⟨((M.ab i).ae.length:Int),b,c⟩:=⟨by show(0:Int)<=((M.ab i).ae.length:Int)/\((M.ab i).ae.length:Int)<=39;omega,a.hb,f c (KP (h.pe.pb.cm.s.nd i a.hi) x)⟩;have w:∀ c A N,Stp wh1 c A N->PhL C K B cov i b A->PhL C K B cov i b N:=λc A N s g=>g.step a s.calm;have E:∀ A N,TkS A N->PhL C K B cov i b A->PhL C K B cov i b N:=λA N s g=>g.step a s.qZ;have Q:=h.round a r P;have q:=Mr (J:=λN=>J3 i ⟨((M.ab i).ae.length:Int),b,c⟩ N) w (λd A N s g k=>k.step a s.calm g.pe rfl) r (by omega) h a.hi (λN m _ _ g e=>by
  have:=(O0 a u f g (by rw[e];exact F) (by rw[e];exact H) (c:=c) (by rw[e];exact x)).1;rw[e]at this;exact this)
 obtain⟨N,t,S,T⟩:=Id M a.hi;have p:=Bm w r (by omega) h;have O:PhL C K B cov i b N:=by
  rw[S];have R:∀ k,k<=5->MOk (n+k) (M.dT (AC 3 k))/\PhL C K B cov i b (M.dT (AC 3 k)):=by
   intro k;induction k with
   | zero=>exact λ_=>⟨r,h⟩
   | succ k ih =>
    intro U;obtain⟨D,L⟩:=ih (by omega);rw[BR,AI];exact⟨D.act (by omega) (FP (by omega)),C1 w D (by omega) L⟩
  have:=a.hi;exact(R i (by omega)).2
 have z:=(O0 a u f O (by rw[t];exact F) (by rw[t];exact H) (c:=c) (by rw[t];exact x)).2;refine⟨?_,by rw[Q.2.2.2.2,T,z,t]⟩;have o:(⟨((M.ab i).ae.length:Int),b,c⟩:Vt).b=b:=rfl;generalize (⟨((M.ab i).ae.length:Int),b,c⟩:Vt)=v at G q o ⊢;rw[EI];generalize M.dT (AC 3 5)=A at p q ⊢;refine⟨?_,λj y e=>?_⟩
 .obtain⟨N,k1,k2,_⟩:=Cr (I:=λN=>PhL C K B cov i b N/\v∈((N.ab i).bn.an i).vs) (λA N s g=>⟨E A N s g.1,g.1.pe.lr a s.qZ o a.hi g.2⟩) p.1 ⟨p.2,q.1⟩;rw[k1];exact k2.2
 .obtain⟨N,k1,_,k3,_⟩:=DO (J:=λN=>Pend.voted i v∈(N.ab j).bu) E (λA N s _ g=>by
   obtain⟨l,_,_,_,rfl⟩:=s;rw[Aj];split
   .rename_i e3;rw[<- e3];exact Hb g
   .exact g) p.1 p.2 (q.2 j y e) (λN g=>g.pe.pb.cm.up j y) (λN g _=>by
   rw[Aj,if_pos rfl];exact Xa a u g.pe.pb y G o (l:={ BD 3 with cl:=v,src:=i,dst:=j }) rfl rfl)
  rw[k1];exact k3
end
theorem lV(q:Nod){i j:Nat}(b:j<5)(c:j≠i) :
  (q.ae.length<=q.bn.bw j/\(EC q i 5).bn.bw j=q.bn.bw j)\/(q.bn.bw j<q.ae.length/\(EC q i 5).bn.bw j=q.ae.length/\({ BD 5 with src:=i,dst:=j,bt:=q.bn.bw j,gC:=q.ae.drop (q.bn.bw j) }:Let)∈Dq q i 5):=by
 have hin:∀ k,j<k->MA q i j=true->({ BD 5 with src:=i,dst:=j,bt:=q.bn.bw j,gC:=q.ae.drop (q.bn.bw j) }:Let)∈Dq q i k:=by
  intro k;induction k with
  | zero=>exact λh=>absurd h (nU _)
  | succ k ih =>
   intro f a;rw[Dq];by_cases e:j=k
   .rw[<- e,a,if_pos rfl];exact mg _ (D'.2 rfl)
   .exact mi _ (ih (by omega) a)
 have d:(EC q i 5).bn.bw j=if decide (j<5)&&MA q i j then q.ae.length else q.bn.bw j:=rfl;by_cases h:q.bn.bw j<q.ae.length
 .have a:MA q i j=true:=O' ⟨c,h⟩;exact .inr ⟨h,by rw[d,a,O' b];rfl,hin 5 b a⟩
 .have a:MA q i j=false:=E' λe=>h e.2;exact .inl ⟨by omega,by rw[d,a,O' b];rfl⟩
theorem Tk(p:Nod)(i:Nat)(d:List Let)(c:List Tol):∃ (q:Nod) (ks:List Let),(p.piece i d c).1=(q.bw i ks).1/\(p.piece i d c).2.1=(q.bw i ks).2/\q.bn.bw=p.bn.bw:=by
 unfold Nod.piece;simp only;have e:=Uc i (p.ae.drop p.done) p c;generalize qK i (p.ae.drop p.done) p c=a at e ⊢;have f:(a.1.ib i).1.bn.bw=a.1.bn.bw:=by
  unfold Nod.ib;split
  .rfl
  .split
   .unfold Nod.eb;split<;>rfl
   .rfl
 generalize a.1.ib i=b at f ⊢;have g:b.1.cF.bn.bw=b.1.bn.bw:=by
  unfold Nod.cF;split
  .rfl
  .split
   .rfl
   .split<;>rfl
 generalize b.1.cF=r at g ⊢;have h:(r.mv i (d++b.2)).1.bn.bw=r.bn.bw:=by
  have j:∀ (l:List Pend) (x:Nod) (k:List Let),(nn i l x k).1.bn.bw=x.bn.bw:=by
   intro l;induction l with
   | nil=>exact λx k=>rfl
   | cons y l ih =>
    intro x k;rw[nn,ih];cases y with
    | began b vs=>simp only[Nod.ic];split<;>rfl
    | prop v =>
     simp only[Nod.ic,Nod.count];split
     .rfl
     .split<;>rfl
    | _=>rfl
  unfold Nod.mv;split
  .rfl
  .rw[j];unfold Nod.qH;split<;>rfl
 exact⟨_,_,rfl,rfl,by rw[h,g,f,e.1]⟩
section
variable{C:List Cmd}{K:Int}{B:Nat->Bal}{cov:List (Bal × Nat)}{i:Nat}{b:Bal}
theorem PhE.tk{M N:Meet}(s:TkS M N)(h:PhE C K B cov i b M):(N.ab i).bn.bw=(M.ab i).bn.bw:=by
 obtain⟨l,c,a,d,rfl⟩:=s;rw[Aj];split
 .rename_i e
  rw[<- e];unfold Nod.take;split
  .split
   .unfold Nod.ew;split<;>rfl
   .show((M.ab i).au _).1.bn.bw=_;rw[(AY _ _).2]
  .simp only;rw[if_pos (.inr (.inr (h.pr l.src a.1)))];rfl
  .rfl
  .split
   .unfold Nod.ew;split<;>rfl
   .show((M.ab i).cl _).1.bn.bw=_;rw[(Ck _ _).2]
  .unfold Nod.count;split
   .rfl
   .split<;>rfl
  .split<;>rfl
  .simp only;unfold Nod.eb;split<;>split<;>rfl
  .rfl
 .rfl
def TT0(i:Nat)(M:Meet):Prop:=∀ j,j<5->j≠i->(M.ab i).bn.bw j<=(M.ab j).ae.length
def TTx(i a0:Nat)(N:Meet):Prop:=∀ j,j<5->j≠i->a0<=(N.ab i).bn.bw j/\((N.ab i).bn.bw j<=(N.ab j).ae.length\/∃ m∈N.br,m.kind=5/\m.dst=j/\m.bt<=(N.ab j).ae.length/\(N.ab i).bn.bw j<=m.bt+m.gC.length)
theorem T4(k:PhC C K B cov i b){n:Nat}{M:Meet}(z:MOk n M)(F:n+1<=1000000)(h:PhL C K B cov i b M)(t:TT0 i M):TTx i (M.ab i).ae.length (M.act (acN 3 (i:Int))):=by
 have E:=h.pe.pb.cm.up i k.hi;have u:=C1 (I:=λN=>PhL C K B cov i b N/\Ev (M.ab i) (N.ab i)) (λc A N s g=>⟨g.1.step k s.calm,g.2.trans (s.calm.ev i)⟩) z k.hi ⟨h,.refl _⟩;have l:=u.1.pe.pb.leads k;have d:=u.2.ag.length_le;intro j v a;have o:=E9 M (i:=i) a;have f:=t j v a;have e:M.act (acN 3 (i:Int))=M.set i ((M.ab i).piece i M.br M.fa).1 ((M.ab i).piece i M.br M.fa).2.1 ((M.ab i).piece i M.br M.fa).2.2:=Ha E;obtain⟨q,w,x,y,r⟩:=Tk (M.ab i) i M.br M.fa;rw[o];rw[e,Bg,x]at l d ⊢
 have D:q.leads=true:=by
  refine mS λg=>?_;unfold Nod.bw at l;rw[if_neg g]at l
  exact g l
 have p:q.bw i w=(EC q i 5,w++Dq q i 5):=by unfold Nod.bw;rw[if_pos D]
 rw[p]at d ⊢
 have d:(M.ab i).ae.length<=q.ae.length:=d;show _<=(EC q i 5).bn.bw j/\((EC q i 5).bn.bw j<=_\/∃ m∈((M.ab i).piece i M.br M.fa).2.1,_/\_/\_/\(EC q i 5).bn.bw j<=_);rw[y,p];rcases lV q v a with⟨g1,g2⟩|⟨g1,g2,g3⟩
 .rw[g2];exact⟨by omega,.inl (by rw[r];exact f)⟩
 .rw[g2];refine⟨d,.inr ⟨_,mg _ g3,rfl,rfl,by show q.bn.bw j<=_;rw[r];exact f,?_⟩⟩;show q.ae.length<=q.bn.bw j+(q.ae.drop (q.bn.bw j)).length;rw[mm];omega
theorem MD(u:PhC C K B cov i b){n:Nat}{M:Meet}(E:MOk n M)(L:n+6<=1000000)(h:PhL C K B cov i b M)(t:TT0 i M):TT0 i (M.dT An)/\∀ j,j<5->(M.ab i).ae.length<=((M.dT An).ab j).ae.length:=by
 have G:∀ c A N,Stp wh1 c A N->PhL C K B cov i b A->PhL C K B cov i b N:=λc A N s g=>g.step u s.calm;have O:∀ k,k<=5->MOk (n+k) (M.dT (AC 3 k))/\PhL C K B cov i b (M.dT (AC 3 k))/\(∀ j,Ev (M.ab j) ((M.dT (AC 3 k)).ab j))/\(k<=i->(M.dT (AC 3 k)).ab i=M.ab i)/\(i<k->TTx i (M.ab i).ae.length (M.dT (AC 3 k))):=by
  intro k;induction k with
  | zero=>exact λ_=>⟨E,h,λj=>.refl _,λ_=>rfl,λe=>absurd e (nU _)⟩
  | succ k ih =>
   intro P;obtain⟨d,o,r,y,p⟩:=ih (by omega);rw[BR,AI];generalize M.dT (AC 3 k)=A at d o r y p ⊢;have q:=C1 (I:=λN=>(∀ j,Ev (A.ab j) (N.ab j))/\∀ m∈A.br,m∈N.br) (λc X N s g=>⟨λj=>(g.1 j).trans (s.calm.ev j),λm z=>s.calm.qQ (g.2 m z)⟩) d (show k<5 by omega) ⟨λj=>.refl _,λm z=>z⟩;refine⟨d.act (by omega) (FP (by omega)),C1 G d (by omega) o,λj=>(r j).trans (q.1 j),λe=>by rw[E9 _ (by omega)];exact y (by omega),λe=>?_⟩;by_cases F:i<k
   .intro j f a;obtain⟨x,l⟩:=p F j f a;rw[E9 A (i:=k) (j:=i) (by omega)];have:=(q.1 j).ag.length_le;refine⟨x,?_⟩;rcases l with l|⟨m,l,g3,g4,g5,g6⟩
    .exact .inl (by omega)
    .exact .inr ⟨m,q.2 m l,g3,g4,by omega,g6⟩
   .obtain rfl:k=i:=by omega
    have D:=y (A' _);have:=T4 u d (by omega) o (λj f a=>by
     have:=(r j).ag.length_le;have:=t j f a;rw[D];omega)
    rw[D]at this;exact this
 obtain⟨d,o,r,_,p⟩:=O 5 (A' _);have p:=p u.hi;rw[EI];generalize M.dT (AC 3 5)=A at d o r p ⊢;have key:∀ j,j<5->j≠i->((A.act (acN 7 0)).ab i).bn.bw j<=((A.act (acN 7 0)).ab j).ae.length/\(M.ab i).ae.length<=((A.act (acN 7 0)).ab i).bn.bw j:=λj f a=>by
  obtain⟨x,l⟩:=p j f a;rcases l with l|⟨m,l,g3,g4,g5,g6⟩
  .obtain⟨N,w,v,_⟩:=Cr (I:=λN=>PhL C K B cov i b N/\(N.ab i).bn.bw=(A.ab i).bn.bw/\Ev (A.ab j) (N.ab j)) (λX N s g=>⟨g.1.step u s.qZ,(g.1.pe.tk s).trans g.2.1,g.2.2.trans (s.qZ.ev j)⟩) d ⟨o,rfl,.refl _⟩;rw[w];show(N.ab i).bn.bw j<=(N.ab j).ae.length/\_<=(N.ab i).bn.bw j;have:=v.2.2.ag.length_le;rw[v.2.1];omega
  .obtain⟨N,w,v,k3,_⟩:=DO (I:=λN=>PhL C K B cov i b N/\(N.ab i).bn.bw=(A.ab i).bn.bw/\Ev (A.ab j) (N.ab j)) (J:=λN=>(A.ab i).bn.bw j<=(N.ab j).ae.length) (λX N s g=>⟨g.1.step u s.qZ,(g.1.pe.tk s).trans g.2.1,g.2.2.trans (s.qZ.ev j)⟩) (λX N s g k=>by have:=(s.qZ.ev j).ag.length_le;omega) d ⟨o,rfl,.refl _⟩ l (λN g=>by rw[g4];exact g.1.pe.pb.cm.up j f) (λN g _=>by
    have H:=g.2.2.ag.length_le;rw[g4,Aj,if_pos rfl];unfold Nod.take;rw[g3];simp only;rw[if_neg (by omega)];show _<=((N.ab j).ae++m.gC.drop ((N.ab j).ae.length-m.bt)).length;rw[H',mm];omega)
   rw[w];show(N.ab i).bn.bw j<=(N.ab j).ae.length/\_<=(N.ab i).bn.bw j;rw[v.2.1];exact⟨k3,x⟩
 refine⟨λj f a=>(key j f a).1,λj f=>?_⟩;by_cases e:j=i
 .subst e;have:=h.round u E L;rw[EI]at this
  obtain⟨N,w,v,_⟩:=Cr (I:=λN=>Ev (A.ab j) (N.ab j)) (λX N s g=>g.trans (s.qZ.ev j)) d (.refl _);rw[w];exact((r j).trans v).ag.length_le
 .have:=key j f e;omega
def K1(M:Meet):Prop:=∀ m∈M.br,m.kind=1->m.gC.length<=(M.ab m.src).ae.length
theorem K1.step{c:Nat}{M N:Meet}(s:Stp wh0 c M N)(h:K1 M):K1 N:=by
 have f:∀ m∈M.br,m.kind=1->m.gC.length<=(N.ab m.src).ae.length:=λm i a=>me (h m i a) (s.ev m.src).ag.length_le;intro m i a;cases s with
 | br _ ls hl hd=>exact False.elim hd
 | ask _ k hi hu =>
  rcases Q'.1 i with g|g
  .exact f m g a
  .unfold Nod.ib at g;split at g
   .cases g
   .split at g
    .cases g
    .rw[D'.1 g]at a;cases a
 | run _ k hi hu q l hp hs =>
  rcases Q'.1 i with g|g
  .exact f m g a
  .cases q with
   | began b vs =>
    unfold Nod.qx at g;simp only at g;split at g
    .cases g
    .have:=(DF g).1;rw[a]at this;cases this
   | prop v=>have:=(DF g).1;rw[a]at this;cases this
   | start=>have:=(DF g).1;rw[a]at this;cases this
   | prom to b vs =>
    rw[D'.1 g];show(M.ab k).ae.length<=((M.set k { (M.ab k).ic k (.prom to b vs)with bu:=l } _ _).ab k).ae.length;rw[Bg];exact A' _
   | _=>have e:=D'.1 g;rw[e]at a;cases a
 | qz _ k hi hu hL =>
  rcases Q'.1 i with g|g
  .exact f m g a
  .have:=(JK 5 m g).1;omega
 | lead _ k hi hu hL=>exact False.elim hL
 | sub _ k d hi hu hD=>exact False.elim hD
 | jv _ k x hi hu a hC=>exact False.elim hC
 | start _ k hi hu hs=>exact False.elim hs
 | _=>exact f m i a
end
section
variable{C:List Cmd}{K:Int}{B:Nat->Bal}{cov:List (Bal × Nat)}{i:Nat}{b:Bal}
theorem Ts(a:PhC C K B cov i b){n:Nat}{M:Meet}(o:MOk n M)(O:n+6<=1000000)(h:PhL C K B cov i b M){v:Vt}(L:Ah v)(d:v.b=b)(z:Bz i v M)(Q:(M.ab i).ae.length<(M.ab i).bn.next) :
  v.bt<(((M.dT An).ab i).ae.length:Int)/\((M.dT An).ab i).bn.next=(M.ab i).bn.next:=by
 have q:∀ c A N,Stp wh1 c A N->PhL C K B cov i b A->PhL C K B cov i b N:=λc A N s g=>g.step a s.calm;have x:∀ A N,TkS A N->PhL C K B cov i b A->PhL C K B cov i b N:=λA N s g=>g.step a s.qZ;have E:=h.round a o O;have m:=Bm q o (by omega) h;have t:((M.dT (AC 3 5)).ab i).bn.next=(M.ab i).bn.next:=by
  obtain⟨N,F,S,T⟩:=Id M a.hi;have H:PhL C K B cov i b N:=by
   rw[S];have P:∀ k,k<=5->MOk (n+k) (M.dT (AC 3 k))/\PhL C K B cov i b (M.dT (AC 3 k)):=by
    intro k;induction k with
    | zero=>exact λ_=>⟨o,h⟩
    | succ k ih =>
     intro r;obtain⟨w,G⟩:=ih (by omega);rw[BR,AI];exact⟨w.act (by omega) (FP (by omega)),C1 q w (by omega) G⟩
   have:=a.hi;exact(P i (by omega)).2
  rw[T,W9 a H (by rw[F];exact Q),F]
 refine⟨?_,by rw[E.2.2.2.2,t]⟩;have p:=Bm (I:=λN=>PhL C K B cov i b N/\v∈((N.ab i).bn.an i).vs) (λc A N s g=>⟨q c A N s g.1,g.1.pe.lr a s.calm d a.hi g.2⟩) o (by omega) ⟨h,z.1⟩;have D:∀ j,j<5->j≠i->({ BD 4 with cl:=v,src:=j,dst:=i }:Let)∈(M.dT (AC 3 5)).br:=λj f e =>
  Fq (J:=λN=>({ BD 4 with cl:=v,src:=j,dst:=i }:Let)∈N.br) q (λc A N s _ g=>s.calm.qQ g) (λA k g r=>⟨g.pe.pb.cm.up k r,g.pe.pb.cm.rF r⟩) o (by omega) h f (z.2 j f e) λN l g _ _=>mg _ (D'.2 rfl)
 refine E.1.ld v d λj f=>?_;rw[EI];generalize M.dT (AC 3 5)=A at m D p ⊢;by_cases e:j=i
 .subst e;obtain⟨N,u,R,_⟩:=Cr (I:=λN=>PhL C K B cov j b N/\v∈((N.ab j).bn.an j).vs) (λA N s g=>⟨x A N s g.1,g.1.pe.lr a s.qZ d f g.2⟩) m.1 ⟨m.2,p.2.2⟩;rw[u];exact R.2
 .obtain⟨N,u,_,k3,_⟩:=DO (J:=λN=>v∈((N.ab i).bn.an j).vs) x (λA N s g k=>g.pe.lr a s.qZ d f k) m.1 m.2 (D j f e) (λN g=>g.pe.pb.cm.up i a.hi) (λN g _=>by
   rw[Aj,if_pos rfl];have ac:=g.pe.acc a f;have y:(N.ab i).bn.hZ=b:=(g.pe.pb.cm.hZ i a.hi).trans a.hB;exact PV (d.trans y.symm) ac.1 L (ac.2.trans y.symm))
  rw[u];exact k3
def mu(i:Nat)(M:Meet):Nat:=2*(40-(M.ab i).ae.length)+(if(M.ab i).bn.next<=(M.ab i).ae.length then 1 else 0)
def Zz(i:Nat)(b:Bal)(M:Meet):Prop:=(M.ab i).bn.next<=(M.ab i).ae.length\/∃ v:Vt,Ah v/\v.b=b/\v.bt=((M.ab i).ae.length:Int)/\Bz i v M
theorem gA(q:PhC C K B cov i b){M:Meet}(h:PhL C K B cov i b M)(x:(M.ab i).bn.next<=(M.ab i).ae.length)(d:(M.ab i).ae.length<40->(M.ab i).ov (M.ab i).ae.length=Option.none):Fin_ i (M.ab i).ae M:=by
 refine⟨rfl,x,λf j s v t e=>?_,λf c n=>mS λe=>?_⟩
 .have d:=d f;unfold Nod.ov at d;have p:∀ l∈(M.ab i).bn.ia.map (·.vs),∀ u∈l,Ah u:=λl o u k=>by
   obtain⟨a,f,rfl⟩:=mz.1 o;unfold Rnd.ia at f;simp only[mn,P',or_false]at f;rcases f with e|e|e|e|e<;>(rw[e]at k;exact((h.pe.acc q (by omega)).1.2.1 u k).1)
  have m:BW ((M.ab i).bn.ia.map (·.vs)) ((M.ab i).ae.length:Int)=0:=by unfold BW;rw[if_neg (λg=>g (by omega)),if_pos p]
  have r:DV ((M.ab i).bn.ia.map (·.vs)) ((M.ab i).ae.length:Int)=true:=by
   unfold DV;rw[if_pos m];have:v∈Ae ((M.ab i).bn.ia.map (·.vs)).flatten ((M.ab i).ae.length:Int):=AK.2 ⟨nQ.2 ⟨((M.ab i).bn.an j).vs,mz.2 ⟨(M.ab i).bn.an j,by unfold Rnd.ia;rcases qv s with rfl|rfl|rfl|rfl|rfl<;>simp,rfl⟩,t⟩,e⟩;unfold Ed;generalize Ae _ _=l at this;have key:∀ (l:List Vt) (u:Vt),(BQ l (some u)).isSome=true:=by
    intro l;induction l with
    | nil=>exact λu=>rfl
    | cons w l ih=>intro u;rw[BQ];split<;>exact ih _
   cases l with
   | nil=>cases this
   | cons w l=>exact key l w
  rw[if_neg (λg=>g m),if_pos r]at d
  cases d
 .have d:=d f;unfold Nod.ov at d;have p:∀ l∈(M.ab i).bn.ia.map (·.vs),∀ u∈l,Ah u:=λl o u k=>by
   obtain⟨a,f,rfl⟩:=mz.1 o;unfold Rnd.ia at f;simp only[mn,P',or_false]at f;rcases f with e|e|e|e|e<;>(rw[e]at k;exact((h.pe.acc q (by omega)).1.2.1 u k).1)
  have m:BW ((M.ab i).bn.ia.map (·.vs)) ((M.ab i).ae.length:Int)=0:=by unfold BW;rw[if_neg (λg=>g (by omega)),if_pos p]
  rw[if_neg (λg=>g m)]at d
  split at d
  .cases d
  .exact absurd (nv.1 d c n) (by simpa using e)
theorem Lu(m:Nat):An++Am m=Am (m+1):=by
 induction m with
 | zero=>rfl
 | succ m ih=>show An++(Am m++An)=Am (m+1)++An;rw[<- ml,ih]
theorem gP(a:PhC C K B cov i b)(A:14*K+38*(cov.length:Int)<=99000)(j:∀ c∈C,c.e=0)(k:Nat){n:Nat}{M:Meet}(d:MOk n M)(H:n+6*k<=999000)(h:PhL C K B cov i b M)(z:Zz i b M)(t:TT0 i M)(f:mu i M<=k) :
  ∃ m,m<=k/\Fin_ i ((M.dT (Am m)).ab i).ae (M.dT (Am m))/\PhL C K B cov i b (M.dT (Am m))/\TT0 i (M.dT (Am m))/\MOk (n+6*m) (M.dT (Am m)):=by
 induction k generalizing n M with
 | zero =>
  have:=h.nx;unfold mu at f;split at f<;>omega
 | succ k ih =>
  have F:=h.nx;have D:=(d.ab i a.hi).ag;by_cases o:(M.ab i).bn.next<=(M.ab i).ae.length
  .by_cases hf:(M.ab i).ae.length<40->(M.ab i).ov (M.ab i).ae.length=Option.none
   .exact⟨0,mJ _,gA a h o hf,h,t,d⟩
   .obtain⟨ha,p⟩:=Classical.not_imp.1 hf;obtain⟨c,p⟩:=nV.1 p;have g:=h.round a d (by omega);have l:=Tr a A j d (by omega) h ha o p;have E:=(g.2.2.2.1 i).ag.length_le;have q:Ah ⟨((M.ab i).ae.length:Int),b,c⟩:=⟨by show(0:Int)<=((M.ab i).ae.length:Int)/\((M.ab i).ae.length:Int)<=39;omega,a.hb,j c (KP (h.pe.pb.cm.s.nd i a.hi) p)⟩;obtain⟨m,y,r,u,x,w⟩:=ih (M:=M.dT An) (n:=n+6) g.2.1 (by omega) g.1 (by
     by_cases e:((M.dT An).ab i).ae.length=(M.ab i).ae.length
     .exact .inr ⟨_,q,rfl,by rw[e],l.1⟩
     .exact .inl (by rw[l.2];omega)) (MD a d (by omega) h t).1 (by
     unfold mu at f ⊢;rw[if_pos o]at f
     split<;>omega)
    refine⟨m+1,by omega,?_⟩;rw[<- Lu,AG];exact⟨r,u,x,by rw[show n+6*(m+1)=n+6+6*m by omega];exact w⟩
  .rcases z with z|⟨v,q,hvb,hs,z⟩
   .exact absurd z o
   .have g:=h.round a d (by omega);have l:=Ts a d (by omega) h q hvb z (by omega);rw[hs]at l
    have G:=q.1.2;obtain⟨m,y,r,u,x,w⟩:=ih (M:=M.dT An) (n:=n+6) g.2.1 (by omega) g.1 (.inl (by rw[l.2];omega)) (MD a d (by omega) h t).1 (by
     unfold mu at f ⊢;rw[if_neg o]at f
     split<;>omega)
    refine⟨m+1,by omega,?_⟩;rw[<- Lu,AG];exact⟨r,u,x,by rw[show n+6*(m+1)=n+6+6*m by omega];exact w⟩
end
section
variable{C:List Cmd}{K:Int}{B:Nat->Bal}{cov:List (Bal × Nat)}{i:Nat}{b:Bal}
def AW(b:Bal)(j:Nat)(N:Meet):Prop:=(N.ab j).vo.p=b/\∀ c x,(N.ab j).bN c=some x->x=b
theorem TS(d:b≠Be){p:Nod}{j:Nat}(g:p.vo.p=b){c:Cmd}{x:Bal}(a:(p.ib j).1.bN c=some x):x=b\/(p.bN c=some x/\c∉p.av.take 40):=by
 have a:(Bb p.vo.p p.bN (p.av.take 40)).2 c=some x:=by
  unfold Nod.ib at a;split at a
  .exact a
  .split at a
   .unfold Nod.eb at a;split at a<;>exact a
   .exact a
 rw[g]at a
 have f:=KY d (p.av.take 40) p.bN;by_cases e:c∈p.av.take 40
 .rw[f.2.1 c e]at a;exact .inl (mQ a).symm
 .rw[f.1 c e]at a;exact .inr ⟨a,e⟩
theorem PhC.b0(a:PhC C K B cov i b):b≠Be:=λe=>by have:=a.hb;rw[e]at this;exact absurd this (by decide)
theorem AW.step(d:PhC C K B cov i b){n:Nat}{M N:Meet}(s:Stp wh0 n M N)(h:PhB C K B cov i b M){j:Nat}(f:j<5)(a:AW b j M):AW b j N:=by
 refine⟨h.cm.top d.hc s d.hb.pr d.hK f a.1,λc x e=>?_⟩;rcases s.bN e with g|⟨_,rfl⟩
 .exact a.2 c x g
 .rw[Aj,if_pos rfl]at e
  exact(TS d.b0 a.1 e).elim id λg=>a.2 c x g.1
theorem el(a:PhC C K B cov i b){M:Meet}(h:PhB C K B cov i b M){j:Nat}(d:j<5)(w:(M.ab j).vo.p=b):AW b j (M.act (acN 3 (j:Int))):=by
 have v:=h.cm.up j d;obtain⟨k,s0,J,H,a0,l,q,F,z,E⟩:=Ic (D:=wh1) d v;have m:∀ c A N,Stp wh1 c A N->(PhB C K B cov i b A/\(A.ab j).vo.p=b)->PhB C K B cov i b N/\(N.ab j).vo.p=b:=λc A N s g=>⟨g.1.step a s.calm,(s.sx j).trans g.2⟩;have e:=s0.inv m ⟨h,w⟩;have f:=z.inv m e;have n:=e.1.ak j d;have G:=KO n.nd λc r=>(e.1.cm.s.nd j d).wa c r;have t:=a.hC;have u:(k.ab j).av.take 40=(k.ab j).av:=mo (by omega);have y:AW b j l:=⟨f.2,λc x o=>by
  rw[q,Bg]at o
  refine(TS a.b0 e.2 o).elim id λg=>absurd ?_ g.2;rw[u,n.wa c,g.1];rfl⟩
 have s3:=Stp.prop (D:=wh1) l j d F;exact(E.inv (I:=λN=>PhB C K B cov i b N/\AW b j N) (λc A N s g=>⟨g.1.step a s.calm,g.2.step a s.calm g.1 d⟩) ⟨f.1.step a s3.calm,y.step a s3.calm f.1 d⟩).2
def T1(i:Nat)(N:Meet):Prop:=∀ j,j<5->j≠i->(N.ab i).bn.qk j=true->(N.ab i).bn.bw j<=(N.ab j).ae.length
theorem T1.tk{M N:Meet}(s:TkS M N)(k:K1 M)(t:T1 i M):T1 i N:=by
 intro j n d f;have p:=(s.qZ.ev j).ag.length_le;have a:(N.ab i).bn.bw j=(M.ab i).bn.bw j->(N.ab i).bn.qk j=(M.ab i).bn.qk j->(N.ab i).bn.bw j<=(N.ab j).ae.length:=λq h=>by
  have:=t j n d (by rw[<- h];exact f);omega
 obtain⟨l,o,r,u,rfl⟩:=s;by_cases e:i=l.dst
 .have en:((M.set l.dst ((M.ab l.dst).take l) M.br M.fa).ab i)=(M.ab i).take l:=by rw[Aj,if_pos e,<- e]
  by_cases c:l.kind=1
  .rw[en]at a f ⊢
   have m:(M.ab i).take l=if((M.ab i).ie 0 l.gC).leads=false\/l.hZ≠(M.ab i).bn.hZ\/(M.ab i).bn.qk l.src=true then(M.ab i).ie 0 l.gC else Nod.qy { (M.ab i).ie 0 l.gC with bn:={ (M.ab i).bn.qM l.src l.ln with bw:=upN (M.ab i).bn.bw l.src l.gC.length } }:=by
    unfold Nod.take;rw[c];rfl
   rw[m]at a f ⊢
   split
   .rename_i hc
    rw[if_pos hc]at a
    exact a rfl rfl
   .rename_i hc
    rw[if_neg hc]at a
    show upN (M.ab i).bn.bw l.src l.gC.length j<=_;by_cases b:j=l.src
    .rw[<- b,Db];have:=k l o c;rw[<- b]at this
     omega
    .rw[Dy _ _ b];have:=a (by show upN (M.ab i).bn.bw l.src l.gC.length j=_;rw[Dy _ _ b]) (by show upN (M.ab i).bn.qk l.src true j=_;rw[Dy _ _ b]);have g:upN (M.ab i).bn.bw l.src l.gC.length j<=_:=this;rw[Dy _ _ b]at g
     exact g
  .have:((M.ab i).take l).bn.bw=(M.ab i).bn.bw/\((M.ab i).take l).bn.qk=(M.ab i).bn.qk:=by
    unfold Nod.take;split
    .split
     .unfold Nod.ew;split<;>exact⟨rfl,rfl⟩
     .show((M.ab i).au _).1.bn.bw=_/\((M.ab i).au _).1.bn.qk=_;rw[(AY _ _).2];exact⟨rfl,rfl⟩
    .rename_i hk;exact absurd hk c
    .exact⟨rfl,rfl⟩
    .split
     .unfold Nod.ew;split<;>exact⟨rfl,rfl⟩
     .show((M.ab i).cl _).1.bn.bw=_/\((M.ab i).cl _).1.bn.qk=_;rw[(Ck _ _).2];exact⟨rfl,rfl⟩
    .unfold Nod.count;split
     .exact⟨rfl,rfl⟩
     .split<;>exact⟨rfl,rfl⟩
    .split<;>exact⟨rfl,rfl⟩
    .simp only;unfold Nod.eb;split<;>split<;>exact⟨rfl,rfl⟩
    .exact⟨rfl,rfl⟩
   exact a (by rw[en,this.1]) (by rw[en,this.2])
 .have en:((M.set l.dst ((M.ab l.dst).take l) M.br M.fa).ab i)=M.ab i:=by rw[Aj,if_neg e]
  exact a (by rw[en]) (by rw[en])
theorem dE(f:PhC C K B cov i b){n:Nat}{M:Meet}(u:MOk n M)(U:n+6<=1000000)(h:PhB C K B cov i b M)(q:QA i b M)(y:∀ j,j<5->(M.ab j).vo.p=b)(hp:(M.ab i).bn.qk i=true)(hw:∀ j,j<5->j≠i->∃ vs,Pend.prom i b vs∈(M.ab j).bu)(o:P1 i (M.ab i))(hl:M.br=[]) :
  PhL C K B cov i b (M.dT An)/\Zz i b (M.dT An)/\TT0 i (M.dT An)/\MOk (n+6) (M.dT An):=by
 have hP:∀ A N,TkS A N->PhB C K B cov i b A->PhB C K B cov i b N:=λA N s g=>g.step f s.qZ;have T:∀ c A N,Stp wh1 c A N->PhB C K B cov i b A->PhB C K B cov i b N:=λc A N s g=>g.step f s.calm;have hq:=QP f u U h q;have d:∀ j,j<5->j≠i->((M.dT An).ab i).bn.qk j=true:=λj a l=>by
  obtain⟨vs,g⟩:=hw j a l;exact Wl f u U h a g
 have Q:=Bm (I:=λN=>PhB C K B cov i b N/\(∀ j,j<5->(N.ab j).vo.p=b)/\P1 i (N.ab i)/\K1 N/\(N.ab i).bn.qk i=true) (λc A N s g=>⟨T c A N s g.1,λj a=>(s.sx j).trans (g.2.1 j a),s.p1 g.2.2.1,g.2.2.2.1.step s.calm,(s.calm.ev i).qk i g.2.2.2.2⟩) u (by omega) ⟨h,y,o,λm w=>by rw[hl]at w;(cases w),hp⟩;have R:∀ j,j<5->AW b j (M.dT (AC 3 5)):=λj a=>Mr (I:=λN=>PhB C K B cov i b N/\(N.ab j).vo.p=b) (J:=AW b j) (λc A N s g=>⟨T c A N s g.1,(s.sx j).trans g.2⟩) (λc A N s g k=>k.step f s.calm g.1 a) u (by omega) ⟨h,y j a⟩ a λN m _ _ g _=>el f g.1 a g.2;have S:NB ((M.dT (AC 3 5)).ab i):=by
  obtain⟨N,W,n2,n3⟩:=Id M f.hi;rw[n3,Ha (by rw[W];exact h.cm.up i f.hi),Aj,if_pos rfl];intro x vs g;rw[H8 (by rw[W];exact h.cm.rF f.hi)]at g
  cases g
 obtain⟨z,D,L,E⟩:=hq;rw[EI]at z D L E d ⊢
 generalize M.dT (AC 3 5)=A at Q R S z D L E d ⊢;obtain⟨Y,Z,a0,o,F,G⟩:=Q;obtain⟨N,k1,k2,_⟩:=Cr (I:=λN=>PhB C K B cov i b N/\(∀ j,j<5->AW b j N)/\NB (N.ab i)/\(N.ab i).bn.qk i=true/\(N.ab i).bn.next=0/\K1 N/\T1 i N) (λX N s g=>⟨hP X N s g.1,λj a=>(g.2.1 j a).step f s.qZ g.1 a,s.qZ.nb g.2.2.1,(s.qZ.ev i).qk i g.2.2.2.1,(s.qZ.ry i).trans g.2.2.2.2.1,g.2.2.2.2.2.1.step s.qZ,g.2.2.2.2.2.2.tk s g.2.2.2.2.2.1⟩) Y ⟨Z,R,S,G,o.1,F,λj a l e=>by rw[o.2 j l]at e;cases e⟩;rw[k1]at z D L E d ⊢
 obtain⟨r1,O,r3,r4,P,r6,r7⟩:=k2;have d:∀ j,j<5->(N.ab i).bn.qk j=true:=λj a=>by
  by_cases e:j=i
  .rw[e];exact r4
  .exact d j a e
 have t:PhE C K B cov i b { N with br:=[] }:=⟨z,λj a=>(O j a).1,d,r3,λj a=>(O j a).2,λm w=>(by cases w),λj a c hc=>by
  have ha:=((r1.ak j a).wa c).1 hc;obtain⟨x,V⟩:=nh.1 ha;exact D j a c (by rw[show((({ N with br:=[] }:Meet).ab j).bN c)=some x from V,(O j a).2 c x V])⟩
 refine⟨⟨t,λv H y=>?_,by show(N.ab i).bn.next<=_/\(N.ab i).bn.next<=40;rw[P];omega⟩,.inl (by show(N.ab i).bn.next<=_;rw[P];exact mJ _),λj a l=>r7 j a l (d j a),E⟩;obtain⟨σ,g,_⟩:=t.pb.cm.ex;have r:=g.gs.hv 0 v ((t.rd f g).1.an 0 (by omega) v (y 0 (by omega))).1;have:=t.lt f g r H;have e:(({ N with br:=[] }:Meet).ab i).bn.next=0:=P;rw[e]at this
 have:=r.1.1;omega
end
end Go.Proofs.YtdjfdfpkkenjbadGreatDoor
