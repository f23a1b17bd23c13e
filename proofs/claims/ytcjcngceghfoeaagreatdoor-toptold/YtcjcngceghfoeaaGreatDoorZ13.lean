/- Part 13 of the walk. -/
import Derived.Test.YtcjcngceghfoeaaGreatDoorZ12
set_option maxRecDepth 100000
set_option maxHeartbeats 4000000
open Go.Proofs.Tryz
set_option linter.unusedVariables false
namespace Go.Proofs.YtcjcngceghfoeaaGreatDoor
section
structure Alw where
 ca:Bool
 ld:Bool
 cr:Bool
 st:Bool
structure NInv(A:Alw)(i:Nat)(D:List Int->Prop)(Q:Let->Prop)(P:Nod->Prop):Prop where
 take:A.ca=true->∀ p l,P p->Q l->l.dst=i->p.up=true->P (p.take l)
 one:∀ p c,P p->p.up=true->p.ab[p.done]?=some c->doE p.ni c=0->P (Nod.hZ { p with ni:=doS p.ni c,done:=p.done+1 } c)
 ask:∀ p,P p->p.up=true->P (p.kc i).1/\∀ l∈(p.kc i).2,Q l
 prop:∀ p,P p->p.up=true->P p.cF
 ry:∀ p,P p->p.up=true->P p.ry
 run:∀ p q l,P p->p.up=true->p.bw=q::l->¬ p.sy<(p.d.length:Int)->P { p.lr i q with bw:=l }/\∀ m∈p.rh i q,Q m
 rk:∀ p,P p->p.up=true->p.leads=true->P (E7 p i 5)/\∀ l∈Dl p i 5,Q l
 lead:A.ld=true->∀ p,P p->p.up=true->P (p.lead i)
 sub:∀ p d ts,P p->D d->p.up=true->P (p.rE i d ts).1
 lp:A.cr=true->∀ p k,P p->0<=k->p.up=true->P (p.lp k)
 start:A.st=true->∀ p,P p->p.up=false->P p.start
theorem Oj(p:Nod)(i:Nat)(q:Pend)(x:List Pend):({ p with bw:=x }:Nod).lr i q={ p.lr i q with bw:=x }:=by
 cases q with
 | began b vs=>unfold Nod.lr;simp only;split<;>rfl
 | prop v =>
  unfold Nod.lr Nod.count;simp only;split
  .rfl
  .split<;>rfl
 | _=>rfl
theorem D9(p:Nod)(i:Nat)(q:Pend):(p.lr i q).bw=p.bw/\(p.lr i q).up=p.up/\(p.lr i q).d=p.d/\(p.lr i q).sy=p.sy:=by
 cases q with
 | began b vs=>unfold Nod.lr;simp only;split<;>exact⟨rfl,rfl,rfl,rfl⟩
 | prop v =>
  unfold Nod.lr Nod.count;simp only;split
  .exact⟨rfl,rfl,rfl,rfl⟩
  .split<;>exact⟨rfl,rfl,rfl,rfl⟩
 | _=>exact⟨rfl,rfl,rfl,rfl⟩
theorem Mb(p:Nod)(i:Nat)(q:Pend)(x:List Pend):({ p with bw:=x }:Nod).rh i q=p.rh i q:=by cases q<;>rfl
theorem DQ(p:Nod)(c:Cmd):(p.hZ c).up=p.up/\(p.hZ c).ab=p.ab/\(p.hZ c).done=p.done/\(p.hZ c).ni=p.ni:=by unfold Nod.hZ;split<;>exact⟨rfl,rfl,rfl,rfl⟩
theorem RZ(p:Nod)(l:List Cmd):(p.dT l).up=p.up:=by unfold Nod.dT;split<;>rfl
theorem Im(p:Nod)(i:Nat):(p.kc i).1.up=p.up:=by
 unfold Nod.kc;split
 .rfl
 .split
  .exact RZ _ _
  .rfl
theorem fg(p:Nod)(v:Vt):(p.cn v).1.up=p.up:=by
 unfold Nod.cn;split
 .rfl
 .split
  .rfl
  .split<;>rfl
theorem E2(p:Nod):p.cF.up=p.up:=by
 unfold Nod.cF;split
 .rfl
 .split
  .rfl
  .split
   .rfl
   .exact fg p _
theorem jk(p:Nod):p.ry.up=p.up:=by unfold Nod.ry;split<;>rfl
section
variable{A:Alw}{i:Nat}{D:List Int->Prop}{Q:Let->Prop}{P:Nod->Prop}
theorem NInv.rz(h:NInv A i D Q P)(l:List Cmd)(p:Nod)(e:List Tol)(d:P p)(a:p.up=true)(f:p.ab.drop p.done=l):P (rz i l p e).1/\(Go.Proofs.YtcjcngceghfoeaaGreatDoor.rz i l p e).1.up=true:=by
 induction l generalizing p e with
 | nil=>exact⟨d,a⟩
 | cons c l ih =>
  rw[Go.Proofs.YtcjcngceghfoeaaGreatDoor.rz];split
  .exact⟨d,a⟩
  .rename_i he
   have g:p.ab[p.done]?=some c:=by
    have:=congrArg (·[0]?) f;simpa using this
   have b:=DQ { p with ni:=doS p.ni c,done:=p.done+1 } c;refine ih _ _ (h.one p c d a g (mz.1 he)) (b.1.trans a) ?_;rw[b.2.1,b.2.2.1];show p.ab.drop (p.done+1)=l;rw[<- oU,f];rfl
theorem NInv.qW(h:NInv A i D Q P)(l:List Pend)(p:Nod)(ls:List Let)(b:P { p with bw:=l })(c:p.up=true)(k:p.bw=[])(j:¬ p.sy<(p.d.length:Int))(g:∀ m∈ls,Q m):P (qW i l p ls).1/\(∀ m∈(Go.Proofs.YtcjcngceghfoeaaGreatDoor.qW i l p ls).2,Q m)/\(Go.Proofs.YtcjcngceghfoeaaGreatDoor.qW i l p ls).1.up=true:=by
 induction l generalizing p ls with
 | nil =>
  refine⟨?_,g,c⟩;have:({ p with bw:=[] }:Nod)=p:=by cases p;simp_all
  rw[this]at b;exact b
 | cons q l ih =>
  have a:=D9 p i q;obtain⟨e,f⟩:=h.run { p with bw:=q::l } q l b c rfl j;rw[Oj]at e
  rw[Mb]at f
  exact ih (p.lr i q) (ls++p.rh i q) e (a.2.1.trans c) (a.1.trans k) (by rw[a.2.2.1,a.2.2.2];exact j) λm n=>(P'.1 n).elim (g m) (f m)
theorem NInv.piece(h:NInv A i D Q P)(p:Nod)(ls:List Let)(ts:List Tol)(y:P p)(z:p.up=true)(x:∀ m∈ls,Q m):P (p.piece i ls ts).1/\∀ m∈(p.piece i ls ts).2.1,Q m:=by
 obtain⟨s,n⟩:=h.rz _ p ts y z rfl;unfold Nod.piece;simp only;obtain⟨t,u⟩:=h.ask _ s n;have o:=(Im (Go.Proofs.YtcjcngceghfoeaaGreatDoor.rz i (p.ab.drop p.done) p ts).1 i).trans n;have f:=h.prop _ t o;have c:=(E2 ((Go.Proofs.YtcjcngceghfoeaaGreatDoor.rz i (p.ab.drop p.done) p ts).1.kc i).1).trans o;have a:∀ m∈ls++((Go.Proofs.YtcjcngceghfoeaaGreatDoor.rz i (p.ab.drop p.done) p ts).1.kc i).2,Q m:=λm g=>(P'.1 g).elim (x m) (u m);generalize ls++((Go.Proofs.YtcjcngceghfoeaaGreatDoor.rz i (p.ab.drop p.done) p ts).1.kc i).2=k at a ⊢;generalize ((Go.Proofs.YtcjcngceghfoeaaGreatDoor.rz i (p.ab.drop p.done) p ts).1.kc i).1.cF=r at f c ⊢;have b:P (r.ov i k).1/\(∀ m∈(r.ov i k).2,Q m)/\(r.ov i k).1.up=true:=by
  unfold Nod.ov;split
  .exact⟨f,a,c⟩
  .rename_i hn
   have j:=h.ry r f c;have l:r.ry.bw=r.bw:=by unfold Nod.ry;split<;>rfl
   refine h.qW r.bw { r.ry with bw:=[] } k (by rw[<- l];exact j) ((jk r).trans c) rfl ?_ a;show ¬ r.ry.sy<(r.ry.d.length:Int);unfold Nod.ry;split
   .rename_i h1
    have:CX r.d r.sy=0:=mz.1 λe=>hn ⟨h1,e⟩;have q:AR r.d r.sy:=by
     unfold CX at this;split at this
     .assumption
     .cases this
    show ¬ If r.d r.sy<((Hf r.d r.sy).length:Int);unfold If Hf;rw[if_pos q,if_pos q];exact qr _
   .rename_i h1;exact h1
 unfold Nod.bN;split
 .rename_i hL
  obtain⟨v,w⟩:=h.rk _ b.1 b.2.2 hL;exact⟨v,λm g=>(P'.1 g).elim (b.2.1 m) (w m)⟩
 .exact⟨b.1,b.2.1⟩
end
section
structure GInv(Q:Let->Prop)(P:Nat->Nod->Prop)(M:Meet):Prop where
 ae:∀ i,i<5->P i (M.ae i)
 br:∀ l∈M.br,Q l
variable{A:Alw}{D:Nat->List Int->Prop}{M:Meet}{P:Nat->Nod->Prop}{Q:Let->Prop}{R:List Tol->Prop}{i:Nat}{k:Int}{p:Nod}{x:Lac}
theorem GInv.set(h:GInv Q P M){i:Nat}{p:Nod}{ls:List Let}{ts:List Tol}(c:P i p)(b:∀ l∈ls,Q l):GInv Q P (M.set i p ls ts) :=
 ⟨λj a=>by
  show P j (upN M.ae i p j);unfold upN;split
  .rename_i e;rw[e];exact c
  .exact h.ae j a,b⟩
theorem GInv.pd(b:∀ i,i<5->NInv A i (D i) Q (P i))(c:A.ca=true){M:Meet}(h:GInv Q P M){l:Let}(d:Q l)(a:l.dst<5):GInv Q P (M.pd l):=by
 unfold Meet.pd;split
 .rename_i hu
  exact h.set (ls:=M.br) (ts:=M.ed) ((b _ a).take c _ l (h.ae _ a) d rfl hu) h.br
 .exact h
theorem GInv.comes(b:∀ i,i<5->NInv A i (D i) Q (P i))(c:A.ca=true)(l:List Let){M:Meet}(h:GInv Q P M)(a:∀ m∈l,Q m/\m.dst<5):GInv Q P (l.foldl (λM l=>M.pd l) M):=by
 induction l generalizing M with
 | nil=>exact h
 | cons x l ih=>exact ih (h.pd b c (a x O').1 (a x O').2) λm d=>a m (I' _ d)
structure Alw.Ok(A:Alw)(x:Lac):Prop where
 ca:x.k=4\/x.k=6\/x.k=7->A.ca=true
 ld:x.k=2->A.ld=true
 cr:x.k=8->A.cr=true
 st:x.k=9->A.st=true
theorem GInv.act(g:∀ i,i<5->NInv A i (D i) Q (P i)){n:Nat}{M:Meet}(h:GInv Q P M)(B:MOk n M){x:Lac}(C:LacOk x)(q:A.Ok x)(F:x.k=1->D x.n.toNat x.d):GInv Q P (M.act x):=by
 have b:∀ {k:Int},x.k=k->Gd k=true->x.n.toNat<5:=λ{k} e E=>by have:=C.n (by rw[e];exact E);omega
 unfold Meet.act;simp only;by_cases r:x.k=1
 .rw[if_pos r];have c:=b r rfl;refine h.set ?_ h.br;unfold Nod.rE;by_cases f:(M.ae x.n.toNat).up=true
  .exact(g _ c).sub _ x.d M.ed (h.ae _ c) (F r) f
  .unfold Nod.rG;rw[if_pos (by simpa using f)];exact h.ae _ c
 .rw[if_neg r];by_cases s:x.k=2
  .rw[if_pos s];have c:=b s rfl;refine h.set ?_ h.br;split
   .rename_i f;exact(g _ c).lead (q.ld s) _ (h.ae _ c) f
   .exact h.ae _ c
  .rw[if_neg s];by_cases u:x.k=3
   .rw[if_pos u];have c:=b u rfl;by_cases f:(M.ae x.n.toNat).up=true
    .have:=(g _ c).piece _ M.br M.ed (h.ae _ c) f h.br;rw[if_pos f,if_pos f,if_pos f];exact h.set this.1 this.2
    .rw[if_neg f,if_neg f,if_neg f];exact h.set (h.ae _ c) h.br
   .rw[if_neg u];by_cases w:x.k=4\/x.k=5\/x.k=6
    .rw[if_pos w];unfold Meet.move;split
     .exact h
     .rename_i l v
      have j:=mP v;have z:GInv Q P (if x.k≠6 then{ M with br:=M.br.eraseIdx (x.a.toNat%M.br.length) }else M):=by
       split
       .exact⟨h.ae,λm j=>h.br m (pq j)⟩
       .exact h
      simp only;split
      .rename_i h5
       exact z.pd g (q.ca (by omega)) (h.br l j) (B.br l j).dst
      .exact z
    .rw[if_neg w];by_cases y:x.k=7
     .rw[if_pos y];unfold Meet.rp;exact GInv.comes g (q.ca (by omega)) _ ⟨h.ae,λl v=>by cases v⟩ λm j=>⟨h.br m j,(B.br m j).dst⟩
     .rw[if_neg y];by_cases o:x.k=8
      .rw[if_pos o];have c:=b o rfl;refine h.set ?_ h.br;split
       .rename_i f;exact(g _ c).lp (q.cr o) _ x.p (h.ae _ c) (C.p (by rw[o];rfl)).1 f
       .exact h.ae _ c
      .rw[if_neg o];by_cases t:x.k=9
       .rw[if_pos t];have c:=b t rfl;refine h.set ?_ h.br;split
        .exact h.ae _ c
        .rename_i f;exact(g _ c).start (q.st t) _ (h.ae _ c) (by simpa using f)
       .rw[if_neg t];exact h
structure TInv(i:Nat)(D:List Int->Prop)(P:Nod->Prop)(R:List Tol->Prop):Prop where
 one:∀ p c ts,P p->p.up=true->p.ab[p.done]?=some c->doE p.ni c=0->(p.cl c).isSome=true->R ts->R (ts++[⟨i,c.c,c.s,doC p.ni c,doA p.ni c⟩])
 sub:∀ p d ts,P p->D d->p.up=true->opE d (p.done:Int)=0->FH d (p.done:Int)∈p.ab.take p.done->R ts->R (ts++[⟨i,(FH d (p.done:Int)).c,(FH d (p.done:Int)).s,doC p.ni (FH d (p.done:Int)),doA p.ni (FH d (p.done:Int))⟩])
theorem TInv.rz{D:List Int->Prop}{P:Nod->Prop}(h:NInv A i D Q P)(t:TInv i D P R)(l:List Cmd)(p:Nod)(b:List Tol)(j:P p)(e:p.up=true)(g:p.ab.drop p.done=l)(a:R b):R (rz i l p b).2:=by
 induction l generalizing p b with
 | nil=>exact a
 | cons c l ih =>
  rw[Go.Proofs.YtcjcngceghfoeaaGreatDoor.rz];split
  .exact a
  .rename_i he
   have f:p.ab[p.done]?=some c:=by
    have:=congrArg (·[0]?) g;simpa using this
   have d:=DQ { p with ni:=doS p.ni c,done:=p.done+1 } c;refine ih _ _ (h.one p c j e f (mz.1 he)) (d.1.trans e) ?_ ?_
   .rw[d.2.1,d.2.2.1];show p.ab.drop (p.done+1)=l;rw[<- oU,g];rfl
   .split
    .rename_i ha;exact t.one p c b j e f (mz.1 he) ha a
    .exact a
theorem Nu(M:Meet)(l:Let):(M.pd l).ed=M.ed:=by unfold Meet.pd;split<;>rfl
theorem RK(l:List Let)(M:Meet):(l.foldl (λM l=>M.pd l) M).ed=M.ed:=by
 induction l generalizing M with
 | nil=>rfl
 | cons x l ih=>exact(ih _).trans (Nu M x)
theorem VP(M:Meet)(k:Int)(a:Nat):(M.move k a).ed=M.ed:=by
 unfold Meet.move;split
 .rfl
 .simp only;split
  .rw[Nu];split<;>rfl
  .split<;>rfl
theorem Xf(M:Meet){x:Lac}(a:x.k≠1)(b:x.k≠3):(M.act x).ed=M.ed:=by
 unfold Meet.act;simp only;rw[if_neg a];split
 .rfl
 .split
  .exact VP _ _ _
  .split
   .exact RK _ _
   .split
    .rfl
    .split<;>rfl
theorem GInv.ed(g:∀ i,i<5->NInv A i (D i) Q (P i))(c:∀ i,i<5->TInv i (D i) (P i) R){M:Meet}(h:GInv Q P M)(a:R M.ed){x:Lac}(e:LacOk x)(f:x.k=1->D x.n.toNat x.d):R (M.act x).ed:=by
 by_cases b:x.k=1
 .have hi:x.n.toNat<5:=by have:=e.n (by rw[b];rfl);omega
  unfold Meet.act;simp only;rw[if_pos b];show R (Nod.rE _ _ _ _).2;unfold Nod.rE Nod.rG;split
  .exact a
  .rename_i hu
   split
   .exact a
   .rename_i he
    split
    .rename_i hm
     exact(c _ hi).sub _ _ _ (h.ae _ hi) (f b) (by simpa using hu) (mz.1 he) hm a
    .exact a
 .by_cases h3:x.k=3
  .have hi:x.n.toNat<5:=by have:=e.n (by rw[h3];rfl);omega
   unfold Meet.act;simp only;rw[if_neg b,if_neg (by omega),if_pos h3];show R (if _ then _ else _);split
   .rename_i hu
    exact TInv.rz (g _ hi) (c _ hi) _ _ _ (h.ae _ hi) hu rfl a
   .exact a
  .rw[Xf M b h3];exact a
theorem GInv.fa(c:∀ i,i<5->NInv A i (D i) Q (P i))(g:∀ i,i<5->TInv i (D i) (P i) R)(L:List Lac){n:Nat}{M:Meet}(b:MOk n M)(j:n+L.length<=1000000)(h:GInv Q P M)(e:R M.ed)(f:∀ x∈L,LacOk x/\A.Ok x/\(x.k=1->D x.n.toNat x.d)):GInv Q P (M.fa L)/\R (M.fa L).ed/\MOk (n+L.length) (M.fa L):=by
 induction L generalizing n M with
 | nil=>exact⟨h,e,b⟩
 | cons x L ih =>
  have a:=f x O';rw[mY]at j
  have:=ih (b.act (by omega) a.1) (by omega) (h.act c b a.1 a.2.1 a.2.2) (h.ed c g e a.1 a.2.2) λy l=>f y (I' _ l);rw[mY,show n+(L.length+1)=n+1+L.length by omega];exact this
theorem TInv.all(i:Nat)(D:List Int->Prop)(P:Nod->Prop):TInv i D P λ_=>True:=⟨λ_ _ _ _ _ _ _ _ _=>trivial,λ_ _ _ _ _ _ _ _ _=>trivial⟩
def Nod.ub(p:Nod):Bool × Nat:=(p.up,p.bad)
theorem LN(p:Nod)(b:Bal):(p.au b).1.ub=p.ub:=by
 unfold Nod.au;split
 .rfl
 .split
  .rfl
  .split<;>rfl
theorem UR(p:Nod)(v:Vt):(p.cn v).1.ub=p.ub:=by
 unfold Nod.cn;split
 .rfl
 .split
  .rfl
  .split<;>rfl
theorem Le(p:Nod)(j:Nat)(v:Vt):(p.count j v).ub=p.ub:=by
 unfold Nod.count;split
 .rfl
 .split<;>rfl
theorem Of(p:Nod)(to:Nat)(e:Int):(p.ew to e).ub=p.ub:=by unfold Nod.ew;split<;>rfl
theorem Lk(p:Nod)(l:List Cmd):(p.dT l).ub=p.ub:=by unfold Nod.dT;split<;>rfl
theorem Pv(p:Nod)(l:Let):(p.take l).ub=p.ub:=by
 unfold Nod.take;split
 .split
  .exact Of _ _ _
  .exact LN p l.hU
 .simp only;split<;>rfl
 .rfl
 .split
  .exact Of _ _ _
  .exact UR p l.cn
 .exact Le p _ _
 .split<;>rfl
 .simp only;split<;>exact Lk p l.gC
 .rfl
theorem ep(p:Nod)(i:Nat)(q:Pend):(p.lr i q).ub=p.ub:=by
 cases q with
 | began b vs=>unfold Nod.lr;simp only;split<;>rfl
 | prop v=>exact Le p i v
 | _=>rfl
theorem XR(i:Nat)(l:List Pend)(p:Nod)(a:List Let):(qW i l p a).1.ub=p.ub:=by
 induction l generalizing p a with
 | nil=>rfl
 | cons q l ih=>exact(ih _ _).trans (ep p i q)
theorem WR(p:Nod)(c:Cmd):(p.hZ c).ub=p.ub:=by unfold Nod.hZ;split<;>rfl
theorem gT(i:Nat)(l:List Cmd)(p:Nod)(a:List Tol):(rz i l p a).1.ub=p.ub:=by
 induction l generalizing p a with
 | nil=>rfl
 | cons c l ih =>
  rw[rz];split
  .rfl
  .exact(ih _ _).trans (WR _ _)
theorem bL(p:Nod)(i:Nat):(p.kc i).1.ub=p.ub:=by
 unfold Nod.kc;split
 .rfl
 .split
  .exact Lk _ _
  .rfl
theorem Tr(p:Nod):p.cF.ub=p.ub:=by
 unfold Nod.cF;split
 .rfl
 .split
  .rfl
  .split
   .rfl
   .exact UR p _
theorem aF(p:Nod)(i:Nat)(a:List Let):(p.ov i a).1.ub=p.ub:=by
 unfold Nod.ov;split
 .rfl
 .rw[XR];unfold Nod.ry;split<;>rfl
theorem WL(p:Nod)(i:Nat)(a:List Let):(p.bN i a).1.ub=p.ub:=by unfold Nod.bN;split<;>rfl
theorem Zq(p:Nod)(i:Nat)(a:List Let)(b:List Tol):(p.piece i a b).1.ub=p.ub:=by
 unfold Nod.piece;simp only;rw[WL,aF,Tr,bL,gT]
theorem Uo(p:Nod)(i:Nat):(p.lead i).ub=p.ub:=by
 unfold Nod.lead;simp only;split
 .rfl
 .exact LN p _
theorem Ua(M:Meet)(l:Let)(j:Nat):((M.pd l).ae j).ub=(M.ae j).ub:=by
 unfold Meet.pd;split
 .show(upN M.ae l.dst _ j).ub=_;unfold upN;split
  .rename_i h;rw[h];exact Pv _ _
  .rfl
 .rfl
theorem XB(l:List Let)(M:Meet)(j:Nat):((l.foldl (λM l=>M.pd l) M).ae j).ub=(M.ae j).ub:=by
 induction l generalizing M with
 | nil=>rfl
 | cons x l ih=>exact(ih _).trans (Ua M x j)
theorem dz(M:Meet)(k:Int)(a:Nat)(j:Nat):((M.move k a).ae j).ub=(M.ae j).ub:=by
 unfold Meet.move;split
 .rfl
 .simp only;split
  .rw[Ua];split<;>rfl
  .split<;>rfl
theorem II(M:Meet)(i:Nat)(p:Nod)(a:List Let)(b:List Tol)(j:Nat):(M.set i p a b).ae j=if j=i then p else M.ae j:=rfl
theorem gj(M:Meet){x:Lac}(f:x.k≠1)(g:x.k≠8)(h:x.k≠9)(j:Nat):((M.act x).ae j).ub=(M.ae j).ub:=by
 unfold Meet.act;simp only;rw[if_neg f];by_cases a:x.k=2
 .rw[if_pos a,II];split
  .rename_i e
   rw[e];split
   .exact Uo _ _
   .rfl
  .rfl
 .rw[if_neg a];by_cases b:x.k=3
  .rw[if_pos b,II];split
   .rename_i e
    rw[e];split
    .exact Zq _ _ _ _
    .rfl
   .rfl
  .rw[if_neg b];by_cases c:x.k=4\/x.k=5\/x.k=6
   .rw[if_pos c];exact dz _ _ _ _
   .rw[if_neg c];by_cases d:x.k=7
    .rw[if_pos d];exact XB _ _ _
    .rw[if_neg d,if_neg g,if_neg h]
theorem jh(M:Meet){x:Lac}(h:x.k=1)(j:Nat):((M.act x).ae j).ub=if j=x.n.toNat/\(M.ae j).up=true/\opE x.d ((M.ae j).done:Int)≠0 then((M.ae j).up,(M.ae j).bad+1)else(M.ae j).ub:=by
 unfold Meet.act;simp only;rw[if_pos h,II];by_cases f:j=x.n.toNat
 .subst f;rw[if_pos rfl];unfold Nod.rE Nod.rG;by_cases b:(M.ae x.n.toNat).up=false
  .rw[if_pos b,if_neg (by rw[b];simp)]
  .rw[if_neg b];have g:(M.ae x.n.toNat).up=true:=by simpa using b
   by_cases a:opE x.d ((M.ae x.n.toNat).done:Int)≠0
   .rw[if_pos a,if_pos ⟨rfl,g,a⟩];rfl
   .rw[if_neg a,if_neg (c:=_/\_) (λe=>a e.2.2)];split
    .rfl
    .show(Nod.want _ _).ub=_;unfold Nod.want;split<;>rfl
 .rw[if_neg f,if_neg (λe=>f e.1)]
theorem AJ(M:Meet)(L:List Lac)(x:Lac):M.fa (L++[x])=(M.fa L).act x:=by unfold Meet.fa;rw[oL];rfl
theorem Vb{L:List Lac}(h:L[i]?=some x):M.fa (L.take (i+1))=(M.fa (L.take i)).act x:=by rw[oq,h];exact AJ M (L.take i) x
theorem KM(L:List Lac)(h:∀ x∈L,LacOk x)(d:L.length<=100000):MOk L.length (AI.fa L):=by
 suffices ∀ i,i<=L.length->MOk i (AI.fa (L.take i))by have a:=this L.length (A' _);rwa [oh]at a
 intro i;induction i with
 | zero=>intro _;exact MOk.zero
 | succ i ih =>
  intro c;have b:L[i]?=some L[i]:=G' (by omega);rw[Vb b];exact(ih (by omega)).act (by omega) (h _ (m7 _))
theorem cN(g:Gr)(b:Bool):LacOk (ON g b):=by
 have d:=Bp g.a 5 (by omega);have e:=Bp g.c 20 (by omega);have f:=Bp g.c 90 (by omega);have h:(pkB g).length<=63:=by
  have:(pkP g).length=63:=LH (Zr g);unfold pkB;split
  .rw[X'];omega
  .omega
 rw[<- DF];unfold ON acN
 repeat' split
 all_goals simp[dl,Gd,Ij,Ik];try omega
theorem ZN{P:Lac->Prop}(b:P (acN 7 0)){a:Bool}(c:∀ g,P (ON g a))(s:Nat)(l:List Gr):∀ x∈LZ a s l,P x:=by
 induction l generalizing s with
 | nil=>intro x hx;cases hx
 | cons g l ih =>
  intro x hx;rcases mG.1 hx with rfl|hx
  .unfold Wv;split
   .exact b
   .exact c g
  .exact ih _ x hx
theorem ZP(l:List Gr)(m:Nat)(a:Bool):∀ x∈scr l m a,LacOk x:=ZN (by rw[<- DF];decide) (λg=>cN g a) _ _
theorem ZO(a:Bool)(s:Nat)(l:List Gr):(LZ a s l).length=l.length:=by
 induction l generalizing s with
 | nil=>rfl
 | cons g l ih=>rw[LZ,mY,ih,mY]
theorem UD(l:List Gr)(m:Nat)(a:Bool):(scr l m a).length<=m:=by unfold scr;rw[ZO,X'];omega
def Nod.tp(p:Nod):Prop:=AR p.d p.sy
theorem UY{d:List Int}{s:Int}{may:Prop}[Decidable may]{b:List Int}(h:CF d s may b=0):AR (FU d s may b) (GH d s may b):=by
 obtain⟨a,c,_⟩:=J9 h;unfold FU GH;rw[if_pos h,if_pos h];unfold AR at *;rw[H',Bg];omega
theorem LM(h:p.tp)(b:Bal):(p.au b).1.tp:=by
 unfold Nod.au;split
 .exact h
 .split
  .exact h
  .split
   .exact h
   .rename_i hw;exact UY (mz.1 hw)
theorem P4(h:p.tp)(v:Vt):(p.cn v).1.tp:=by
 unfold Nod.cn;split
 .exact h
 .split
  .exact h
  .split
   .exact h
   .rename_i hw;exact UY (mz.1 hw)
theorem Od(h:p.tp)(to:Nat)(e:Int):(p.ew to e).tp:=by unfold Nod.ew;split<;>exact h
theorem XC(h:p.tp)(j:Nat)(v:Vt):(p.count j v).tp:=by
 unfold Nod.count;split
 .exact h
 .split<;>exact h
theorem RY(h:p.tp)(l:List Cmd):(p.dT l).tp:=by unfold Nod.dT;split<;>exact h
theorem Ir(h:p.tp){k:Int}(c:0<=k):(p.lp k).tp/\(p.lp k).up=false/\(p.lp k).done=0/\(p.lp k).ab=[]:=by
 have a:Gk p.d p.sy k=0:=by unfold Gk;rw[if_neg (λe=>e h),if_neg (by omega)]
 unfold Nod.lp;rw[if_neg (λe=>e a)];refine⟨?_,rfl,rfl,rfl⟩;show AR (Ki p.d p.sy k) (Kj p.d p.sy k);unfold Ki Kj;rw[if_pos a,if_pos a];unfold Nod.tp AR at h;have b:0<=Gl p.d p.sy k/\Gl p.d p.sy k<=(p.d.length:Int):=by unfold Gl;split<;>omega
 unfold AR;rw[X'];omega
theorem G8(h:p.tp):p.start.tp/\p.start.up=true/\p.start.done=0/\p.start.ab=[]:=by
 have b:CX p.d p.sy=0:=if_pos h;have c:=Y1 p.d p.d.length;unfold Nod.start;rw[if_neg (λe=>e b)];split
 .refine⟨?_,rfl,rfl,rfl⟩;show AR (Js p.d p.sy) (LV p.d p.sy);unfold Js LV;have a:AR p.d p.sy:=h;rw[if_pos a,if_pos a];unfold Nod.tp AR at h;unfold AR;rw[X'];unfold Ef;split<;>omega
 .exact⟨h,rfl,rfl,rfl⟩
theorem jp(A:Alw)(i:Nat):NInv A i (λ_=>True) (λ_=>True) Nod.tp where
 take:=λ_ p l h _ _ _=>by
  unfold Nod.take;split
  .split
   .exact Od h _ _
   .exact LM h l.hU
  .simp only;split<;>exact h
  .exact h
  .split
   .exact Od h _ _
   .exact P4 h l.cn
  .exact XC h _ _
  .split<;>exact h
  .simp only;split<;>exact RY h l.gC
  .exact h
 one:=λp c h _ _ _=>by unfold Nod.hZ;split<;>exact h
 ask:=λp h _=>⟨by
  unfold Nod.kc;split
  .exact h
  .split
   .unfold Nod.dT;split<;>exact h
   .exact h,λ_ _=>trivial⟩
 prop:=λp h _=>by
  unfold Nod.cF;split
  .exact h
  .split
   .exact h
   .split
    .exact h
    .exact P4 h _
 ry:=λp h _=>by
  unfold Nod.ry;split
  .show AR (Hf p.d p.sy) (If p.d p.sy);unfold Hf If;have b:AR p.d p.sy:=h;rw[if_pos b,if_pos b];unfold Nod.tp AR at h;unfold AR;omega
  .exact h
 run:=λp q l h _ _ _=>⟨by
  have a:=D9 p i q;show AR (p.lr i q).d (p.lr i q).sy;rw[a.2.2.1,a.2.2.2];exact h,λ_ _=>trivial⟩
 rk:=λp h _ _=>⟨h,λ_ _=>trivial⟩
 lead:=λ_ p h _=>by
  unfold Nod.lead;simp only;split
  .exact h
  .exact LM h _
 sub:=λp d e h _ _=>by
  unfold Nod.rE Nod.rG;split
  .exact h
  .split
   .exact h
   .split
    .exact h
    .show(Nod.want _ _).tp;unfold Nod.want;split<;>exact h
 lp:=λ_ p k h a _=>(Ir h a).1
 start:=λ_ p h _=>(G8 h).1
def j6:Alw:=⟨true,true,true,true⟩
theorem bH(x:Lac):j6.Ok x:=⟨λ_=>rfl,λ_=>rfl,λ_=>rfl,λ_=>rfl⟩
theorem bE(L:List Lac)(h:∀ x∈L,LacOk x)(c:L.length<=100000){i:Nat}(a:i<5):((AI.fa L).ae i).tp :=
 (GInv.fa (R:=λ_=>True) (D:=λ_ _=>True) (Q:=λ_=>True) (P:=λ_=>Nod.tp) (λi _=>jp j6 i) (λi _=>TInv.all i _ _) L MOk.zero (by omega) ⟨λ_ _=>(by show AR [] 0;decide),λ_ _=>trivial⟩ trivial λx b=>⟨h x b,bH x,λ_=>trivial⟩).1.ae i a
theorem Va(M:Meet){i:Nat}(b:i<5)(a:(M.ae i).tp)(j:Nat):((M.act (acN 9 (i:Int))).ae j).up=if j=i then true else(M.ae j).up:=by
 show(upN M.ae (i:Int).toNat _ j).up=_;unfold upN;rw[nk];split
 .split
  .assumption
  .exact(G8 a).2.1
 .rfl
theorem gk(M:Meet){x:Lac}(c:x.k≠8){j:Nat}(a:(M.ae j).up=true):((M.act x).ae j).up=true:=by
 by_cases b:x.k=1
 .have:=congrArg Prod.fst (jh M b j);split at this
  .exact this.trans a
  .exact this.trans a
 .by_cases h9:x.k=9
  .unfold Meet.act;simp only;rw[if_neg b,if_neg (by omega),if_neg (by omega),if_neg (by omega),if_neg (by omega),if_neg (by omega),if_pos h9,II];split
   .rename_i e;rw[<- e,if_pos a];exact a
   .exact a
  .exact(congrArg Prod.fst (gj M b c h9 j)).trans a
theorem bF(L:List Lac)(a:∀ x∈L,x.k≠8)(M:Meet){j:Nat}(b:(M.ae j).up=true):((M.fa L).ae j).up=true:=by
 induction L generalizing M with
 | nil=>exact b
 | cons x L ih=>exact ih (λy c=>a y (I' _ c)) _ (gk M (a x O') b)
theorem AK(M:Meet)(L K:List Lac):M.fa (L++K)=(M.fa L).fa K:=oL
theorem ER{n:Int}(h:(k=2\/k=3\/k=9)/\0<=n/\n<=4):LacOk (acN k n):=by
 rw[<- DF];rcases h with⟨rfl|rfl|rfl,h1,h2⟩<;>simp[dl,acN,Gd,Ij,Ik]<;>omega
theorem L3{P:Lac->Prop}(h:∀ n:Nat,n<5->P (acN k (n:Int))){j:Nat}(c:j<=5):∀ x∈AD k j,P x:=by
 intro x b;obtain⟨n,a,rfl⟩:=mQ.1 b;exact h n (by have:=om.1 a;omega)
theorem Lm{P:Lac->Prop}(b:∀ n:Nat,n<5->P (acN 3 (n:Int)))(c:P (acN 7 0))(m:Nat):∀ x∈Ak m,P x:=by
 induction m with
 | zero=>intro x a;cases a
 | succ m ih =>
  intro x a;rcases P'.1 a with h|h
  .exact ih x h
  .rcases P'.1 h with h|h
   .exact L3 b (A' _) x h
   .rw[D'.1 h];exact c
theorem LY{P:Lac->Prop}(c:∀ n:Nat,n<5->P (acN 9 (n:Int)))(a:∀ n:Nat,n<5->P (acN 3 (n:Int)))(b:P (acN 7 0))(m:Nat):∀ x∈Dk m,P x:=by
 intro x d;rcases P'.1 d with h|h
 .exact L3 c (A' _) x h
 .exact Lm a b m x h
theorem Pj(m:Nat):∀ x∈Dk m,LacOk x:=LY (λn a=>ER ⟨.inr (.inr rfl),by omega,by omega⟩) (λn a=>ER ⟨.inr (.inl rfl),by omega,by omega⟩) (by rw[<- DF];decide) m
theorem iX(L:List Lac)(h:∀ x∈L,LacOk x)(m:Nat)(o:L.length+6*m+5<=100000){j:Nat}(b:j<5):((AI.fa (L++Dk m)).ae j).up=true:=by
 unfold Dk;rw[<- mA,AK];refine bF _ (Lm (λ_ _=>by show(3:Int)≠8;decide) (by decide) m) _ ?_;have d:∀ k,k<=5->j<k->((AI.fa (L++AD 9 k)).ae j).up=true:=by
  intro k;induction k with
  | zero=>intro _ h;omega
  | succ k ih =>
   intro l c;have a:∀ x∈L++AD 9 k,LacOk x:=λx g=>(P'.1 g).elim (h x) λe=>L3 (λn p=>ER ⟨.inr (.inr rfl),by omega,by omega⟩) (by omega) x e;have f:=bE (L++AD 9 k) a (by rw[H',Y7];omega) (i:=k) (by omega);rw[BR,<- mA,AJ,Va _ (by omega) f];split
   .rfl
   .exact ih (by omega) (by omega)
 exact d 5 (A' _) b
theorem QT{P:Lac->Prop}(c:∀ n:Nat,n<5->P (acN 9 (n:Int)))(a:∀ n:Nat,n<5->P (acN 3 (n:Int)))(b:P (acN 7 0)){i:Int}(e:P (acN 2 i))(l:List Lac):∀ x∈FN l i,P x:=by
 have d:∀ m,∀ x∈Cr m i,P x:=λm x hx=>by
  rcases P'.1 hx with hx|hx
  .rcases P'.1 hx with hx|hx
   .exact LY c a b 0 x hx
   .rw[D'.1 hx];exact e
  .exact LY c a b m x hx
 intro x hx;exact(P'.1 hx).elim (d _ x) (d _ x)
theorem ZW(l:List Lac)(i:Int):(FN l i).length<=1222+240*l.length:=by
 have b:(l.filter hvy).length<=l.length:=o8 _ _;have a:∀ m,(Dk m).length=5+6*m:=λm=>by unfold Dk;rw[H',Hz];rfl
 unfold FN Cr Fh;simp only[H',a,ny];omega
end
end
section
open Go.RowKit
variable{f:Nat->Cmd}{n:Nat}
theorem dp{c:Nat}(a:(sAt f n).L c≠0):∃ k,k<n/\(f k).k≠0/\(f k).c.toNat=c/\(f k).s+1=(sAt f n).L c/\cAt f k=0/\(sAt f n).C c=0/\aAt f k=(sAt f n).A c:=by
 induction n with
 | zero=>exact absurd rfl a
 | succ n ih =>
  simp only[sAt]at a ⊢;unfold dnS at a ⊢;split at a
  .rename_i h
   rw[if_pos h];simp only[MW]at a ⊢;by_cases e:c=(f n).c.toNat
   .subst e;refine⟨n,by omega,h.1,rfl,(Ds _ _ _).symm,?_,Ds _ _ _,?_⟩
    .unfold cAt dnC;rw[if_neg h.1,if_neg (by omega),if_neg h.2.1,if_neg (by rw[h.2.2];simp)]
    .unfold aAt dnA;rw[if_neg h.1,if_neg (by omega),if_neg h.2.1,if_neg (by rw[h.2.2];simp),Ds]
   .rw[Dt _ _ e]at a
    rw[Dt _ _ e,Dt _ _ e,Dt _ _ e];obtain⟨k,d,b⟩:=ih a;exact⟨k,by omega,b⟩
  .rename_i h
   rw[if_neg h];obtain⟨k,d,b⟩:=ih a;exact⟨k,by omega,b⟩
end
section
open Go.RowKit
section
variable{B b n off:Nat}{f:Nat->Cmd}{g:Gh}{w:World}{x:S3}
theorem Sl.sN(w:World)(l:List Int)(e:TypeId){g:Nat}(b:g=w.heap.size){n:Nat}(f:n=l.length)(d:l.length<=140737488351232)(a:∀ x∈l,0<=x/\x<256) :
  Sl (w.alloc (.cells (l.map (Value.int .u8)).toArray e)) (.slice (some ⟨g,0,none⟩) n n) l:=by
 subst b f;refine⟨⟨_,_,rfl,A' _,by simp,?_⟩,d,a⟩;refine .inr ⟨w.heap.size,0,rfl,by simp,λi c=>?_⟩;rw[cell_of_row _ _ (0+i) _ _ _ (heap_alloc_new w (.cells (l.map (Value.int .u8)).toArray e))];simp[List.getElem?_eq_getElem c,List.getD]
def zEn:Value:=.agg #[.int .i64 0,.int .i64 0,.int .i64 0,.int .i64 0,.int .i64 0,.int .i64 0,.int .i64 0,.slice none 0 0]
def tlA(s:Sto)(a:Option Addr)(n c:Nat):Array Value:=(stA s).push (.slice a n c)
theorem Kg(c a:Int)(w:World)(G:0<=c)(H:c<2147483648)(a0:0<=a)(F:a<2147483648) :
  Calls prog 46 #[.agg #[.int .i64 c,.int .i64 a]] w λe w'=>∃ v',e=.returned v'/\w'.ownsRow w.heap.size 5 1 v' (Ab c++Ab a).length ((Ab c++Ab a).map (Value.int .u8))/\Bw w w':=by
 obtain⟨d,rfl⟩:=mZ G;obtain⟨f,rfl⟩:=mZ a0;have u:Bw w (w.alloc (.cells #[.int .i64 (d:Int),.int .i64 (f:Int)] 41)):=(Below.refl _ _).alloc (A' _) _;have s:=heap_alloc_new w (.cells #[.int .i64 (d:Int),.int .i64 (f:Int)] 41);generalize J:w.alloc (.cells #[.int .i64 (d:Int),.int .i64 (f:Int)] 41)=W at u s;have M:W.cell? ⟨w.heap.size,0,none⟩=some (.int .i64 (d:Int)):=cell_of_row _ _ 0 _ _ _ s;have N:W.cell? ⟨w.heap.size,1,none⟩=some (.int .i64 (f:Int)):=cell_of_row _ _ 1 _ _ _ s;have R:w.heap.size<=W.heap.size:=u.size;go_enter func46,ntmps46
 go_wp2_with fail
 clear J M N s
 go_loopw [3,11] (λv iv wr=>∃ i:Nat,i<=2/\iv=.int .i64 (i:Int)/\Hid (wr.ownsRow w.heap.size 5 1 v (([Ab (d:Int),Ab (f:Int)].take i).flatten).length ((([Ab (d:Int),Ab (f:Int)].take i).flatten).map (Value.int .u8)))/\Bw w wr) (λ_ iv _=>(2-intOf iv).toNat)
 case atStart=>exact⟨0,by omega,rfl,World.ownsRow_nil _ _ _ _,u⟩
 case round =>
  obtain⟨i,Q,rfl,h,g⟩:=hrel;have b:=h.out;clear h;have l:=b.lt;have A:=g.size;by_cases P:i<2
  .have hm:∃ m:Nat,(m:Int)<2147483648/\(∀ W,(Instr.index 177 (.agg #[.int .i64 (d:Int),.int .i64 (f:Int)]) (.int .i64 (i:Int))).run prog W=.ok (.int .i64 (m:Int)) W)/\([Ab (d:Int),Ab (f:Int)].take (i+1)).flatten=([Ab (d:Int),Ab (f:Int)].take i).flatten++Ab (m:Int):=by
    rcases(by omega:i=0\/i=1)with rfl|rfl
    .exact⟨d,H,λW=>by kernel_rfl,by simp⟩
    .exact⟨f,F,λW=>by kernel_rfl,by simp⟩
   obtain⟨m,L,z,o⟩:=hm;have B:Hid _:=o;have q:(([Ab (d:Int),Ab (f:Int)].take i).flatten).length<=8:=by
    rcases(by omega:i=0\/i=1)with rfl|rfl<;>simp[Ab]
   clear o;have I:(i:Int)<2:=by omega
   generalize ([Ab (d:Int),Ab (f:Int)].take i).flatten=pre at b B q;have D:(m:Int)/16777216%256=(m:Int)/16777216:=by omega
   have C:Hid ([(m:Int)/16777216,(m:Int)/65536%256,(m:Int)/256%256,(m:Int)%256]=Ab (m:Int)):=by
    show _=[_,_,_,_];rw[D]
   have n:∀ x∈[(m:Int)/16777216,(m:Int)/65536%256,(m:Int)/256%256,(m:Int)%256],0<=x/\x<256:=by rw[C.out];exact Av _
   have t:Hid _:=n
   clear n D;go_wp2_with (at_builtin;refine Aa _ rfl _ _ 52 rfl w.heap.size 5 underlying52 Aw _ _ rfl rfl pre [(m:Int)/16777216,(m:Int)/65536%256,(m:Int)/256%256,(m:Int)%256] (b.alloc _) (Sl.sN _ _ _ rfl rfl (by simp) t.out) (by simp;omega) (by simp;omega) ?_)
   intro O E r p;have y:Bw w E:=(g.alloc A _).grown p (by simp;omega) (λk K=>(l k K).1);have j:Hid (E.ownsRow w.heap.size 5 1 O (([Ab (d:Int),Ab (f:Int)].take (i+1)).flatten).length ((([Ab (d:Int),Ab (f:Int)].take (i+1)).flatten).map (Value.int .u8))):=by
    unfold Hid;rw[B.out,<- C.out];simpa using r
   clear r p b l g z;go_wp2
   go_roundw
   case rel=>exact⟨i+1,by omega,by go_num,j,y⟩
   case measure=>simp[intOf];omega
  .obtain rfl:i=2:=by omega
   have j:Hid (wr.ownsRow w.heap.size 5 1 u3 (Ab (d:Int)++Ab (f:Int)).length ((Ab (d:Int)++Ab (f:Int)).map (Value.int .u8))):=by
    unfold Hid;simpa using b
   clear b l;go_wp2
   go_ret;exact⟨_,rfl,j.out,g⟩
theorem bj(a0:Option Addr)(c0:Nat)(d:List Int)(k c q n v C A:Int)(w:World)(hS:Sl w (.slice a0 32 c0) d)(hl:d.length=32)(he:Bi k c q n v=0)(C0:0<=C)(C1:C<2147483648)(A0:0<=A)(A1:A<2147483648)(hT:AB w)(hN:NTab w) :
  Calls prog 22 #[.slice a0 32 c0,.agg #[.int .i64 k,.int .i64 c,.int .i64 q,.int .i64 n,.int .i64 v],.agg #[.int .i64 C,.int .i64 A]] w λe w'=>∃ g cap,e=.returned (.tuple #[.slice (some ⟨g,0,none⟩) 32 cap,.int .i64 0])/\w.heap.size<=g/\So w' g cap (lnk d ⟨k,c,q,n,v⟩ C A)/\Bw w w':=by
 have W:Hid (d.length=32):=hl;clear hl;have a8:=hT;have a7:=hN;obtain⟨K,J⟩:∃ K,(w.alloc (.cells #[.int .i64 k,.int .i64 c,.int .i64 q,.int .i64 n,.int .i64 v] 51)).alloc (.cells #[.int .i64 C,.int .i64 A] 41)=K:=⟨_,rfl⟩;have o:K.heap[w.heap.size]?=some (.cells #[.int .i64 k,.int .i64 c,.int .i64 q,.int .i64 n,.int .i64 v] 51):=by rw[<- J];exact Mk _ _ _
 have s:K.heap[w.heap.size+1]?=some (.cells #[.int .i64 C,.int .i64 A] 41):=by rw[<- J];exact Ml _ _ _
 have P:Bw w K:=by rw[<- J];exact Ou _ _ _
 have r:w.heap.size<K.heap.size:=(U'.1 o).1;have p:(w.heap.size+1)<K.heap.size:=(U'.1 s).1;have M:=hT.af P;have E:=hN.af P;have z:=hS.af P;go_enter func22,ntmps22
 go_wp2_with ((with_reducible (refine DU ?_));(refine wpList_load_row rfl 51 _ rfl w.heap.size rfl 51 _ (0,0) _ o underlying51 rfl TX ?_))
 clear J;have key:=Li k c q n v K E;rw[he,OJ he]at key
 simp only[cmA]at key;refine(key).mono ?_;rintro e w1 ⟨v1,rfl,U,b⟩;have s1:=Sl.nn U (by rw[BX];omega) (GN _ _ _ _ _);rw[BX]at U
 obtain⟨g1,c1,rfl⟩:=Cz U;clear U key;have d1:=P.trans (b.mono P.size);have F:=M.af b;have G:=E.af b;have t:=(b.block _ r).trans o;have i:=Z' r b.size;have m:=(b.block _ p).trans s;have f:=Z' p b.size;have B:=z.af b;clear M E r o p s z;clear b;go_wp2_with ((with_reducible (refine DU ?_));(refine wpList_load_row rfl 41 _ rfl (w.heap.size+1) rfl 41 _ (0,0) _ m underlying41 rfl go ?_))
 refine(Kg C A w1 C0 C1 A0 A1).mono ?_;rintro e w2 ⟨v2,rfl,S,a⟩;have s2:=Sl.nn S (by simp[Ab]) (λx hx=>by rcases P'.1 hx with h|h;(· exact Av _ x h);exact Av _ x h);replace S:w2.ownsRow _ 5 1 v2 8 _:=S;obtain⟨g2,c2,rfl⟩:=Cz S;clear S;have d2:=d1.trans (a.mono d1.size);have H:=F.af a;have I:=G.af a;have y:=(a.block _ i).trans t;have l:=Z' i a.size;have u:=(a.block _ f).trans m;have j:=Z' f a.size;have D:=B.af a;have N:=s1.af a;clear F G i t f m B s1;clear a;go_wp2_with fail
 refine(bX _ _ _ d (Dm k c q n v) (Ab C++Ab A) w2 _ _ rfl D N s2 (by rw[W.out];omega) (by rw[BX];omega) (by simp[Ab]) (by rw[W.out];omega)).mono ?_;rintro e w3 ⟨v3,rfl,V,L⟩;have T:(d++(Dm k c q n v++(Ab C++Ab A))).length=60:=by rw[H',W.out,H',BX];rfl
 have s3:=Sl.nn V (by rw[T];omega) (λx hx=>by rcases P'.1 hx with h|h;(· exact D.byte x h);rcases P'.1 h with h|h;(· exact GN _ _ _ _ _ x h);rcases P'.1 h with h|h;(· exact Av _ x h);exact Av _ x h);rw[T]at V
 obtain⟨g3,c3,rfl⟩:=Cz V;clear V;have Y:=d2.trans (L.mono d2.size);have O:=H.af L;have a6:=I.af L;have a5:=(L.block _ l).trans y;have a3:=Z' l L.size;have a4:=(L.block _ j).trans u;have a2:=Z' j L.size;clear H I l y j u;clear L;have R:(d++(Dm k c q n v++(Ab C++Ab A))).length<=2000:=by rw[T];omega
 clear T;go_wp2_with fail
 refine(eK _ (d++(Dm k c q n v++(Ab C++Ab A))) w3 s3 R O).mono ?_;rintro e w4 ⟨v4,rfl,o4,b4⟩;obtain⟨Z,c4,rfl,Q,s4⟩:=So.nn o4 (As _) (Dn _);have dd:=Y.trans (b4.mono Y.size);have a1:w.heap.size<=Z:=my Y.size Q;have X:Hid (So w4 Z c4 (lnk d ⟨k,c,q,n,v⟩ C A)):=s4;clear s4 s3 b4 Q R o4;go_wp2
 go_ret2
 exact⟨Z,c4,rfl,a1,X.out,dd⟩
structure En where
 m:Cmd
 c:Int
 a:Int
 y:S3
 g:List Int
def enV(e:En):List Value:=[iv e.m.k,iv e.m.c,iv e.m.s,iv e.m.n,iv e.m.v,iv e.c,iv e.a,e.y.v]
def enL(E:List En):List Value:=E.flatMap enV
theorem XX(E:List En)(e:En):enL (E++[e])=enL E++enV e:=by simp[enL]
theorem cA(E:List En):(enL E).length=E.length*8:=Eu (f:=enV) (λ_=>rfl) E
def O4(g:Gh)(w:World)(E:List En):Prop:=∀ e∈E,FSl g w e.y e.g
variable{E:List En}
theorem O4.ch{T:List Tg}{a:Gh}{b:World}(h:O4 g w E)(c:Cg B T g w a b)(e:Tg.z∉T:=by simp):O4 a b E:=λp d=>(h p d).ch c e
def Fa.oe(r:Nat)(x:S3)(E:List En):Fa:=⟨some r,λg w=>OwnS g w (.n 60 r) true 54 8 x (enL E)/\O4 g w E,λhz hr c h=>⟨h.1.ch c (hr r rfl) (by simp),h.2.ch c hz⟩⟩
def Fa.sm(E:List En):Fa:=⟨none,λg w=>O4 g w E,λhz _ c h=>h.ch c hz⟩
theorem O4.snoc(h:O4 g w E){e:En}(k:FSl g w e.y e.g):O4 g w (E++[e]):=λp a=>(P'.1 a).elim (h p) λq=>by rw[D'.1 q];exact k
def Fa.en(x:S3)(E:List En):Fa:=⟨none,λg w=>FzV g w x 8 (enL E)/\O4 g w E,λhz _ c h=>⟨h.1.ch c hz,h.2.ch c hz⟩⟩
def chQ(f:Nat->Cmd)(n:Nat)(E:List En):Prop:=E.map (λe=>(e.m,e.c,e.a,e.g))=(List.range n).map λi=>(f i,cAt f i,aAt f i,gAt f (i+1))
theorem chQ.len(h:chQ f n E):E.length=n:=by have:=congrArg List.length h;simpa using this
theorem chQ.snoc(h:chQ f n E)(y:S3):chQ f (n+1) (E++[⟨f n,cAt f n,aAt f n,y,gAt f (n+1)⟩]):=by
 unfold chQ;rw[mS,h,n7,mS];rfl
theorem chQ.at(h:chQ f n E){i:Nat}(d:i<n):∃ y,E[i]?=some ⟨f i,cAt f i,aAt f i,y,gAt f (i+1)⟩:=by
 have b:=congrArg (·[i]?) h;simp only[ng,nU d,nm]at b;cases hq:E[i]? with
 | none=>rw[hq]at b;cases b
 | some e =>
  rw[hq]at b
  obtain⟨m,c,a,y,g⟩:=e;simp only[nm,Y',nw]at b;obtain⟨rfl,rfl,rfl,rfl⟩:=b;exact⟨y,rfl⟩
structure EnN(B:Nat)(w:World)(x:S3)(E:List En):Prop where
 o:OwN B w 54 8 x (enL E)
 d:∀ e∈E,Sl w e.y.v e.g/\Nb B e.y e.g
theorem EnN.en(h:EnN B w x E)(G:∀ b,B<=b->g.t b=.z):(Fa.en x E).p g w:=⟨h.o.fz G,λp a=>Ct (h.d p a).1 (h.d p a).2 G⟩
theorem U7{W:World}(c:x.a=some ⟨b,off,none⟩)(j:Nat)(d:j<x.n):(Instr.indexAt 37 x.v (iv (j:Int))).run prog W=.ok (pt b (off+8*j)) W:=by
 obtain⟨f,h,g⟩:=x;simp only at c d;subst c;exact Kv (P:=prog) (e:=54) (z:=8) underlying37 (by kernel_rfl) (by kernel_rfl) d _ rfl
theorem jJ(h:(Fa.en x E).p g w):x.n=E.length:=by
 have:=h.1.rd.len;rw[cA]at this;omega
theorem PU(h:(Fa.en x E).p g w){i b c:Nat}(o:x.a=some ⟨b,c,none⟩){e:En}(k:E[i]?=some e){j:Nat}{u:Value}(n:(enV e)[j]?=some u):w.cell? ⟨b,c+8*i+j,none⟩=some u:=by
 have s:=jJ h;have r:=(V'.1 k).1;obtain⟨q,l,d,_,m⟩:=h.1.rd.spot (i:=i) (by omega);rw[o]at d;cases d
 exact m j u (GR (f:=enV) (sz:=8) (λ_=>rfl) E k n)
end
section
variable{P:Program}{fn:Func}{R:Ending->World->Prop}{w0:World}{Φ:List Fa}{g:Gh}{w:World}
theorem tMk{s:Xs}(i r c:Nat)(t e:TypeId)(j a:Nat)(z:Value)(Q:a*c<=281474976710656)(B:c<=maxLen)(K:Φ.all (λf=>f.ro != some r)=true)
  (J:∀ x' g' w',x'.n=0->GT P fn R w0 (Fa.ow r e j x' []::Φ) (nxt s i (S3.v x') s.L).s g' w')
  (M:P.underlying t=some (.slice e):=by kernel_rfl)(d:(P.info? e).map (λi=>(i.zero,i.size,i.bytes))=some (some z,j,a):=by kernel_rfl)
  (b:Du s i=some (Instr.makeSlice t (.int .i64 0) (.int .i64 (c:Int))>>=λv=>pure (.value v)):=by kernel_rfl)(q:(nxt s i undef s.L).o.map Ob.l'=(nxt s i undef s.L).o.map Ob.r':=by kernel_rfl):GT P fn R w0 Φ s g w:=by
 refine⟨λF C=>Ko i s.L q (BT b) λA O S o u=>?_⟩;obtain⟨y,I,N,x,p⟩:=info_parts d;have l:(c:Int)<=9223372036854775807:=by have h:=B;simp[maxLen]at h;omega
 have D:=run_make (P:=P) w t e y z M I N .i64 .i64 0 (c:Int) (mx _) (by omega) (by rw[p];have:((a*c:Nat):Int)<=281474976710656:=(by omega);rwa [p8]at this) l;simp only[Int.toNat_zero,nk,x]at D;have E:Bw w (w.alloc (.cells (madeCells z.cells (c*j)) e)):=(Below.refl _ _).alloc (A' _) _;have H:OwN w.heap.size (w.alloc (.cells (madeCells z.cells (c*j)) e)) e j ⟨some ⟨w.heap.size,0,none⟩,0,c⟩ []:=⟨by simp,.inr ⟨w.heap.size,_,A' _,rfl,heap_alloc_new _ _,mV _,B,size_madeCells _ _,by simp⟩⟩;obtain⟨g',k,G,m,_⟩:=H.take E A.new r;refine⟨_,_,g',.inl ?_,A.ch (k w.heap.size) G (by simp),(J ⟨some ⟨w.heap.size,0,none⟩,0,c⟩ g' _ rfl).ex ⟨m,F.rA (k w0.heap.size)⟩ (C.trans ((k _).nil TQ))⟩;rw[Dv b u,Sem.run_bind,D,Result.andThen_ok];rfl
theorem qE6{B:Nat}{T:List Tg}{s:Xs}(u p m:Tmp)(c:TypeId)(i b:Nat)(a:Array Value)(v q:Value)(h:Kn B g w s.L->R (.returned (.tuple #[v,.agg a,q])) w)(H:(s.L[i]?).map (λx=>(x.g,CK x.o,DT x.o))=some (b,a,true):=by kernel_rfl)(A:fn.results=#[.tmp u,.cell p c,.tmp m]:=by kernel_rfl)(D:s.f.act.tmps.getD p undef=pt b 0:=by kernel_rfl)(G:s.f.act.tmps.getD u undef=v:=by kernel_rfl)(k:s.f.act.tmps.getD m undef=q:=by kernel_rfl)(F:Ga P c=true:=by kernel_rfl)(C:(P.info? c).map (·.size)=some a.size:=by kernel_rfl)(E:Lj s.K=true:=by kernel_rfl):GG P fn R B T s g w :=
 Sm _ E (λK=>by
  obtain⟨e,y⟩:=K.sG H;obtain⟨d,r,t⟩:=G3 F;have j:s.f.act.tmps[p]?.getD undef=.pointer (some ⟨b,0,none⟩):=by simpa using D
  rw[<- G,<- k];simp[results,A,j,asAddr,run_loadVar_row w b e c a (0,0) d y r (by cases d<;>first|rfl|cases t) C]) h
end
section
variable{A C:Int}{a0:Option Addr}{c0:Nat}{m:Cmd}{s:Sto}{sum:List Int}{w:World}
theorem jt(f:NTab w)(i:EZ s)(h:m.e=0){S:Sto}{C A:Int}(g:dnS s m=S)(d:dnC s m=C)(b:dnA s m=A) :
  Calls prog 21 #[.agg (stA s),.agg #[iv m.k,iv m.c,iv m.s,iv m.n,iv m.v]] w λe w'=>e=.returned (.tuple #[.agg (stA S),.agg #[iv C,iv A],iv 0])/\Bw w w':=by
 subst g d b;have a:doE s m=0:=(OH i).trans h;have:=gb s m w f
 rwa [a,OI a,RS a,RR a]at this
theorem fh(l:Sl w (.slice a0 32 c0) sum)(r:sum.length=32)(q:m.e=0)(i:(C=0\/C=7\/C=11)/\VaB A)(o:AB w)(j:NTab w) :
  Calls prog 22 #[.slice a0 32 c0,.agg #[iv m.k,iv m.c,iv m.s,iv m.n,iv m.v],.agg #[iv C,iv A]] w λe w'=>∃ za zc,e=.returned (.tuple #[.slice za 32 zc,iv 0])/\Sl w' (.slice za 32 zc) (lnk sum m C A)/\(∀ a,za=some a->w.heap.size<=a.block)/\Bw w w':=by
 unfold VaB at i;refine(bj a0 c0 sum m.k m.c m.s m.n m.v C A w l r q (by omega) (by omega) (by omega) (by omega) o j).mono ?_;rintro e w' ⟨g,b,rfl,d,f,h⟩;exact⟨_,_,rfl,f.sl,λa p=>by cases p;exact d,h⟩
theorem ai{b:Nat}(h:w.heap[b]?=some (.cells (List.replicate 32 (Value.int .u8 0)).toArray 5)):Sl w (.slice (some ⟨b,0,none⟩) 32 32) (List.replicate 32 0):=by
 refine⟨⟨_,_,rfl,A' _,λe=>(by cases e),.inr ⟨b,0,rfl,rl h,λi a=>?_⟩⟩,by simp,λx c=>?_⟩
 .rw[cell_of_row _ _ _ _ _ _ h];have a:i<32:=by simpa using a
  simp only[nu,na,List.getElem?_replicate,if_pos a,mU,pU]
 .obtain rfl:=po c;omega
theorem Xr(w:World) :
  Calls prog 14 #[] w λe w'=>∃ za zc,e=.returned (.agg (tlA AN za 32 zc))/\Sl w' (.slice za 32 zc) (List.replicate 32 0)/\(∀ a,za=some a->w.heap.size<=a.block)/\Bw w w':=by
 refine tIn [] func14 trivial (tR 10 [1,0,1,0,0,0] λb _ _=>tX λF C=>Af λK=>?_);obtain⟨c,_,d,_⟩:=K.row _ (mP (show _[1]?=some ⟨(b 1),.cells (List.replicate 32 (Value.int .u8 0)).toArray 5,.l,true⟩from by kernel_rfl));exact qE1 0 64 0 (b 0) (tlA AN (some ⟨(b 1),0,none⟩) 32 32) λ_=>⟨_,_,rfl,ai c,λa f=>by cases f;exact d rfl,CgQ.af C⟩
theorem VH(x:Sl w (.slice a0 32 c0) sum)(z:sum.length=32)(r:EZ s)(f:AnB s)(i:m.e=0)(y:AB w)(q:NTab w){S:Sto}{K A:Int}(d:dnS s m=S)(p:dnC s m=K)(l:dnA s m=A) :
  Calls prog 15 #[.agg (tlA s a0 32 c0),.agg #[iv m.k,iv m.c,iv m.s,iv m.n,iv m.v]] w λe w'=>∃ za zc,e=.returned (.tuple #[.agg #[iv m.k,iv m.c,iv m.s,iv m.n,iv m.v,iv K,iv A,.slice za 32 zc],.agg (tlA S za 32 zc),iv 0])/\Sl w' (.slice za 32 zc) (lnk sum m K A)/\(∀ a,za=some a->w.heap.size<=a.block)/\Bw w w':=by
 have o:=jI r f i;rw[p,l]at o
 refine tIn [] func15 trivial (tR 13 [0,0,0,0,1,0,1,0,0,1] λb _ _=>tC1 3 (λF C=>jt (q.af (CgQ.af C)) r i d p l) λ_=>tR 24 [1,0,1,0,4,0,5,0,0,1,5] λD _ _=>tF λ_ j=>tC 4 (λF C=>fh (x.af (CgQ.af C)) z i o (y.af (CgQ.af C)) (q.af (CgQ.af C))) λt=>?_);rintro _ _ ⟨za,zc,rfl,B,g,u⟩;refine⟨_,Fa.sl ⟨za,32,zc⟩ (lnk sum m K A)::_,rfl,u,λF=>⟨⟨B,λ_ a f=>t _ (g a f)⟩,F⟩,?_⟩;refine tR 21 [7,0,1,2,5,4,6,10] λE _ _=>Ih 4 7 ?_ ?_
 .refine tR 6 [4,12,15,2,0,17,3,0,18] λG _ _=>tX λF C=>qE5 4 5 6 54 64 2 (b 2) 3 (b 3) #[iv m.k,iv m.c,iv m.s,iv m.n,iv m.v,iv K,iv A,.slice za 32 zc] (tlA S za 32 zc) (iv 0) λ_=>⟨za,zc,rfl,F.1.s,λa h=>my j.size (g a h),CgQ.af C⟩
 .refine tR 6 [2,0,9,4,12,17,3,0,18] λH _ _=>tX λF C=>qE5 4 5 6 54 64 2 (b 2) 3 (b 3) #[iv m.k,iv m.c,iv m.s,iv m.n,iv m.v,iv K,iv A,.slice za 32 zc] (tlA S za 32 zc) (iv 0) λ_=>⟨za,zc,rfl,F.1.s,λa h=>my j.size (g a h),CgQ.af C⟩
theorem X1{x:S3}{l:List Cmd}(h:RdV w x 5 (cmL l))(hl:l.length<=200)(he:∀ c∈l,c.e=0)(hT:AB w)(hN:NTab w){f:Nat->Cmd}(hf:∀ i c,l[i]?=some c->f i=c) :
  Calls prog 9 #[x.v] w λe w'=>∃ z E,e=.returned (.tuple #[S3.v z,.agg (stA (sAt f l.length)),iv 0])/\chQ f l.length E/\EnN w.heap.size w' z E/\Bw w w':=by
 have hx:=gM h;have W:∀ j,j<l.length->(f j).e=0:=λj X=>by rw[hf j _ (G' X)];exact he _ (m7 X)
 refine tIn [Fa.zv x 5 (cmL l)] func9 ⟨h.fz,trivial⟩ (tR 13 [1,0] λb _ _=>tI ((decide (200<(x.n:Int)))) false (E' (by omega)) (tR 3 [] λa7 _ _=>tF λ_ N=>?_));have Y:=N.size;refine tC 0 (λF C=>Xr _) λO=>?_;rintro _ _ ⟨r,zc,rfl,hz,hb,b3⟩;refine⟨_,Fa.sl ⟨r,32,zc⟩ (gAt f 0)::_,rfl,b3,λF=>⟨⟨hz,λ_ a q=>O _ (hb a q)⟩,F⟩,?_⟩;refine tR 7 [1,0,1,0] λm _ _=>tMk 2 0 x.n 37 54 8 80 zEn (by omega) (by unfold maxLen;omega) rfl (λy5 _ _ n5=>?_);refine tR 10 [] λa8 _ _=>D1 46 [(20,S3.v x),(21,iv (x.n:Int)),(22,iv 0),(3,pt (b 0) 0),(5,pt (m 0) 0),(6,S3.v y5)] [true,true] [⟨(b 0),.cells #[iv 0,iv 0,iv 0,iv 0,iv 0,iv 0,iv 0,iv 0,iv 0,iv 0,iv 0,iv 0,iv 0,iv 0,iv 0,iv 0,iv 0,iv 0,iv 0,iv 0,iv 0,iv 0,iv 0,iv 0,iv 0,iv 0,iv 0,iv 0,iv 0,iv 0,iv 0,iv 0,.bool false,.bool false,.bool false,.bool false,.bool false,.bool false,.bool false,.bool false] 45,.l,false⟩,⟨(m 0),.cells #[iv (AN.V 0),iv (AN.V 1),iv (AN.V 2),iv (AN.V 3),iv (AN.V 4),iv (AN.V 5),iv (AN.V 6),iv (AN.V 7),iv (AN.L 0),iv (AN.L 1),iv (AN.L 2),iv (AN.L 3),iv (AN.L 4),iv (AN.L 5),iv (AN.L 6),iv (AN.L 7),iv (AN.C 0),iv (AN.A 0),iv (AN.C 1),iv (AN.A 1),iv (AN.C 2),iv (AN.A 2),iv (AN.C 3),iv (AN.A 3),iv (AN.C 4),iv (AN.A 4),iv (AN.C 5),iv (AN.A 5),iv (AN.C 6),iv (AN.A 6),iv (AN.C 7),iv (AN.A 7),.bool (AN.R 0),.bool (AN.R 1),.bool (AN.R 2),.bool (AN.R 3),.bool (AN.R 4),.bool (AN.R 5),.bool (AN.R 6),.bool (AN.R 7),.slice r 32 zc] 64,.l,false⟩] [Fa.oe 0 y5 [],Fa.sl ⟨r,32,zc⟩ (gAt f 0),Fa.zv x 5 (cmL l)] (λkk ee LL M=>∃ (i:Nat) (y:S3) (E:List En) (r:Option Addr) (zc:Nat),kk=x.n-i/\ee=[(20,S3.v x),(21,iv (x.n:Int)),(22,iv (i:Int)),(3,pt (b 0) 0),(5,pt (m 0) 0),(6,S3.v y)]/\LL=[⟨(b 0),.cells (stA AN) 45,.l,false⟩,⟨(m 0),.cells (tlA (sAt f i) r 32 zc) 64,.l,false⟩]/\M=[Fa.oe 0 y E,Fa.sl ⟨r,32,zc⟩ (gAt f i),Fa.zv x 5 (cmL l)]/\i<=l.length/\y.n=i/\chQ f i E/\(∀ e∈E,Nb w.heap.size e.y e.g)/\∀ a,r=some a->w.heap.size<=a.block) (x.n) ⟨0,y5,[],r,zc,rfl,rfl,rfl,rfl,by omega,n5,rfl,λ_ h=>(by cases h),λa q=>my Y (hb a q)⟩ (λF=>⟨⟨F.1,λ_ h=>(by cases h)⟩,F.2⟩) ?_;rintro k _ _ _ ⟨i,y,E,r,zc,rfl,rfl,rfl,rfl,hi,hy,Q,D,a5⟩ _ _ _ J hJ;refine tR 5 [] λa9 _ _=>?_;by_cases h1:i<l.length
 .refine tI ((decide ((i:Int)<(x.n:Int)))) true (M' (by omega)) ?_;obtain⟨c,T⟩:∃ c,l[i]?=some c:=⟨_,G' (by omega)⟩;have d:=hf i c T;have U:=he c (mP T);have a4:=Q.len;obtain⟨sB,sA⟩:=er (f:=f) (i:=i) λj X=>W j (by omega);refine tF λF _=>?_;obtain⟨bx,ox,H⟩:=F.2.2.1.rd.rc.addr (k:=i) (by omega);refine tR 5 [] λb0 _ _=>tV 0 (pt bx (ox+5*i)) (λF C=>(Oa H i (by omega))) (tV 1 (.agg #[iv c.k,iv c.c,iv c.s,iv c.n,iv c.v]) (λF C=>(Wl c λq_ u Z=>F.2.2.1.rd.rc.cellAt H T Z)) (tR 7 [0,0,2,0,1,2] λa0 _ _=>tF λF N=>?_));have G:=N.size;refine tC 2 (λF C=>VH F.2.1.s (Si f i) sB sA U (hT.af (CgQ.af C)) (hN.af (CgQ.af C)) (S:=sAt f (i+1)) (K:=cAt f i) (A:=aAt f i) (by rw[<- d];rfl) (by rw[<- d];rfl) (by rw[<- d];rfl)) λO=>?_;rintro _ _ ⟨o,p,rfl,Z,B,P⟩;refine⟨_,Fa.sl ⟨o,32,p⟩ (gAt f (i+1))::_,rfl,P,λF=>⟨⟨by rw[show gAt f (i+1)=lnk (gAt f i) c (cAt f i) (aAt f i)from by rw[<- d];rfl];exact Z,λ_ a q=>O _ (B a q)⟩,F⟩,?_⟩;refine tR 23 [0,0,0,0,3,0,4,0,6,0,2,3,8,4,5,0,0] λt _ _=>tCv [Fa.ow 0 54 8 y (enL E),Fa.sm E,Fa.sl ⟨o,32,p⟩ (gAt f (i+1)),Fa.zv x 5 (cmL l)] (λF=>⟨F.2.1.1,F.2.1.2,F.1,F.2.2.2.1,trivial⟩) (Mh 3 0 (x:=y) 37 37 54 8 80 (zEn) ⟨(t 2),0,none⟩ 1 1 [iv c.k,iv c.c,iv c.s,iv c.n,iv c.v,iv (cAt f i),iv (aAt f i),.slice o 32 p] (λF=>F.1) [Fa.sm E,Fa.sl ⟨o,32,p⟩ (gAt f (i+1)),Fa.zv x 5 (cmL l)] (λF=>⟨F.2.1,F.2.2.1,F.2.2.2.1,trivial⟩) rfl (by simp[TQ]) rfl (by simp[Value.oneCell']) (λF K=>Cu K 5 (t 2) [iv c.k,iv c.c,iv c.s,iv c.n,iv c.v,iv (cAt f i),iv (aAt f i),.slice o 32 p] 54 .z true (by kernel_rfl)) (by unfold maxLen;omega) (by omega) λI _ _ a6=>tCv [Fa.oe 0 I (E++[⟨c,cAt f i,aAt f i,⟨o,32,p⟩,gAt f (i+1)⟩]),Fa.sl ⟨o,32,p⟩ (gAt f (i+1)),Fa.zv x 5 (cmL l)] (λF=>⟨⟨XX E _▸F.1,F.2.1.snoc (e:=⟨c,cAt f i,aAt f i,⟨o,32,p⟩,gAt f (i+1)⟩) F.2.2.1⟩,F.2.2⟩) (tR 5 [10,13,1,0] λa1 _ _=>tV 0 (iv ((i:Int)+1)) (λF C=>(AO 22 (i:Int) underlying3 (by omega))) (tR 2 [] λa2 _ _=>tB hJ (x.n-(i+1)) (by omega) [true,true,false,false,false,false] (L':=[⟨(b 0),.cells (stA AN) 45,.l,false⟩,⟨(m 0),.cells #[iv ((sAt f (i+1)).V 0),iv ((sAt f (i+1)).V 1),iv ((sAt f (i+1)).V 2),iv ((sAt f (i+1)).V 3),iv ((sAt f (i+1)).V 4),iv ((sAt f (i+1)).V 5),iv ((sAt f (i+1)).V 6),iv ((sAt f (i+1)).V 7),iv ((sAt f (i+1)).L 0),iv ((sAt f (i+1)).L 1),iv ((sAt f (i+1)).L 2),iv ((sAt f (i+1)).L 3),iv ((sAt f (i+1)).L 4),iv ((sAt f (i+1)).L 5),iv ((sAt f (i+1)).L 6),iv ((sAt f (i+1)).L 7),iv ((sAt f (i+1)).C 0),iv ((sAt f (i+1)).A 0),iv ((sAt f (i+1)).C 1),iv ((sAt f (i+1)).A 1),iv ((sAt f (i+1)).C 2),iv ((sAt f (i+1)).A 2),iv ((sAt f (i+1)).C 3),iv ((sAt f (i+1)).A 3),iv ((sAt f (i+1)).C 4),iv ((sAt f (i+1)).A 4),iv ((sAt f (i+1)).C 5),iv ((sAt f (i+1)).A 5),iv ((sAt f (i+1)).C 6),iv ((sAt f (i+1)).A 6),iv ((sAt f (i+1)).C 7),iv ((sAt f (i+1)).A 7),.bool ((sAt f (i+1)).R 0),.bool ((sAt f (i+1)).R 1),.bool ((sAt f (i+1)).R 2),.bool ((sAt f (i+1)).R 3),.bool ((sAt f (i+1)).R 4),.bool ((sAt f (i+1)).R 5),.bool ((sAt f (i+1)).R 6),.bool ((sAt f (i+1)).R 7),.slice o 32 p] 64,.l,false⟩]) ⟨i+1,I,_,o,p,rfl,rfl,rfl,rfl,by omega,by omega,d▸Q.snoc _,λe h=>(P'.1 h).elim (D e) λg=>by rw[D'.1 g];exact λ_ a q=>my G (B a q),λa q=>my G (B a q)⟩ (λF=>F))))
 .refine tI ((decide ((i:Int)<(x.n:Int)))) false (E' (by omega)) ?_;obtain rfl:i=l.length:=by omega
  refine tR 10 [4,0,2,4,1,6,9,0,0,10] λa3 _ _=>tX λF C=>qE6 2 3 4 45 0 (b 0) (stA (sAt f l.length)) (S3.v y) (iv 0) λ_=>⟨y,E,rfl,Q,⟨F.1.1.own C,λe h=>⟨(F.1.2 e h).s,D e h⟩⟩,CgQ.af C⟩
end
end
section
structure Wh where
 d:Nat->List Int->Prop
 ld:Prop
 cr:Prop
 dr:Prop
 tk:Prop
 st:Prop
def Wh.may(D:Wh)(x:Lac):Prop:=(x.k=1->D.d x.n.toNat x.d)/\(x.k=2->D.ld)/\(x.k=8->D.cr)/\(x.k=4\/x.k=5\/x.k=6\/x.k=7->D.dr/\D.tk)/\(x.k=9->D.st)
inductive Stp (D:Wh):Nat->Meet->Meet->Prop
 | take (M:Meet) (l:Let) (hl:l∈M.br) (hd:l.src<5/\l.dst<5) (hu:(M.ae l.dst).up=true) (ht:D.tk):Stp D 0 M (M.set l.dst ((M.ae l.dst).take l) M.br M.ed)
 | br (M:Meet) (ls:List Let) (h:∀ l∈ls,l∈M.br) (hd:D.dr):Stp D 0 M { M with br:=ls }
 | one (M:Meet) (i:Nat) (c:Cmd) (hi:i<5) (hu:(M.ae i).up=true) (hc:(M.ae i).ab[(M.ae i).done]?=some c) (he:doE (M.ae i).ni c=0) :
   Stp D 0 M (M.set i (Nod.hZ { M.ae i with ni:=doS (M.ae i).ni c,done:=(M.ae i).done+1 } c) M.br (if((M.ae i).cl c).isSome=true then M.ed++[⟨i,c.c,c.s,doC (M.ae i).ni c,doA (M.ae i).ni c⟩]else M.ed))
 | ask (M:Meet) (i:Nat) (hi:i<5) (hu:(M.ae i).up=true):Stp D 0 M (M.set i ((M.ae i).kc i).1 (M.br++((M.ae i).kc i).2) M.ed)
 | prop (M:Meet) (i:Nat) (hi:i<5) (hu:(M.ae i).up=true):Stp D 1 M (M.set i (M.ae i).cF M.br M.ed)
 | ry (M:Meet) (i:Nat) (hi:i<5) (hu:(M.ae i).up=true) (h:(M.ae i).sy<((M.ae i).d.length:Int)) (hT:AR (M.ae i).d (M.ae i).sy):Stp D 0 M (M.set i { M.ae i with sy:=((M.ae i).d.length:Int) } M.br M.ed)
 | run (M:Meet) (i:Nat) (hi:i<5) (hu:(M.ae i).up=true) (q:Pend) (l:List Pend) (hp:(M.ae i).bw=q::l) (hs:¬ (M.ae i).sy<((M.ae i).d.length:Int)):Stp D 0 M (M.set i { (M.ae i).lr i q with bw:=l } (M.br++(M.ae i).rh i q) M.ed)
 | rk (M:Meet) (i:Nat) (hi:i<5) (hu:(M.ae i).up=true) (hL:(M.ae i).leads=true):Stp D 0 M (M.set i (E7 (M.ae i) i 5) (M.br++Dl (M.ae i) i 5) M.ed)
 | lead (M:Meet) (i:Nat) (hi:i<5) (hu:(M.ae i).up=true) (hL:D.ld):Stp D 0 M (M.set i ((M.ae i).lead i) M.br M.ed)
 | sub (M:Meet) (i:Nat) (d:List Int) (hi:i<5) (hu:(M.ae i).up=true) (hD:D.d i d):Stp D 0 M (M.set i ((M.ae i).rE i d M.ed).1 M.br ((M.ae i).rE i d M.ed).2)
 | lp (M:Meet) (i:Nat) (k:Int) (hi:i<5) (hu:(M.ae i).up=true) (hk:0<=k) (hC:D.cr):Stp D 0 M (M.set i ((M.ae i).lp k) M.br M.ed)
 | start (M:Meet) (i:Nat) (hi:i<5) (hu:(M.ae i).up=false) (hs:D.st):Stp D 0 M (M.set i (M.ae i).start M.br M.ed)
inductive Sts (D:Wh):Nat->Meet->Meet->Prop
 | nil (n:Nat) (M:Meet):Sts D n M M
 | snoc {n c m:Nat} {M N K:Meet} (h:Sts D n M N) (s:Stp D c N K) (hm:n+c<=m):Sts D m M K
section
variable{D:Wh}
section
variable{K M N:Meet}{i m n:Nat}{α:Type}
theorem Sts.mono(h:Sts D n M N)(a:n<=m):Sts D m M N:=by
 cases h with
 | nil=>exact .nil m M
 | snoc h s hm=>exact .snoc h s (by omega)
theorem Sts.trans(h:Sts D n M N)(k:Sts D m N K):Sts D (n+m) M K:=by
 induction k with
 | nil=>exact h.mono (by omega)
 | snoc _ s hm ih=>exact(ih h).snoc s (by omega)
theorem Sts.s0(h:Sts D n M N)(s:Stp D 0 N K):Sts D n M K:=h.snoc s (A' _)
theorem Stp.s(h:Stp D 0 M N):Sts D n M N:=(Sts.nil n M).s0 h
theorem Sts.inv{I:Meet->Prop}(b:∀ c M N,Stp D c M N->I M->I N){n:Nat}{M N:Meet}(h:Sts D n M N)(a:I M):I N:=by
 induction h with
 | nil=>exact a
 | snoc _ s _ ih=>exact b _ _ _ s (ih a)
theorem Mv(f:Nat->α)(i:Nat):upN f i (f i)=f:=by funext j;unfold upN;split<;>simp_all
theorem UM(f:Nat->α)(i:Nat)(x y:α):upN (upN f i x) i y=upN f i y:=by funext j;unfold upN;split<;>rfl
theorem Cd(M:Meet)(i:Nat)(p q:Nod)(c a:List Let)(d b:List Tol):(M.set i p c d).set i q a b=M.set i q a b:=by unfold Meet.set;simp only[UM]
theorem Bv(M:Meet)(i:Nat)(p:Nod)(a:List Let)(b:List Tol):(M.set i p a b).ae i=p:=CZ M.ae i p
theorem Eh(M:Meet)(l:Let):(M.pd l).br=M.br:=by unfold Meet.pd;split<;>rfl
theorem Nv(M:Meet)(l:Let)(a:List Let):({ M with br:=a }:Meet).pd l={ M.pd l with br:=a }:=by
 unfold Meet.pd;show(if(M.ae l.dst).up=true then _ else _)=_;split<;>rfl
theorem Hv(l:List Let)(M:Meet)(a:List Let):l.foldl (λM l=>M.pd l) ({ M with br:=a }:Meet)={ l.foldl (λM l=>M.pd l) M with br:=a }:=by
 induction l generalizing M with
 | nil=>rfl
 | cons x l ih=>rw[qL,Nv,ih];rfl
theorem Sts.pd(c:D.tk){n:Nat}{M N:Meet}(h:Sts D n M N){l:Let}(b:l∈N.br)(a:l.src<5/\l.dst<5):Sts D n M (N.pd l):=by
 unfold Meet.pd;split
 .rename_i hu;exact h.s0 (.take N l b a hu c)
 .exact h
theorem Sts.comes(c:D.tk)(l:List Let){n:Nat}{M N:Meet}(h:Sts D n M N)(a:∀ m∈l,m∈N.br/\m.src<5/\m.dst<5):Sts D n M (l.foldl (λM l=>M.pd l) N):=by
 induction l generalizing N with
 | nil=>exact h
 | cons x l ih=>exact ih (h.pd c (a x O').1 (a x O').2) λm b=>by rw[Eh];exact a m (I' _ b)
theorem Sts.rz(k:i<5)(l:List Cmd)(p:Nod){M:Meet}{d:List Let}{a:List Tol}(h:Sts D n M (M.set i p d a))(b:p.up=true)(g:p.ab.drop p.done=l) :
  Sts D n M (M.set i (rz i l p a).1 d (Go.Proofs.YtcjcngceghfoeaaGreatDoor.rz i l p a).2)/\(Go.Proofs.YtcjcngceghfoeaaGreatDoor.rz i l p a).1.up=true:=by
 induction l generalizing p a with
 | nil=>exact⟨h,b⟩
 | cons c l ih =>
  rw[Go.Proofs.YtcjcngceghfoeaaGreatDoor.rz];split
  .exact⟨h,b⟩
  .rename_i he
   have j:p.ab[p.done]?=some c:=by have:=congrArg (·[0]?) g;simpa using this
   have f:=DQ { p with ni:=doS p.ni c,done:=p.done+1 } c;have e:=Bv M i p d a;have s:=Stp.one (D:=D) (M.set i p d a) i c k (by rw[e];exact b) (by rw[e];exact j) (by rw[e];exact mz.1 he);rw[e,Cd]at s
   refine ih _ (h.s0 s) (f.1.trans b) ?_;rw[f.2.1,f.2.2.1];show p.ab.drop (p.done+1)=l;rw[<- oU,g];rfl
theorem Sts.qW(g:i<5)(l:List Pend)(p:Nod){M:Meet}{ls:List Let}{ts:List Tol}(h:Sts D n M (M.set i { p with bw:=l } ls ts))(b:p.up=true)(f:p.bw=[])(c:¬ p.sy<(p.d.length:Int)) :
  Sts D n M (M.set i (qW i l p ls).1 (Go.Proofs.YtcjcngceghfoeaaGreatDoor.qW i l p ls).2 ts)/\(Go.Proofs.YtcjcngceghfoeaaGreatDoor.qW i l p ls).1.up=true:=by
 induction l generalizing p ls with
 | nil =>
  have:({ p with bw:=[] }:Nod)=p:=by cases p;simp_all
  rw[this]at h;exact⟨h,b⟩
 | cons q l ih =>
  have a:=D9 p i q;have e:=Bv M i { p with bw:=q::l } ls ts;have s:=Stp.run (D:=D) (M.set i { p with bw:=q::l } ls ts) i g (by rw[e];exact b) q l (by rw[e]) (by rw[e];exact c);rw[e,Cd,Oj,Mb]at s
  exact ih (p.lr i q) (h.s0 s) (a.2.1.trans b) (a.1.trans f) (by rw[a.2.2.1,a.2.2.2];exact c)
theorem Sts.piece(c:i<5)(M:Meet)(x:(M.ae i).up=true):Sts D 1 M (M.set i ((M.ae i).piece i M.br M.ed).1 ((M.ae i).piece i M.br M.ed).2.1 ((M.ae i).piece i M.br M.ed).2.2):=by
 have w:Sts D 0 M (M.set i (M.ae i) M.br M.ed):=by rw[show M.set i (M.ae i) M.br M.ed=M by unfold Meet.set;rw[Mv]];exact .nil 0 M
 obtain⟨q,l⟩:=Sts.rz c _ (M.ae i) w x rfl;unfold Nod.piece;simp only;generalize Go.Proofs.YtcjcngceghfoeaaGreatDoor.rz i ((M.ae i).ab.drop (M.ae i).done) (M.ae i) M.ed=a at q l ⊢;have e:=Bv M i a.1 M.br a.2;have s:=Stp.ask (D:=D) (M.set i a.1 M.br a.2) i c (by rw[e];exact l);rw[e,Cd]at s
 have t:=q.s0 s;have n:=(Im a.1 i).trans l;clear e s q;generalize (a.1.kc i)=b at t n ⊢;have e:=Bv M i b.1 (M.br++b.2) a.2;have s:=Stp.prop (D:=D) (M.set i b.1 (M.br++b.2) a.2) i c (by rw[e];exact n);rw[e,Cd]at s
 have g:=t.snoc s (m:=1) (by omega);have h:=(E2 b.1).trans n;clear e s t;change Sts D 1 M (M.set i b.1.cF (M.br++b.2) a.2)at g;generalize b.1.cF=r at g h ⊢;generalize M.br++b.2=k at g ⊢;have j:Sts D 1 M (M.set i (r.ov i k).1 (r.ov i k).2 a.2)/\(r.ov i k).1.up=true:=by
  unfold Nod.ov;split
  .exact⟨g,h⟩
  .rename_i hn
   have e:=Bv M i r k a.2;unfold Nod.ry;split
   .rename_i h1
    have o:CX r.d r.sy=0:=mz.1 λe=>hn ⟨h1,e⟩;have p:AR r.d r.sy:=by
     unfold CX at o;split at o
     .assumption
     .cases o
    have s:=Stp.ry (D:=D) (M.set i r k a.2) i c (by rw[e];exact h) (by rw[e];exact h1) (by rw[e];exact p);rw[e,Cd]at s
    have u:Hf r.d r.sy=r.d:=if_pos p;have v:If r.d r.sy=(r.d.length:Int):=if_pos p;rw[u,v];exact Sts.qW c r.bw { r with sy:=(r.d.length:Int),bw:=[] } (g.s0 s) h rfl (qr _)
   .rename_i h1
    exact Sts.qW c r.bw { r with bw:=[] } g h rfl h1
 generalize r.ov i k=f at j ⊢;unfold Nod.bN;split
 .rename_i hL
  have e:=Bv M i f.1 f.2 a.2;have s:=Stp.rk (D:=D) (M.set i f.1 f.2 a.2) i c (by rw[e];exact j.2) (by rw[e];exact hL);rw[e,Cd]at s
  exact j.1.s0 s
 .exact j.1
theorem EM(M:Meet)(i:Nat):M.set i (M.ae i) M.br M.ed=M:=by unfold Meet.set;rw[Mv]
theorem O6(g:MOk n M){x:Lac}(v:LacOk x)(j:D.may x):Sts D 1 M (M.act x):=by
 obtain⟨j,y,z,i,A⟩:=j;have b:∀ {k:Int},x.k=k->Gd k=true->x.n.toNat<5:=λ{k} e w=>by have:=v.n (by rw[e];exact w);omega
 unfold Meet.act;simp only;split
 .rename_i h1
  by_cases c:(M.ae x.n.toNat).up=true
  .exact(Stp.sub M _ x.d (b h1 rfl) c (j h1)).s
  .unfold Nod.rE Nod.rG;rw[if_pos (by simpa using c)];rw[EM];exact .nil 1 M
 .split
  .rename_i hk
   split
   .rename_i c;exact(Stp.lead M _ (b hk rfl) c (y hk)).s
   .rw[EM];exact .nil 1 M
  .split
   .rename_i h3
    by_cases c:(M.ae x.n.toNat).up=true
    .rw[if_pos c,if_pos c,if_pos c];exact Sts.piece (b h3 rfl) M c
    .rw[if_neg c,if_neg c,if_neg c,EM];exact .nil 1 M
   .split
    .rename_i hk4
     obtain⟨o,r⟩:=i (by omega);unfold Meet.move;split
     .exact .nil 1 M
     .rename_i l q
      have f:=mP q;have B:=And.intro (g.br l f).src (g.br l f).dst;have u:∀ N:Meet,Sts D 1 M N->N.br=M.br->Sts D 1 M (if x.k≠6 then{ N with br:=M.br.eraseIdx (x.a.toNat%M.br.length) }else N):=λN h e=>by
       split
       .exact h.s0 (.br N _ (λm f=>by rw[e];exact pq f) o)
       .exact h
      simp only;split
      .have:=u (M.pd l) ((Sts.nil 1 M).pd r f B) (Eh M l);by_cases t:x.k≠6
       .rw[if_pos t]at this ⊢;rw[Nv];exact this
       .rw[if_neg t]at this ⊢;exact this
      .exact u M (.nil 1 M) rfl
    .split
     .rename_i hk7
      unfold Meet.rp;rw[Hv];exact(Sts.comes (i (by omega)).2 M.br (.nil 1 M) λm f=>⟨f,(g.br m f).src,(g.br m f).dst⟩).s0 (.br _ [] (λl q=>by cases q) (i (by omega)).1)
     .split
      .rename_i hk
       split
       .rename_i c;exact(Stp.lp M _ x.p (b hk rfl) c (v.p (by rw[hk];rfl)).1 (z hk)).s
       .rw[EM];exact .nil 1 M
      .split
       .rename_i h9
        split
        .rw[EM];exact .nil 1 M
        .rename_i c;exact(Stp.start M _ (b h9 rfl) (by simpa using c) (A h9)).s
       .exact .nil 1 M
theorem KN(L:List Lac){n:Nat}{M:Meet}(b:MOk n M)(d:n+L.length<=1000000)(c:∀ x∈L,LacOk x/\D.may x):Sts D L.length M (M.fa L):=by
 induction L generalizing n M with
 | nil=>exact .nil _ M
 | cons x L ih =>
  have a:=c x O';rw[mY]at d
  rw[mY,Nat.add_comm];exact(O6 b a.1 a.2).trans (ih (b.act (by omega) a.1) (by omega) λy e=>c y (I' _ e))
end
end
section
def whT:Wh:=⟨λ_ _=>True,True,True,True,True,True⟩
theorem UV(x:Lac):whT.may x:=⟨λ_=>trivial,λ_=>trivial,λ_=>trivial,λ_=>⟨trivial,trivial⟩,λ_=>trivial⟩
inductive Rk where
 | pr (b:Bal)
 | vt (v:Vt)
def Rk.body:Rk->List Int
 | .pr b=>Bu b
 | .vt v=>Bj v
def Rk.ap(a:Acc):Rk->Acc
 | .pr b=>⟨b,a.vs⟩
 | .vt v=>⟨v.b,Bn a.vs v⟩
def Rk.err(a:Acc):Rk->Int
 | .pr b=>Cf a b
 | .vt v=>AY a v
def Rk.ok(a:Acc):Rk->Prop
 | .pr b=>Cf a b=0/\a.p≠b
 | .vt v=>AY a v=0/\v∉a.vs
variable{D:Wh}{K R:Int}{M N:Meet}{a:Acc}{b:Bal}{dr qs rs rs':List Rk}{i j n:Nat}{l:List Cmd}{p:Nod}{q:Pend}{r:Rk}{v:Vt}{vs:List Vt}
theorem Rk.ok.err(h:Rk.ok a r):Rk.err a r=0:=by cases r<;>exact h.1
def B1(rs:List Rk):Acc:=rs.foldl Rk.ap a0
theorem BS(a:List Rk)(r:Rk):B1 (a++[r])=Rk.ap (B1 a) r:=by unfold B1;rw[oL];rfl
def AQ(rs:List Rk):Prop:=∀ i r,rs[i]?=some r->Rk.ok (B1 (rs.take i)) r
theorem AQ.nil:AQ []:=λi r h=>by simp at h
theorem AQ.left(h:AQ (rs++qs)):AQ rs:=λi r e=>by
 have a:=(V'.1 e).1;have:=h i r (by rw[mK a];exact e)
 rwa [m8 (by omega)]at this
theorem AQ.pre(h:AQ qs)(a:rs <+: qs):AQ rs:=by obtain⟨x,rfl⟩:=a;exact h.left
theorem AQ.snoc(h:AQ rs)(a:Rk.ok (B1 rs) r):AQ (rs++[r]):=λi q e=>by
 rcases nt i rs.length with hi|hi
 .rw[mK hi]at e
  rw[m8 (by omega)];exact h i q e
 .have:=(V'.1 e).1;rw[H',ny]at this
  obtain rfl:i=rs.length:=by omega
  rw[mM (A' _)]at e
  simp at e;subst e;rw[m8 (A' _),oh];exact a
theorem AQ.last(h:AQ (rs++[r])):Rk.ok (B1 rs) r:=by
 have:=h rs.length r (by simp)
 rwa [m8 (A' _),oh]at this
theorem AQ.ind{P:List Rk->Prop}(b:P [])(c:∀ a r,AQ a->Rk.ok (B1 a) r->P a->P (a++[r])){a:List Rk}(h:AQ a):P a:=by
 have:∀ k,k<=a.length->P (a.take k):=by
  intro k;induction k with
  | zero=>intro _;exact b
  | succ k ih =>
   intro d;have e:a.take (k+1)=a.take k++[a[k]]:=by rw[mN (by omega)]
   rw[e];exact c _ _ (h.pre (pj _ _)) (h k _ (G' (by omega))) (ih (by omega))
 have:=this a.length (A' _)
 rwa [oh]at this
theorem Ag.uc(h:Ag a)(c:Ac b)(i:¬ b.lt a.p):Ag ⟨b,a.vs⟩:=by
 refine⟨.inl c,λv d=>⟨(h.2.1 v d).1,λg=>?_⟩,h.2.2⟩;have e:=(h.2.1 v d).1.2.1;have f:=(h.2.1 v d).2;rw[EV c.pr e.pr]at g
 rw[EV h.1 e.pr]at f
 rw[EV c.pr h.1]at i
 omega
theorem Ag.sX(h:Ag a)(d:Ah v)(e:¬ v.b.lt a.p):Ag ⟨v.b,Bn a.vs v⟩:=by
 refine⟨.inl d.2.1,λu c=>?_,Ji v h.2.2⟩;rcases(BB h.2.2).1 c with rfl|⟨c,_⟩
 .refine⟨d,λg=>?_⟩;change u.b.lt u.b at g;unfold Bal.lt at g;omega
 .exact(h.uc d.2.1 e).2.1 u c
theorem K9:Ag a0:=⟨.inr ⟨rfl,rfl⟩,λv a=>(Q' a).elim,trivial⟩
theorem Rk.may(h:Ag a){r:Rk}(c:Rk.err a r=0):Ag (Rk.ap a r):=by
 cases r with
 | pr b=>have:=Cj c;exact h.uc this.2.1 this.2.2
 | vt v=>have:=Ap c;exact h.sX this.2.1 this.2.2
theorem AQ.acc(h:AQ rs):Ag (B1 rs):=h.ind (P:=λrs=>Ag (B1 rs)) K9 λrs r _ a b=>by rw[BS];exact Rk.may b a.err
theorem Bo{a:Bal}(c:Ao a)(d:Ao b)(h:¬ a.lt b):b.key<=a.key:=by rw[EV c d]at h;omega
theorem Rk.sh(h:Ag a){r:Rk}(c:Rk.err a r=0):a.p.key<=(Rk.ap a r).p.key:=by
 cases r with
 | pr b=>have:=Cj c;exact Bo this.2.1.pr h.1 this.2.2
 | vt v=>have:=Ap c;exact Bo this.2.1.2.1.pr h.1 this.2.2
theorem IG(h:AQ rs):∀ v∈(B1 rs).vs,Rk.vt v∈rs:=h.ind (P:=λrs=>∀ v∈(B1 rs).vs,Rk.vt v∈rs) (λv a=>by cases a) λrs r d e c v a=>by
 rw[BS]at a
 cases r with
 | pr b=>exact mD _ (c v a)
 | vt u =>
  rcases(BB d.acc.2.2).1 a with rfl|⟨a,_⟩
  .exact mB _ O'
  .exact mD _ (c v a)
theorem Ag.le(h:Ag a){v:Vt}(c:v∈a.vs):v.b.key<=a.p.key:=Bo h.1 (h.2.1 v c).1.2.1.pr (h.2.1 v c).2
theorem L2(h:Ag a){v:Vt}(f:AY a v=0){u:Vt}(c:u∈a.vs):∃ x∈Bn a.vs v,x.bu=u.bu/\u.b.key<=x.b.key:=by
 have d:=Ap f;by_cases e:u.bu=v.bu
 .exact⟨v,(BB h.2.2).2 (.inl rfl),e.symm,mR (h.le c) (Bo d.2.1.2.1.pr h.1 d.2.2)⟩
 .exact⟨u,(BB h.2.2).2 (.inr ⟨c,e⟩),rfl,mx _⟩
theorem QP(h:AQ rs):∀ v,Rk.vt v∈rs->v.b.key<=(B1 rs).p.key/\∃ u∈(B1 rs).vs,u.bu=v.bu/\v.b.key<=u.b.key:=h.ind (P:=λrs=>∀ v,Rk.vt v∈rs->v.b.key<=(B1 rs).p.key/\∃ u∈(B1 rs).vs,u.bu=v.bu/\v.b.key<=u.b.key) (λv hv=>by cases hv) λrs r c a e v hv=>by
 have d:=Rk.sh c.acc a.err;rw[BS];rcases P'.1 hv with hv|hv
 .obtain⟨h1,u,h2,h3,h4⟩:=e v hv;refine⟨mR h1 d,?_⟩;cases r with
  | pr b=>exact⟨u,h2,h3,h4⟩
  | vt w =>
   obtain⟨x,f,g,i⟩:=L2 c.acc a.err h2;exact⟨x,f,g.trans h3,mR h4 i⟩
 .rw[<- D'.1 hv]at a ⊢
  exact⟨mx _,v,(BB c.acc.2.2).2 (.inl rfl),rfl,mx _⟩
theorem D8(h:AQ (rs++qs)):(B1 rs).p.key<=(B1 (rs++qs)).p.key/\∀ v,Rk.vt v∈qs->(B1 rs).p.key<=v.b.key:=by
 have:∀ k,k<=qs.length->(B1 rs).p.key<=(B1 (rs++qs.take k)).p.key/\∀ v,Rk.vt v∈qs.take k->(B1 rs).p.key<=v.b.key:=by
  intro k;induction k with
  | zero=>intro _;rw[nM,mT];exact⟨mx _,λv hv=>by cases hv⟩
  | succ k ih =>
   intro i;obtain⟨c,g⟩:=ih (by omega);have e:qs.take (k+1)=qs.take k++[qs[k]]:=by rw[mN (by omega)]
   have a:AQ (rs++qs.take k++[qs[k]]):=h.pre (by rw[mA,<- e];exact List.prefix_append_right_inj rs |>.2 (pj _ _));have d:=Rk.sh a.left.acc a.last.err;rw[<- BS]at d
   rw[e,<- mA];refine⟨mR c d,λv hv=>?_⟩;rcases P'.1 hv with hv|hv
   .exact g v hv
   .have hl:=a.last;rw[<- D'.1 hv]at hl
    have f:=Ap hl.err;exact mR c (Bo f.2.1.2.1.pr a.left.acc.1 f.2.2)
 have:=this qs.length (A' _)
 rwa [oh]at this
def fl(rs:List Rk):List Int:=AE (rs.map Rk.body)
theorem cL(a:List Rk)(r:Rk):fl (a++[r])=fl a++AM r.body:=by unfold fl;rw[mS,CB];simp[AE]
theorem Sf(b a:List Rk):fl (b++a)=fl b++fl a:=by unfold fl;rw[mS,CB]
theorem Yg(h:rs <+: qs):(fl rs).length<=(fl qs).length:=by obtain⟨x,rfl⟩:=h;rw[Sf,H'];omega
theorem jL(h:rs <+: qs)(a:(fl qs).length<=(fl rs).length):rs=qs:=by
 obtain⟨x,rfl⟩:=h;rw[Sf,H']at a
 have:=Qb (x.map Rk.body);rw[mO]at this
 unfold fl at a;obtain rfl:x=[]:=j' (by omega);rw[mT]
theorem AQ.ue(h:AQ rs):Chn ((List.range (rs.length+1)).map λj=>B1 (rs.take j)) (rs.map Rk.body):=by
 refine⟨by simp,by simp[B1],λi b a c g f l=>?_⟩;simp only[ng,nS]at g f l;obtain⟨r,e,rfl⟩:=g;obtain⟨j,n,rfl⟩:=f;obtain⟨k,o,rfl⟩:=l;have m:=(V'.1 e).1;rw[nU (by omega)]at n o
 cases n;cases o;have d:=(h i r e).err;have p:rs[i]=r:=by rw[G' m]at e;exact nf e
 rw[mN m,BS,p];generalize B1 (rs.take i)=a at d ⊢;cases r with
 | pr b=>show DK a (Bu b)=_;rw[XT a (Cj d).2.1];exact if_pos d
 | vt v=>show DK a (Bj v)=_;rw[XU a (Ap d).2.1];exact if_pos d
structure TpU(p:Nod)(dr rs:List Rk):Prop where
 ok:AQ rs
 pre:dr <+: rs
 d:p.d=fl rs
 sy:p.sy=((fl dr).length:Int)
 vo:p.vo=B1 rs
 len:p.d.length<=100000
structure TpD(p:Nod)(dr:List Rk):Prop where
 ok:AQ dr
 sH:Ef p.d=((fl dr).length,B1 dr)
 tk:p.d.take (fl dr).length=fl dr
 sy:p.sy=(p.d.length:Int)
 len:p.d.length<=100000
theorem TpU.rY(h:TpU p dr rs):AR p.d p.sy:=by
 have:=Yg h.pre;have:=h.d;refine⟨h.len,by rw[h.sy];omega,?_⟩;rw[h.sy,h.d];omega
theorem TpU.zero:TpU CV [] []:=⟨AQ.nil,mE _,rfl,rfl,rfl,by decide⟩
theorem TpU.all(h:TpU p dr rs)(a:¬ p.sy<(p.d.length:Int)):dr=rs:=jL h.pre (by rw[h.sy,h.d]at a;omega)
theorem TpU.lp(h:TpU p dr rs){k:Int}(u:0<=k):∃ dr',dr <+: dr'/\dr' <+: rs/\TpD (p.lp k) dr':=by
 have o:=h.rY;have b:Gk p.d p.sy k=0:=by unfold Gk;rw[if_neg (λe=>e o),if_neg (by omega)]
 have f:=o;unfold AR at f;have t:p.sy<=Gl p.d p.sy k/\Gl p.d p.sy k<=(p.d.length:Int):=by unfold Gl;split<;>omega
 obtain⟨j,a,r,l,m,n,h5⟩:=h.ok.ue.tS (Gl p.d p.sy k).toNat;rw[mO]at r h5
 rw[ng,nU (by omega)]at l
 obtain rfl:B1 (rs.take j)=a:=by simpa using l
 have i:AE ((rs.map Rk.body).take j)=fl (rs.take j):=by unfold fl;rw[pY]
 rw[i]at m n
 have c:(p.lp k).d=(fl rs).take (Gl p.d p.sy k).toNat:=by
  unfold Nod.lp;rw[if_neg (λe=>e b)];show Ki p.d p.sy k=_;unfold Ki;rw[if_pos b,h.d]
 have s:(p.lp k).sy=Gl p.d p.sy k:=by
  unfold Nod.lp;rw[if_neg (λe=>e b)];show Kj p.d p.sy k=_;unfold Kj;rw[if_pos b]
 have q:((fl rs).take (Gl p.d p.sy k).toNat).length=(Gl p.d p.sy k).toNat:=by rw[X',<- h.d];omega
 refine⟨rs.take j,?_,pj _ _,h.ok.pre (pj _ _),by rw[c];exact m,?_,?_,?_⟩
 .obtain⟨x,hx⟩:=h.pre;rcases nt j dr.length with g|g
  .exfalso;rcases h5 with h5|h5
   .rw[<- hx,H']at h5;omega
   .have hp:rs.take (j+1) <+: dr:=by rw[<- hx,m8 (by omega)];exact pj _ _
    have:=Yg hp;rw[show AE ((rs.map Rk.body).take (j+1))=fl (rs.take (j+1))by unfold fl;rw[pY]]at h5
    have:=h.sy;omega
  .rw[<- hx,List.take_append];rw[mJ g];exact nL _ _
 .rw[c,oV,nH n];have e:fl rs=fl (rs.take j)++fl (rs.drop j):=by rw[<- Sf,nI]
  rw[show(fl rs).take (fl (rs.take j)).length=(fl (rs.take j)++fl (rs.drop j)).take (fl (rs.take j)).length by rw[<- e],m8 (A' _),oh]
 .rw[s,c,q];omega
 .rw[c,q];have:=h.len;omega
theorem TpD.start(h:TpD p dr):TpU p.start dr dr:=by
 have c:AR p.d p.sy:=⟨h.len,by rw[h.sy];omega,by rw[h.sy];omega⟩;have g:CX p.d p.sy=0:=if_pos c;have i:Nd p.d p.sy=((fl dr).length:Int):=by unfold Nd;rw[if_pos c,h.sH]
 have j:Gy p.d p.sy=B1 dr:=by unfold Gy;rw[if_pos c,h.sH]
 have a:=U9 p.d;rw[h.sH]at a
 have a:(fl dr).length<=p.d.length:=a;have f:=h.len;unfold Nod.start;rw[if_neg (λe=>e g),i,j];split
 .rename_i hlt
  have b:Js p.d p.sy=fl dr:=by unfold Js;rw[if_pos c,h.sH];exact h.tk
  have k:LV p.d p.sy=((fl dr).length:Int):=by unfold LV;rw[if_pos c,h.sH];exact if_pos (by rw[h.sy];exact hlt)
  exact⟨h.ok,mE _,b,k,rfl,by show(Js p.d p.sy).length<=_;rw[b];omega⟩
 .rename_i hge
  have b:p.d=fl dr:=by have:=h.tk;rwa [mJ (by omega)]at this
  exact⟨h.ok,mE _,b,by show p.sy=_;rw[h.sy,<- b],rfl,f⟩
theorem TpU.ry(h:TpU p dr rs):TpU { p with sy:=(p.d.length:Int) } rs rs:=⟨h.ok,mE _,h.d,by show(p.d.length:Int)=_;rw[h.d],h.vo,h.len⟩
def Nod.tv(p:Nod)(d:List Int)(s:Int)(a:Acc):Nod:={ p with d:=d,sy:=s,vo:=a }
theorem TpU.write(h:TpU p dr rs){r:Rk}(a:Rk.ok p.vo r)(b:p.d.length+(r.body.length+5)<=100000):TpU (p.tv (p.d++AM r.body) p.sy (Rk.ap p.vo r)) dr (rs++[r]):=by
 rw[h.vo]at a
 refine⟨h.ok.snoc a,h.pre.trans (nL _ _),?_,h.sy,?_,?_⟩
 .show p.d++_=_;rw[h.d,cL]
 .show Rk.ap p.vo r=_;rw[h.vo,BS]
 .show(p.d++AM r.body).length<=_;rw[H',Bg];omega
theorem TpU.au(h:TpU p dr rs)(b:Bal):((p.au b).2.2≠0/\(p.au b).1=p) \/
  ((p.au b).2.2=0/\Cf p.vo b=0/\(p.au b).2.1=p.vo.vs/\∃ rs',rs <+: rs'/\TpU (p.au b).1 dr rs'/\(∀ v,Rk.vt v∈rs'↔Rk.vt v∈rs)/\(B1 rs').p=b/\(B1 rs').vs=p.vo.vs/\∃ d a,(p.au b).1=p.tv d p.sy a):=by
 unfold Nod.au;split
 .rename_i c;exact .inl ⟨c,rfl⟩
 .rename_i c
  have c:=mz.1 c;split
  .rename_i h2
   refine .inr ⟨rfl,c,rfl,rs,mE _,?_,λ_=>Iff.rfl,?_,?_,p.d,p.vo,?_⟩
   .rw[h2];exact h
   .rw[<- h.vo];exact h2.symm
   .rw[<- h.vo]
   .rw[h2];rfl
  .rename_i h2
   split
   .rename_i f;exact .inl ⟨f,rfl⟩
   .rename_i f
    have f:=mz.1 f;have j:=J9 f;have g:FU p.d p.sy (Ac b) (Bu b)=p.d++AM (Bu b):=if_pos f;have i:GH p.d p.sy (Ac b) (Bu b)=p.sy:=if_pos f;rw[g,i];refine .inr ⟨rfl,c,rfl,rs++[Rk.pr b],nL _ _,(h.write (r:=.pr b) ⟨c,λe=>h2 e.symm⟩ j.2.1),λv=>by simp,?_,?_,_,_,rfl⟩
    .rw[BS];rfl
    .rw[BS,h.vo];rfl
theorem V9{l:List Vt}(h:BL l){v:Vt}(hv:v∈l):Bn l v=l:=by
 induction l with
 | nil=>cases hv
 | cons u us ih =>
  rw[Bn];rcases mG.1 hv with rfl|hv
  .rw[if_neg (qr _),if_pos rfl]
  .rw[if_pos (h.1 v hv),ih h.2 hv]
theorem TpU.cn(h:TpU p dr rs)(v:Vt):((p.cn v).2≠0/\(p.cn v).1=p) \/
  ((p.cn v).2=0/\AY p.vo v=0/\∃ rs',rs <+: rs'/\TpU (p.cn v).1 dr rs'/\(∀ u,Rk.vt u∈rs'↔u=v\/Rk.vt u∈rs)/\(B1 rs').p=v.b/\∃ d a,(p.cn v).1=p.tv d p.sy a):=by
 unfold Nod.cn;split
 .rename_i c;exact .inl ⟨c,rfl⟩
 .rename_i c
  have c:=mz.1 c;have i:=Ap c;split
  .rename_i h2
   have m:=i.1.le h2;have l:=Bo i.2.1.2.1.pr i.1.1 i.2.2;have e:v.b=p.vo.p:=DE i.2.1.2.1.pr i.1.1 (by omega);have j:(⟨v.b,Bn p.vo.vs v⟩:Acc)=p.vo:=by rw[V9 i.1.2.2 h2,e]
   rw[j];refine .inr ⟨rfl,c,rs,mE _,h,λu=>⟨.inr,λhu=>?_⟩,by rw[<- h.vo];exact e.symm,p.d,p.vo,rfl⟩;rcases hu with rfl|hu
   .exact IG h.ok u (by rw[<- h.vo];exact h2)
   .exact hu
  .rename_i h2
   split
   .rename_i f;exact .inl ⟨f,rfl⟩
   .rename_i f
    have f:=mz.1 f;have n:=J9 f;have k:FU p.d p.sy (Ah v) (Bj v)=p.d++AM (Bj v):=if_pos f;have j:GH p.d p.sy (Ah v) (Bj v)=p.sy:=if_pos f;rw[k,j];refine .inr ⟨rfl,c,rs++[Rk.vt v],nL _ _,h.write (r:=.vt v) ⟨c,h2⟩ n.2.1,λu=>?_,by rw[BS];rfl,_,_,rfl⟩;rw[P',D'];exact⟨λg=>g.elim .inr λe=>.inl (Rk.vt.inj e),λg=>g.elim (λe=>.inr (by rw[e])) .inl⟩
structure Gs where
 dr:Nat->List Rk
 W:Bal->Nat->Cmd->Prop
def Gs.held(σ:Gs)(n:Nat)(v:Vt):Prop:=Rk.vt v∈σ.dr n
def Gs.H(σ:Gs)(n s:Nat)(b:Int)(c:Cmd):Prop:=∃ v,σ.held n v/\v.bu=(s:Int)/\v.b.key=b/\v.w=c
def Gs.P(σ:Gs)(n:Nat):Int:=(B1 (σ.dr n)).p.key
def Gs.rK(σ:Gs)(v:Vt):Prop:=Ah v/\σ.W v.b v.bu.toNat v.w
def Gs.sD(σ:Gs)(s:Nat)(c:Cmd):Prop:=∃ b,Ch σ.H s b c
structure GsI(σ:Gs):Prop where
 ok:∀ n,AQ (σ.dr n)
 sx:PInv σ.H σ.P
 w1:∀ b s c c',σ.W b s c->σ.W b s c'->c=c'
 w2:∀ b s c,σ.W b s c->Ac b/\Em σ.H σ.P s b.key c
 w3:∀ b s c,σ.W b s c->b.key<=σ.P b.n.toNat
 hv:∀ n v,σ.held n v->σ.rK v
structure Gs.le(σ τ:Gs):Prop where
 pre:∀ n,σ.dr n <+: τ.dr n
 W:∀ b s c,σ.W b s c->τ.W b s c
theorem Gs.le.refl(σ:Gs):σ.le σ:=⟨λ_=>mE _,λ_ _ _ h=>h⟩
variable{σ τ:Gs}
theorem Gs.le.trans{υ:Gs}(h:σ.le τ)(k:τ.le υ):σ.le υ:=⟨λn=>(h.pre n).trans (k.pre n),λb s c g=>k.W b s c (h.W b s c g)⟩
theorem Gs.le.held(h:σ.le τ){n:Nat}{v:Vt}(g:σ.held n v):τ.held n v:=(h.pre n).subset g
theorem Gs.le.H(h:σ.le τ){n s:Nat}{b:Int}{c:Cmd}(g:σ.H n s b c):τ.H n s b c:=by obtain⟨v,a,d⟩:=g;exact⟨v,h.held a,d⟩
theorem Gs.le.rK(h:σ.le τ){v:Vt}(g:σ.rK v):τ.rK v:=⟨g.1,h.W _ _ _ g.2⟩
theorem Gs.le.sD(h:σ.le τ){s:Nat}{c:Cmd}(g:σ.sD s c):τ.sD s c:=by obtain⟨b,Q,a,d⟩:=g;exact⟨b,Q,a,λq f e=>h.H (d q f e)⟩
theorem Gs.le.P(h:σ.le τ)(a:GsI τ)(n:Nat):σ.P n<=τ.P n:=by
 obtain⟨x,b⟩:=h.pre n;have:=a.ok n;unfold Gs.P;rw[<- b]at this ⊢
 exact(D8 this).1
structure Gs.sI(i:Nat)(σ τ:Gs):Prop where
 le:σ.le τ
 new:∀ b s c,τ.W b s c->σ.W b s c\/b.n=(i:Int)
 uh:∀ n,n≠i->τ.dr n=σ.dr n
theorem Gs.sI.refl(i:Nat)(σ:Gs):Gs.sI i σ σ:=⟨.refl σ,λ_ _ _ h=>.inl h,λ_ _=>rfl⟩
def Gs.ext(σ:Gs)(i:Nat)(qs:List Rk):Gs:=⟨upN σ.dr i (σ.dr i++qs),σ.W⟩
theorem Hy(σ:Gs)(i:Nat)(a:List Rk):(σ.ext i a).dr i=σ.dr i++a:=CZ _ _ _
theorem Ll(σ:Gs){i n:Nat}(a:List Rk)(h:n≠i):(σ.ext i a).dr n=σ.dr n:=Dw _ _ h
theorem OL(σ:Gs)(i:Nat)(a:List Rk):Gs.sI i σ (σ.ext i a):=⟨⟨λn=>by
 by_cases e:n=i
 .subst e;rw[Hy];exact nL _ _
 .rw[Ll σ a e];exact mE _,λ_ _ _ h=>h⟩,λ_ _ _ h=>.inl h,λn h=>Ll σ a h⟩
theorem PZ(σ:Gs)(i:Nat)(r:Rk):(σ.ext i [r]).P=upP σ.P i (Rk.ap (B1 (σ.dr i)) r).p.key:=by
 funext n
 unfold Gs.P upP;split
 .rename_i e;subst e;rw[Hy,BS]
 .rename_i e;rw[Ll σ _ e]
theorem Iy:(σ.ext i qs).held n v↔σ.held n v\/(n=i/\Rk.vt v∈qs):=by
 unfold Gs.held;by_cases e:n=i
 .subst e;rw[Hy,P'];simp
 .rw[Ll σ qs e];simp[e]
theorem GsI.tQ(h:GsI σ){i:Nat}{r:Rk}(D:Rk.ok (B1 (σ.dr i)) r)(F:∀ v,r=.vt v->σ.rK v):GsI (σ.ext i [r]):=by
 have l:=(h.ok i).acc;have t:=Rk.sh l D.err;have f:=(OL σ i [r]).le;have q:∀ n,AQ ((σ.ext i [r]).dr n):=λn=>by
  by_cases e:n=i
  .subst e;rw[Hy];exact(h.ok n).snoc D
  .rw[Ll σ _ e];exact h.ok n
 have d:σ.P i<=(Rk.ap (B1 (σ.dr i)) r).p.key:=t;have B:∀ n,σ.P n<=(σ.ext i [r]).P n:=λn=>by rw[PZ];exact Mw d n
 have o:∀ n v,(σ.ext i [r]).held n v->(σ.ext i [r]).rK v:=λn v g=>by
  rcases Iy.1 g with g|⟨_,g⟩
  .exact f.rK (h.hv n v g)
  .exact f.rK (F v (D'.1 g).symm)
 cases r with
 | pr b =>
  have j:(σ.ext i [.pr b]).H=σ.H:=by
   funext n s a c
   exact propext ⟨λ⟨v,g,k⟩=>⟨v,(Iy.1 g).resolve_right λe=>by simp at e,k⟩,λ⟨v,g,k⟩=>⟨v,f.held g,k⟩⟩
  refine⟨q,?_,h.w1,λa s c g=>⟨(h.w2 a s c g).1,?_⟩,λa s c g=>mR (h.w3 a s c g) (B _),o⟩
  .rw[j,PZ];exact h.sx.au d
  .rw[j,PZ];exact(h.w2 a s c g).2.up d
 | vt v =>
  obtain⟨z,C⟩:=F v rfl;have I:v.bu=(v.bu.toNat:Int):=by have:=z.1;omega
  have j:(σ.ext i [.vt v]).H=gl σ.H i v.bu.toNat v.b.key v.w:=by
   funext n s a c
   refine propext ⟨λ⟨u,g,G,x,y⟩=>?_,λg=>?_⟩
   .rcases Iy.1 g with g|⟨g1,g2⟩
    .exact .inl ⟨u,g,G,x,y⟩
    .have e:u=v:=Rk.vt.inj (D'.1 g2);subst e;exact .inr ⟨g1,by omega,x.symm,y.symm⟩
   .rcases g with⟨u,g,k⟩|⟨rfl,rfl,rfl,rfl⟩
    .exact⟨u,f.held g,k⟩
    .exact⟨v,Iy.2 (.inr ⟨rfl,D'.2 rfl⟩),I,rfl,rfl⟩
  refine⟨q,?_,h.w1,λa s c g=>⟨(h.w2 a s c g).1,?_⟩,λa s c g=>mR (h.w3 a s c g) (B _),o⟩
  .rw[j,PZ];refine h.sx.cn d (by have:=z.2.1.pos;show 0<v.b.key;omega) (h.w2 _ _ _ C).2 λm J ⟨u,g,G,x,y⟩=>?_;have E:=h.hv m u g;have e:u.b=v.b:=DE E.1.2.1.pr z.2.1.pr x;have A:=E.2;rw[e,show u.bu.toNat=v.bu.toNat by omega,y]at A
   exact h.w1 _ _ _ _ A C
  .rw[j,PZ];exact(h.w2 a s c g).2.cn d
theorem cG(σ:Gs)(i:Nat)(r:Rk)(a:List Rk):(σ.ext i [r]).ext i a=σ.ext i (r::a):=by unfold Gs.ext;simp only[CZ,UM,mA,List.singleton_append]
theorem GsI.ext(h:GsI σ){i:Nat}(a:List Rk)(b:AQ (σ.dr i++a))(c:∀ v,Rk.vt v∈a->σ.rK v):GsI (σ.ext i a):=by
 induction a generalizing σ with
 | nil =>
  have:σ.ext i []=σ:=by unfold Gs.ext;rw[mT,Mv]
  rw[this];exact h
 | cons r a ih =>
  rw[<- cG];have d:AQ (σ.dr i++[r]):=b.pre ⟨a,by simp⟩;refine ih (h.tQ d.last λv e=>c v (by rw[e];exact O')) ?_ λv g=>(OL σ i [r]).le.rK (c v (I' _ g));rw[Hy,mA];exact b
structure PrmOk(dr:List Rk)(b:Bal)(vs:List Vt):Prop where
 le:b.key<=(B1 dr).p.key
 sub:∀ v∈vs,Rk.vt v∈dr/\v.b.key<=b.key
 tZ:∀ v,Rk.vt v∈dr->v.b.key<b.key->∃ u∈vs,u.bu=v.bu/\v.b.key<=u.b.key
 acc:Ag ⟨b,vs⟩
theorem PrmOk.mono(h:PrmOk dr b vs)(e:dr <+: rs)(d:AQ rs):PrmOk rs b vs:=by
 obtain⟨x,rfl⟩:=e;have c:=D8 d;refine⟨mR h.le c.1,λv hv=>⟨mD _ (h.sub v hv).1,(h.sub v hv).2⟩,λv hv a=>?_,h.acc⟩;rcases P'.1 hv with hv|hv
 .exact h.tZ v hv a
 .have:=c.2 v hv;have:=h.le;omega
theorem PrmOk.of(c:AQ rs){b:Bal}{d:List Vt}(e:(B1 rs).p=b)(a:(B1 rs).vs=d):PrmOk rs b d:=by
 subst e a;exact⟨mx _,λv a=>⟨IG c v a,c.acc.le a⟩,λv a _=>(QP c v a).2,c.acc⟩
structure RdI(σ:Gs)(i:Nat)(r:Rnd):Prop where
 hU:r.hU=Bd\/(Ac r.hU/\r.hU.n=(i:Int))
 next:∀ s c,σ.W r.hU s c->s<r.next
 own:∀ j,j<5->r.qZ j=true->r.hU.key<=σ.P i
 an:∀ j,j<5->∀ v∈(r.an j).vs,σ.held j v/\v.b.key<=r.hU.key/\(r.qZ j=false->v.b=r.hU)
 prom:∀ j,j<5->r.qZ j=true->r.hU.key<=σ.P j/\∀ v,σ.held j v->v.b.key<r.hU.key->∃ u∈(r.an j).vs,u.bu=v.bu/\v.b.key<=u.b.key
 acc:∀ j,j<5->Ag (r.an j)/\(r.qZ j=true->(r.an j).p=r.hU)
def PnI(σ:Gs)(rs:List Rk)(r:Rnd):Pend->Prop
 | .began b vs=>PrmOk rs b vs/\b.key<=r.hU.key
 | .prom _ b vs=>PrmOk rs b vs/\b.key<=σ.P b.n.toNat
 | .voted _ v=>Rk.vt v∈rs
 | .prop v=>Rk.vt v∈rs
 | .ew _ b=>Ao b/\b.key<=(B1 rs).p.key
 | _=>True
structure UpI(σ:Gs)(i:Nat)(p:Nod)(rs:List Rk):Prop where
 tp:TpU p (σ.dr i) rs
 rK:∀ v,Rk.vt v∈rs->σ.rK v
 rd:RdI σ i p.av
 bp:p.av.hU.key<=p.vo.p.key
 pe:∀ q∈p.bw,PnI σ rs p.av q
def AgL(σ:Gs)(l:List Cmd)(k:Nat):Prop:=∀ s c,l[s]?=some c->σ.sD (k+s) c
structure NdI(σ:Gs)(i:Nat)(p:Nod):Prop where
 up:p.up=true->∃ rs,UpI σ i p rs
 dn:p.up=false->TpD p (σ.dr i)
 ag:AgL σ p.ab 0
structure LtI(σ:Gs)(l:Let):Prop where
 k0:l.kind=0->l.hU.key<=σ.P l.hU.n.toNat
 k1:l.kind=1->PrmOk (σ.dr l.src) l.hU l.mv/\l.hU.key<=σ.P l.hU.n.toNat/\AgL σ l.gC 0
 k2:l.kind=2->Ao l.hU/\l.hU.key<=σ.P l.src
 k3:l.kind=3->σ.rK l.cn
 k4:l.kind=4->σ.held l.src l.cn
 k5:l.kind=5->AgL σ l.gC l.bu
structure AgI(σ:Gs)(M:Meet):Prop where
 gs:GsI σ
 nd:∀ i,i<5->NdI σ i (M.ae i)
 lt:∀ l∈M.br,LtI σ l
theorem AgL.mono(h:σ.le τ){l:List Cmd}{k:Nat}(g:AgL σ l k):AgL τ l k:=λs c e=>h.sD (g s c e)
theorem RdI.mono(h:σ.le τ)(f:GsI τ){i:Nat}{r:Rnd}(g:RdI σ i r)(m:∀ s c,τ.W r.hU s c->s<r.next):RdI τ i r:=by
 refine⟨g.hU,m,λj a d=>mR (g.own j a d) (h.P f i),λj a v e=>⟨h.held (g.an j a v e).1,(g.an j a v e).2⟩,λj a d=>⟨mR (g.prom j a d).1 (h.P f j),λv e k=>?_⟩,g.acc⟩;obtain⟨x,n⟩:=h.pre j;have l:=f.ok j;have hv':Rk.vt v∈τ.dr j:=e;rw[<- n]at l hv'
 rcases P'.1 hv' with hv'|hv'
 .exact(g.prom j a d).2 v hv' k
 .have h1:=(D8 l).2 v hv';have o:=(g.prom j a d).1;have p:σ.P j<=v.b.key:=h1;omega
theorem PnI.mono(h:σ.le τ)(f:GsI τ){e a:List Rk}(c:e <+: a)(d:AQ a){r r':Rnd}(i:r.hU.key<=r'.hU.key){q:Pend}(g:PnI σ e r q):PnI τ a r' q:=by
 cases q with
 | began b vs=>exact⟨g.1.mono c d,mR g.2 i⟩
 | prom to b vs=>exact⟨g.1.mono c d,mR g.2 (h.P f _)⟩
 | voted to v=>exact c.subset g
 | prop v=>exact c.subset g
 | ew to b=>obtain⟨x,rfl⟩:=c;exact⟨g.1,mR g.2 (D8 d).1⟩
 | _=>trivial
theorem NdI.mono(h:Gs.sI i σ τ)(a:GsI τ)(n:GsI σ)(d:j≠i){p:Nod}(g:NdI σ j p):NdI τ j p:=by
 have e:=h.uh j d;refine⟨λl=>?_,λb=>by rw[e];exact g.dn b,g.ag.mono h.le⟩;obtain⟨o,k⟩:=g.up l;refine⟨o,by rw[e];exact k.tp,λv m=>h.le.rK (k.rK v m),k.rd.mono h.le a λs c hW=>?_,k.bp,λq f=>(k.pe q f).mono h.le a (mE _) k.tp.ok (mx _)⟩;rcases h.new _ _ _ hW with hW|hW
 .exact k.rd.next s c hW
 .rcases k.rd.hU with hb|⟨_,hb⟩
  .have:=(a.w2 _ _ _ ‹_›).1;rw[hb]at this
   exact absurd this (by decide)
  .rw[hb]at hW;omega
theorem LtI.mono(h:σ.le τ)(a:GsI τ){l:Let}(g:LtI σ l):LtI τ l :=
 ⟨λe=>mR (g.k0 e) (h.P a _),λe=>⟨(g.k1 e).1.mono (h.pre _) (a.ok _),mR (g.k1 e).2.1 (h.P a _),(g.k1 e).2.2.mono h⟩,λe=>⟨(g.k2 e).1,mR (g.k2 e).2 (h.P a _)⟩,λe=>h.rK (g.k3 e),λe=>h.held (g.k4 e),λe=>(g.k5 e).mono h⟩
theorem AgI.set(h:AgI σ M){i:Nat}(b:Gs.sI i σ τ)(a:GsI τ){p:Nod}(g:NdI τ i p){ls:List Let}(d:∀ l∈ls,l∈M.br\/LtI τ l)(ts:List Tol):AgI τ (M.set i p ls ts) :=
 ⟨a,λj c=>by
  show NdI τ j (upN M.ae i p j);unfold upN;split
  .rename_i e;rw[e];exact g
  .rename_i e;exact(h.nd j c).mono b a h.gs e,λl f=>(d l f).elim (λk=>(h.lt l k).mono b.le a) id⟩
theorem TP{r:Rnd}(h:∀ j,j<5->∀ v∈(r.an j).vs,σ.held j v){s:Nat}(a:CU r.jv (s:Int)=0):σ.sD s (CN r.jv (s:Int)):=by
 have k:CN r.jv (s:Int)=((Ha (Dz r.jv (s:Int)) r.jv.length).map (·.w)).getD ⟨0,0,0,0,0⟩:=if_pos a;unfold CU at a;split at a
 .cases a
 .split at a
  .cases a
  .rename_i d
   have d:=mz.1 d;split at a
   .rename_i hO
    obtain⟨v,g⟩:=nF.1 hO;rw[k,g];have m:=List.find?_some g;have i:5<2*BJ (Dz r.jv (s:Int)) v:=m5 m;have e:Dz r.jv (s:Int)=Ae (r.an 0).vs (s:Int)++(Ae (r.an 1).vs (s:Int)++(Ae (r.an 2).vs (s:Int)++(Ae (r.an 3).vs (s:Int)++Ae (r.an 4).vs (s:Int)))):=by
     unfold Dz Rnd.jv Ae;simp[List.filter_append]
    rw[e,Cv,Cv,Cv,Cv]at i
    have c:∀ j,j<5->BL (r.an j).vs:=λj l=>(d (r.an j) (by unfold Rnd.jv;rcases ri l with rfl|rfl|rfl|rfl|rfl<;>simp)).2.2;have o:=I8 (c 0 (by omega)) (s:Int) v;have p:=I8 (c 1 (by omega)) (s:Int) v;have t:=I8 (c 2 (by omega)) (s:Int) v;have u:=I8 (c 3 (by omega)) (s:Int) v;have x:=I8 (c 4 (by omega)) (s:Int) v;refine⟨v.b.key,λq=>decide (v∈(r.an q).vs/\v.bu=(s:Int)),?_,λq n f=>?_⟩
    .show 3<=(decide (v∈(r.an 0).vs/\v.bu=(s:Int))).toNat+(decide (v∈(r.an 1).vs/\v.bu=(s:Int))).toNat+(decide (v∈(r.an 2).vs/\v.bu=(s:Int))).toNat+(decide (v∈(r.an 3).vs/\v.bu=(s:Int))).toNat+(decide (v∈(r.an 4).vs/\v.bu=(s:Int))).toNat;omega
    .obtain⟨h1,h2⟩:=m5 f;exact⟨v,h q n v h1,h2,rfl,rfl⟩
   .cases a
theorem AgL.snoc(h:AgL σ l 0){c:Cmd}(a:σ.sD l.length c):AgL σ (l++[c]) 0:=λs d e=>by
 rcases nt s l.length with g|g
 .rw[mK g]at e;exact h s d e
 .have:=(V'.1 e).1;rw[H',ny]at this
  obtain rfl:s=l.length:=by omega
  rw[mM (A' _)]at e
  simp at e;subst e;rw[na];exact a
theorem Us{r:Rnd}(h:∀ j,j<5->∀ v∈(r.an j).vs,σ.held j v)(k:Nat){l:List Cmd}(a:AgL σ l 0):AgL σ (FB k r l) 0:=by
 induction k generalizing l with
 | zero=>exact a
 | succ k ih =>
  rw[FB];split
  .rename_i he;exact ih (a.snoc (TP h he))
  .exact a
theorem Qo{b:List Cmd}{a:Nat}(d:AgL σ l 0)(f:AgL σ b a)(h:a<=l.length):AgL σ (l++b.drop (l.length-a)) 0:=λs c e=>by
 rcases nt s l.length with g|g
 .rw[mK g]at e;exact d s c e
 .rw[mM g,nD]at e
  have:=f _ c e
  rwa [show a+(l.length-a+(s-l.length))=0+s by omega]at this
theorem V7(a:Acc)(l:List Vt):∀ v∈(Dc a l).vs,v∈a.vs\/v∈l:=by
 induction l generalizing a with
 | nil=>exact λv b=>.inl b
 | cons u l ih =>
  intro v b;rw[Dc]at b
  rcases ih _ v b with h|h
  .by_cases he:AY a u=0
   .rw[if_pos he]at h
    have h:v∈Br a u:=h;rw[(DD he).2]at h
    rcases(BB (Ap he).1.2.2).1 h with rfl|⟨h,_⟩
    .exact .inr O'
    .exact .inl h
   .rw[if_neg he]at h;exact .inl h
  .exact .inr (I' _ h)
theorem V6(a:Acc)(l:List Vt):∀ u∈a.vs,∃ x∈(Dc a l).vs,x.bu=u.bu/\u.b.key<=x.b.key:=by
 induction l generalizing a with
 | nil=>exact λu d=>⟨u,d,rfl,mx _⟩
 | cons w l ih =>
  intro u d;rw[Dc];by_cases c:AY a w=0
  .rw[if_pos c];obtain⟨x,e,f,g⟩:=L2 (Ap c).1 c d;obtain⟨y,h,i,j⟩:=ih ⟨BG a w,Br a w⟩ x (by show x∈Br a w;rw[(DD c).2];exact e);exact⟨y,h,i.trans f,mR g j⟩
  .rw[if_neg c];exact ih a u d
theorem V5(a:Acc)(l:List Vt)(c:Ag a)(g:a.p=b)(h:∀ v∈l,v.b.key<=b.key):Ag (Dc a l)/\(Dc a l).p=b:=by
 induction l generalizing a with
 | nil=>exact⟨c,g⟩
 | cons u l ih =>
  rw[Dc];by_cases d:AY a u=0
  .rw[if_pos d];have f:=Ap d;have e:u.b=b:=by
    have k:=Bo f.2.1.2.1.pr c.1 f.2.2;have m:=h u O';rw[g]at k
    exact DE f.2.1.2.1.pr (g▸c.1) (by omega)
   have j:(⟨BG a u,Br a u⟩:Acc)=⟨u.b,Bn a.vs u⟩:=by rw[(DD d).1,(DD d).2]
   rw[j];exact ih _ (c.sX f.2.1 f.2.2) e λv i=>h v (I' _ i)
  .rw[if_neg d];exact ih a c g λv i=>h v (I' _ i)
theorem RdI.rC{r:Rnd}(h:RdI σ i r){j:Nat}{vs:List Vt}(f:PrmOk (σ.dr j) r.hU vs)(s:r.hU.key<=σ.P i):RdI σ i (r.rC j vs):=by
 refine⟨h.hU,h.next,λ_ _ _=>s,λk c v a=>?_,λk c n=>?_,λk c=>?_⟩
 rotate_right
 .show Ag (upN r.an j (Dc ⟨r.hU,vs⟩ (r.an j).vs) k)/\(upN r.qZ j true k=true->(upN r.an j (Dc ⟨r.hU,vs⟩ (r.an j).vs) k).p=r.hU);unfold upN;split
  .rename_i e;subst e
   have:=V5 (b:=r.hU) ⟨r.hU,vs⟩ (r.an k).vs f.acc rfl λv a=>(h.an k c v a).2.1;exact⟨this.1,λ_=>this.2⟩
  .exact h.acc k c
 .have a:v∈(upN r.an j (Dc ⟨r.hU,vs⟩ (r.an j).vs) k).vs:=a;by_cases e:k=j
  .subst e;rw[CZ]at a
   rcases V7 _ _ v a with g|g
   .exact⟨(f.sub v g).1,(f.sub v g).2,λe=>by rw[show(r.rC k vs).qZ k=true from CZ _ _ _]at e;cases e⟩
   .have:=h.an k c v g;exact⟨this.1,this.2.1,λe=>by rw[show(r.rC k vs).qZ k=true from CZ _ _ _]at e;cases e⟩
  .rw[Dw _ _ e]at a
   have:=h.an k c v a;exact⟨this.1,this.2.1,λo=>this.2.2 (by rwa [show(r.rC j vs).qZ k=r.qZ k from Dw _ _ e]at o)⟩
 .by_cases e:k=j
  .subst e;refine⟨f.le,λv a d=>?_⟩;obtain⟨u,l,m,q⟩:=f.tZ v a d;obtain⟨x,t,w,y⟩:=V6 ⟨r.hU,vs⟩ (r.an k).vs u l;exact⟨x,by show x∈(upN r.an k _ k).vs;rw[CZ];exact t,w.trans m,mR q y⟩
  .rw[show(r.rC j vs).qZ k=r.qZ k from Dw _ _ e]at n
   have:=h.prom k c n;exact⟨this.1,λv a d=>by
    obtain⟨u,l,m⟩:=this.2 v a d;exact⟨u,by show u∈(upN r.an j _ k).vs;rw[Dw _ _ e];exact l,m⟩⟩
theorem RdI.count{r:Rnd}(h:RdI σ i r){j:Nat}{v:Vt}(l:v.b=r.hU)(f:AY (r.an j) v=0)(o:σ.held j v):RdI σ i { r with an:=upN r.an j ⟨BG (r.an j) v,Br (r.an j) v⟩ }:=by
 have d:=Ap f;have g:Br (r.an j) v=Bn (r.an j).vs v:=(DD f).2;refine⟨h.hU,h.next,h.own,λk c u a=>?_,λk c n=>⟨(h.prom k c n).1,λu a m=>?_⟩,λk c=>?_⟩
 rotate_right
 .show Ag (upN r.an j ⟨BG (r.an j) v,Br (r.an j) v⟩ k)/\(r.qZ k=true->(upN r.an j ⟨BG (r.an j) v,Br (r.an j) v⟩ k).p=r.hU);unfold upN;split
  .rw[(DD f).1,g];exact⟨d.1.sX d.2.1 d.2.2,λ_=>l⟩
  .exact h.acc k c
 .have a:u∈(upN r.an j ⟨BG (r.an j) v,Br (r.an j) v⟩ k).vs:=a;by_cases e:k=j
  .subst e;rw[CZ]at a
   have a:u∈Br (r.an k) v:=a;rw[g]at a
   rcases(BB d.1.2.2).1 a with rfl|⟨a,_⟩
   .exact⟨o,by rw[l];exact mx _,λ_=>l⟩
   .exact h.an k c u a
  .rw[Dw _ _ e]at a;exact h.an k c u a
 .obtain⟨x,h1,h2,h3⟩:=(h.prom k c n).2 u a m;by_cases e:k=j
  .subst e;obtain⟨y,q,s,t⟩:=L2 d.1 f h1;exact⟨y,by show y∈(upN r.an k _ k).vs;rw[CZ];show y∈Br (r.an k) v;rw[g];exact q,s.trans h2,mR h3 t⟩
  .exact⟨x,by show x∈(upN r.an j _ k).vs;rw[Dw _ _ e];exact h1,h2,h3⟩
theorem UpI.qX{q:Nod}(h:UpI σ i p rs)(b:q.d=p.d)(j:q.sy=p.sy)(c:q.vo=p.vo)(f:RdI σ i q.av)(a:q.av.hU=p.av.hU)(e:∀ x∈q.bw,x∈p.bw\/PnI σ rs q.av x):UpI σ i q rs :=
 ⟨⟨h.tp.ok,h.tp.pre,b.trans h.tp.d,j.trans h.tp.sy,c.trans h.tp.vo,by rw[b];exact h.tp.len⟩,h.rK,f,by rw[a,c];exact h.bp,λx k=>(e x k).elim (λg=>by
  have:=h.pe x g;cases x<;>first|exact this|exact trivial|(refine⟨this.1,?_⟩;first|exact this.2|(rw[a];exact this.2))) id⟩
theorem UpI.count(h:UpI σ i p rs)(a:AgL σ p.ab 0){j:Nat}{v:Vt}(d:σ.held j v):UpI σ i (p.count j v) rs/\AgL σ (p.count j v).ab 0:=by
 unfold Nod.count;split
 .exact⟨h,a⟩
 .rename_i b
  have b:=mz.1 b;split
  .exact⟨h,a⟩
  .rename_i he
   have c:=h.rd.count b (mz.1 he) d;exact⟨h.qX rfl rfl rfl c rfl λx g=>.inl g,Us (λj e v f=>(c.an j e v f).1) 41 a⟩
theorem NdI.mk'(b:p.up=true)(h:UpI σ i p rs)(a:AgL σ p.ab 0):NdI σ i p:=⟨λ_=>⟨rs,h⟩,λe=>(by rw[b]at e;cases e),a⟩
theorem AgL.nil(σ:Gs)(k:Nat):AgL σ [] k:=λs c e=>by simp at e
theorem AgL.drop(h:AgL σ l 0)(k:Nat):AgL σ (l.drop k) k:=λs c e=>by
 rw[nD]at e
 have:=h _ c e
 rwa [na]at this
theorem UpI.wait(h:UpI σ i p rs){x:Pend}(a:PnI σ rs p.av x):UpI σ i (p.wait x) rs :=
 h.qX rfl rfl rfl h.rd rfl λy b=>(P'.1 b).imp id λe=>by rw[D'.1 e];exact a
theorem UpI.ew(h:UpI σ i p rs)(to:Nat)(e:Int):UpI σ i (p.ew to e) rs:=by
 unfold Nod.ew;split
 .exact h.wait (by show Ao p.vo.p/\p.vo.p.key<=_;rw[h.tp.vo];exact⟨h.tp.ok.acc.1,mx _⟩)
 .exact h
theorem Oc(p:Nod)(to:Nat)(e:Int):(p.ew to e).ab=p.ab:=by unfold Nod.ew;split<;>rfl
theorem UpI.wrote{q:Nod}(h:UpI σ i p rs)(f:σ.le τ)(k:GsI τ)(e:τ.dr i=σ.dr i)(a:TpU q (σ.dr i) rs')(l:rs <+: rs')(n:∀ v,Rk.vt v∈rs'->τ.rK v){r:Rnd}(m:RdI τ i r)(b:p.av.hU.key<=r.hU.key)(c:r.hU.key<=q.vo.p.key){x:Pend}(o:PnI τ rs' r x)(j:q.bw=p.bw):UpI τ i (Nod.wait { q with av:=r } x) rs' :=
 ⟨by rw[e];exact⟨a.ok,a.pre,a.d,a.sy,a.vo,a.len⟩,n,m,c,λy s=>by
  rcases P'.1 s with g|g
  .have g:y∈q.bw:=g;rw[j]at g
   exact(h.pe y g).mono f k l a.ok b
  .rw[D'.1 g];exact o⟩
theorem F7(h:UpI σ i p rs)(l:List Cmd):UpI σ i (p.dT l) rs/\(p.dT l).ab=p.ab:=by
 unfold Nod.dT;split
 .exact⟨h.qX rfl rfl rfl ⟨h.rd.hU,h.rd.next,h.rd.own,h.rd.an,h.rd.prom,h.rd.acc⟩ rfl λx a=>.inl a,rfl⟩
 .exact⟨h,rfl⟩
theorem Qn(h:UpI σ i p rs)(a:AgL σ p.ab 0):UpI σ i p.rj rs/\AgL σ p.rj.ab 0:=⟨h.qX rfl rfl rfl h.rd rfl λx d=>.inl d,Us (λj b v c=>(h.rd.an j b v c).1) 41 a⟩
theorem NdI.take(C:GsI σ){i:Nat}{p:Nod}(h:NdI σ i p)(D:p.up=true){l:Let}(u:LtI σ l)(G:l.src<5):NdI σ i (p.take l):=by
 obtain⟨f,k⟩:=h.up D;have c:=h.ag
 suffices g:∃ b,UpI σ i (p.take l) b/\AgL σ (p.take l).ab 0 by
  obtain⟨b,w,o⟩:=g;exact NdI.mk' ((congrArg Prod.fst (Pv p l)).trans D) w o
 unfold Nod.take;split
 .rename_i hk
  rcases k.tp.au l.hU with⟨e,he⟩|⟨e,he,hvs,b,hp,ht,hm,hpb,hpv,d,a,hq⟩
  .rw[if_pos e];exact⟨f,k.ew _ _,by rw[Oc];exact c⟩
  .rw[if_neg (λg=>g e)];have m:=Cj he;refine⟨b,?_,?_⟩
   .refine k.wrote (q:=(p.au l.hU).1) (r:=(p.au l.hU).1.av) (.refl σ) C rfl ht hp (λv B=>k.rK v ((hm v).1 B)) ?_ ?_ ?_ ⟨PrmOk.of ht.ok hpb (hpv.trans hvs.symm),u.k0 hk⟩ (by rw[hq];rfl)
    .rw[hq];exact k.rd
    .rw[hq];exact mx _
    .rw[ht.vo,hpb,hq];exact mR k.bp (Bo m.2.1.pr m.1.1 m.2.2)
   .show AgL σ (p.au l.hU).1.ab 0;rw[hq];exact c
 .rename_i hk
  obtain⟨w,o,E⟩:=u.k1 hk;have y:AgL σ (p.ln 0 l.gC).ab 0:=Qo c E (mV _);have s:UpI σ i (p.ln 0 l.gC) f:=k.qX rfl rfl rfl k.rd rfl λx j=>.inl j;generalize p.ln 0 l.gC=K at y s ⊢;simp only;split
  .exact⟨f,s,y⟩
  .rename_i hc
   have A:K.leads=true:=by cases hh:K.leads with|true=>rfl|false=>exact absurd (.inl hh) hc
   have t:l.hU=K.av.hU:=mz.1 λe=>hc (.inr (.inl e));have z:K.av.hU≠Bd:=(m5 A).1;rw[t]at w o
   have F:=(s.rd.hU.resolve_left z).2;rw[F,nk]at o
   have n:=s.rd.rC w o;exact⟨f,Qn (p:={ K with av:={ K.av.rC l.src l.mv with bN:=upN K.av.bN l.src l.gC.length } }) (s.qX rfl rfl rfl ⟨n.hU,n.next,n.own,n.an,n.prom,n.acc⟩ rfl λx j=>.inl j) y⟩
 .exact⟨f,k.qX rfl rfl rfl k.rd rfl λx j=>.inl j,c⟩
 .rename_i hk
  rcases k.tp.cn l.cn with⟨e,he⟩|⟨e,he,b,hp,ht,hm,hpb,d,a,hq⟩
  .rw[if_pos e];exact⟨f,k.ew _ _,by rw[Oc];exact c⟩
  .rw[if_neg (λg=>g e)];have m:=Ap he;refine⟨b,?_,?_⟩
   .refine k.wrote (q:=(p.cn l.cn).1) (r:=(p.cn l.cn).1.av) (.refl σ) C rfl ht hp (λv B=>((hm v).1 B).elim (λe=>by rw[e];exact u.k3 hk) (k.rK v)) ?_ ?_ ?_ ((hm _).2 (.inl rfl)) (by rw[hq];rfl)
    .rw[hq];exact k.rd
    .rw[hq];exact mx _
    .rw[ht.vo,hpb,hq];exact mR k.bp (Bo m.2.1.2.1.pr m.1.1 m.2.2)
   .show AgL σ (p.cn l.cn).1.ab 0;rw[hq];exact c
 .rename_i hk
  exact⟨f,k.count c (u.k4 hk)⟩
 .rename_i hk
  split
  .exact⟨f,k.wait trivial,c⟩
  .rename_i hlt;exact⟨f,k.qX rfl rfl rfl k.rd rfl λx j=>.inl j,Qo c (u.k5 hk) (by omega)⟩
 .have:=F7 k l.gC;simp only;split
  .exact⟨f,this.1.wait trivial,by show AgL σ (p.dT l.gC).ab 0;rw[this.2];exact c⟩
  .exact⟨f,this.1,by rw[this.2];exact c⟩
 .exact⟨f,k,c⟩
theorem Wg(W:GsI σ){i:Nat}{p:Nod}(h:RdI σ i p.av)(X:Ac p.av.hU)(Y:p.av.rm=true){s:Nat}(hs:p.av.next<=s){c:Cmd}(t:p.qY s=some c):Em σ.H σ.P s p.av.hU.key c:=by
 have h5:5<2*Jd p.av.qZ:=m5 Y;have m:∀ j,j<5->∀ v∈(p.av.an j).vs,v.bu=(s:Int)->v∈Ae (p.av.jv.map (·.vs)).flatten (s:Int):=λj F v M e=>by
  refine Be.2 ⟨oT.2 ⟨(p.av.an j).vs,mQ.2 ⟨p.av.an j,?_,rfl⟩,M⟩,e⟩;unfold Rnd.jv;rcases ri F with rfl|rfl|rfl|rfl|rfl<;>simp
 refine⟨p.av.qZ,by omega,λq n o=>(h.prom q n o).1,?_⟩;unfold Nod.qY at t;split at t
 .cases t
 .rename_i d
  have d:=mz.1 d;have D:DX (p.av.jv.map (·.vs)) (s:Int)=(FY (p.av.jv.map (·.vs)) (s:Int)).isSome:=if_pos d;have S:Hm (p.av.jv.map (·.vs)) (s:Int)=((FY (p.av.jv.map (·.vs)) (s:Int)).map (·.w)).getD ⟨0,0,0,0,0⟩:=if_pos d;have r:∀ l∈p.av.jv.map (·.vs),∀ v∈l,Ah v:=by
   unfold Ce at d;split at d
   .cases d
   .split at d
    .assumption
    .cases d
  have L:∀ v∈Ae (p.av.jv.map (·.vs)).flatten (s:Int),Ao v.b:=λv M=>by
   obtain⟨l,k,f⟩:=oT.1 (Be.1 M).1;exact(r l k v f).2.1.pr
  rcases R5 _ L with⟨h0,E⟩|⟨x,E,hx,hmax⟩
  .left;intro q n o U V ⟨v,g,R,Z,k3⟩;refine Int.not_lt.1 λz=>?_;obtain⟨u,k,f,_⟩:=(h.prom q n o).2 v g (by omega);have:=m q n u k (f.trans R);rw[h0]at this;cases this
  .right;have E:FY (p.av.jv.map (·.vs)) (s:Int)=some x:=E;rw[E]at D S
   have D:DX (p.av.jv.map (·.vs)) (s:Int)=true:=D;rw[if_pos D]at t
   have G:c=x.w:=(nf t).symm.trans S;obtain⟨O,Q⟩:=Be.1 hx;obtain⟨j,F,N⟩:∃ j,j<5/\x∈(p.av.an j).vs:=by
    obtain⟨l,k,f⟩:=oT.1 O;obtain⟨a,C,rfl⟩:=mQ.1 k;unfold Rnd.jv at C;simp only[mG,Q',or_false]at C;rcases C with rfl|rfl|rfl|rfl|rfl
    .exact⟨0,by omega,f⟩
    .exact⟨1,by omega,f⟩
    .exact⟨2,by omega,f⟩
    .exact⟨3,by omega,f⟩
    .exact⟨4,by omega,f⟩
   obtain⟨y,I,J⟩:=h.an j F x N;have B:=W.hv j x y;have A:x.b≠p.av.hU:=λe=>by
    have k:=B.2;rw[e]at k
    have:=h.next _ _ k;omega
   have z:x.b.key<p.av.hU.key:=by
    rcases Int.lt_or_eq_of_le I with g|g
    .exact g
    .exact absurd (DE B.1.2.1.pr X.pr g) A
   have K:p.av.qZ j=true:=by
    cases hh:p.av.qZ j with
    | true=>rfl
    | false=>exact absurd (J hh) A
   refine⟨x.b.key,z,⟨j,F,K,x,y,Q,rfl,G.symm⟩,λq n o U V ⟨v,g,R,Z,k3⟩ T=>?_⟩;obtain⟨u,k,f,C⟩:=(h.prom q n o).2 v g (by omega);have:=hmax u (m q n u k (f.trans R));omega
def Gs.prop(σ:Gs)(b:Bal)(s:Nat)(c:Cmd):Gs:=⟨σ.dr,λb' s' c'=>σ.W b' s' c'\/(b'=b/\s'=s/\c'=c)⟩
theorem GsI.prop(h:GsI σ){b:Bal}{s:Nat}{c:Cmd}(e:Ac b)(d:Em σ.H σ.P s b.key c)(f:b.key<=σ.P b.n.toNat)(a:∀ c',¬ σ.W b s c'):GsI (σ.prop b s c):=by
 refine⟨h.ok,h.sx,?_,?_,?_,λn v g=>⟨(h.hv n v g).1,.inl (h.hv n v g).2⟩⟩
 .rintro b' s' c1 c2 (g|⟨rfl,rfl,rfl⟩) (k|⟨e1,e2,e3⟩)
  .exact h.w1 _ _ _ _ g k
  .subst e1 e2;exact absurd g (a _)
  .exact absurd k (a _)
  .exact e3.symm
 .rintro b' s' c' (g|⟨rfl,rfl,rfl⟩)
  .exact h.w2 _ _ _ g
  .exact⟨e,d⟩
 .rintro b' s' c' (g|⟨rfl,rfl,rfl⟩)
  .exact h.w3 _ _ _ g
  .exact f
theorem NdI.cF(x:GsI σ){i:Nat}{p:Nod}(h:NdI σ i p)(E:p.up=true):∃ τ ex,Gs.sI i σ τ/\GsI τ/\NdI τ i p.cF/\(∀ b s c,τ.W b s c->σ.W b s c\/ex=some (b,s))/\∀ b s,ex=some (b,s)->s<40/\b=p.av.hU/\s=p.ab.length/\∀ c,τ.W b s c->p.qY s=some c:=by
 obtain⟨rs,k⟩:=h.up E;have f:∃ τ ex,Gs.sI i σ τ/\GsI τ/\NdI τ i p/\(∀ b s c,τ.W b s c->σ.W b s c\/ex=some (b,s))/\∀ b s,ex=some (b,s)->s<40/\b=p.av.hU/\s=p.ab.length/\∀ c,τ.W b s c->p.qY s=some c:=⟨σ,none,.refl i σ,x,h,λ_ _ _ h=>.inl h,λ_ _ e=>by cases e⟩;have o:=(E2 p).trans E
 revert o
 unfold Nod.cF;split
 .exact λ_=>f
 .rename_i hc
  have z:p.leads=true:=by cases hh:p.leads with|true=>rfl|false=>exact absurd (.inl hh) hc
  have n:p.av.rm=true:=by cases hh:p.av.rm with|true=>rfl|false=>exact absurd (.inr (.inl hh)) hc
  have A:p.av.next<=p.ab.length:=Nat.not_lt.1 λe=>hc (.inr (.inr e));cases hn:p.qY p.ab.length with
  | none=>exact λ_=>f
  | some c =>
   simp only;rcases k.tp.cn ⟨(p.ab.length:Int),p.av.hU,c⟩with⟨e,he⟩|⟨e,he,rs',hp,ht,hm,hpb,d,a,w⟩
   .rw[if_pos e];exact λ_=>f
   .rw[if_neg (λg=>g e)];intro o;have F:=Ap he;have y:p.av.hU≠Bd:=(m5 z).1;obtain⟨D,t⟩:=k.rd.hU.resolve_left y;have H:=Wg x k.rd D n A hn;have C:∀ l,¬ σ.W p.av.hU p.ab.length l:=λl g=>by have:=k.rd.next _ _ g;omega
    have I:p.av.hU.key<=σ.P i:=by
     obtain⟨q,w,G,_⟩:=I4 p.av.qZ p.av.qZ (by have:5<2*Jd p.av.qZ:=m5 n;omega) (by have:5<2*Jd p.av.qZ:=m5 n;omega);exact k.rd.own q w G
    have m:=x.prop D H (by rw[t,nk];exact I) C;have j:Gs.sI i σ (σ.prop p.av.hU p.ab.length c):=⟨⟨λ_=>mE _,λ_ _ _ g=>.inl g⟩,λb s l g=>g.imp id λe=>by rw[e.1];exact t,λ_ _=>rfl⟩;have B:(σ.prop p.av.hU p.ab.length c).rK ⟨(p.ab.length:Int),p.av.hU,c⟩:=⟨F.2.1,.inr ⟨rfl,nk _,rfl⟩⟩;have K:=k.rd.mono (τ:=σ.prop p.av.hU p.ab.length c) (r:=p.av) j.le m;refine⟨_,some (p.av.hU,p.ab.length),j,m,NdI.mk' (rs:=rs') o ?_ ?_,λb s l g=>g.imp id λe=>by rw[e.1,e.2.1],λb s e=>?_⟩
    .refine k.wrote (q:=(p.cn ⟨(p.ab.length:Int),p.av.hU,c⟩).1) (r:={ p.av with next:=p.ab.length+1 }) j.le m rfl ht hp (λv J=>((hm v).1 J).elim (λe=>by rw[e];exact B) λg=>j.le.rK (k.rK v g)) ?_ (mx _) ?_ ((hm _).2 (.inl rfl)) (by rw[w];rfl)
     .have g:=k.rd;refine RdI.mono (σ:=σ) j.le m (r:={ p.av with next:=p.ab.length+1 }) ⟨g.hU,λs l u=>Z' (g.next s l u) (by show p.av.next<=p.ab.length+1;omega),g.own,g.an,g.prom,g.acc⟩ λs l u=>?_;rcases u with u|⟨_,rfl,_⟩
      .exact Z' (g.next s l u) (by show p.av.next<=p.ab.length+1;omega)
      .exact Nat.lt_succ_self _
     .rw[ht.vo,hpb];exact mx _
    .show AgL _ (p.cn ⟨(p.ab.length:Int),p.av.hU,c⟩).1.ab 0;rw[w];exact h.ag.mono j.le
    .cases e;have:=F.2.1.1.2;exact⟨by simp only at this;omega,rfl,rfl,λl g=>by
      rcases g with g|⟨_,_,g⟩
      .exact absurd g (C l)
      .rw[g];exact hn⟩
theorem LtI.none{l:Let}(h:l.kind=6):LtI σ l:=⟨λe=>by omega,λe=>by omega,λe=>by omega,λe=>by omega,λe=>by omega,λe=>by omega⟩
theorem LtI.news{l:Let}(h:l.kind=5)(a:AgL σ l.gC l.bu):LtI σ l:=⟨λe=>by omega,λe=>by omega,λe=>by omega,λe=>by omega,λe=>by omega,λ_=>a⟩
theorem NdI.run(C:GsI σ){i:Nat}(H:i<5){p:Nod}(h:NdI σ i p)(j:p.up=true){q:Pend}{l:List Pend}(A:p.bw=q::l)(E:¬ p.sy<(p.d.length:Int)):NdI σ i { p.lr i q with bw:=l }/\∀ m∈p.rh i q,LtI σ m:=by
 obtain⟨B,k⟩:=h.up j;have f:=k.tp.all E;have c:=k.pe q (by rw[A];exact O');have t:∀ x∈l,x∈p.bw:=λx u=>by rw[A];exact I' _ u
 have o:∀ {p':Nod},UpI σ i p' B->p'.bw=p.bw->UpI σ i { p' with bw:=l } B:=λ{p'} g e=>g.qX rfl rfl rfl g.rd rfl λx u=>.inl (by rw[e];exact t x u);cases q with
 | began b vs =>
  unfold Nod.lr Nod.rh;simp only;split
  .exact⟨NdI.mk' j (o k rfl) h.ag,λm a=>by cases a⟩
  .rename_i e
   have e:=mz.1 e;obtain⟨w,G⟩:=c;have r:=k.tp.ok.acc;rw[<- k.tp.vo]at r
   have z:=k.bp;have y:p.av.hU=b:=by
    rw[<- e];refine DE ?_ r.1 (by rw[e]at z ⊢;omega);rcases k.rd.hU with g|g
    .rw[g];exact .inr ⟨rfl,rfl⟩
    .exact g.1.pr
   have s:b.key<=σ.P i:=by have:=w.le;rw[<- f]at this;exact this
   rw[<- f,<- y]at w
   rw[<- y]at s
   refine⟨NdI.mk' j (o (p':={ p with av:=p.av.rC i vs }) (k.qX rfl rfl rfl (k.rd.rC w s) rfl λx u=>.inl u) rfl) h.ag,λm a=>?_⟩;obtain⟨to,_,rfl⟩:=CE a;refine⟨λ_=>?_,λe=>(by cases e),λe=>(by cases e),λe=>(by cases e),λe=>(by cases e),λe=>(by cases e)⟩;show b.key<=σ.P b.n.toNat;rw[<- y];rcases k.rd.hU with g|g
   .rw[g];have F:=(C.ok (Bd.n.toNat)).acc.1;have:0<=σ.P (Bd.n.toNat):=by
     unfold Ao Ac at F;unfold Gs.P Bal.key;omega
    exact this
   .rw[g.2,nk];exact s
 | prom to b vs =>
  refine⟨NdI.mk' j (o k rfl) h.ag,λm a=>?_⟩;rw[D'.1 a];refine⟨λe=>(by cases e),λ_=>⟨?_,c.2,h.ag⟩,λe=>(by cases e),λe=>(by cases e),λe=>(by cases e),λe=>(by cases e)⟩;show PrmOk (σ.dr i) b vs;rw[f];exact c.1
 | voted to v =>
  refine⟨NdI.mk' j (o k rfl) h.ag,λm a=>?_⟩;rw[D'.1 a];refine⟨λe=>(by cases e),λe=>(by cases e),λe=>(by cases e),λe=>(by cases e),λ_=>?_,λe=>(by cases e)⟩;show Rk.vt v∈σ.dr i;rw[f];exact c
 | ew to b =>
  refine⟨NdI.mk' j (o k rfl) h.ag,λm a=>?_⟩;rw[D'.1 a];refine⟨λe=>(by cases e),λe=>(by cases e),λ_=>?_,λe=>(by cases e),λe=>(by cases e),λe=>(by cases e)⟩;show Ao b/\b.key<=(B1 (σ.dr i)).p.key;rw[f];exact c
 | prop v =>
  have D:σ.held i v:=by show Rk.vt v∈σ.dr i;rw[f];exact c
  have g:=k.count h.ag D;refine⟨NdI.mk' ((congrArg Prod.fst (Le p i v)).trans j) (o g.1 (D9 p i (.prop v)).1) g.2,λm a=>?_⟩;obtain⟨to,_,rfl⟩:=CE a;exact⟨λe=>(by cases e),λe=>(by cases e),λe=>(by cases e),λ_=>k.rK v c,λe=>(by cases e),λe=>(by cases e)⟩
 | askNews to=>exact⟨NdI.mk' j (o k rfl) h.ag,λm a=>by rw[D'.1 a];exact LtI.none rfl⟩
 | start=>exact⟨NdI.mk' j (o k rfl) h.ag,λm a=>by obtain⟨to,_,rfl⟩:=CE a;exact LtI.none rfl⟩
 | tell to bu=>exact⟨NdI.mk' j (o k rfl) h.ag,λm a=>by rw[D'.1 a];exact LtI.news rfl (h.ag.drop bu)⟩
theorem NdI.lead(w:GsI σ){i:Nat}(E:i<5){p:Nod}(h:NdI σ i p)(y:p.up=true):NdI σ i (p.lead i):=by
 obtain⟨rs,k⟩:=h.up y;have f:(p.lead i).up=true:=(congrArg Prod.fst (Uo p i)).trans y
 revert f
 unfold Nod.lead;simp only;generalize m:(⟨max p.dc p.vo.p.r+1,(i:Int)⟩:Bal)=b;rcases k.tp.au b with⟨e,he⟩|⟨e,he,hvs,rs',hp,ht,hm,hpb,hpv,d,a,hq⟩
 .rw[if_pos e];exact λ_=>h
 .rw[if_neg (λg=>g e)];intro f;have A:=Cj he;have C:p.vo.p.key<b.key:=by
   have:=A.1.1;rw[<- m];unfold Ao Ac at this;show 5*p.vo.p.r+p.vo.p.n<5*(max p.dc p.vo.p.r+1)+(i:Int);omega
  refine NdI.mk' (rs:=rs') f ?_ ?_
  .refine k.wrote (q:=(p.au b).1) (r:=⟨b,λ_=>false,λ_=>Ea,λ_=>p.ab.length,0,[]⟩) (.refl σ) w rfl ht hp (λv o=>k.rK v ((hm v).1 o)) ?_ ?_ ?_ ⟨PrmOk.of ht.ok hpb (hpv.trans hvs.symm),mx _⟩ (by rw[hq];rfl)
   .refine⟨.inr ⟨A.2.1,by rw[<- m]⟩,λs c B=>?_,λj _ e=>(by cases e),λj _ v o=>(by cases o),λj _ e=>(by cases e),λj _=>⟨K9,λe=>(by cases e)⟩⟩;have l:=w.w3 _ _ _ B;rw[show b.n.toNat=i by rw[<- m];exact nk i]at l
    obtain⟨x,z⟩:=k.tp.pre;have t:=k.tp.ok;rw[<- z]at t
    have u:=(D8 t).1;rw[z,<- k.tp.vo]at u
    have D:σ.P i<=p.vo.p.key:=u;have l:b.key<=σ.P i:=l;omega
   .have:=k.bp;show _<=b.key;omega
   .rw[ht.vo,hpb];exact mx _
  .show AgL σ (p.au b).1.ab 0;rw[hq];exact h.ag
theorem J5(k:Nat):∀ m∈Dl p i k,m.kind=5/\m.gC=p.ab.drop m.bu:=by
 induction k with
 | zero=>intro m hm;cases hm
 | succ k ih =>
  intro m hm;rw[Dl]at hm
  rcases P'.1 hm with hm|hm
  .exact ih m hm
  .split at hm
   .rw[D'.1 hm];exact⟨rfl,rfl⟩
   .cases hm
theorem AgI.tJ(h:AgI σ M)(s:Stp D n M N):∃ τ ex,σ.le τ/\AgI τ N/\(∀ b s c,τ.W b s c->σ.W b s c\/ex=some (b,s))/\∀ b s,ex=some (b,s)->n=1/\s<40/\∃ i,i<5/\b=(M.ae i).av.hU/\(M.ae i).up=true/\s=(M.ae i).ab.length/\∀ c,τ.W b s c->(M.ae i).qY s=some c:=by
 have r:=h.gs;have done:∀ {i:Nat} {p:Nod} {G:List Let} {O:List Tol},NdI σ i p->(∀ l∈G,l∈M.br\/LtI σ l)->∃ τ ex,σ.le τ/\AgI τ (M.set i p G O)/\(∀ b s c,τ.W b s c->σ.W b s c\/ex=some (b,s))/\∀ b s,ex=some (b,s)->n=1/\s<40/\∃ i,i<5/\b=(M.ae i).av.hU/\(M.ae i).up=true/\s=(M.ae i).ab.length/\∀ c,τ.W b s c->(M.ae i).qY s=some c:=λ{i p G O} E f=>⟨σ,none,.refl σ,h.set (.refl _ σ) r E f O,λ_ _ _ h=>.inl h,λ_ _ e=>by cases e⟩;have same:∀ l∈M.br,l∈M.br\/LtI σ l:=λl f=>.inl f;have app:∀ {ms:List Let},(∀ m∈ms,LtI σ m)->∀ l∈M.br++ms,l∈M.br\/LtI σ l:=λg l f=>(P'.1 f).imp id (g l);cases s with
 | take _ l f hd hu _=>exact done ((h.nd _ hd.2).take r hu (h.lt l f) hd.1) same
 | br _ G f _=>exact⟨σ,none,.refl σ,⟨r,h.nd,λl g=>h.lt l (f l g)⟩,λ_ _ _ h=>.inl h,λ_ _ e=>by cases e⟩
 | one _ i c hi hu hc he =>
  refine done ?_ same;obtain⟨rs,k⟩:=(h.nd i hi).up hu;have Q:=DQ { M.ae i with ni:=doS (M.ae i).ni c,done:=(M.ae i).done+1 } c;refine NdI.mk' (Q.1.trans hu) (rs:=rs) ?_ (by rw[Q.2.1];exact(h.nd i hi).ag);unfold Nod.hZ;split<;>exact k.qX rfl rfl rfl k.rd rfl λx a=>.inl a
 | ask _ i hi hu =>
  obtain⟨rs,k⟩:=(h.nd i hi).up hu;have z:=(h.nd i hi).ag;have C:=(Im (M.ae i) i).trans hu;generalize E:M.ae i=p at k z C ⊢;refine done (NdI.mk' (rs:=rs) C ?_ ?_) (app ?_)
  .unfold Nod.kc;split
   .exact k.qX rfl rfl rfl k.rd rfl λx a=>.inl a
   .split
    .exact(F7 (p:={ p with cl:=(Ba p.vo.p p.cl (p.bn.take 40)).2 }) (k.qX rfl rfl rfl k.rd rfl λx a=>.inl a) _).1
    .exact k.qX rfl rfl rfl k.rd rfl λx a=>.inl a
  .unfold Nod.kc;split
   .exact z
   .split
    .show AgL σ (Nod.dT _ _).ab 0;rw[(F7 (p:={ p with cl:=(Ba p.vo.p p.cl (p.bn.take 40)).2 }) (k.qX rfl rfl rfl k.rd rfl λx a=>.inl a) _).2];exact z
    .exact z
  .intro m u;unfold Nod.kc at u;split at u
   .cases u
   .split at u
    .cases u
    .rw[D'.1 u];exact LtI.none rfl
 | prop _ i hi hu =>
  obtain⟨τ,ex,o,w,V,X,H⟩:=(h.nd i hi).cF r hu;exact⟨τ,ex,o.le,h.set o w V (λl f=>.inl f) _,X,λb s e=>⟨rfl,(H b s e).1,i,hi,(H b s e).2.1,hu,(H b s e).2.2⟩⟩
 | ry _ i hi hu hlt I =>
  obtain⟨rs,k⟩:=(h.nd i hi).up hu;obtain⟨x,a⟩:=k.tp.pre;have w:=r.ext (i:=i) x (by rw[a];exact k.tp.ok) λv t=>k.rK v (by rw[<- a];exact mB _ t);have o:=OL σ i x;refine⟨σ.ext i x,none,o.le,h.set o w (NdI.mk' (p:={ M.ae i with sy:=((M.ae i).d.length:Int) }) (rs:=rs) hu ⟨?_,λv t=>o.le.rK (k.rK v t),k.rd.mono o.le w λs c J=>k.rd.next s c J,k.bp,λq F=>(k.pe q F).mono o.le w (mE _) k.tp.ok (mx _)⟩ ((h.nd i hi).ag.mono o.le)) (λl f=>.inl f) _,λ_ _ _ h=>.inl h,λ_ _ e=>by cases e⟩;rw[Hy,a];exact k.tp.ry
 | run _ i hi hu q l E hs =>
  have g:=(h.nd i hi).run r hi hu E hs;exact done g.1 (app g.2)
 | rk _ i hi hu hL =>
  obtain⟨rs,k⟩:=(h.nd i hi).up hu;refine done (NdI.mk' (rs:=rs) hu (k.qX rfl rfl rfl ⟨k.rd.hU,k.rd.next,k.rd.own,k.rd.an,k.rd.prom,k.rd.acc⟩ rfl λx a=>.inl a) (h.nd i hi).ag) (app λm u=>?_);obtain⟨T,U⟩:=J5 5 m u;exact LtI.news T (by rw[U];exact(h.nd i hi).ag.drop _)
 | lead _ i hi hu _=>exact done ((h.nd i hi).lead r hi hu) same
 | sub _ i d hi hu P =>
  obtain⟨rs,k⟩:=(h.nd i hi).up hu;have z:=(h.nd i hi).ag;refine done ?_ same;unfold Nod.rE Nod.rG;split
  .exact h.nd i hi
  .split
   .exact NdI.mk' (rs:=rs) hu (k.qX rfl rfl rfl k.rd rfl λx a=>.inl a) z
   .split
    .exact h.nd i hi
    .show NdI σ i (Nod.want _ _);unfold Nod.want;split
     .exact h.nd i hi
     .exact NdI.mk' (rs:=rs) hu (k.qX rfl rfl rfl k.rd rfl λx a=>.inl a) z
 | lp _ i c hi hu hc _ =>
  obtain⟨rs,k⟩:=(h.nd i hi).up hu;obtain⟨S,⟨x,a⟩,⟨y,R⟩,P⟩:=k.tp.lp hc;have w:=r.ext (i:=i) x (k.tp.ok.pre ⟨y,by rw[a];exact R⟩) λv t=>k.rK v (by rw[<- R,<- a];exact mD _ (mB _ t));have o:=OL σ i x;have A:=Ir (p:=M.ae i) k.tp.rY hc;exact⟨σ.ext i x,none,o.le,h.set o w ⟨λe=>(by rw[A.2.1]at e;cases e),λ_=>(by rw[Hy,a];exact P),by rw[A.2.2.2];exact AgL.nil _ _⟩ (λl f=>.inl f) _,λ_ _ _ h=>.inl h,λ_ _ e=>by cases e⟩
 | start _ i hi hu _ =>
  have k:=(h.nd i hi).dn hu;have I:AR (M.ae i).d (M.ae i).sy:=⟨k.len,by rw[k.sy];omega,by rw[k.sy];omega⟩;have B:=G8 (p:=M.ae i) I;have L:=k.start;have K:(M.ae i).start.av=ej/\(M.ae i).start.bw=[.start]:=by
   unfold Nod.start;rw[if_neg (λe=>e (if_pos I))];split<;>exact⟨rfl,rfl⟩
  refine done (NdI.mk' (rs:=σ.dr i) B.2.1 ⟨L,λv t=>r.hv i v t,?_,?_,λq F=>?_⟩ (by rw[B.2.2.2];exact AgL.nil _ _)) same
  .rw[K.1];exact⟨.inl rfl,λs c J=>absurd (r.w2 _ _ _ J).1 (by decide),λj _ e=>(by cases e),λj _ v t=>(by cases t),λj _ e=>(by cases e),λj _=>⟨K9,λe=>(by cases e)⟩⟩
  .rw[K.1,L.vo];have Y:=L.ok.acc.1;show(0:Int)<=_;unfold Ao Ac at Y;unfold Bal.key;omega
  .rw[K.2]at F
   rw[D'.1 F];trivial
theorem AgI.step(h:AgI σ M)(s:Stp D n M N):∃ τ ex,σ.le τ/\AgI τ N/\(∀ b s c,τ.W b s c->σ.W b s c\/ex=some (b,s))/\∀ b s,ex=some (b,s)->n=1/\s<40/\∃ i,i<5/\b=(M.ae i).av.hU:=by
 obtain⟨τ,ex,a,d,f,g⟩:=h.tJ s;exact⟨τ,ex,a,d,f,λb s e=>by
  obtain⟨j,k,i,l,m,_⟩:=g b s e;exact⟨j,k,i,l,m⟩⟩
theorem AgI.zero:AgI ⟨λ_=>[],λ_ _ _=>False⟩ AI :=
 ⟨⟨λ_=>AQ.nil,⟨λn s b c ⟨v,g,_⟩=>(by cases g),λn k s b c h ⟨v,g,_⟩=>(by cases g),λn s b c ⟨v,g,_⟩=>(by cases g)⟩,λ_ _ _ _ g=>g.elim,λ_ _ _ g=>g.elim,λ_ _ _ g=>g.elim,λn v g=>(by cases g)⟩,
  λi _=>NdI.mk' (rs:=[]) rfl ⟨TpU.zero,λv g=>(by cases g),⟨.inl rfl,λ_ _ g=>g.elim,λj _ e=>(by cases e),λj _ v f=>(by cases f),λj _ e=>(by cases e),λj _=>⟨K9,λe=>(by cases e)⟩⟩,mx _,λq d=>(by cases d)⟩ (AgL.nil _ _),λl a=>by cases a⟩
theorem OU{α:Type}[DecidableEq α]{l m:List α}(f:l.Nodup)(h:∀ x∈l,x∈m):l.length<=m.length:=by
 induction l generalizing m with
 | nil=>exact mV _
 | cons x l ih =>
  obtain⟨c,d⟩:=oK.1 f;have a:=h x O';have:=ih d (m:=m.erase x) λy b=>(List.mem_erase_of_ne (λe=>c (by rw[<- e];exact b))).2 (h y (I' _ b));rw[List.length_erase_of_mem a]at this
  have:=List.length_pos_of_mem a;rw[mY];omega
def prc:List Rk->Nat
 | []=>0
 | .pr _::l=>prc l+1
 | .vt _::l=>prc l
def vts:List Rk->List Vt
 | []=>[]
 | .pr _::l=>vts l
 | .vt v::l=>v::vts l
theorem dP(l m:List Rk):prc (l++m)=prc l+prc m:=by
 induction l with
 | nil=>simp[prc]
 | cons r l ih=>cases r<;>simp[prc,ih];omega
theorem fp(l m:List Rk):vts (l++m)=vts l++vts m:=by
 induction l with
 | nil=>rfl
 | cons r l ih=>cases r<;>simp[vts,ih]
theorem UU{l:List Rk}:v∈vts l↔Rk.vt v∈l:=by
 induction l with
 | nil=>simp[vts]
 | cons r l ih=>cases r<;>simp[vts,ih]
theorem cK(a:List Rk):(fl a).length=14*prc a+38*(vts a).length:=by
 induction a with
 | nil=>rfl
 | cons r l ih =>
  have e:fl (r::l)=AM r.body++fl l:=rfl;rw[e,H',Bg,ih];cases r with
  | pr b=>show(Bu b).length+5+_=14*(prc l+1)+38*(vts l).length;rw[JR];omega
  | vt v=>show(Bj v).length+5+_=14*prc l+38*((vts l).length+1);rw[GD];omega
theorem iG(h:AQ rs):(prc rs:Int)<=(B1 rs).p.key:=h.ind (P:=λrs=>(prc rs:Int)<=(B1 rs).p.key) (by decide) λrs r f a g=>by
 have c:=Rk.sh f.acc a.err;rw[dP,BS];cases r with
 | pr b =>
  have d:=Cj a.1;have:(B1 rs).p.key≠b.key:=λe=>a.2 (DE d.1.1 d.2.1.pr e);have c:(B1 rs).p.key<=b.key:=c;show((prc rs+1:Nat):Int)<=b.key;omega
 | vt v=>show((prc rs+0:Nat):Int)<=_;exact mR (by omega) c
theorem WW(s:GsI σ){a:List Rk}(h:AQ a)(c:∀ v,Rk.vt v∈a->σ.rK v):(vts a).Nodup:=by
 revert c
 refine h.ind (P:=λa=>(∀ v,Rk.vt v∈a->σ.rK v)->(vts a).Nodup) (λ_=>nX) λa r i m j c=>?_;have j:=j λv g=>c v (mD _ g);rw[fp];cases r with
 | pr b=>show(vts a++[]).Nodup;rw[mT];exact j
 | vt v =>
  show(vts a++[v]).Nodup;refine oJ.2 ⟨j,oK.2 ⟨Q',nX⟩,λx z y A e=>?_⟩;rw[D'.1 A]at e
  subst e;obtain⟨B,u,f,l,C⟩:=QP i x (UU.1 z);have p:=Ap m.1;have w:=i.acc.le f;have t:=Bo p.2.1.2.1.pr i.acc.1 p.2.2;have n:=c u (mD _ (IG i u f));have d:=c x (mB _ O');have k:u.b=x.b:=DE n.1.2.1.pr d.1.2.1.pr (by omega);have o:=n.2;rw[k,l]at o
  have q:=s.w1 _ _ _ _ o d.2;have:u=x:=(Vt.eq_iff u x).1 ⟨l,k,q⟩;rw[this]at f
  exact m.2 f
theorem fs(r:GsI σ){d:List Rk}(h:AQ d)(i:∀ v,Rk.vt v∈d->σ.rK v){a:List (Bal × Nat)}(B:∀ b s c,σ.W b s c->(b,s)∈a):(vts d).length<=a.length:=by
 have t:=WW r h i;have j:∀ v∈vts d,σ.rK v:=λv g=>i v (UU.1 g);have:((vts d).map λv=>(v.b,v.bu.toNat)).Nodup:=by
  clear h i;generalize vts d=q at t j ⊢;induction q with
  | nil=>exact nX
  | cons v l ih =>
   obtain⟨z,A⟩:=oK.1 t;refine oK.2 ⟨λg=>?_,ih A λu f=>j u (I' _ f)⟩;obtain⟨u,f,e⟩:=mQ.1 g;have n:=j u (I' _ f);have o:=j v O';have k:u.b=v.b:=congrArg Prod.fst e;have w:u.bu.toNat=v.bu.toNat:=congrArg Prod.snd e;have p:=n.2;rw[k,w]at p
   have y:=r.w1 _ _ _ _ p o.2;have:u=v:=(Vt.eq_iff u v).1 ⟨by have:=n.1.1;have:=o.1.1;omega,k,y⟩;rw[this]at f;exact z f
 have:=OU this (m:=a) λx C=>by
  obtain⟨v,i,rfl⟩:=mQ.1 C;exact B _ _ _ (j v i).2
 rwa [mO]at this
theorem aP(h:AgI σ M){a:List (Bal × Nat)}(e:∀ b s c,σ.W b s c->(b,s)∈a){j:Nat}(f:j<5)(g:(M.ae j).up=true):((M.ae j).d.length:Int)<=14*(M.ae j).vo.p.key+38*(a.length:Int):=by
 obtain⟨m,k⟩:=(h.nd j f).up g;have i:=fs h.gs k.tp.ok k.rK e;have l:=iG k.tp.ok;rw[k.tp.d,cK,k.tp.vo];omega
def Nod.pk(p:Nod):Int:=if p.up then p.vo.p.key else(Ef p.d).2.p.key
def KbI(K R:Int)(M:Meet):Prop:=∀ j,j<5->(M.ae j).pk<=K/\5*(M.ae j).dc<=R
theorem NdI.rZ(h:NdI σ j p):σ.P j<=p.pk:=by
 unfold Nod.pk;split
 .rename_i hu
  obtain⟨c,k⟩:=h.up hu;obtain⟨x,b⟩:=k.tp.pre;have a:=k.tp.ok;rw[<- b]at a
  have:=(D8 a).1;rw[b,<- k.tp.vo]at this
  exact this
 .rename_i hu
  rw[(h.dn (by simpa using hu)).sH];exact mx _
theorem AgI.rZ(h:AgI σ M){K R:Int}(c:KbI K R M){b:Bal}(d:Ac b)(e:b.key<=σ.P b.n.toNat):b.key<=K:=by
 have a:b.n.toNat<5:=by unfold Ac at d;omega
 exact mR e (mR (h.nd _ a).rZ (c _ a).1)
theorem Y5(h:Ao b):5*b.r<=b.key:=by unfold Ao Ac at h;unfold Bal.key;omega
theorem KbI.set(h:KbI K R M){i:Nat}{p:Nod}(b:p.pk<=K/\5*p.dc<=R)(ls:List Let)(ts:List Tol):KbI K R (M.set i p ls ts):=λj a=>by
 show(upN M.ae i p j).pk<=K/\5*(upN M.ae i p j).dc<=R;unfold upN;split
 .exact b
 .exact h j a
theorem KbI.step(P:¬ D.ld){n:Nat}{σ:Gs}{M N:Meet}(h:AgI σ M)(s:Stp D n M N){K R:Int}(Q:K<=R)(m:KbI K R M):KbI K R N:=by
 have qX:∀ {i:Nat} {p:Nod},i<5->(M.ae i).up=true->p.up=true->p.vo.p.key<=(M.ae i).vo.p.key\/p.vo.p.key<=K->p.dc=(M.ae i).dc->p.pk<=K/\5*p.dc<=R:=λ{i p} j f z S A=>by
  have o:=m i j;unfold Nod.pk at o ⊢;rw[if_pos f]at o
  rw[if_pos z,A];exact⟨S.elim (λg=>mR g o.1) id,o.2⟩
 cases s with
 | take _ l hl hd f _ =>
  have w:=h.lt l hl;obtain⟨O,k⟩:=(h.nd _ hd.2).up f;have b:=(congrArg Prod.fst (Pv (M.ae l.dst) l)).trans f;refine m.set ?_ _ _
  revert b
  unfold Nod.take;split
  .rename_i u
   rcases k.tp.au l.hU with⟨e,he⟩|⟨e,he,hvs,rs',z,v,hm,hpb,hpv,d,a,hq⟩
   .rw[if_pos e];intro b;refine qX hd.2 f b (.inl ?_) ?_<;>(unfold Nod.ew;split)<;>first|exact mx _|rfl
   .rw[if_neg (λg=>g e)];intro b;refine qX hd.2 f b (.inr ?_) (by show((M.ae l.dst).au l.hU).1.dc=_;rw[hq];rfl);show((M.ae l.dst).au l.hU).1.vo.p.key<=K;rw[v.vo,hpb];exact h.rZ m (Cj he).2.1 (w.k0 u)
  .simp only;split<;>exact λb=>qX hd.2 f b (.inl (mx _)) rfl
  .rename_i u
   intro b;have o:=qX (p:=M.ae l.dst) hd.2 f f (.inl (mx _)) rfl;refine⟨o.1,?_⟩;have B:=mR (w.k2 u).2 (mR (h.nd _ hd.1).rZ (m _ hd.1).1);have J:5*l.hU.r<=K:=mR (Y5 (w.k2 u).1) B;show 5*max (M.ae l.dst).dc l.hU.r<=R;have:=o.2;omega
  .rename_i u
   rcases k.tp.cn l.cn with⟨e,he⟩|⟨e,he,rs',z,v,hm,hpb,d,a,hq⟩
   .rw[if_pos e];intro b;refine qX hd.2 f b (.inl ?_) ?_<;>(unfold Nod.ew;split)<;>first|exact mx _|rfl
   .rw[if_neg (λg=>g e)];intro b;refine qX hd.2 f b (.inr ?_) (by show((M.ae l.dst).cn l.cn).1.dc=_;rw[hq];rfl);show((M.ae l.dst).cn l.cn).1.vo.p.key<=K;rw[v.vo,hpb];exact h.rZ m (Ap he).2.1.2.1 (h.gs.w3 _ _ _ (w.k3 u).2)
  .unfold Nod.count;split
   .exact λb=>qX hd.2 f b (.inl (mx _)) rfl
   .split<;>exact λb=>qX hd.2 f b (.inl (mx _)) rfl
  .split<;>exact λb=>qX hd.2 f b (.inl (mx _)) rfl
  .simp only;unfold Nod.dT;split<;>split<;>exact λb=>qX hd.2 f b (.inl (mx _)) rfl
  .exact λb=>qX hd.2 f b (.inl (mx _)) rfl
 | br _ ls hl _=>exact m
 | one _ i c j f hc he =>
  refine m.set (qX j f ((DQ { M.ae i with ni:=doS (M.ae i).ni c,done:=(M.ae i).done+1 } c).1.trans f) (.inl ?_) ?_) _ _<;>(unfold Nod.hZ;split)<;>first|exact mx _|rfl
 | ask _ i j f =>
  refine m.set (qX j f ((Im _ i).trans f) (.inl ?_) ?_) _ _<;>(unfold Nod.kc;split)<;>first|exact mx _|rfl|(split<;>first|exact mx _|rfl|(unfold Nod.dT;split<;>first|exact mx _|rfl))
 | prop _ i j f =>
  refine m.set (qX j f ((E2 _).trans f) (.inl ?_) ?_) _ _
  .obtain⟨O,k⟩:=(h.nd i j).up f;unfold Nod.cF;split
   .exact mx _
   .rename_i hc
    have G:(M.ae i).leads=true:=by cases hh:(M.ae i).leads with|true=>rfl|false=>exact absurd (.inl hh) hc
    cases hn:(M.ae i).qY (M.ae i).ab.length with
    | none=>exact mx _
    | some c =>
     simp only;rcases k.tp.cn ⟨((M.ae i).ab.length:Int),(M.ae i).av.hU,c⟩with⟨e,he⟩|⟨e,he,rs',z,v,hm,hpb,d,a,hq⟩
     .rw[if_pos e];exact mx _
     .rw[if_neg (λg=>g e)];show((M.ae i).cn _).1.vo.p.key<=_;rw[v.vo,hpb,(m5 G).2];exact mx _
  .unfold Nod.cF;split
   .rfl
   .split
    .rfl
    .split
     .rfl
     .show((M.ae i).cn _).1.dc=_;unfold Nod.cn;split
      .rfl
      .split
       .rfl
       .split<;>rfl
 | ry _ i j f hlt E=>exact m.set (qX (p:={ M.ae i with sy:=((M.ae i).d.length:Int) }) j f f (.inl (mx _)) rfl) _ _
 | run _ i j f q l z hs =>
  have u:=D9 (M.ae i) i q;refine m.set (qX (p:={ (M.ae i).lr i q with bw:=l }) j f (u.2.1.trans f) (.inl ?_) ?_) _ _<;>(cases q<;>first|exact mx _|rfl|(simp only[Nod.lr];split<;>first|exact mx _|rfl)|(simp only[Nod.lr,Nod.count];split<;>first|exact mx _|rfl|(split<;>first|exact mx _|rfl)))
 | rk _ i j f w=>exact m.set (qX (p:=E7 (M.ae i) i 5) j f f (.inl (mx _)) rfl) _ _
 | lead _ i j f w=>exact absurd w P
 | sub _ i d j f hd =>
  have b:((M.ae i).rE i d M.ed).1.up=true:=by
   unfold Nod.rE Nod.rG;split
   .exact f
   .split
    .exact f
    .split
     .exact f
     .show(Nod.want _ _).up=true;unfold Nod.want;split<;>exact f
  refine m.set (qX j f b (.inl ?_) ?_) _ _<;>(unfold Nod.rE Nod.rG;split)<;>first|exact mx _|rfl|(split<;>first|exact mx _|rfl|(split<;>first|exact mx _|rfl|(simp only[Nod.want];split<;>first|exact mx _|rfl)))
 | lp _ i c j f hc hC =>
  obtain⟨O,k⟩:=(h.nd i j).up f;obtain⟨x,_,⟨y,L⟩,C⟩:=k.tp.lp hc;have F:=Ir (p:=M.ae i) k.tp.rY hc;have A:((M.ae i).lp c).dc=0:=by
   unfold Nod.lp;rw[if_neg]
   .rfl
   .intro e;exact e (by unfold Gk;rw[if_neg (λe=>e k.tp.rY),if_neg (by omega)])
  have t:=(m i j).1;unfold Nod.pk at t;rw[if_pos f]at t
  have o:=k.tp.ok;rw[<- L]at o
  have B:=(D8 o).1;rw[L,<- k.tp.vo]at B
  have I:=(AQ.left o).acc.1;have J:0<=(B1 x).p.key:=by unfold Ao Ac at I;unfold Bal.key;omega
  refine m.set ⟨?_,by rw[A];omega⟩ _ _;unfold Nod.pk;rw[if_neg (by rw[F.2.1];decide),C.sH];show(B1 x).p.key<=K;omega
 | start _ i j f _ =>
  have k:=(h.nd i j).dn f;have v:=k.start;have E:AR (M.ae i).d (M.ae i).sy:=⟨k.len,by rw[k.sy];omega,by rw[k.sy];omega⟩;have H:=G8 (p:=M.ae i) E;have A:(M.ae i).start.dc=0:=by
   unfold Nod.start;rw[if_neg (λe=>e (if_pos E))];split<;>rfl
  have t:=(m i j).1;unfold Nod.pk at t;rw[if_neg (by rw[f];decide),k.sH]at t
  have t:(B1 (σ.dr i)).p.key<=K:=t;have I:=v.ok.acc.1;have J:0<=(B1 (σ.dr i)).p.key:=by unfold Ao Ac at I;unfold Bal.key;omega
  refine m.set ⟨?_,by rw[A];omega⟩ _ _;unfold Nod.pk;rw[if_pos H.2.1,v.vo];exact t
def wh1:Wh:=⟨λ_ _=>False,False,False,False,False,False⟩
def wh0:Wh:=⟨λ_ _=>False,False,False,False,True,False⟩
theorem Stp.calm{c:Nat}(h:Stp wh1 c M N):Stp wh0 c M N:=by
 cases h with
 | take _ l hl hd hu ht=>exact .take M l hl hd hu trivial
 | br _ ls h hd=>exact False.elim hd
 | one _ i c hi hu hc he=>exact .one M i c hi hu hc he
 | ask _ i hi hu=>exact .ask M i hi hu
 | prop _ i hi hu=>exact .prop M i hi hu
 | ry _ i hi hu h hT=>exact .ry M i hi hu h hT
 | run _ i hi hu q l hp hs=>exact .run M i hi hu q l hp hs
 | rk _ i hi hu hL=>exact .rk M i hi hu hL
 | lead _ i hi hu hL=>exact False.elim hL
 | sub _ i d hi hu hD=>exact False.elim hD
 | lp _ i k hi hu hk hC=>exact False.elim hC
 | start _ i hi hu hs=>exact False.elim hs
theorem JV{to:Nat}{e:Int}(a:q∈p.bw):q∈(p.ew to e).bw:=by
 unfold Nod.ew;split
 .exact mD _ a
 .exact a
theorem GY{l:Let}(a:q∈p.bw):q∈(p.take l).bw:=by
 unfold Nod.take;split
 .split
  .exact JV a
  .exact mD _ (by rw[FK];exact a)
 .simp only;split<;>exact a
 .exact a
 .split
  .exact JV a
  .exact mD _ (by rw[GZ];exact a)
 .unfold Nod.count;split
  .exact a
  .split<;>exact a
 .split
  .exact mD _ a
  .exact a
 .simp only;unfold Nod.dT;split<;>split<;>first|exact a|exact mD _ a
 .exact a
theorem Pe(a:q∈p.bw):q∈p.cF.bw:=by
 unfold Nod.cF;split
 .exact a
 .split
  .exact a
  .split
   .exact a
   .exact mD _ (by rw[GZ];exact a)
theorem IX(p:Nod)(i:Nat):(p.kc i).1.bw=p.bw/\(p.kc i).1.d=p.d/\(p.kc i).1.sy=p.sy:=by
 unfold Nod.kc;split
 .exact⟨rfl,rfl,rfl⟩
 .split
  .unfold Nod.dT;split<;>exact⟨rfl,rfl,rfl⟩
  .exact⟨rfl,rfl,rfl⟩
theorem GA(p:Nod)(c:Cmd):(p.hZ c).bw=p.bw/\(p.hZ c).d=p.d/\(p.hZ c).sy=p.sy:=by unfold Nod.hZ;split<;>exact⟨rfl,rfl,rfl⟩
theorem XN(i:Nat)(l:List Cmd)(p:Nod)(a:List Tol):(rz i l p a).1.d=p.d/\(rz i l p a).1.sy=p.sy:=by
 induction l generalizing p a with
 | nil=>exact⟨rfl,rfl⟩
 | cons c l ih =>
  rw[rz];split
  .exact⟨rfl,rfl⟩
  .have h1:=ih (Nod.hZ { p with ni:=doS p.ni c,done:=p.done+1 } c) (if(p.cl c).isSome=true then a++[⟨i,c.c,c.s,doC p.ni c,doA p.ni c⟩]else a);have b:=GA { p with ni:=doS p.ni c,done:=p.done+1 } c;exact⟨h1.1.trans b.2.1,h1.2.trans b.2.2⟩
theorem RU(i:Nat)(l:List Pend)(p:Nod)(a:List Let):(qW i l p a).1.bw=p.bw:=by
 induction l generalizing p a with
 | nil=>rfl
 | cons q l ih=>rw[qW,ih];exact(D9 p i q).1
theorem H9(h:AR p.d p.sy)(i:Nat)(k:List Let)(l:List Tol):(p.piece i k l).1.bw=[]:=by
 unfold Nod.piece;simp only;have g:=XN i (p.ab.drop p.done) p l;generalize rz i (p.ab.drop p.done) p l=a at g ⊢;have j:=IX a.1 i;generalize a.1.kc i=b at j ⊢;have c:b.1.tp:=by show AR b.1.d b.1.sy;rw[j.2.1,j.2.2,g.1,g.2];exact h
 have m:b.1.cF.tp:=by
  unfold Nod.cF;split
  .exact c
  .split
   .exact c
   .split
    .exact c
    .exact P4 c _
 generalize b.1.cF=r at m ⊢;have n:(r.ov i (k++b.2)).1.bw=[]:=by
  unfold Nod.ov;rw[if_neg (λe=>e.2 (if_pos m)),RU]
 generalize r.ov i (k++b.2)=f at n ⊢;unfold Nod.bN;split<;>exact n
theorem Am(M:Meet)(i:Nat)(p:Nod)(a:List Let)(b:List Tol)(j:Nat):(M.set i p a b).ae j=if j=i then p else M.ae j:=rfl
theorem NY{c:Nat}(s:Stp wh0 c M N){i:Nat}{q:Pend}(hq:q∈(M.ae i).bw):q∈(N.ae i).bw\/∃ l,(M.ae i).bw=q::l/\N=M.set i { (M.ae i).lr i q with bw:=l } (M.br++(M.ae i).rh i q) M.ed:=by
 have put:∀ {j:Nat} {p:Nod} {a:List Let} {b:List Tol},(j=i->q∈p.bw)->q∈((M.set j p a b).ae i).bw:=λ{j p a b} h=>by
  rw[Am];split
  .rename_i e;exact h e.symm
  .exact hq
 cases s with
 | take _ l hl hd hu ht=>exact .inl (put λe=>GY (by rw[e];exact hq))
 | br _ a h hd=>exact False.elim hd
 | one _ j c hi hu hc he=>exact .inl (put λe=>by rw[(GA _ c).1,e];exact hq)
 | ask _ j hi hu=>exact .inl (put λe=>by rw[(IX _ j).1,e];exact hq)
 | prop _ j hi hu=>exact .inl (put λe=>Pe (by rw[e];exact hq))
 | ry _ j hi hu h hT=>exact .inl (put λe=>by subst e;exact hq)
 | run _ j hi hu x l hp hs =>
  by_cases e:j=i
  .subst e;rw[hp]at hq
   rcases mG.1 hq with rfl|hq
   .exact .inr ⟨l,hp,rfl⟩
   .exact .inl (by rw[Am,if_pos rfl];exact hq)
  .exact .inl (put λf=>absurd f e)
 | rk _ j hi hu hL=>exact .inl (put λe=>by subst e;exact hq)
 | lead _ j hi hu hL=>exact False.elim hL
 | sub _ j d hi hu hD=>exact False.elim hD
 | lp _ j k hi hu hk hC=>exact False.elim hC
 | start _ j hi hu hs=>exact False.elim hs
theorem GX(a:(M.ae i).up=true):M.act (acN 3 (i:Int))=M.set i ((M.ae i).piece i M.br M.ed).1 ((M.ae i).piece i M.br M.ed).2.1 ((M.ae i).piece i M.br M.ed).2.2:=by
 unfold Meet.act;simp[acN,a]
theorem FQ(a:i<5):LacOk (acN 3 (i:Int)):=ER ⟨.inr (.inl rfl),by omega,by omega⟩
theorem az(i:Nat):wh1.may (acN 3 (i:Int)):=⟨λe=>absurd e (by show(3:Int)≠1;decide),λe=>absurd e (by show(3:Int)≠2;decide),λe=>absurd e (by show(3:Int)≠8;decide),λe=>absurd e (by show ¬ ((3:Int)=4\/(3:Int)=5\/(3:Int)=6\/(3:Int)=7);decide),λe=>absurd e (by show(3:Int)≠9;decide)⟩
end
section
variable{I J:Meet->Prop}
theorem Cx(a:∀ c M N,Stp wh1 c M N->I M->I N){n:Nat}{M:Meet}(b:MOk n M){i:Nat}(d:i<5)(h:I M):I (M.act (acN 3 (i:Int))):=(O6 (D:=wh1) b (FQ d) (az i)).inv a h
theorem W8(a:∀ c M N,Stp wh1 c M N->I M->I N)(b:∀ c M N,Stp wh1 c M N->I M->J M->J N){n:Nat}{M:Meet}(e:MOk n M){i:Nat}(f:i<5)(p:(M.ae i).up=true)(o:AR (M.ae i).d (M.ae i).sy){q:Pend}(j:q∈(M.ae i).bw)(h:I M)
  (m:∀ N l,I N->(N.ae i).bw=q::l->J (N.set i { (N.ae i).lr i q with bw:=l } (N.br++(N.ae i).rh i q) N.ed)):J (M.act (acN 3 (i:Int))):=by
 have k:=Cx (I:=λN=>I N/\(q∈(N.ae i).bw\/J N)) (λc A B s g=>⟨a c A B s g.1,by
  rcases g.2 with g2|g2
  .rcases NY s.calm g2 with g3|⟨l,g3,rfl⟩
   .exact .inl g3
   .exact .inr (m A l g.1 g3)
  .exact .inr (b c A B s g.1 g2)⟩) e f ⟨h,.inl j⟩
 refine k.2.resolve_left λg=>?_;rw[GX p,Am,if_pos rfl,H9 o]at g
 cases g
def TkS(M N:Meet):Prop:=∃ l,l∈M.br/\(l.src<5/\l.dst<5)/\(M.ae l.dst).up=true/\N=M.set l.dst ((M.ae l.dst).take l) M.br M.ed
theorem TkS.rJ{M N:Meet}(h:TkS M N):Stp wh0 0 M N:=by obtain⟨l,a,b,c,rfl⟩:=h;exact .take M l a b c trivial
theorem Je(e:∀ M N,TkS M N->I M->I N)(l:List Let){M:Meet}(a:∀ m∈l,m∈M.br/\m.src<5/\m.dst<5)(h:I M):I (l.foldl (λM l=>M.pd l) M)/\(l.foldl (λM l=>M.pd l) M).br=M.br:=by
 induction l generalizing M with
 | nil=>exact⟨h,rfl⟩
 | cons x l ih =>
  obtain⟨b,c⟩:=a x O';have d:I (M.pd x):=by
   unfold Meet.pd;split
   .rename_i hu;exact e M _ ⟨x,b,c,hu,rfl⟩ h
   .exact h
  have:=ih (M:=M.pd x) (λm f=>by rw[Eh];exact a m (I' _ f)) d;exact⟨this.1,this.2.trans (Eh M x)⟩
theorem DI(f:∀ M N,TkS M N->I M->I N)(t:∀ M N,TkS M N->I M->J M->J N){n:Nat}{M:Meet}(o:MOk n M)(h:I M){l:Let}(k:l∈M.br)(q:∀ N,I N->(N.ae l.dst).up=true)
  (u:∀ N,I N->N.br=M.br->J (N.set l.dst ((N.ae l.dst).take l) N.br N.ed)):∃ N,M.act (acN 7 0)={ N with br:=[] }/\I N/\J N/\N.br=M.br:=by
 have j:∀ m∈M.br,m.src<5/\m.dst<5:=λm d=>⟨(o.br m d).src,(o.br m d).dst⟩;obtain⟨a,b,e⟩:=List.append_of_mem k;have r:M.act (acN 7 0)={ M.br.foldl (λM l=>M.pd l) M with br:=[] }:=by
  show M.rp=_;unfold Meet.rp;rw[Hv]
 refine⟨_,r,?_⟩;have c:=Je f a (M:=M) (λm d=>by have:m∈M.br:=(by rw[e];exact mD _ d);exact⟨this,j m this⟩) h;rw[show M.br.foldl (λM l=>M.pd l) M=b.foldl (λM l=>M.pd l) ((a.foldl (λM l=>M.pd l) M).pd l)by rw[e,oL];rfl];generalize a.foldl (λM l=>M.pd l) M=A at c ⊢;have p:A.pd l=A.set l.dst ((A.ae l.dst).take l) A.br A.ed:=by unfold Meet.pd;rw[if_pos (q A c.1)];rfl
 have s:TkS A (A.pd l):=⟨l,by rw[c.2];exact k,j l k,q A c.1,p⟩;have i:=Je (I:=λN=>I N/\J N) (λA B s g=>⟨f A B s g.1,t A B s g.1 g.2⟩) b (M:=A.pd l) (λm d=>by
  have:m∈M.br:=by rw[e];exact mB _ (I' _ d)
  exact⟨by rw[Eh,c.2];exact this,j m this⟩) ⟨f _ _ s c.1,by rw[p];exact u A c.1 c.2⟩
 exact⟨i.1.1,i.1.2,by rw[i.2,Eh,c.2]⟩
end
theorem KbI.mono{K R a b:Int}{M:Meet}(h:KbI K R M)(d:K<=a)(e:R<=b):KbI a b M:=λj c=>⟨mR (h j c).1 d,mR (h j c).2 e⟩
theorem Tt{D:Wh}(l:¬ D.ld){n:Nat}{M N:Meet}(s:Sts D n M N){σ:Gs}(h:AgI σ M){K R:Int}(a:K<=R)(f:KbI K R M):∃ (τ:Gs) (ex:List (Bal × Nat)),σ.le τ/\AgI τ N/\KbI K R N/\ex.length<=n/\∀ b s c,τ.W b s c->σ.W b s c\/(b,s)∈ex:=by
 induction s with
 | nil=>exact⟨σ,[],.refl σ,h,f,mV _,λ_ _ _ g=>.inl g⟩
 | snoc _ s hm ih =>
  obtain⟨τ,ex,i,d,j,r,k⟩:=ih h f;obtain⟨υ,e,m,o,p,q⟩:=d.step s;refine⟨υ,ex++e.toList,i.trans m,o,j.step l d s a,?_,λb s c g=>?_⟩
  .cases e with
   | none=>simp;omega
   | some x=>have:=(q x.1 x.2 rfl).1;simp;omega
  .rcases p b s c g with g|g
   .exact(k b s c g).imp id λg=>mD _ g
   .exact .inr (mB _ (by rw[g];exact D'.2 rfl))
theorem KbI.lead{σ:Gs}{M:Meet}(h:AgI σ M){R:Int}(l:KbI R R M){i:Nat}(m:i<5)(j:(M.ae i).up=true)(o:List Let)(q:List Tol):KbI (R+9) (R+9) (M.set i ((M.ae i).lead i) o q):=by
 obtain⟨t,k⟩:=(h.nd i m).up j;have f:=l i m;have c:=f.1;unfold Nod.pk at c;rw[if_pos j]at c
 have s:=Y5 (b:=(M.ae i).vo.p) (by rw[k.tp.vo];exact k.tp.ok.acc.1);refine(l.mono (by omega) (by omega)).set ?_ _ _;unfold Nod.lead;simp only;generalize n:(⟨max (M.ae i).dc (M.ae i).vo.p.r+1,(i:Int)⟩:Bal)=b;rcases k.tp.au b with⟨e,he⟩|⟨e,he,hvs,rs',hp,ht,hm,hpb,hpv,d,a,hq⟩
 .rw[if_pos e];exact⟨by have:=f.1;omega,by have:=f.2;omega⟩
 .rw[if_neg (λg=>g e)];refine⟨?_,?_⟩
  .show(if((M.ae i).au b).1.up=true then((M.ae i).au b).1.vo.p.key else(Ef ((M.ae i).au b).1.d).2.p.key)<=_;rw[if_pos (by rw[hq];exact j),ht.vo,hpb,<- n];show 5*(max (M.ae i).dc (M.ae i).vo.p.r+1)+(i:Int)<=_;omega
  .show 5*((M.ae i).au b).1.dc<=_;rw[hq];show 5*(M.ae i).dc<=_;omega
def whL:Wh:=⟨λ_ _=>True,False,True,True,True,True⟩
def lds(L:List Lac):Nat:=L.countP λx=>decide (x.k=2)
theorem Wr(L:List Lac){n:Nat}{M:Meet}(w:MOk n M)(B:n+L.length<=1000000)(v:∀ x∈L,LacOk x){σ:Gs}(h:AgI σ M){R:Int}(l:KbI R R M){cov:List (Bal × Nat)}(m:∀ b s c,σ.W b s c->(b,s)∈cov) :
  ∃ (τ:Gs) (cov':List (Bal × Nat)),σ.le τ/\AgI τ (M.fa L)/\KbI (R+9*(lds L:Int)) (R+9*(lds L:Int)) (M.fa L)/\cov'.length<=cov.length+L.length/\∀ b s c,τ.W b s c->(b,s)∈cov':=by
 induction L generalizing n M σ R cov with
 | nil=>exact⟨σ,cov,.refl σ,h,l.mono (by simp[lds]) (by simp[lds]),A' _,m⟩
 | cons x L ih =>
  rw[mY]at B
  have t:=v x O';have r:lds (x::L)=lds L+if x.k=2 then 1 else 0:=by unfold lds;rw[ph];simp
  have one:∃ (τ:Gs) (cov':List (Bal × Nat)),σ.le τ/\AgI τ (M.act x)/\KbI (R+if x.k=2 then 9 else 0) (R+if x.k=2 then 9 else 0) (M.act x)/\cov'.length<=cov.length+1/\∀ b s c,τ.W b s c->(b,s)∈cov':=by
   by_cases d:x.k=2
   .rw[if_pos d];have z:x.n.toNat<5:=by have:=t.n (by rw[d];rfl);omega
    have e:M.act x=M.set x.n.toNat (if(M.ae x.n.toNat).up then(M.ae x.n.toNat).lead x.n.toNat else M.ae x.n.toNat) M.br M.ed:=by
     unfold Meet.act;simp only;rw[if_neg (by omega),if_pos d]
    by_cases o:(M.ae x.n.toNat).up=true
    .rw[if_pos o]at e
     obtain⟨τ,u,f,i,j,p⟩:=h.step (D:=whT) (.lead M _ z o trivial);refine⟨τ,cov,f,by rw[e];exact i,by rw[e];exact l.lead h z o _ _,by omega,λb s c g=>?_⟩;rcases j b s c g with g|g
     .exact m b s c g
     .exact absurd (p b s g).1 (by decide)
    .rw[if_neg o,EM]at e
     rw[e];exact⟨σ,cov,.refl σ,h,l.mono (by omega) (by omega),by omega,m⟩
   .rw[if_neg d,Int.add_zero];obtain⟨τ,u,f,i,j,p,q⟩:=Tt (D:=whL) (λe=>e) (O6 w t ⟨λ_=>trivial,λe=>d e,λ_=>trivial,λ_=>⟨trivial,trivial⟩,λ_=>trivial⟩) h (mx R) l;refine⟨τ,cov++u,f,i,j,by rw[H'];omega,λb s c g=>?_⟩;exact(q b s c g).elim (λg=>mD _ (m b s c g)) λg=>mB _ g
  obtain⟨τ,cov',f,i,j,p,q⟩:=one;obtain⟨υ,a,E,F,A,H,G⟩:=ih (w.act (by omega) t) (by omega) (λy C=>v y (I' _ C)) i j q;have e:R+(if x.k=2 then 9 else 0)+9*(lds L:Int)=R+9*(lds (x::L):Int):=by
   rw[r];split<;>omega
  rw[e]at A
  exact⟨υ,a,f.trans E,F,A,by rw[mY];omega,G⟩
theorem KbI.zero:KbI 0 0 AI:=λj a=>⟨by show CV.pk<=0;decide,by show 5*CV.dc<=0;decide⟩
section
variable{S:Cmd->Prop}
section
def VsS(S:Cmd->Prop)(l:List Vt):Prop:=∀ v∈l,S v.w
def RsS(S:Cmd->Prop)(rs:List Rk):Prop:=∀ v,Rk.vt v∈rs->S v.w
def PnS(S:Cmd->Prop):Pend->Prop
 | .began _ vs=>VsS S vs
 | .prom _ _ vs=>VsS S vs
 | .voted _ v=>S v.w
 | .prop v=>S v.w
 | _=>True
structure NdS(S:Cmd->Prop)(p:Nod):Prop where
 up:p.up=true->∃ dr rs,TpU p dr rs/\RsS S rs
 dn:p.up=false->∃ dr,TpD p dr/\RsS S dr
 ag:∀ c∈p.ab,S c
 wa:∀ c∈p.bn,S c
 qu:∀ c∈p.av.fv,S c
 he:∀ j,j<5->VsS S (p.av.an j).vs
 pe:∀ q∈p.bw,PnS S q
structure LtS(S:Cmd->Prop)(l:Let):Prop where
 vs:VsS S l.mv
 wh:∀ c∈l.gC,S c
 vt:l.kind=3\/l.kind=4->S l.cn.w
variable{M:Meet}{dr:List Rk}{i:Nat}{p q:Nod}{r:Rnd}
theorem NdS.tape(h:NdS S p){q:Nod}(i:q.up=p.up)(a:q.d=p.d)(f:q.sy=p.sy)(n:q.vo=p.vo)(l:∀ c∈q.ab,S c)(t:∀ c∈q.bn,S c)(r:∀ c∈q.av.fv,S c)(m:∀ j,j<5->VsS S (q.av.an j).vs)(o:∀ x∈q.bw,PnS S x):NdS S q :=
 ⟨λe=>by
  obtain⟨b,s,k,g⟩:=h.up (i▸e);exact⟨b,s,⟨k.ok,k.pre,a.trans k.d,f.trans k.sy,n.trans k.vo,by rw[a];exact k.len⟩,g⟩,λe=>by
  obtain⟨b,k,g⟩:=h.dn (i▸e);exact⟨b,⟨k.ok,by rw[a];exact k.sH,by rw[a];exact k.tk,by rw[f,a];exact k.sy,by rw[a];exact k.len⟩,g⟩,l,t,r,m,o⟩
theorem NdS.wait(h:NdS S p){x:Pend}(a:PnS S x):NdS S (p.wait x) :=
 h.tape rfl rfl rfl rfl h.ag h.wa h.qu h.he λy b=>(P'.1 b).elim (h.pe y) λe=>by rw[D'.1 e];exact a
theorem NdS.ew(h:NdS S p)(to:Nat)(e:Int):NdS S (p.ew to e):=by
 unfold Nod.ew;split
 .exact h.wait trivial
 .exact h
theorem NdS.wrote(h:NdS S p){f b:List Rk}(j:TpU q f b)(i:RsS S b)(k:p.up=true){d:List Int}{a:Acc}(g:q=p.tv d p.sy a)(l:∀ c∈q.ab,S c):NdS S q:=by
 subst g;exact⟨λ_=>⟨f,b,j,i⟩,λe=>(by rw[show(p.tv d p.sy a).up=p.up from rfl,k]at e;cases e),h.ag,h.wa,h.qu,h.he,h.pe⟩
theorem gh(h:∀ j,j<5->VsS S (r.an j).vs){a:Acc}(b:a∈r.jv):VsS S a.vs:=by
 unfold Rnd.jv at b;simp only[mG,Q',or_false]at b;rcases b with rfl|rfl|rfl|rfl|rfl
 .exact h 0 (by omega)
 .exact h 1 (by omega)
 .exact h 2 (by omega)
 .exact h 3 (by omega)
 .exact h 4 (by omega)
theorem Yh(h:∀ j,j<5->VsS S (r.an j).vs){s:Int}{v:Vt}(e:v∈Ae (r.jv.map (·.vs)).flatten s):S v.w:=by
 obtain⟨l,b,c⟩:=oT.1 (Be.1 e).1;obtain⟨a,d,rfl⟩:=mQ.1 b;exact gh h d v c
theorem gH(h:∀ j,j<5->VsS S (r.an j).vs){s:Int}(a:CU r.jv s=0):S (CN r.jv s):=by
 have c:CN r.jv s=((Ha (Dz r.jv s) r.jv.length).map (·.w)).getD ⟨0,0,0,0,0⟩:=if_pos a;unfold CU at a;split at a
 .cases a
 .split at a
  .cases a
  .split at a
   .rename_i hO
    obtain⟨v,b⟩:=nF.1 hO;rw[c,b];exact Yh h (qm b)
   .cases a
theorem iu(h:∀ j,j<5->VsS S (r.an j).vs)(k:Nat){l:List Cmd}(a:∀ c∈l,S c):∀ c∈FB k r l,S c:=by
 induction k generalizing l with
 | zero=>exact a
 | succ k ih =>
  rw[FB];split
  .rename_i he;exact ih λc b=>(P'.1 b).elim (a c) λe=>by rw[D'.1 e];exact gH h he
  .exact a
theorem NdS.rj(h:NdS S p):NdS S p.rj:=h.tape rfl rfl rfl rfl (iu h.he 41 h.ag) h.wa h.qu h.he h.pe
theorem cW(a:Acc)(l:List Vt)(d:VsS S a.vs)(e:VsS S l):VsS S (Dc a l).vs:=by
 induction l generalizing a with
 | nil=>exact d
 | cons u l ih =>
  rw[Dc];refine ih _ ?_ λv b=>e v (I' _ b);by_cases c:AY a u=0
  .rw[if_pos c];intro v b;have b:v∈Br a u:=b;rw[(DD c).2]at b
   rcases(BB (Ap c).1.2.2).1 b with rfl|⟨b,_⟩
   .exact e v O'
   .exact d v b
  .rw[if_neg c];exact d
theorem Yu(h:∀ j,j<5->VsS S (r.an j).vs)(j:Nat)(b:j<5){a:List Vt}(d:VsS S a):∀ k,k<5->VsS S ((r.rC j a).an k).vs:=λk c=>by
 show VsS S (upN r.an j _ k).vs;unfold upN;split
 .exact cW ⟨r.hU,a⟩ _ d (h j b)
 .exact h k c
theorem NdS.count(h:NdS S p){j:Nat}(c:j<5){v:Vt}(e:S v.w):NdS S (p.count j v):=by
 unfold Nod.count;split
 .exact h
 .split
  .exact h
  .rename_i b
   have b:=mz.1 b;refine NdS.rj (h.tape rfl rfl rfl rfl h.ag h.wa h.qu (λk d=>?_) h.pe);show VsS S (upN p.av.an j _ k).vs;unfold upN;split
   .intro u a;have a:u∈Br (p.av.an j) v:=a;rw[(DD b).2]at a
    rcases(BB (Ap b).1.2.2).1 a with rfl|⟨a,_⟩
    .exact e
    .exact h.he j c u a
   .exact h.he k d
theorem gX(q l:List Cmd)(b:∀ c∈q,S c)(f:∀ c∈l,S c):∀ c∈Hb q l,S c:=by
 induction l generalizing q with
 | nil=>exact b
 | cons d l ih =>
  rw[Hb];refine ih _ ?_ λc a=>f c (I' _ a);split
  .exact λc a=>(P'.1 a).elim (b c) λe=>by rw[D'.1 e];exact f d O'
  .exact b
theorem NdS.dT(h:NdS S p){l:List Cmd}(a:∀ c∈l,S c):NdS S (p.dT l):=by
 unfold Nod.dT;split
 .exact h.tape rfl rfl rfl rfl h.ag h.wa (gX _ _ h.qu a) h.he h.pe
 .exact h
theorem NdS.ln(h:NdS S p)(bu:Nat){l:List Cmd}(b:∀ c∈l,S c):NdS S (p.ln bu l) :=
 h.tape rfl rfl rfl rfl (λc a=>(P'.1 a).elim (h.ag c) λg=>b c (ol g)) h.wa h.qu h.he h.pe
theorem TpU.ud{a:List Rk}(h:TpU p dr a)(b:RsS S a):VsS S p.vo.vs:=λv c=>b v (IG h.ok v (by rw[<- h.vo];exact c))
theorem NdS.take(h:NdS S p)(f:p.up=true){l:Let}(b:LtS S l)(j:l.src<5):NdS S (p.take l):=by
 obtain⟨m,n,k,c⟩:=h.up f;unfold Nod.take;split
 .rcases k.au l.hU with⟨e,he⟩|⟨e,he,hvs,rs',hp,ht,hm,hpb,hpv,d,a,hq⟩
  .rw[if_pos e];exact h.ew _ _
  .rw[if_neg (λg=>g e)];exact(h.wrote ht (λv i=>c v ((hm v).1 i)) f hq (by rw[hq];exact h.ag)).wait (by show VsS S _;rw[hvs];exact k.ud c)
 .have hL:=h.ln 0 b.wh;generalize p.ln 0 l.gC=K at hL ⊢;simp only;split
  .exact hL
  .exact NdS.rj (hL.tape rfl rfl rfl rfl hL.ag hL.wa hL.qu (Yu hL.he _ j b.vs) hL.pe)
 .exact h.tape rfl rfl rfl rfl h.ag h.wa h.qu h.he h.pe
 .rename_i hk
  rcases k.cn l.cn with⟨e,he⟩|⟨e,he,rs',hp,ht,hm,hpb,d,a,hq⟩
  .rw[if_pos e];exact h.ew _ _
  .rw[if_neg (λg=>g e)];exact(h.wrote ht (λv i=>((hm v).1 i).elim (λe=>by rw[e];exact b.vt (.inl hk)) (c v)) f hq (by rw[hq];exact h.ag)).wait (b.vt (.inl hk))
 .rename_i hk;exact h.count j (b.vt (.inr hk))
 .split
  .exact h.wait trivial
  .exact h.ln _ b.wh
 .simp only;split
  .exact(h.dT b.wh).wait trivial
  .exact h.dT b.wh
 .exact h
theorem KD(h:NdS S p){s:Nat}{c:Cmd}(b:p.qY s=some c):S c:=by
 unfold Nod.qY at b;split at b
 .cases b
 .rename_i a
  have a:=mz.1 a;split at b
  .rename_i hF
   have f:Hm (p.av.jv.map (·.vs)) (s:Int)=((FY (p.av.jv.map (·.vs)) (s:Int)).map (·.w)).getD ⟨0,0,0,0,0⟩:=if_pos a;have d:DX (p.av.jv.map (·.vs)) (s:Int)=(FY (p.av.jv.map (·.vs)) (s:Int)).isSome:=if_pos a;rw[hF]at d
   obtain⟨x,i⟩:=nF.1 d.symm;rw[i]at f
   rw[<- nf b,f];refine Yh h.he (s:=(s:Int)) ?_;have:∀ (l:List Vt) (o:Option Vt) (x:Vt),BQ l o=some x->x∈l\/o=some x:=by
    intro l;induction l with
    | nil=>intro o x e;exact .inr e
    | cons v l ih =>
     intro o x e;cases o with
     | none =>
      rw[BQ]at e
      rcases ih _ _ e with g|g
      .exact .inl (I' _ g)
      .left;cases g;exact O'
     | some u =>
      rw[BQ]at e
      split at e
      .rcases ih _ _ e with g|g
       .exact .inl (I' _ g)
       .left;cases g;exact O'
      .rcases ih _ _ e with g|g
       .exact .inl (I' _ g)
       .exact .inr g
   exact(this _ _ _ i).resolve_right λe=>by cases e
  .exact h.qu c (qm b)
theorem NdS.cF(h:NdS S p)(f:p.up=true):NdS S p.cF:=by
 obtain⟨l,m,k,i⟩:=h.up f;unfold Nod.cF;split
 .exact h
 .cases hn:p.qY p.ab.length with
  | none=>exact h
  | some c =>
   have b:=KD h hn;simp only;rcases k.cn ⟨(p.ab.length:Int),p.av.hU,c⟩with⟨e,he⟩|⟨e,he,rs',hp,ht,hm,hpb,d,a,hq⟩
   .rw[if_pos e];exact h
   .rw[if_neg (λg=>g e)];have g:=h.wrote ht (λv j=>((hm v).1 j).elim (λe=>by rw[e];exact b) (i v)) f hq (by rw[hq];exact h.ag);exact NdS.wait (p:={ (p.cn ⟨(p.ab.length:Int),p.av.hU,c⟩).1 with av:={ p.av with next:=p.ab.length+1 } }) (g.tape rfl rfl rfl rfl g.ag g.wa h.qu h.he g.pe) b
theorem NdS.run(n:i<5){p:Nod}(h:NdS S p){q:Pend}{l:List Pend}(o:p.bw=q::l):NdS S { p.lr i q with bw:=l }/\∀ m∈p.rh i q,LtS S m:=by
 have f:=h.pe q (by rw[o];exact O');have j:∀ {p':Nod},NdS S p'->p'.bw=p.bw->NdS S { p' with bw:=l }:=λ{p'} g e=>g.tape rfl rfl rfl rfl g.ag g.wa g.qu g.he λx r=>g.pe x (by rw[e,o];exact I' _ r);have none:∀ c∈([]:List Cmd),S c:=λc k=>by cases k
 have a:VsS S []:=λc k=>by cases k
 cases q with
 | began b vs =>
  unfold Nod.lr Nod.rh;simp only;split
  .exact⟨j h rfl,λm d=>(by cases d)⟩
  .refine⟨j (p':={ p with av:=p.av.rC i vs }) (h.tape rfl rfl rfl rfl h.ag h.wa h.qu (Yu h.he i n f) h.pe) rfl,λm d=>?_⟩;obtain⟨to,_,rfl⟩:=CE d;exact⟨a,none,λe=>e.elim (λg=>by cases g) λg=>(by cases g)⟩
 | prom to b vs=>exact⟨j h rfl,λm d=>by rw[D'.1 d];exact⟨f,h.ag,λe=>e.elim (λg=>by cases g) λg=>(by cases g)⟩⟩
 | voted to v=>exact⟨j h rfl,λm d=>by rw[D'.1 d];exact⟨a,none,λ_=>f⟩⟩
 | ew to b=>exact⟨j h rfl,λm d=>by rw[D'.1 d];exact⟨a,none,λe=>e.elim (λg=>by cases g) λg=>(by cases g)⟩⟩
 | prop v =>
  refine⟨j (h.count n f) (D9 p i (.prop v)).1,λm d=>?_⟩;obtain⟨to,_,rfl⟩:=CE d;exact⟨a,none,λ_=>f⟩
 | askNews to=>exact⟨j h rfl,λm d=>by rw[D'.1 d];exact⟨a,none,λe=>e.elim (λg=>by cases g) λg=>(by cases g)⟩⟩
 | start =>
  refine⟨j h rfl,λm d=>?_⟩;obtain⟨to,_,rfl⟩:=CE d;exact⟨a,none,λe=>e.elim (λg=>by cases g) λg=>(by cases g)⟩
 | tell to bu=>exact⟨j h rfl,λm d=>by rw[D'.1 d];exact⟨a,λc k=>h.ag c (ol k),λe=>e.elim (λg=>by cases g) λg=>(by cases g)⟩⟩
theorem NdS.lead(h:NdS S p)(m:p.up=true):NdS S (p.lead i):=by
 obtain⟨o,q,k,l⟩:=h.up m;unfold Nod.lead;simp only;generalize (⟨max p.dc p.vo.p.r+1,(i:Int)⟩:Bal)=b;rcases k.au b with⟨e,he⟩|⟨e,he,hvs,rs',hp,ht,hm,hpb,hpv,d,a,hq⟩
 .rw[if_pos e];exact h
 .rw[if_neg (λg=>g e)];have g:=h.wrote ht (λv f=>l v ((hm v).1 f)) m hq (by rw[hq];exact h.ag);exact NdS.wait (p:={ (p.au b).1 with av:=⟨b,λ_=>false,λ_=>Ea,λ_=>p.ab.length,0,[]⟩ }) (x:=.began b (p.au b).2.1) (g.tape rfl rfl rfl rfl g.ag g.wa (λc n=>by cases n) (λj _ v f=>by cases f) g.pe) (by show VsS S _;rw[hvs];exact k.ud l)
theorem gv(b:Bal)(f:Cmd->Option Bal)(l:List Cmd)(h:∀ c∈l,S c):∀ c∈(Ba b f l).1,S c:=by
 induction l generalizing f with
 | nil=>intro c a;cases a
 | cons d l g =>
  have g:=λf=>g f λc a=>h c (I' _ a);rw[Ba];split
  .exact λc a=>(mG.1 a).elim (λe=>by rw[e];exact h d O') (g _ c)
  .exact g f
structure MtS(S:Cmd->Prop)(M:Meet):Prop where
 nd:∀ i,i<5->NdS S (M.ae i)
 lt:∀ l∈M.br,LtS S l
theorem MtS.set(h:MtS S M){i:Nat}{p:Nod}(d:NdS S p){ls:List Let}(b:∀ l∈ls,l∈M.br\/LtS S l)(ts:List Tol):MtS S (M.set i p ls ts) :=
 ⟨λj a=>by
  show NdS S (upN M.ae i p j);unfold upN;split
  .exact d
  .exact h.nd j a,λl c=>(b l c).elim (h.lt l) id⟩
theorem MtS.step{D:Wh}(x:∀ i d,D.d i d->∀ now:Nat,opE d (now:Int)=0->S (FH d (now:Int))){n:Nat}{M N:Meet}(s:Stp D n M N)(h:MtS S M):MtS S N:=by
 have same:∀ l∈M.br,l∈M.br\/LtS S l:=λl o=>.inl o;have app:∀ {ms:List Let},(∀ m∈ms,LtS S m)->∀ l∈M.br++ms,l∈M.br\/LtS S l:=λg l o=>(P'.1 o).imp id (g l);cases s with
 | take _ l o hd hu _=>exact h.set ((h.nd _ hd.2).take hu (h.lt l o) hd.1) same _
 | br _ ls o _=>exact⟨h.nd,λl g=>h.lt l (o l g)⟩
 | one _ i c hi hu a he =>
  refine h.set ?_ same _;have k:=h.nd i hi;unfold Nod.hZ;split
  .exact k.tape rfl rfl rfl rfl k.ag (λc a=>k.wa c (List.mem_of_mem_erase a)) k.qu k.he k.pe
  .exact k.tape rfl rfl rfl rfl k.ag k.wa k.qu k.he k.pe
 | ask _ i hi hu =>
  have k:=h.nd i hi;have E:=gv (M.ae i).vo.p (M.ae i).cl ((M.ae i).bn.take 40) λc a=>k.wa c (mL a);have B:NdS S { M.ae i with cl:=(Ba (M.ae i).vo.p (M.ae i).cl ((M.ae i).bn.take 40)).2 }:=k.tape rfl rfl rfl rfl k.ag k.wa k.qu k.he k.pe;refine h.set ?_ (app ?_) _
  .unfold Nod.kc;split
   .exact B
   .split
    .exact B.dT E
    .exact B
  .intro m hm;unfold Nod.kc at hm;split at hm
   .cases hm
   .split at hm
    .cases hm
    .rw[D'.1 hm];exact⟨λv f=>(by cases f),E,λe=>e.elim (λg=>by cases g) λg=>(by cases g)⟩
 | prop _ i hi hu=>exact h.set ((h.nd i hi).cF hu) same _
 | ry _ i hi hu hlt y =>
  have k:=h.nd i hi;obtain⟨u,C,g,r⟩:=k.up hu;exact h.set (p:={ M.ae i with sy:=((M.ae i).d.length:Int) }) ⟨λ_=>⟨C,C,g.ry,r⟩,λe=>(by rw[show _=(M.ae i).up from rfl,hu]at e;cases e),k.ag,k.wa,k.qu,k.he,k.pe⟩ same _
 | run _ i hi hu q l hp hs =>
  have g:=(h.nd i hi).run hi hp;exact h.set g.1 (app g.2) _
 | rk _ i hi hu hL =>
  have k:=h.nd i hi;refine h.set (p:=E7 (M.ae i) i 5) (k.tape rfl rfl rfl rfl k.ag k.wa k.qu k.he k.pe) (app ?_) _;have:∀ n,∀ m∈Dl (M.ae i) i n,LtS S m:=by
   intro n;induction n with
   | zero=>intro m hm;cases hm
   | succ n ih =>
    intro m hm;rw[Dl]at hm
    rcases P'.1 hm with hm|hm
    .exact ih m hm
    .split at hm
     .rw[D'.1 hm];exact⟨λv f=>(by cases f),λc a=>k.ag c (ol a),λe=>e.elim (λg=>by cases g) λg=>(by cases g)⟩
     .cases hm
  exact this 5
 | lead _ i hi hu _=>exact h.set ((h.nd i hi).lead hu) same _
 | sub _ i d hi hu hd =>
  have k:=h.nd i hi;refine h.set ?_ same _;unfold Nod.rE Nod.rG;split
  .exact k
  .split
   .exact k.tape rfl rfl rfl rfl k.ag k.wa k.qu k.he k.pe
   .rename_i he
    split
    .exact k
    .show NdS S (Nod.want _ _);unfold Nod.want;split
     .exact k
     .exact k.tape rfl rfl rfl rfl k.ag (λc a=>(P'.1 a).elim (k.wa c) λe=>by rw[D'.1 e];exact x i d hd _ (mz.1 he)) k.qu k.he k.pe
 | lp _ i c hi hu a _ =>
  have k:=h.nd i hi;obtain⟨u,C,g,r⟩:=k.up hu;obtain⟨w,_,G,x⟩:=g.lp a;have z:Gk (M.ae i).d (M.ae i).sy c=0:=by unfold Gk;rw[if_neg (λe=>e g.rY),if_neg (by omega)]
  have A:=Ir (p:=M.ae i) g.rY a;refine h.set ⟨λe=>(by rw[A.2.1]at e;cases e),λ_=>⟨w,x,λv f=>r v (G.subset f)⟩,?_,?_,?_,?_,?_⟩ same _<;>(unfold Nod.lp;rw[if_neg (λe=>e z)])
  .exact λc a=>by cases a
  .exact λc a=>by cases a
  .exact λc a=>by cases a
  .exact λj _ v f=>by cases f
  .exact λc a=>by cases a
 | start _ i hi hu _ =>
  obtain⟨u,g,r⟩:=(h.nd i hi).dn hu;have y:AR (M.ae i).d (M.ae i).sy:=⟨g.len,by rw[g.sy];omega,by rw[g.sy];omega⟩;have t:=G8 (p:=M.ae i) y;have b:(M.ae i).start.av=ej/\(M.ae i).start.bw=[.start]/\(M.ae i).start.bn=[]:=by
   unfold Nod.start;rw[if_neg (λe=>e (if_pos y))];split<;>exact⟨rfl,rfl,rfl⟩
  refine h.set ⟨λ_=>⟨u,u,g.start,r⟩,λe=>(by rw[t.2.1]at e;cases e),?_,?_,?_,?_,?_⟩ same _
  .rw[t.2.2.2];exact λc a=>by cases a
  .rw[b.2.2];exact λc a=>by cases a
  .rw[b.1];exact λc a=>by cases a
  .rw[b.1];exact λj _ v f=>by cases f
  .rw[b.2.1];exact λq F=>by rw[D'.1 F];trivial
theorem MtS.zero:MtS S AI:=⟨λi _=>⟨λ_=>⟨[],[],TpU.zero,λv b=>(by cases b)⟩,λe=>(by cases e),λc a=>(by cases a),λc a=>(by cases a),λc a=>(by cases a),λj _ v b=>(by cases b),λc a=>(by cases a)⟩,λl d=>(by cases d)⟩
theorem Xg(L:List Lac)(f:∀ x∈L,LacOk x)(n:L.length<=100000)(j:∀ x∈L,x.k=1->∀ now:Nat,opE x.d (now:Int)=0->S (FH x.d (now:Int))):MtS S (AI.fa L):=by
 have s:Sts ⟨λ_ d=>∃ x∈L,x.k=1/\x.d=d,True,True,True,True,True⟩ L.length AI (AI.fa L):=KN L MOk.zero (by omega) λx a=>⟨f x a,λe=>⟨x,a,e,rfl⟩,λ_=>trivial,λ_=>trivial,λ_=>⟨trivial,trivial⟩,λ_=>trivial⟩;exact s.inv (λ_ M N h g=>g.step (λi d l now m=>by obtain⟨x,b,c,rfl⟩:=l;exact j x b c now m) h) MtS.zero
end
end
structure Ev(p q:Nod):Prop where
 up:q.up=p.up
 hU:q.av.hU=p.av.hU
 vo:p.vo.p.key<=q.vo.p.key
 dc:p.dc<=q.dc
 ag:p.ab <+: q.ab
 qZ:∀ j,p.av.qZ j=true->q.av.qZ j=true
 next:p.av.next<=q.av.next
 qu:p.av.fv <+: q.av.fv
 wa:∀ c∈q.bn,c∈p.bn
 dn:p.done<=q.done
theorem Ev.refl(p:Nod):Ev p p:=⟨rfl,rfl,mx _,mx _,mE _,λ_ h=>h,A' _,mE _,λ_ h=>h,A' _⟩
theorem Ev.trans{p q r:Nod}(h:Ev p q)(k:Ev q r):Ev p r:=⟨k.up.trans h.up,k.hU.trans h.hU,mR h.vo k.vo,mR h.dc k.dc,h.ag.trans k.ag,λj g=>k.qZ j (h.qZ j g),my h.next k.next,h.qu.trans k.qu,λc g=>h.wa c (k.wa c g),my h.dn k.dn⟩
theorem I3(k:Nat)(r:Rnd)(l:List Cmd):l <+: FB k r l:=by
 induction k generalizing l with
 | zero=>exact mE _
 | succ k ih =>
  rw[FB];split
  .exact(nL _ _).trans (ih _)
  .exact mE _
theorem PX(l q:List Cmd):q <+: Hb q l:=by
 induction l generalizing q with
 | nil=>exact mE _
 | cons c l ih =>
  rw[Hb];split
  .exact(nL _ _).trans (ih _)
  .exact ih _
theorem Ev.au(p:Nod)(b:Bal):Ev p (p.au b).1:=by
 unfold Nod.au;split
 .exact .refl p
 .rename_i h
  have a:=Cj (mz.1 h);have c:p.vo.p.key<=b.key:=Bo a.2.1.pr a.1.1 a.2.2;split
  .exact⟨rfl,rfl,c,mx _,mE _,λ_ h=>h,A' _,mE _,λ_ h=>h,A' _⟩
  .split
   .exact .refl p
   .exact⟨rfl,rfl,c,mx _,mE _,λ_ h=>h,A' _,mE _,λ_ h=>h,A' _⟩
theorem Ev.cn(p:Nod)(v:Vt):Ev p (p.cn v).1:=by
 unfold Nod.cn;split
 .exact .refl p
 .rename_i h
  have a:=Ap (mz.1 h);have c:p.vo.p.key<=v.b.key:=Bo a.2.1.2.1.pr a.1.1 a.2.2;split
  .exact⟨rfl,rfl,c,mx _,mE _,λ_ h=>h,A' _,mE _,λ_ h=>h,A' _⟩
  .split
   .exact .refl p
   .exact⟨rfl,rfl,c,mx _,mE _,λ_ h=>h,A' _,mE _,λ_ h=>h,A' _⟩
theorem Ev.bw{p q:Nod}(h:Ev p q)(x:List Pend):Ev p { q with bw:=x }:=⟨h.up,h.hU,h.vo,h.dc,h.ag,h.qZ,h.next,h.qu,h.wa,h.dn⟩
theorem Ev.tY(p:Nod){l:List Cmd}(h:p.ab <+: l):Ev p { p with ab:=l }:=⟨rfl,rfl,mx _,mx _,h,λ_ h=>h,A' _,mE _,λ_ h=>h,A' _⟩
theorem Ev.ew(p:Nod)(to:Nat)(e:Int):Ev p (p.ew to e):=by
 unfold Nod.ew;split
 .exact(Ev.refl p).bw _
 .exact .refl p
theorem Ev.count(p:Nod)(j:Nat)(v:Vt):Ev p (p.count j v):=by
 unfold Nod.count;split
 .exact .refl p
 .split
  .exact .refl p
  .exact⟨rfl,rfl,mx _,mx _,I3 _ _ _,λ_ h=>h,A' _,mE _,λ_ h=>h,A' _⟩
theorem Ev.tN(p:Nod)(l:List Cmd):Ev p (p.dT l):=by
 unfold Nod.dT;split
 .exact⟨rfl,rfl,mx _,mx _,mE _,λ_ h=>h,A' _,PX _ _,λ_ h=>h,A' _⟩
 .exact .refl p
theorem UL{f:Nat->Bool}{i j:Nat}(h:f j=true):upN f i true j=true:=by unfold upN;split<;>first|rfl|exact h
theorem Ev.take(p:Nod)(l:Let):Ev p (p.take l):=by
 unfold Nod.take;split
 .split
  .exact .ew p _ _
  .exact(Ev.au p l.hU).bw _
 .simp only;have a:Ev p (p.ln 0 l.gC):=.tY p (nL _ _);split
  .exact a
  .exact⟨rfl,rfl,mx _,mx _,a.ag.trans (I3 _ _ _),λ_ h=>UL h,A' _,mE _,λ_ h=>h,A' _⟩
 .exact⟨rfl,rfl,mx _,Int.le_max_left _ _,mE _,λ_ h=>h,A' _,mE _,λ_ h=>h,A' _⟩
 .split
  .exact .ew p _ _
  .exact(Ev.cn p l.cn).bw _
 .exact .count p _ _
 .split
  .exact(Ev.refl p).bw _
  .exact .tY p (nL _ _)
 .simp only;split
  .exact(Ev.tN p l.gC).bw _
  .exact .tN p l.gC
 .exact .refl p
theorem Ev.cF(p:Nod):Ev p p.cF:=by
 unfold Nod.cF;split
 .exact .refl p
 .rename_i hc
  have a:p.av.next<=p.ab.length:=by omega
  split
  .exact .refl p
  .split
   .exact .refl p
   .have h1:=Ev.cn p ⟨(p.ab.length:Int),p.av.hU,‹Cmd›⟩;exact⟨h1.up,rfl,h1.vo,h1.dc,h1.ag,λ_ h=>h,my a (nE _),mE _,h1.wa,h1.dn⟩
theorem Ev.hZ(p:Nod)(c:Cmd):Ev p (p.hZ c):=by
 unfold Nod.hZ;split
 .exact⟨rfl,rfl,mx _,mx _,mE _,λ_ h=>h,A' _,mE _,λ_ h=>List.mem_of_mem_erase h,A' _⟩
 .exact .refl p
theorem Ev.kc(p:Nod)(i:Nat):Ev p (p.kc i).1:=by
 have a:Ev p { p with cl:=(Ba p.vo.p p.cl (p.bn.take 40)).2 }:=⟨rfl,rfl,mx _,mx _,mE _,λ_ h=>h,A' _,mE _,λ_ h=>h,A' _⟩;unfold Nod.kc;split
 .exact a
 .split
  .exact a.trans (.tN _ _)
  .exact a
theorem Ev.lr(p:Nod)(i:Nat)(q:Pend):Ev p (p.lr i q):=by
 cases q with
 | began b vs =>
  simp only[Nod.lr];split
  .exact .refl p
  .exact⟨rfl,rfl,mx _,mx _,mE _,λ_ h=>UL h,A' _,mE _,λ_ h=>h,A' _⟩
 | prop v=>exact .count p i v
 | _=>exact .refl p
theorem Stp.ev{c:Nat}{M N:Meet}(s:Stp wh0 c M N)(j:Nat):Ev (M.ae j) (N.ae j):=by
 have put:∀ {i:Nat} {p:Nod} {a:List Let} {b:List Tol},Ev (M.ae i) p->Ev (M.ae j) ((M.set i p a b).ae j):=λ{i p a b} h=>by
  rw[Am];split
  .rename_i e;rw[e];exact h
  .exact .refl _
 cases s with
 | take _ l hl hd hu ht=>exact put (.take _ l)
 | br _ a h hd=>exact False.elim hd
 | one _ i c hi hu hc he =>
  refine put (Ev.trans (q:={ M.ae i with ni:=doS (M.ae i).ni c,done:=(M.ae i).done+1 }) ?_ (.hZ _ c));exact⟨rfl,rfl,mx _,mx _,mE _,λ_ h=>h,A' _,mE _,λ_ h=>h,nE _⟩
 | ask _ i hi hu=>exact put (.kc _ i)
 | prop _ i hi hu=>exact put (.cF _)
 | ry _ i hi hu h hT=>exact put ⟨rfl,rfl,mx _,mx _,mE _,λ_ h=>h,A' _,mE _,λ_ h=>h,A' _⟩
 | run _ i hi hu q l hp hs=>exact put ((Ev.lr _ i q).bw l)
 | rk _ i hi hu hL=>exact put ⟨rfl,rfl,mx _,mx _,mE _,λ_ h=>h,A' _,mE _,λ_ h=>h,A' _⟩
 | lead _ i hi hu hL=>exact False.elim hL
 | sub _ i d hi hu hD=>exact False.elim hD
 | lp _ i k hi hu hk hC=>exact False.elim hC
 | start _ i hi hu hs=>exact False.elim hs
theorem Stp.rF{c:Nat}{M N:Meet}(s:Stp wh0 c M N){l:Let}(a:l∈M.br):l∈N.br:=by
 cases s with
 | br _ ls h hd=>exact False.elim hd
 | ask _ i hi hu=>exact mD _ a
 | run _ i hi hu q l hp hs=>exact mD _ a
 | rk _ i hi hu hL=>exact mD _ a
 | _=>exact a
structure Cm(S:Cmd->Prop)(K:Int)(B:Nat->Bal)(cov:List (Bal × Nat))(M:Meet):Prop where
 ex:∃ σ,AgI σ M/\∀ b s c,σ.W b s c->(b,s)∈cov
 kb:K<=3600/\KbI K 3600 M
 up:∀ j,j<5->(M.ae j).up=true
 hU:∀ j,j<5->(M.ae j).av.hU=B j
 s:MtS S M
section
variable{S:Cmd->Prop}{K:Int}{B:Nat->Bal}{cov:List (Bal × Nat)}
theorem Cm.step(n:∀ j,j<5->∀ s,s<40->(B j,s)∈cov){c:Nat}{M N:Meet}(s:Stp wh0 c M N)(h:Cm S K B cov M):Cm S K B cov N:=by
 obtain⟨σ,d,f⟩:=h.ex;obtain⟨τ,o,p,k,l,m⟩:=d.step s;refine⟨⟨τ,k,λb t c g=>?_⟩,⟨h.kb.1,h.kb.2.step (λe=>e) d s h.kb.1⟩,λj a=>(s.ev j).up.trans (h.up j a),λj a=>(s.ev j).hU.trans (h.hU j a),h.s.step (λ_ _ e=>False.elim e) s⟩;rcases l b t c g with g|g
 .exact f b t c g
 .obtain⟨_,h7,i,hi,e⟩:=m b t g;rw[e,h.hU i hi];exact n i hi t h7
theorem Cm.rY{M:Meet}(h:Cm S K B cov M){j:Nat}(a:j<5):AR (M.ae j).d (M.ae j).sy:=by
 obtain⟨σ,b,_⟩:=h.ex;obtain⟨c,k⟩:=(b.nd j a).up (h.up j a);exact k.tp.rY
theorem Cm.le{M:Meet}(h:Cm S K B cov M){j:Nat}(a:j<5):(M.ae j).vo.p.key<=K:=by
 have:=(h.kb.2 j a).1;unfold Nod.pk at this
 rwa [if_pos (h.up j a)]at this
theorem Cm.len{M:Meet}(h:Cm S K B cov M){j:Nat}(a:j<5):((M.ae j).d.length:Int)<=14*K+38*(cov.length:Int):=by
 obtain⟨σ,b,c⟩:=h.ex;have e:=aP b c a (h.up j a);have:=h.le a;omega
end
section
variable{S:Cmd->Prop}{K:Int}{B:Nat->Bal}{cov:List (Bal × Nat)}{M:Meet}
theorem Cm.acc(h:Cm S K B cov M){j:Nat}(a:j<5):Ag (M.ae j).vo:=by
 obtain⟨σ,b,_⟩:=h.ex;obtain⟨c,k⟩:=(b.nd j a).up (h.up j a);rw[k.tp.vo];exact k.tp.ok.acc
theorem Cm.prom(h:Cm S K B cov M)(k:14*K+38*(cov.length:Int)<=99000){j:Nat}(a:j<5){b:Bal}(c:Ac b)(i:¬ b.lt (M.ae j).vo.p):((M.ae j).au b).2.2=0/\((M.ae j).au b).1.vo.p=b:=by
 have e:Cf (M.ae j).vo b=0:=by unfold Cf;rw[if_neg (λg=>g (h.acc a)),if_neg (λg=>g c),if_neg i]
 have f:CF (M.ae j).d (M.ae j).sy (Ac b) (Bu b)=0:=by
  have:=h.len a;unfold CF;rw[UC (h.rY a) (by rw[JR];omega),if_neg (λg=>g rfl),if_pos c]
 unfold Nod.au;rw[if_neg (λg=>g e)];split
 .exact⟨rfl,rfl⟩
 .rw[if_neg (λg=>g f)];exact⟨rfl,rfl⟩
theorem Cm.sX(h:Cm S K B cov M)(k:14*K+38*(cov.length:Int)<=99000){j:Nat}(a:j<5){v:Vt}(c:Ah v)(i:¬ v.b.lt (M.ae j).vo.p):((M.ae j).cn v).2=0/\((M.ae j).cn v).1.vo.p=v.b:=by
 have e:AY (M.ae j).vo v=0:=by unfold AY;rw[if_neg (λg=>g (h.acc a)),if_neg (λg=>g c),if_neg i]
 have f:CF (M.ae j).d (M.ae j).sy (Ah v) (Bj v)=0:=by
  have:=h.len a;unfold CF;rw[UC (h.rY a) (by rw[GD];omega),if_neg (λg=>g rfl),if_pos c]
 unfold Nod.cn;rw[if_neg (λg=>g e)];split
 .exact⟨rfl,rfl⟩
 .rw[if_neg (λg=>g f)];exact⟨rfl,rfl⟩
end
section
variable{I J:Meet->Prop}
theorem E5(M:Meet){i j:Nat}(h:j≠i):(M.act (acN 3 (i:Int))).ae j=M.ae j:=by
 unfold Meet.act;simp only[acN];rw[if_neg (by decide),if_neg (by decide),if_pos trivial,Am,if_neg (by rw[nk];exact h)]
theorem Fp(i:∀ c M N,Stp wh1 c M N->I M->I N)(r:∀ c M N,Stp wh1 c M N->I M->J M->J N)(z:∀ M j,I M->j<5->(M.ae j).up=true/\AR (M.ae j).d (M.ae j).sy){n:Nat}{M:Meet}(v:MOk n M)(D:n+5<=1000000)(h:I M){j:Nat}(m:j<5){q:Pend}(w:q∈(M.ae j).bw)
  (x:∀ N l,I N->Ev (M.ae j) (N.ae j)->(N.ae j).bw=q::l->J (N.set j { (N.ae j).lr j q with bw:=l } (N.br++(N.ae j).rh j q) N.ed)):J (M.fa (AD 3 5)):=by
 have y:∀ k,k<=5->MOk (n+k) (M.fa (AD 3 k))/\I (M.fa (AD 3 k))/\(k<=j->(M.fa (AD 3 k)).ae j=M.ae j)/\(j<k->J (M.fa (AD 3 k))):=by
  intro k;induction k with
  | zero=>exact λ_=>⟨v,h,λ_=>rfl,λe=>absurd e (ou _)⟩
  | succ k ih =>
   intro C;obtain⟨b,f,p,u⟩:=ih (by omega);rw[BR,AJ];refine⟨b.act (by omega) (FQ (by omega)),Cx i b (by omega) f,λe=>by rw[E5 _ (by omega)];exact p (by omega),λe=>?_⟩;by_cases t:j<k
   .exact(Cx (I:=λN=>I N/\J N) (λc A B s g=>⟨i c A B s g.1,r c A B s g.1 g.2⟩) b (by omega) ⟨f,u t⟩).2
   .obtain rfl:k=j:=by omega
    have o:=p (A' _);have a:=z _ k f m;exact W8 (I:=λN=>I N/\Ev (M.ae k) (N.ae k)) (λc A B s g=>⟨i c A B s g.1,g.2.trans (s.calm.ev k)⟩) (λc A B s g=>r c A B s g.1) b m a.1 a.2 (by rw[o];exact w) ⟨f,by rw[o];exact .refl _⟩ λN l g=>x N l g.1 g.2
 exact(y 5 (A' _)).2.2.2 m
theorem Bl(d:∀ c M N,Stp wh1 c M N->I M->I N){n:Nat}{M:Meet}(e:MOk n M)(i:n+5<=1000000)(h:I M):MOk (n+5) (M.fa (AD 3 5))/\I (M.fa (AD 3 5)):=by
 have f:∀ k,k<=5->MOk (n+k) (M.fa (AD 3 k))/\I (M.fa (AD 3 k)):=by
  intro k;induction k with
  | zero=>exact λ_=>⟨e,h⟩
  | succ k ih =>
   intro g;obtain⟨a,b⟩:=ih (by omega);rw[BR,AJ];exact⟨a.act (by omega) (FQ (by omega)),Cx d a (by omega) b⟩
 exact f 5 (A' _)
theorem Cn(d:∀ M N,TkS M N->I M->I N){n:Nat}{M:Meet}(b:MOk n M)(h:I M):∃ N,M.act (acN 7 0)={ N with br:=[] }/\I N/\N.br=M.br:=by
 have c:M.act (acN 7 0)={ M.br.foldl (λM l=>M.pd l) M with br:=[] }:=by
  show M.rp=_;unfold Meet.rp;rw[Hv]
 have:=Je d M.br (M:=M) (λm a=>⟨a,(b.br m a).src,(b.br m a).dst⟩) h;exact⟨_,c,this⟩
end
theorem Stp.sU{c:Nat}{M N:Meet}(s:Stp wh1 c M N)(j:Nat):(N.ae j).vo.p=(M.ae j).vo.p:=by
 have put:∀ {i:Nat} {p:Nod} {b:List Let} {f:List Tol},p.vo.p=(M.ae i).vo.p->((M.set i p b f).ae j).vo.p=(M.ae j).vo.p:=λ{i p b f} h=>by
  rw[Am];split
  .rename_i e;rw[e];exact h
  .rfl
 cases s with
 | take _ l a hd hu ht=>exact False.elim ht
 | br _ b h hd=>exact False.elim hd
 | one _ i c hi hu hc he=>exact put (by unfold Nod.hZ;split<;>rfl)
 | ask _ i hi hu=>exact put (by
   unfold Nod.kc;split
   .rfl
   .split
    .unfold Nod.dT;split<;>rfl
    .rfl)
 | prop _ i hi hu=>exact put (by
   unfold Nod.cF;split
   .rfl
   .rename_i hc
    have a:(M.ae i).av.hU=(M.ae i).vo.p:=by
     have:(M.ae i).leads=true:=by cases hh:(M.ae i).leads with|true=>rfl|false=>exact absurd (.inl hh) hc
     exact(m5 this).2
    split
    .rfl
    .split
     .rfl
     .show((M.ae i).cn _).1.vo.p=_;unfold Nod.cn;split
      .rfl
      .split
       .exact a
       .split
        .rfl
        .exact a)
 | ry _ i hi hu h hT=>exact put rfl
 | run _ i hi hu q l hp hs=>exact put (by
   show((M.ae i).lr i q).vo.p=_;cases q<;>first|rfl|(simp only[Nod.lr];split<;>rfl)|(simp only[Nod.lr,Nod.count];split<;>first|rfl|(split<;>rfl)))
 | rk _ i hi hu hL=>exact put rfl
 | lead _ i hi hu hL=>exact False.elim hL
 | sub _ i d hi hu hD=>exact False.elim hD
 | lp _ i k hi hu hk hC=>exact False.elim hC
 | start _ i hi hu hs=>exact False.elim hs
theorem Ma{i:Nat}(l:Let){j k:Nat}(a:j<k)(h:j≠i):{ l with src:=i,dst:=j }∈BU i l k:=mQ.2 ⟨j,pC.2 ⟨om.2 a,M' h⟩,rfl⟩
section
variable{S:Cmd->Prop}{K:Int}{B:Nat->Bal}{cov:List (Bal × Nat)}
theorem Cm.drop{M:Meet}(h:Cm S K B cov M):Cm S K B cov { M with br:=[] }:=by
 obtain⟨σ,b,c⟩:=h.ex;exact⟨⟨σ,⟨b.gs,b.nd,λl a=>by cases a⟩,c⟩,h.kb,h.up,h.hU,⟨h.s.nd,λl a=>by cases a⟩⟩
def Gr8(K:Int)(p:Nod):Prop:=K<=5*p.dc+4\/K<=p.vo.p.key
theorem Gr8.ev{p q:Nod}(h:Gr8 K p)(e:Ev p q):Gr8 K q:=by
 have:=e.dc;have:=e.vo;unfold Gr8 at *;omega
theorem iF(Q:∀ j,j<5->∀ s,s<40->(B j,s)∈cov){n:Nat}{M:Meet}(C:MOk n M)(hn:n+12<=1000000)(h:Cm S K B cov M){i:Nat}(R:i<5){j:Nat}(f:j<5)(O:(M.ae j).vo.p.key=K){b:Bal}{vs:List Vt}(P:(M.ae i).vo.p=b)(u:Ac b)(hq:.began b vs∈(M.ae i).bw) :
  Gr8 K ((M.fa (An++An)).ae i):=by
 have X:∀ A:Meet,A.fa (An++An)=(((A.fa (AD 3 5)).act (acN 7 0)).fa (AD 3 5)).act (acN 7 0):=λA=>by
  rw[AK,show An=AD 3 5++[acN 7 0]from rfl,AJ,AJ]
 have a:∀ c A N,Stp wh1 c A N->Cm S K B cov A->Cm S K B cov N:=λc A N s g=>g.step Q s.calm;have d:∀ A N,TkS A N->Cm S K B cov A->Cm S K B cov N:=λA N s g=>g.step Q s.rJ;have m:LacOk (acN 7 0):=by rw[<- DF];decide
 rw[X];by_cases D:Gr8 K (M.ae i)
 .-- it knows already
  have z:=Bl (I:=λN=>Cm S K B cov N/\Gr8 K (N.ae i)) (λc A N s g=>⟨a c A N s g.1,g.2.ev (s.calm.ev i)⟩) C (by omega) ⟨h,D⟩;obtain⟨N,F,x,_⟩:=Cn (I:=λN=>Cm S K B cov N/\Gr8 K (N.ae i)) (λA N s g=>⟨d A N s g.1,g.2.ev (s.rJ.ev i)⟩) z.1 z.2;have t:=z.1.act (by omega) m;rw[F]at t ⊢
  have L:=Bl (I:=λN=>Cm S K B cov N/\Gr8 K (N.ae i)) (λc A N s g=>⟨a c A N s g.1,g.2.ev (s.calm.ev i)⟩) t (by omega) ⟨x.1.drop,x.2⟩;obtain⟨U,G,T,_⟩:=Cn (I:=λN=>Cm S K B cov N/\Gr8 K (N.ae i)) (λA N s g=>⟨d A N s g.1,g.2.ev (s.rJ.ev i)⟩) L.1 L.2;rw[G];exact T.2
 .have hij:i≠j:=λe=>D (.inr (by rw[e,O];exact mx _));have a0:b.key<K:=by rw[<- P];unfold Gr8 at D;omega
  obtain⟨b0,o⟩:∃ b0,(M.ae j).vo.p=b0:=⟨_,rfl⟩;rw[o]at O
  have w:Ao b0:=by rw[<- o];exact(h.acc f).1
  have E:∀ A N,TkS A N->Cm S K B cov A->(A.ae j).vo.p=b0->(N.ae j).vo.p=b0:=λA N s g e=>by
   have Y:=(s.rJ.ev j).vo;have h2:=(d A N s g).le f;rw[e]at Y
   exact DE ((d A N s g).acc f).1 w (by omega)
  have y:=Bl (I:=λN=>Cm S K B cov N/\(N.ae j).vo.p=b0) (λc A N s g=>⟨a c A N s g.1,(s.sU j).trans g.2⟩) C (by omega) ⟨h,o⟩;have V:=Fp (I:=λN=>Cm S K B cov N/\(N.ae i).vo.p=b) (J:=λN=>({ BC 0 with hU:=b,src:=i,dst:=j }:Let)∈N.br) (λc A N s g=>⟨a c A N s g.1,(s.sU i).trans g.2⟩) (λc A N s _ g=>s.calm.rF g) (λA k g v=>⟨g.1.up k v,g.1.rY v⟩) C (by omega) ⟨h,P⟩ R hq (λN l g _ _=>by
   refine mB _ ?_;simp only[Nod.rh];rw[if_neg (λe=>e g.2)];exact Ma { BC 0 with hU:=b } f (Ne.symm hij))
  obtain⟨N,F,x,G,T⟩:=DI (I:=λN=>Cm S K B cov N/\(N.ae j).vo.p=b0) (J:=λN=>Pend.ew i b0∈(N.ae j).bw) (λA N s g=>⟨d A N s g.1,E A N s g.1 g.2⟩) (λA N s _ g=>by
   obtain⟨l,_,_,_,rfl⟩:=s;rw[Am];split
   .rename_i e;rw[<- e];exact GY g
   .exact g) y.1 y.2 V (λN g=>g.1.up j f) (λN g _=>by
   rw[Am,if_pos rfl];have Z:Cf (N.ae j).vo b=7:=by
    unfold Cf;rw[if_neg (λe=>e (g.1.acc f)),if_neg (λe=>e u),if_pos (by rw[EV u.pr (g.1.acc f).1,g.2];omega)]
   have h8:(N.ae j).au b=(N.ae j,[],7):=by unfold Nod.au;rw[Z,if_pos (by decide)]
   show Pend.ew i b0∈(if((N.ae j).au b).2.2≠0 then(N.ae j).ew i ((N.ae j).au b).2.2 else _).bw;rw[h8,if_pos (show(7:Int)≠0 by decide)];unfold Nod.ew;rw[if_pos rfl,<- g.2];exact mB _ (D'.2 rfl))
  have t:=y.1.act (by omega) m;rw[F]at t ⊢
  have H:=Bl (I:=Cm S K B cov) a t (by omega) x.1.drop;have W:=Fp (I:=Cm S K B cov) (J:=λN=>({ BC 2 with hU:=b0,src:=j,dst:=i }:Let)∈N.br) a (λc A N s _ g=>s.calm.rF g) (λA k g v=>⟨g.up k v,g.rY v⟩) t (by omega) x.1.drop f (q:=.ew i b0) G (λN l g _ _=>mB _ (D'.2 rfl));obtain⟨U,k5,k6,k7,_⟩:=DI (I:=Cm S K B cov) (J:=λN=>Gr8 K (N.ae i)) d (λA N s _ g=>g.ev (s.rJ.ev i)) H.1 H.2 W (λN g=>g.up i R) (λN g _=>by
   rw[Am,if_pos rfl];refine .inl ?_;show K<=5*max (N.ae i).dc b0.r+4;have:b0.key<=5*b0.r+4:=by unfold Ao Ac at w;unfold Bal.key;omega
   omega)
  rw[k5];exact k7
end
def P1(i:Nat)(p:Nod):Prop:=p.av.next=0/\∀ j,j≠i->p.av.qZ j=false
theorem P1.uf{i:Nat}{p:Nod}(h:P1 i p):p.av.rm=false:=by
 unfold Rnd.rm Jd;have k:=h.2;have g:∀ j,(p.av.qZ j).toNat<=if j=i then 1 else 0:=λj=>by
  split
  .cases p.av.qZ j<;>decide
  .rename_i e;rw[k j e];decide
 have a:=g 0;have b:=g 1;have c:=g 2;have d:=g 3;have f:=g 4;refine E' ?_;split at a<;>split at b<;>split at c<;>split at d<;>split at f<;>omega
theorem Stp.p1{c:Nat}{M N:Meet}(s:Stp wh1 c M N){i:Nat}(h:P1 i (M.ae i)):P1 i (N.ae i):=by
 have put:∀ {k:Nat} {p:Nod} {a:List Let} {m:List Tol},(i=k->P1 i p)->P1 i ((M.set k p a m).ae i):=λ{k p a m} g=>by
  rw[Am];split
  .rename_i e;exact g e
  .exact h
 cases s with
 | take _ l hl hd hu ht=>exact False.elim ht
 | br _ a h hd=>exact False.elim hd
 | one _ k c hi hu hc he=>exact put λe=>by subst e;unfold Nod.hZ;split<;>exact h
 | ask _ k hi hu =>
  exact put λe=>by
   subst e;unfold Nod.kc;split
   .exact h
   .split
    .unfold Nod.dT;split<;>exact h
    .exact h
 | prop _ k hi hu =>
  exact put λe=>by
   subst e;unfold Nod.cF;rw[if_pos (.inr (.inl h.uf))];exact h
 | ry _ k hi hu hs hT=>exact put λe=>by subst e;exact h
 | run _ k hi hu q l hp hs =>
  exact put λe=>by
   subst e;show P1 i ((M.ae i).lr i q);cases q with
   | began b vs =>
    simp only[Nod.lr];split
    .exact h
    .exact⟨h.1,λj f=>by show upN (M.ae i).av.qZ i true j=false;rw[Dw _ _ f];exact h.2 j f⟩
   | prop v =>
    simp only[Nod.lr,Nod.count];split
    .exact h
    .split<;>exact h
   | _=>exact h
 | rk _ k hi hu hL=>exact put λe=>by subst e;exact h
 | lead _ k hi hu hL=>exact False.elim hL
 | sub _ k d hi hu hD=>exact False.elim hD
 | lp _ k x hi hu hk hC=>exact False.elim hC
 | start _ k hi hu hs=>exact False.elim hs
theorem eO{i:Nat}{p:Nod}(h:P1 i p){l:Let}(c:l.kind=1->l.src≠i->l.hU≠p.av.hU):P1 i (p.take l):=by
 have f:∀ v,P1 i (p.cn v).1:=λv=>by
  unfold Nod.cn;split
  .exact h
  .split
   .exact h
   .split<;>exact h
 unfold Nod.take;split
 .split
  .unfold Nod.ew;split<;>exact h
  .show P1 i (p.au l.hU).1;unfold Nod.au;split
   .exact h
   .split
    .exact h
    .split<;>exact h
 .rename_i hk
  simp only;split
  .exact h
  .rename_i hc
   have b:l.hU=p.av.hU:=nc λe=>hc (.inr (.inl e));have d:l.src=i:=nc λe=>c hk e b;exact⟨h.1,λj a=>by show upN p.av.qZ l.src true j=false;rw[Dw _ _ (by rw[d];exact a)];exact h.2 j a⟩
 .exact h
 .split
  .unfold Nod.ew;split<;>exact h
  .exact f _
 .unfold Nod.count;split
  .exact h
  .split<;>exact h
 .split<;>exact h
 .simp only;unfold Nod.dT;split<;>split<;>exact h
 .exact h
section
variable{S:Cmd->Prop}{K:Int}{B:Nat->Bal}{cov:List (Bal × Nat)}
theorem Cm.top(a:∀ j,j<5->∀ s,s<40->(B j,s)∈cov){c:Nat}{A N:Meet}(s:Stp wh0 c A N)(g:Cm S K B cov A){b:Bal}(h:Ao b)(k:b.key=K){j:Nat}(d:j<5)(e:(A.ae j).vo.p=b):(N.ae j).vo.p=b:=by
 have f:=(s.ev j).vo;have i:=(g.step a s).le d;rw[e]at f
 exact DE ((g.step a s).acc d).1 h (by omega)
theorem dN(D:∀ j,j<5->∀ s,s<40->(B j,s)∈cov)(hQ:14*K+38*(cov.length:Int)<=99000){n:Nat}{M:Meet}(Y:MOk n M)(hn:n+12<=1000000)(h:Cm S K B cov M){i:Nat}(L:i<5){b:Bal}(o:Ac b)(X:b.key=K)(hB:B i=b)(hv:(M.ae i).vo.p=b)(R:∀ j,j<5->j≠i->(M.ae j).vo.p.key<K){d:List Vt}(hq:.began b d∈(M.ae i).bw)(T:P1 i (M.ae i)) :
  Cm S K B cov (M.fa An)/\(∀ j,j<5->((M.fa An).ae j).vo.p=b)/\((M.fa An).ae i).av.qZ i=true/\(∀ j,j<5->j≠i->∃ d,Pend.prom i b d∈((M.fa An).ae j).bw)/\P1 i ((M.fa An).ae i)/\(M.fa An).br=[]/\MOk (n+6) (M.fa An):=by
 have v:LacOk (acN 7 0):=by rw[<- DF];decide
 have t:∀ c A N,Stp wh1 c A N->Cm S K B cov A->Cm S K B cov N:=λc A N s g=>g.step D s.calm;have u:∀ A N,TkS A N->Cm S K B cov A->Cm S K B cov N:=λA N s g=>g.step D s.rJ;have U:=Bl (I:=λN=>Cm S K B cov N/\(∀ j,(N.ae j).vo.p=(M.ae j).vo.p)/\P1 i (N.ae i)) (λc A N s g=>⟨t c A N s g.1,λj=>(s.sU j).trans (g.2.1 j),s.p1 g.2.2⟩) Y (by omega) ⟨h,λ_=>rfl,T⟩;have F:=Fp (I:=λN=>Cm S K B cov N/\(N.ae i).vo.p=b) (J:=λN=>(∀ j,j<5->j≠i->({ BC 0 with hU:=b,src:=i,dst:=j }:Let)∈N.br)/\(N.ae i).av.qZ i=true) (λc A N s g=>⟨t c A N s g.1,(s.sU i).trans g.2⟩) (λc A N s _ g=>⟨λj a e=>s.calm.rF (g.1 j a e),(s.calm.ev i).qZ i g.2⟩) (λA k g E=>⟨g.1.up k E,g.1.rY E⟩) Y (by omega) ⟨h,hv⟩ L hq (λN l g _ _=>by
  refine⟨λj a e=>mB _ ?_,?_⟩
  .simp only[Nod.rh];rw[if_neg (λe=>e g.2)];exact Ma { BC 0 with hU:=b } a e
  .rw[Am,if_pos rfl];show((N.ae i).lr i (.began b d)).av.qZ i=true;simp only[Nod.lr];rw[if_neg (λe=>e g.2)];exact CZ _ _ _)
 rw[show An=AD 3 5++[acN 7 0]from rfl,AJ];generalize M.fa (AD 3 5)=A at U F ⊢;obtain⟨z,f,r,H⟩:=U;have Q:∀ m∈A.br,m.kind=1->m.src≠i->m.hU≠b:=λm Z E hs e=>by
  obtain⟨σ,y,_⟩:=f.ex;have q:=(z.br m Z).src;have G:=((y.lt m Z).k1 E).1.le;have W:=(y.nd _ q).rZ;unfold Nod.pk at W;rw[if_pos (f.up _ q),r]at W
  have h4:=R _ q hs;have h6:m.hU.key<=σ.P m.src:=G;rw[e]at h6
  omega
 obtain⟨N,k1,⟨k2,k3,k4,k5,k6⟩,k7⟩:=Cn (I:=λN=>Cm S K B cov N/\(N.ae i).vo.p=b/\P1 i (N.ae i)/\(N.ae i).av.qZ i=true/\N.br=A.br) (λC N s g=>by
  refine⟨u C N s g.1,g.1.top D s.rJ o.pr X L g.2.1,?_,(s.rJ.ev i).qZ i g.2.2.2.1,?_⟩
  .obtain⟨l,hl,_,_,rfl⟩:=s;rw[Am];split
   .rename_i e
    rw[<- e];exact eO g.2.2.1 λy G=>by rw[g.1.hU i L,hB];exact Q l (by rw[<- g.2.2.2.2];exact hl) y G
   .exact g.2.2.1
  .obtain⟨l,hl,_,_,rfl⟩:=s;exact g.2.2.2.2) z ⟨f,(r i).trans hv,H,F.2,rfl⟩
 have a:∀ j,j<5->j≠i->((A.act (acN 7 0)).ae j).vo.p=b/\∃ d,Pend.prom i b d∈((A.act (acN 7 0)).ae j).bw:=λj a O=>by
  obtain⟨N',q1,q2,q3,_⟩:=DI (I:=Cm S K B cov) (J:=λN=>(N.ae j).vo.p=b/\∃ d,Pend.prom i b d∈(N.ae j).bw) u (λC N s g e=>⟨g.top D s.rJ o.pr X a e.1,by
   obtain⟨d,V⟩:=e.2;refine⟨d,?_⟩;obtain⟨l,_,_,_,rfl⟩:=s;rw[Am];split
   .rename_i e3;rw[<- e3];exact GY V
   .exact V⟩) z f (F.1 j a O) (λN g=>g.up j a) (λN g _=>by
   rw[Am,if_pos rfl];have a0:=g.le a;have x:=g.prom hQ a o (by rw[EV o.pr (g.acc a).1];omega);have e:(N.ae j).take ({ BC 0 with hU:=b,src:=i,dst:=j }:Let)=((N.ae j).au b).1.wait (.prom i b ((N.ae j).au b).2.1):=by
    show(if((N.ae j).au b).2.2≠0 then _ else _)=_;rw[if_neg (λg=>g x.1)]
   rw[e];exact⟨x.2,_,mB _ (D'.2 rfl)⟩)
  rw[q1];exact q3
 have w:=z.act (by omega) v;rw[k1]at a w ⊢
 exact⟨k2.drop,λj q=>by
  by_cases e:j=i
  .rw[e];exact k3
  .exact(a j q e).1,k5,λj q e=>(a j q e).2,k4,rfl,w⟩
end
end
end Go.Proofs.YtcjcngceghfoeaaGreatDoor
