/- Part 13 of the walk. -/
import Derived.Test.YtogibonjmbhliabGreatDoorZ12
set_option maxRecDepth 100000
set_option maxHeartbeats 4000000
set_option linter.unusedVariables false
namespace Go.Proofs.YtogibonjmbhliabGreatDoor
structure Alw where
 ca:Bool
 ld:Bool
 cr:Bool
 st:Bool
structure NInv(A:Alw)(i:Nat)(D:List Int->Prop)(Q:Let->Prop)(P:Nod->Prop):Prop where
 take:A.ca=true->∀ p l,P p->Q l->l.dst=i->p.up=true->P (p.take l)
 one:∀ p c,P p->p.up=true->p.ae[p.done]?=some c->doE p.ni c=0->P (Nod.hZ { p with ni:=doS p.ni c,done:=p.done+1 } c)
 ask:∀ p,P p->p.up=true->P (p.kc i).1/\∀ l∈(p.kc i).2,Q l
 prop:∀ p,P p->p.up=true->P p.cF
 rZ:∀ p,P p->p.up=true->P p.rZ
 run:∀ p q l,P p->p.up=true->p.bw=q::l->¬ p.sy<(p.d.length:Int)->P { p.lr i q with bw:=l }/\∀ m∈p.rT i q,Q m
 rW:∀ p,P p->p.up=true->p.leads=true->P (E6 p i 5)/\∀ l∈Dn p i 5,Q l
 lead:A.ld=true->∀ p,P p->p.up=true->P (p.lead i)
 sub:∀ p d ts,P p->D d->p.up=true->P (p.sj i d ts).1
 lp:A.cr=true->∀ p k,P p->0<=k->p.up=true->P (p.lp k)
 start:A.st=true->∀ p,P p->p.up=false->P p.start
theorem OK(p:Nod)(i:Nat)(q:Pend)(x:List Pend):({ p with bw:=x }:Nod).lr i q={ p.lr i q with bw:=x }:=by
 cases q with
 | began b vs=>unfold Nod.lr;simp only;split<;>rfl
 | prop v =>
  unfold Nod.lr Nod.count;simp only;split
  .rfl
  .split<;>rfl
 | _=>rfl
theorem D6(p:Nod)(i:Nat)(q:Pend):(p.lr i q).bw=p.bw/\(p.lr i q).up=p.up/\(p.lr i q).d=p.d/\(p.lr i q).sy=p.sy:=by
 cases q with
 | began b vs=>unfold Nod.lr;simp only;split<;>exact⟨rfl,rfl,rfl,rfl⟩
 | prop v =>
  unfold Nod.lr Nod.count;simp only;split
  .exact⟨rfl,rfl,rfl,rfl⟩
  .split<;>exact⟨rfl,rfl,rfl,rfl⟩
 | _=>exact⟨rfl,rfl,rfl,rfl⟩
theorem MK(p:Nod)(i:Nat)(q:Pend)(x:List Pend):({ p with bw:=x }:Nod).rT i q=p.rT i q:=by cases q<;>rfl
theorem DO(p:Nod)(c:Cmd):(p.hZ c).up=p.up/\(p.hZ c).ae=p.ae/\(p.hZ c).done=p.done/\(p.hZ c).ni=p.ni:=by unfold Nod.hZ;split<;>exact⟨rfl,rfl,rfl,rfl⟩
theorem SM(p:Nod)(l:List Cmd):(p.eb l).up=p.up:=by unfold Nod.eb;split<;>rfl
theorem IA(p:Nod)(i:Nat):(p.kc i).1.up=p.up:=by
 unfold Nod.kc;split
 .rfl
 .split
  .exact SM _ _
  .rfl
theorem gl(p:Nod)(v:Vt):(p.cn v).1.up=p.up:=by
 unfold Nod.cn;split
 .rfl
 .split
  .rfl
  .split<;>rfl
theorem Ey(p:Nod):p.cF.up=p.up:=by
 unfold Nod.cF;split
 .rfl
 .split
  .rfl
  .split
   .rfl
   .exact gl p _
theorem jI(p:Nod):p.rZ.up=p.up:=by unfold Nod.rZ;split<;>rfl
section
variable{A:Alw}{i:Nat}{D:List Int->Prop}{Q:Let->Prop}{P:Nod->Prop}
theorem NInv.sa(h:NInv A i D Q P)(l:List Cmd)(p:Nod)(e:List Tol)(d:P p)(a:p.up=true)(f:p.ae.drop p.done=l):P (sa i l p e).1/\(Go.Proofs.YtogibonjmbhliabGreatDoor.sa i l p e).1.up=true:=by
 induction l generalizing p e with
 | nil=>exact⟨d,a⟩
 | cons c l ih =>
  rw[Go.Proofs.YtogibonjmbhliabGreatDoor.sa];split
  .exact⟨d,a⟩
  .rename_i he
   have g:p.ae[p.done]?=some c:=by
    have:=congrArg (·[0]?) f;simpa using this
   have b:=DO { p with ni:=doS p.ni c,done:=p.done+1 } c;refine ih _ _ (h.one p c d a g (mX.1 he)) (b.1.trans a) ?_;rw[b.2.1,b.2.2.1];show p.ae.drop (p.done+1)=l;rw[<- pG,f];rfl
theorem NInv.ov(h:NInv A i D Q P)(l:List Pend)(p:Nod)(ls:List Let)(b:P { p with bw:=l })(c:p.up=true)(k:p.bw=[])(j:¬ p.sy<(p.d.length:Int))(g:∀ m∈ls,Q m):P (ov i l p ls).1/\(∀ m∈(Go.Proofs.YtogibonjmbhliabGreatDoor.ov i l p ls).2,Q m)/\(Go.Proofs.YtogibonjmbhliabGreatDoor.ov i l p ls).1.up=true:=by
 induction l generalizing p ls with
 | nil =>
  refine⟨?_,g,c⟩;have:({ p with bw:=[] }:Nod)=p:=by cases p;simp_all
  rw[this]at b;exact b
 | cons q l ih =>
  have a:=D6 p i q;obtain⟨e,f⟩:=h.run { p with bw:=q::l } q l b c rfl j;rw[OK]at e
  rw[MK]at f
  exact ih (p.lr i q) (ls++p.rT i q) e (a.2.1.trans c) (a.1.trans k) (by rw[a.2.2.1,a.2.2.2];exact j) λm n=>(U'.1 n).elim (g m) (f m)
theorem NInv.piece(h:NInv A i D Q P)(p:Nod)(ls:List Let)(ts:List Tol)(x:P p)(y:p.up=true)(w:∀ m∈ls,Q m):P (p.piece i ls ts).1/\∀ m∈(p.piece i ls ts).2.1,Q m:=by
 obtain⟨q,l⟩:=h.sa _ p ts x y rfl;unfold Nod.piece;simp only;obtain⟨s,t⟩:=h.ask _ q l;have n:=(IA (Go.Proofs.YtogibonjmbhliabGreatDoor.sa i (p.ae.drop p.done) p ts).1 i).trans l;have c1:=h.prop _ s n;have c:=(Ey ((Go.Proofs.YtogibonjmbhliabGreatDoor.sa i (p.ae.drop p.done) p ts).1.kc i).1).trans n;have a:∀ m∈ls++((Go.Proofs.YtogibonjmbhliabGreatDoor.sa i (p.ae.drop p.done) p ts).1.kc i).2,Q m:=λm f=>(U'.1 f).elim (w m) (t m);generalize ls++((Go.Proofs.YtogibonjmbhliabGreatDoor.sa i (p.ae.drop p.done) p ts).1.kc i).2=k at a ⊢;generalize ((Go.Proofs.YtogibonjmbhliabGreatDoor.sa i (p.ae.drop p.done) p ts).1.kc i).1.cF=r at c1 c ⊢;have b:P (r.oh i k).1/\(∀ m∈(r.oh i k).2,Q m)/\(r.oh i k).1.up=true:=by
  unfold Nod.oh;split
  .exact⟨c1,a,c⟩
  .rename_i hn
   have g:=h.rZ r c1 c;have j:r.rZ.bw=r.bw:=by unfold Nod.rZ;split<;>rfl
   refine h.ov r.bw { r.rZ with bw:=[] } k (by rw[<- j];exact g) ((jI r).trans c) rfl ?_ a;show ¬ r.rZ.sy<(r.rZ.d.length:Int);unfold Nod.rZ;split
   .rename_i h1
    have:Db r.d r.sy=0:=mX.1 λe=>hn ⟨h1,e⟩;have o:AO r.d r.sy:=by
     unfold Db at this;split at this
     .assumption
     .cases this
    show ¬ I4 r.d r.sy<((Hs r.d r.sy).length:Int);unfold I4 Hs;rw[if_pos o,if_pos o];exact rm _
   .rename_i h1;exact h1
 unfold Nod.bN;split
 .rename_i hL
  obtain⟨u,v⟩:=h.rW _ b.1 b.2.2 hL;exact⟨u,λm f=>(U'.1 f).elim (b.2.1 m) (v m)⟩
 .exact⟨b.1,b.2.1⟩
end
section
structure GInv(Q:Let->Prop)(P:Nat->Nod->Prop)(M:Meet):Prop where
 ab:∀ i,i<5->P i (M.ab i)
 bt:∀ l∈M.bt,Q l
variable{A:Alw}{D:Nat->List Int->Prop}{M:Meet}{P:Nat->Nod->Prop}{Q:Let->Prop}{R:List Tol->Prop}{i j n:Nat}{k:Int}{p:Nod}{x:Lac}
theorem GInv.set(h:GInv Q P M){ls:List Let}{ts:List Tol}(c:P i p)(b:∀ l∈ls,Q l):GInv Q P (M.set i p ls ts) :=
 ⟨λj a=>by
  show P j (upN M.ab i p j);unfold upN;split
  .rename_i e;rw[e];exact c
  .exact h.ab j a,b⟩
theorem GInv.nn(b:∀ i,i<5->NInv A i (D i) Q (P i))(c:A.ca=true)(h:GInv Q P M){l:Let}(d:Q l)(a:l.dst<5):GInv Q P (M.nn l):=by
 unfold Meet.nn;split
 .rename_i hu
  exact h.set (ls:=M.bt) (ts:=M.ew) ((b _ a).take c _ l (h.ab _ a) d rfl hu) h.bt
 .exact h
theorem GInv.comes(b:∀ i,i<5->NInv A i (D i) Q (P i))(c:A.ca=true)(l:List Let)(h:GInv Q P M)(a:∀ m∈l,Q m/\m.dst<5):GInv Q P (l.foldl (λM l=>M.nn l) M):=by
 induction l generalizing M with
 | nil=>exact h
 | cons x l ih=>exact ih (h.nn b c (a x O').1 (a x O').2) λm d=>a m (I' _ d)
structure Alw.Ok(A:Alw)(x:Lac):Prop where
 ca:x.k=4\/x.k=6\/x.k=7->A.ca=true
 ld:x.k=2->A.ld=true
 cr:x.k=8->A.cr=true
 st:x.k=9->A.st=true
theorem GInv.act(g:∀ i,i<5->NInv A i (D i) Q (P i))(h:GInv Q P M)(B:MOk n M)(C:LacOk x)(q:A.Ok x)(F:x.k=1->D x.n.toNat x.d):GInv Q P (M.act x):=by
 have b:∀ {k:Int},x.k=k->FZ k=true->x.n.toNat<5:=λ{k} e E=>by have:=C.n (by rw[e];exact E);omega
 unfold Meet.act;simp only;by_cases r:x.k=1
 .rw[if_pos r];have c:=b r rfl;refine h.set ?_ h.bt;unfold Nod.sj;by_cases f:(M.ab x.n.toNat).up=true
  .exact(g _ c).sub _ x.d M.ew (h.ab _ c) (F r) f
  .unfold Nod.sm;rw[if_pos (by simpa using f)];exact h.ab _ c
 .rw[if_neg r];by_cases s:x.k=2
  .rw[if_pos s];have c:=b s rfl;refine h.set ?_ h.bt;split
   .rename_i f;exact(g _ c).lead (q.ld s) _ (h.ab _ c) f
   .exact h.ab _ c
  .rw[if_neg s];by_cases u:x.k=3
   .rw[if_pos u];have c:=b u rfl;by_cases f:(M.ab x.n.toNat).up=true
    .have:=(g _ c).piece _ M.bt M.ew (h.ab _ c) f h.bt;rw[if_pos f,if_pos f,if_pos f];exact h.set this.1 this.2
    .rw[if_neg f,if_neg f,if_neg f];exact h.set (h.ab _ c) h.bt
   .rw[if_neg u];by_cases w:x.k=4\/x.k=5\/x.k=6
    .rw[if_pos w];unfold Meet.move;split
     .exact h
     .rename_i l v
      have j:=nH v;have z:GInv Q P (if x.k≠6 then{ M with bt:=M.bt.eraseIdx (x.a.toNat%M.bt.length) }else M):=by
       split
       .exact⟨h.ab,λm j=>h.bt m (p8 j)⟩
       .exact h
      simp only;split
      .rename_i h5
       exact z.nn g (q.ca (by omega)) (h.bt l j) (B.bt l j).dst
      .exact z
    .rw[if_neg w];by_cases y:x.k=7
     .rw[if_pos y];unfold Meet.rY;exact GInv.comes g (q.ca (by omega)) _ ⟨h.ab,λl v=>by cases v⟩ λm j=>⟨h.bt m j,(B.bt m j).dst⟩
     .rw[if_neg y];by_cases o:x.k=8
      .rw[if_pos o];have c:=b o rfl;refine h.set ?_ h.bt;split
       .rename_i f;exact(g _ c).lp (q.cr o) _ x.p (h.ab _ c) (C.p (by rw[o];rfl)).1 f
       .exact h.ab _ c
      .rw[if_neg o];by_cases t:x.k=9
       .rw[if_pos t];have c:=b t rfl;refine h.set ?_ h.bt;split
        .exact h.ab _ c
        .rename_i f;exact(g _ c).start (q.st t) _ (h.ab _ c) (by simpa using f)
       .rw[if_neg t];exact h
structure TInv(i:Nat)(D:List Int->Prop)(P:Nod->Prop)(R:List Tol->Prop):Prop where
 one:∀ p c ts,P p->p.up=true->p.ae[p.done]?=some c->doE p.ni c=0->(p.cl c).isSome=true->R ts->R (ts++[⟨i,c.c,c.s,doC p.ni c,doA p.ni c⟩])
 sub:∀ p d ts,P p->D d->p.up=true->opE d (p.done:Int)=0->Hr d (p.done:Int)∈p.ae.take p.done->R ts->R (ts++[⟨i,(Hr d (p.done:Int)).c,(Hr d (p.done:Int)).s,doC p.ni (Hr d (p.done:Int)),doA p.ni (Hr d (p.done:Int))⟩])
theorem TInv.sa{D:List Int->Prop}{P:Nod->Prop}(h:NInv A i D Q P)(t:TInv i D P R)(l:List Cmd)(p:Nod)(b:List Tol)(j:P p)(e:p.up=true)(g:p.ae.drop p.done=l)(a:R b):R (sa i l p b).2:=by
 induction l generalizing p b with
 | nil=>exact a
 | cons c l ih =>
  rw[Go.Proofs.YtogibonjmbhliabGreatDoor.sa];split
  .exact a
  .rename_i he
   have f:p.ae[p.done]?=some c:=by
    have:=congrArg (·[0]?) g;simpa using this
   have d:=DO { p with ni:=doS p.ni c,done:=p.done+1 } c;refine ih _ _ (h.one p c j e f (mX.1 he)) (d.1.trans e) ?_ ?_
   .rw[d.2.1,d.2.2.1];show p.ae.drop (p.done+1)=l;rw[<- pG,g];rfl
   .split
    .rename_i ha;exact t.one p c b j e f (mX.1 he) ha a
    .exact a
theorem Ol(M:Meet)(l:Let):(M.nn l).ew=M.ew:=by unfold Meet.nn;split<;>rfl
theorem S2(l:List Let)(M:Meet):(l.foldl (λM l=>M.nn l) M).ew=M.ew:=by
 induction l generalizing M with
 | nil=>rfl
 | cons x l ih=>exact(ih _).trans (Ol M x)
theorem WE(M:Meet)(k:Int)(a:Nat):(M.move k a).ew=M.ew:=by
 unfold Meet.move;split
 .rfl
 .simp only;split
  .rw[Ol];split<;>rfl
  .split<;>rfl
theorem XO(M:Meet)(a:x.k≠1)(b:x.k≠3):(M.act x).ew=M.ew:=by
 unfold Meet.act;simp only;rw[if_neg a];split
 .rfl
 .split
  .exact WE _ _ _
  .split
   .exact S2 _ _
   .split
    .rfl
    .split<;>rfl
theorem GInv.ew(g:∀ i,i<5->NInv A i (D i) Q (P i))(c:∀ i,i<5->TInv i (D i) (P i) R)(h:GInv Q P M)(a:R M.ew)(e:LacOk x)(f:x.k=1->D x.n.toNat x.d):R (M.act x).ew:=by
 by_cases b:x.k=1
 .have hi:x.n.toNat<5:=by have:=e.n (by rw[b];rfl);omega
  unfold Meet.act;simp only;rw[if_pos b];show R (Nod.sj _ _ _ _).2;unfold Nod.sj Nod.sm;split
  .exact a
  .rename_i hu
   split
   .exact a
   .rename_i he
    split
    .rename_i hm
     exact(c _ hi).sub _ _ _ (h.ab _ hi) (f b) (by simpa using hu) (mX.1 he) hm a
    .exact a
 .by_cases h3:x.k=3
  .have hi:x.n.toNat<5:=by have:=e.n (by rw[h3];rfl);omega
   unfold Meet.act;simp only;rw[if_neg b,if_neg (by omega),if_pos h3];show R (if _ then _ else _);split
   .rename_i hu
    exact TInv.sa (g _ hi) (c _ hi) _ _ _ (h.ab _ hi) hu rfl a
   .exact a
  .rw[XO M b h3];exact a
theorem GInv.dW(c:∀ i,i<5->NInv A i (D i) Q (P i))(g:∀ i,i<5->TInv i (D i) (P i) R)(L:List Lac)(b:MOk n M)(j:n+L.length<=1000000)(h:GInv Q P M)(e:R M.ew)(f:∀ x∈L,LacOk x/\A.Ok x/\(x.k=1->D x.n.toNat x.d)):GInv Q P (M.dW L)/\R (M.dW L).ew/\MOk (n+L.length) (M.dW L):=by
 induction L generalizing n M with
 | nil=>exact⟨h,e,b⟩
 | cons x L ih =>
  have a:=f x O';rw[nD]at j
  have:=ih (b.act (by omega) a.1) (by omega) (h.act c b a.1 a.2.1 a.2.2) (h.ew c g e a.1 a.2.2) λy l=>f y (I' _ l);rw[nD,show n+(L.length+1)=n+1+L.length by omega];exact this
theorem TInv.all(i:Nat)(D:List Int->Prop)(P:Nod->Prop):TInv i D P λ_=>True:=⟨λ_ _ _ _ _ _ _ _ _=>trivial,λ_ _ _ _ _ _ _ _ _=>trivial⟩
def Nod.ub(p:Nod):Bool × Nat:=(p.up,p.bad)
theorem Mw(p:Nod)(b:Bal):(p.au b).1.ub=p.ub:=by
 unfold Nod.au;split
 .rfl
 .split
  .rfl
  .split<;>rfl
theorem V7(p:Nod)(v:Vt):(p.cn v).1.ub=p.ub:=by
 unfold Nod.cn;split
 .rfl
 .split
  .rfl
  .split<;>rfl
theorem LI(p:Nod)(j:Nat)(v:Vt):(p.count j v).ub=p.ub:=by
 unfold Nod.count;split
 .rfl
 .split<;>rfl
theorem OG(p:Nod)(to:Nat)(e:Int):(p.eo to e).ub=p.ub:=by unfold Nod.eo;split<;>rfl
theorem LM(p:Nod)(l:List Cmd):(p.eb l).ub=p.ub:=by unfold Nod.eb;split<;>rfl
theorem PU(p:Nod)(l:Let):(p.take l).ub=p.ub:=by
 unfold Nod.take;split
 .split
  .exact OG _ _ _
  .exact Mw p l.gC
 .simp only;split<;>rfl
 .rfl
 .split
  .exact OG _ _ _
  .exact V7 p l.cn
 .exact LI p _ _
 .split<;>rfl
 .simp only;split<;>exact LM p l.fv
 .rfl
theorem fD(p:Nod)(i:Nat)(q:Pend):(p.lr i q).ub=p.ub:=by
 cases q with
 | began b vs=>unfold Nod.lr;simp only;split<;>rfl
 | prop v=>exact LI p i v
 | _=>rfl
theorem YC(i:Nat)(l:List Pend)(p:Nod)(a:List Let):(ov i l p a).1.ub=p.ub:=by
 induction l generalizing p a with
 | nil=>rfl
 | cons q l ih=>exact(ih _ _).trans (fD p i q)
theorem X9(p:Nod)(c:Cmd):(p.hZ c).ub=p.ub:=by unfold Nod.hZ;split<;>rfl
theorem iG(i:Nat)(l:List Cmd)(p:Nod)(a:List Tol):(sa i l p a).1.ub=p.ub:=by
 induction l generalizing p a with
 | nil=>rfl
 | cons c l ih =>
  rw[sa];split
  .rfl
  .exact(ih _ _).trans (X9 _ _)
theorem de(p:Nod)(i:Nat):(p.kc i).1.ub=p.ub:=by
 unfold Nod.kc;split
 .rfl
 .split
  .exact LM _ _
  .rfl
theorem TV(p:Nod):p.cF.ub=p.ub:=by
 unfold Nod.cF;split
 .rfl
 .split
  .rfl
  .split
   .rfl
   .exact V7 p _
theorem bU(p:Nod)(i:Nat)(a:List Let):(p.oh i a).1.ub=p.ub:=by
 unfold Nod.oh;split
 .rfl
 .rw[YC];unfold Nod.rZ;split<;>rfl
theorem X3(p:Nod)(i:Nat)(a:List Let):(p.bN i a).1.ub=p.ub:=by unfold Nod.bN;split<;>rfl
theorem aH(p:Nod)(i:Nat)(a:List Let)(b:List Tol):(p.piece i a b).1.ub=p.ub:=by
 unfold Nod.piece;simp only;rw[X3,bU,TV,de,iG]
theorem UW(p:Nod)(i:Nat):(p.lead i).ub=p.ub:=by
 unfold Nod.lead;simp only;split
 .rfl
 .exact Mw p _
theorem UG(M:Meet)(l:Let)(j:Nat):((M.nn l).ab j).ub=(M.ab j).ub:=by
 unfold Meet.nn;split
 .show(upN M.ab l.dst _ j).ub=_;unfold upN;split
  .rename_i h;rw[h];exact PU _ _
  .rfl
 .rfl
theorem Yw(l:List Let)(M:Meet)(j:Nat):((l.foldl (λM l=>M.nn l) M).ab j).ub=(M.ab j).ub:=by
 induction l generalizing M with
 | nil=>rfl
 | cons x l ih=>exact(ih _).trans (UG M x j)
theorem eI(M:Meet)(k:Int)(a:Nat)(j:Nat):((M.move k a).ab j).ub=(M.ab j).ub:=by
 unfold Meet.move;split
 .rfl
 .simp only;split
  .rw[UG];split<;>rfl
  .split<;>rfl
theorem Jj(M:Meet)(i:Nat)(p:Nod)(a:List Let)(b:List Tol)(j:Nat):(M.set i p a b).ab j=if j=i then p else M.ab j:=rfl
theorem ie(M:Meet)(f:x.k≠1)(g:x.k≠8)(h:x.k≠9)(j:Nat):((M.act x).ab j).ub=(M.ab j).ub:=by
 unfold Meet.act;simp only;rw[if_neg f];by_cases a:x.k=2
 .rw[if_pos a,Jj];split
  .rename_i e
   rw[e];split
   .exact UW _ _
   .rfl
  .rfl
 .rw[if_neg a];by_cases b:x.k=3
  .rw[if_pos b,Jj];split
   .rename_i e
    rw[e];split
    .exact aH _ _ _ _
    .rfl
   .rfl
  .rw[if_neg b];by_cases c:x.k=4\/x.k=5\/x.k=6
   .rw[if_pos c];exact eI _ _ _ _
   .rw[if_neg c];by_cases d:x.k=7
    .rw[if_pos d];exact Yw _ _ _
    .rw[if_neg d,if_neg g,if_neg h]
theorem jF(M:Meet)(h:x.k=1)(j:Nat):((M.act x).ab j).ub=if j=x.n.toNat/\(M.ab j).up=true/\opE x.d ((M.ab j).done:Int)≠0 then((M.ab j).up,(M.ab j).bad+1)else(M.ab j).ub:=by
 unfold Meet.act;simp only;rw[if_pos h,Jj];by_cases f:j=x.n.toNat
 .subst f;rw[if_pos rfl];unfold Nod.sj Nod.sm;by_cases b:(M.ab x.n.toNat).up=false
  .rw[if_pos b,if_neg (by rw[b];simp)]
  .rw[if_neg b];have g:(M.ab x.n.toNat).up=true:=by simpa using b
   by_cases a:opE x.d ((M.ab x.n.toNat).done:Int)≠0
   .rw[if_pos a,if_pos ⟨rfl,g,a⟩];rfl
   .rw[if_neg a,if_neg (c:=_/\_) (λe=>a e.2.2)];split
    .rfl
    .show(Nod.want _ _).ub=_;unfold Nod.want;split<;>rfl
 .rw[if_neg f,if_neg (λe=>f e.1)]
theorem Ay(M:Meet)(L:List Lac)(x:Lac):M.dW (L++[x])=(M.dW L).act x:=by unfold Meet.dW;rw[pS];rfl
theorem VF{L:List Lac}(h:L[i]?=some x):M.dW (L.take (i+1))=(M.dW (L.take i)).act x:=by rw[px,h];exact Ay M (L.take i) x
theorem I9(L:List Lac)(h:∀ x∈L,LacOk x)(d:L.length<=100000):MOk L.length (Ap.dW L):=by
 suffices ∀ i,i<=L.length->MOk i (Ap.dW (L.take i))by have a:=this L.length (A' _);rwa [oL]at a
 intro i;induction i with
 | zero=>intro _;exact MOk.zero
 | succ i ih =>
  intro c;have b:L[i]?=some L[i]:=E' (by omega);rw[VF b];exact(ih (by omega)).act (by omega) (h _ (nM _))
theorem dO(g:Gr)(b:Bool):LacOk (Ps g b):=by
 have d:=Bg g.a 5 (by omega);have e:=Bg g.c 20 (by omega);have f:=Bg g.c 90 (by omega);have h:(pkB g).length<=63:=by
  have:(pkP g).length=63:=Mr (aI g);unfold pkB;split
  .rw[X'];omega
  .omega
 rw[<- Dr];unfold Ps acN
 repeat' split
 all_goals simp[Zv,FZ,Hv,Hw];try omega
theorem bf{P:Lac->Prop}(b:P (acN 7 0)){a:Bool}(c:∀ g,P (Ps g a))(s:Nat)(l:List Gr):∀ x∈MI a s l,P x:=by
 induction l generalizing s with
 | nil=>intro x hx;cases hx
 | cons g l ih =>
  intro x hx;rcases nf.1 hx with rfl|hx
  .unfold Xg;split
   .exact b
   .exact c g
  .exact ih _ x hx
theorem j8(l:List Gr)(m:Nat)(a:Bool):∀ x∈scr l m a,LacOk x:=bf (by rw[<- Dr];decide) (λg=>dO g a) _ _
theorem bg(a:Bool)(s:Nat)(l:List Gr):(MI a s l).length=l.length:=by
 induction l generalizing s with
 | nil=>rfl
 | cons g l ih=>rw[MI,nD,ih,nD]
theorem fI(l:List Gr)(m:Nat)(a:Bool):(scr l m a).length<=m:=by unfold scr;rw[bg,X'];omega
def Nod.tp(p:Nod):Prop:=AO p.d p.sy
theorem VD{d:List Int}{s:Int}{may:Prop}[Decidable may]{b:List Int}(h:CJ d s may b=0):AO (Gb d s may b) (GV d s may b):=by
 obtain⟨a,c,_⟩:=Kb h;unfold Gb GV;rw[if_pos h,if_pos h];unfold AO at *;rw[H',Bi];omega
theorem Mv(h:p.tp)(b:Bal):(p.au b).1.tp:=by
 unfold Nod.au;split
 .exact h
 .split
  .exact h
  .split
   .exact h
   .rename_i hw;exact VD (mX.1 hw)
theorem Qa(h:p.tp)(v:Vt):(p.cn v).1.tp:=by
 unfold Nod.cn;split
 .exact h
 .split
  .exact h
  .split
   .exact h
   .rename_i hw;exact VD (mX.1 hw)
theorem OF(h:p.tp)(to:Nat)(e:Int):(p.eo to e).tp:=by unfold Nod.eo;split<;>exact h
theorem Yx(h:p.tp)(j:Nat)(v:Vt):(p.count j v).tp:=by
 unfold Nod.count;split
 .exact h
 .split<;>exact h
theorem SL(h:p.tp)(l:List Cmd):(p.eb l).tp:=by unfold Nod.eb;split<;>exact h
theorem Fk(h:p.tp)(c:0<=k):(p.lp k).tp/\(p.lp k).up=false/\(p.lp k).done=0/\(p.lp k).ae=[]:=by
 have a:Gq p.d p.sy k=0:=by unfold Gq;rw[if_neg (λe=>e h),if_neg (by omega)]
 unfold Nod.lp;rw[if_neg (λe=>e a)];refine⟨?_,rfl,rfl,rfl⟩;show AO (KH p.d p.sy k) (KI p.d p.sy k);unfold KH KI;rw[if_pos a,if_pos a];unfold Nod.tp AO at h;have b:0<=Gt p.d p.sy k/\Gt p.d p.sy k<=(p.d.length:Int):=by unfold Gt;split<;>omega
 unfold AO;rw[X'];omega
theorem Fw(h:p.tp):p.start.tp/\p.start.up=true/\p.start.done=0/\p.start.ae=[]:=by
 have b:Db p.d p.sy=0:=if_pos h;have c:=Zn p.d p.d.length;unfold Nod.start;rw[if_neg (λe=>e b)];split
 .refine⟨?_,rfl,rfl,rfl⟩;show AO (JM p.d p.sy) (ME p.d p.sy);unfold JM ME;have a:AO p.d p.sy:=h;rw[if_pos a,if_pos a];unfold Nod.tp AO at h;unfold AO;rw[X'];unfold Ec;split<;>omega
 .exact⟨h,rfl,rfl,rfl⟩
theorem jN(A:Alw)(i:Nat):NInv A i (λ_=>True) (λ_=>True) Nod.tp where
 take:=λ_ p l h _ _ _=>by
  unfold Nod.take;split
  .split
   .exact OF h _ _
   .exact Mv h l.gC
  .simp only;split<;>exact h
  .exact h
  .split
   .exact OF h _ _
   .exact Qa h l.cn
  .exact Yx h _ _
  .split<;>exact h
  .simp only;split<;>exact SL h l.fv
  .exact h
 one:=λp c h _ _ _=>by unfold Nod.hZ;split<;>exact h
 ask:=λp h _=>⟨by
  unfold Nod.kc;split
  .exact h
  .split
   .unfold Nod.eb;split<;>exact h
   .exact h,λ_ _=>trivial⟩
 prop:=λp h _=>by
  unfold Nod.cF;split
  .exact h
  .split
   .exact h
   .split
    .exact h
    .exact Qa h _
 rZ:=λp h _=>by
  unfold Nod.rZ;split
  .show AO (Hs p.d p.sy) (I4 p.d p.sy);unfold Hs I4;have b:AO p.d p.sy:=h;rw[if_pos b,if_pos b];unfold Nod.tp AO at h;unfold AO;omega
  .exact h
 run:=λp q l h _ _ _=>⟨by
  have a:=D6 p i q;show AO (p.lr i q).d (p.lr i q).sy;rw[a.2.2.1,a.2.2.2];exact h,λ_ _=>trivial⟩
 rW:=λp h _ _=>⟨h,λ_ _=>trivial⟩
 lead:=λ_ p h _=>by
  unfold Nod.lead;simp only;split
  .exact h
  .exact Mv h _
 sub:=λp d e h _ _=>by
  unfold Nod.sj Nod.sm;split
  .exact h
  .split
   .exact h
   .split
    .exact h
    .show(Nod.want _ _).tp;unfold Nod.want;split<;>exact h
 lp:=λ_ p k h a _=>(Fk h a).1
 start:=λ_ p h _=>(Fw h).1
def kh:Alw:=⟨true,true,true,true⟩
theorem cZ(x:Lac):kh.Ok x:=⟨λ_=>rfl,λ_=>rfl,λ_=>rfl,λ_=>rfl⟩
theorem Pc(L:List Lac)(h:∀ x∈L,LacOk x)(c:L.length<=100000)(a:i<5):((Ap.dW L).ab i).tp :=
 (GInv.dW (R:=λ_=>True) (D:=λ_ _=>True) (Q:=λ_=>True) (P:=λ_=>Nod.tp) (λi _=>jN kh i) (λi _=>TInv.all i _ _) L MOk.zero (by omega) ⟨λ_ _=>(by show AO [] 0;decide),λ_ _=>trivial⟩ trivial λx b=>⟨h x b,cZ x,λ_=>trivial⟩).1.ab i a
theorem VE(M:Meet)(b:i<5)(a:(M.ab i).tp)(j:Nat):((M.act (acN 9 (i:Int))).ab j).up=if j=i then true else(M.ab j).up:=by
 show(upN M.ab (i:Int).toNat _ j).up=_;unfold upN;rw[nV];split
 .split
  .assumption
  .exact(Fw a).2.1
 .rfl
theorem XP(M:Meet)(c:x.k≠8)(a:(M.ab j).up=true):((M.act x).ab j).up=true:=by
 by_cases b:x.k=1
 .have:=congrArg Prod.fst (jF M b j);split at this
  .exact this.trans a
  .exact this.trans a
 .by_cases h9:x.k=9
  .unfold Meet.act;simp only;rw[if_neg b,if_neg (by omega),if_neg (by omega),if_neg (by omega),if_neg (by omega),if_neg (by omega),if_pos h9,Jj];split
   .rename_i e;rw[<- e,if_pos a];exact a
   .exact a
  .exact(congrArg Prod.fst (ie M b c h9 j)).trans a
theorem cW(L:List Lac)(a:∀ x∈L,x.k≠8)(M:Meet)(b:(M.ab j).up=true):((M.dW L).ab j).up=true:=by
 induction L generalizing M with
 | nil=>exact b
 | cons x L ih=>exact ih (λy c=>a y (I' _ c)) _ (XP M (a x O') b)
theorem AH(M:Meet)(L K:List Lac):M.dW (L++K)=(M.dW L).dW K:=pS
theorem ET{n:Int}(h:(k=2\/k=3\/k=9)/\0<=n/\n<=4):LacOk (acN k n):=by
 rw[<- Dr];rcases h with⟨rfl|rfl|rfl,h1,h2⟩<;>simp[Zv,acN,FZ,Hv,Hw]<;>omega
theorem Me{P:Lac->Prop}(h:∀ n:Nat,n<5->P (acN k (n:Int)))(c:j<=5):∀ x∈AD k j,P x:=by
 intro x b;obtain⟨n,a,rfl⟩:=ny.1 b;exact h n (by have:=oK.1 a;omega)
theorem LO{P:Lac->Prop}(b:∀ n:Nat,n<5->P (acN 3 (n:Int)))(c:P (acN 7 0))(m:Nat):∀ x∈Al m,P x:=by
 induction m with
 | zero=>intro x a;cases a
 | succ m ih =>
  intro x a;rcases U'.1 a with h|h
  .exact ih x h
  .rcases U'.1 h with h|h
   .exact Me b (A' _) x h
   .rw[G'.1 h];exact c
theorem MH{P:Lac->Prop}(c:∀ n:Nat,n<5->P (acN 9 (n:Int)))(a:∀ n:Nat,n<5->P (acN 3 (n:Int)))(b:P (acN 7 0))(m:Nat):∀ x∈Dm m,P x:=by
 intro x d;rcases U'.1 d with h|h
 .exact Me c (A' _) x h
 .exact LO a b m x h
theorem PK(m:Nat):∀ x∈Dm m,LacOk x:=MH (λn a=>ET ⟨.inr (.inr rfl),by omega,by omega⟩) (λn a=>ET ⟨.inr (.inl rfl),by omega,by omega⟩) (by rw[<- Dr];decide) m
theorem j4(L:List Lac)(h:∀ x∈L,LacOk x)(m:Nat)(o:L.length+6*m+5<=100000)(b:j<5):((Ap.dW (L++Dm m)).ab j).up=true:=by
 unfold Dm;rw[<- mU,AH];refine cW _ (LO (λ_ _=>by show(3:Int)≠8;decide) (by decide) m) _ ?_;have d:∀ k,k<=5->j<k->((Ap.dW (L++AD 9 k)).ab j).up=true:=by
  intro k;induction k with
  | zero=>intro _ h;omega
  | succ k ih =>
   intro l c;have a:∀ x∈L++AD 9 k,LacOk x:=λx g=>(U'.1 g).elim (h x) λe=>Me (λn p=>ET ⟨.inr (.inr rfl),by omega,by omega⟩) (by omega) x e;have f:=Pc (L++AD 9 k) a (by rw[H',Zu];omega) (i:=k) (by omega);rw[BX,<- mU,Ay,VE _ (by omega) f];split
   .rfl
   .exact ih (by omega) (by omega)
 exact d 5 (A' _) b
theorem R8{P:Lac->Prop}(c:∀ n:Nat,n<5->P (acN 9 (n:Int)))(a:∀ n:Nat,n<5->P (acN 3 (n:Int)))(b:P (acN 7 0)){i:Int}(e:P (acN 2 i))(l:List Lac):∀ x∈GL l i,P x:=by
 have d:∀ m,∀ x∈Cy m i,P x:=λm x hx=>by
  rcases U'.1 hx with hx|hx
  .rcases U'.1 hx with hx|hx
   .exact MH c a b 0 x hx
   .rw[G'.1 hx];exact e
  .exact MH c a b m x hx
 intro x hx;exact(U'.1 hx).elim (d _ x) (d _ x)
theorem bC(l:List Lac)(i:Int):(GL l i).length<=1222+240*l.length:=by
 have b:(l.filter hvy).length<=l.length:=pP _ _;have a:∀ m,(Dm m).length=5+6*m:=λm=>by unfold Dm;rw[H',Il];rfl
 unfold GL Cy Fq;simp only[H',a,n7];omega
structure Wh where
 d:Nat->List Int->Prop
 ld:Prop
 cr:Prop
 dr:Prop
 tk:Prop
 st:Prop
def Wh.may(D:Wh)(x:Lac):Prop:=(x.k=1->D.d x.n.toNat x.d)/\(x.k=2->D.ld)/\(x.k=8->D.cr)/\(x.k=4\/x.k=5\/x.k=6\/x.k=7->D.dr/\D.tk)/\(x.k=9->D.st)
inductive Stp (D:Wh):Nat->Meet->Meet->Prop
 | take (M:Meet) (l:Let) (hl:l∈M.bt) (hd:l.src<5/\l.dst<5) (hu:(M.ab l.dst).up=true) (ht:D.tk):Stp D 0 M (M.set l.dst ((M.ab l.dst).take l) M.bt M.ew)
 | bt (M:Meet) (ls:List Let) (h:∀ l∈ls,l∈M.bt) (hd:D.dr):Stp D 0 M { M with bt:=ls }
 | one (M:Meet) (i:Nat) (c:Cmd) (hi:i<5) (hu:(M.ab i).up=true) (hc:(M.ab i).ae[(M.ab i).done]?=some c) (he:doE (M.ab i).ni c=0) :
   Stp D 0 M (M.set i (Nod.hZ { M.ab i with ni:=doS (M.ab i).ni c,done:=(M.ab i).done+1 } c) M.bt (if((M.ab i).cl c).isSome=true then M.ew++[⟨i,c.c,c.s,doC (M.ab i).ni c,doA (M.ab i).ni c⟩]else M.ew))
 | ask (M:Meet) (i:Nat) (hi:i<5) (hu:(M.ab i).up=true):Stp D 0 M (M.set i ((M.ab i).kc i).1 (M.bt++((M.ab i).kc i).2) M.ew)
 | prop (M:Meet) (i:Nat) (hi:i<5) (hu:(M.ab i).up=true):Stp D 1 M (M.set i (M.ab i).cF M.bt M.ew)
 | rZ (M:Meet) (i:Nat) (hi:i<5) (hu:(M.ab i).up=true) (h:(M.ab i).sy<((M.ab i).d.length:Int)) (hT:AO (M.ab i).d (M.ab i).sy):Stp D 0 M (M.set i { M.ab i with sy:=((M.ab i).d.length:Int) } M.bt M.ew)
 | run (M:Meet) (i:Nat) (hi:i<5) (hu:(M.ab i).up=true) (q:Pend) (l:List Pend) (hp:(M.ab i).bw=q::l) (hs:¬ (M.ab i).sy<((M.ab i).d.length:Int)):Stp D 0 M (M.set i { (M.ab i).lr i q with bw:=l } (M.bt++(M.ab i).rT i q) M.ew)
 | rW (M:Meet) (i:Nat) (hi:i<5) (hu:(M.ab i).up=true) (hL:(M.ab i).leads=true):Stp D 0 M (M.set i (E6 (M.ab i) i 5) (M.bt++Dn (M.ab i) i 5) M.ew)
 | lead (M:Meet) (i:Nat) (hi:i<5) (hu:(M.ab i).up=true) (hL:D.ld):Stp D 0 M (M.set i ((M.ab i).lead i) M.bt M.ew)
 | sub (M:Meet) (i:Nat) (d:List Int) (hi:i<5) (hu:(M.ab i).up=true) (hD:D.d i d):Stp D 0 M (M.set i ((M.ab i).sj i d M.ew).1 M.bt ((M.ab i).sj i d M.ew).2)
 | lp (M:Meet) (i:Nat) (k:Int) (hi:i<5) (hu:(M.ab i).up=true) (hk:0<=k) (hC:D.cr):Stp D 0 M (M.set i ((M.ab i).lp k) M.bt M.ew)
 | start (M:Meet) (i:Nat) (hi:i<5) (hu:(M.ab i).up=false) (hs:D.st):Stp D 0 M (M.set i (M.ab i).start M.bt M.ew)
inductive Sts (D:Wh):Nat->Meet->Meet->Prop
 | nil (n:Nat) (M:Meet):Sts D n M M
 | snoc {n c m:Nat} {M N K:Meet} (h:Sts D n M N) (s:Stp D c N K) (hm:n+c<=m):Sts D m M K
end
section
variable{D:Wh}
section
variable{K M N:Meet}{i m n:Nat}{ls:List Let}{ts:List Tol}{α:Type}
theorem Sts.mono(h:Sts D n M N)(a:n<=m):Sts D m M N:=by
 cases h with
 | nil=>exact .nil m M
 | snoc h s hm=>exact .snoc h s (by omega)
theorem Sts.trans(h:Sts D n M N)(k:Sts D m N K):Sts D (n+m) M K:=by
 induction k with
 | nil=>exact h.mono (by omega)
 | snoc _ s hm ih=>exact(ih h).snoc s (by omega)
theorem Sts.s0(h:Sts D n M N)(s:Stp D 0 N K):Sts D n M K:=h.snoc s (A' _)
theorem Stp.s(h:Stp D 0 M N):Sts D n M N:=(Sts.nil n M).s0 h
theorem Sts.inv{I:Meet->Prop}(b:∀ c M N,Stp D c M N->I M->I N)(h:Sts D n M N)(a:I M):I N:=by
 induction h with
 | nil=>exact a
 | snoc _ s _ ih=>exact b _ _ _ s (ih a)
theorem Nf(f:Nat->α)(i:Nat):upN f i (f i)=f:=by funext j;unfold upN;split<;>simp_all
theorem V2(f:Nat->α)(i:Nat)(x y:α):upN (upN f i x) i y=upN f i y:=by funext j;unfold upN;split<;>rfl
theorem Cj(M:Meet)(i:Nat)(p q:Nod)(c a:List Let)(d b:List Tol):(M.set i p c d).set i q a b=M.set i q a b:=by unfold Meet.set;simp only[V2]
theorem B1(M:Meet)(i:Nat)(p:Nod)(a:List Let)(b:List Tol):(M.set i p a b).ab i=p:=Dd M.ab i p
theorem Ef(M:Meet)(l:Let):(M.nn l).bt=M.bt:=by unfold Meet.nn;split<;>rfl
theorem Om(M:Meet)(l:Let)(a:List Let):({ M with bt:=a }:Meet).nn l={ M.nn l with bt:=a }:=by
 unfold Meet.nn;show(if(M.ab l.dst).up=true then _ else _)=_;split<;>rfl
theorem Ih(l:List Let)(M:Meet)(a:List Let):l.foldl (λM l=>M.nn l) ({ M with bt:=a }:Meet)={ l.foldl (λM l=>M.nn l) M with bt:=a }:=by
 induction l generalizing M with
 | nil=>rfl
 | cons x l ih=>rw[rL,Om,ih];rfl
theorem Sts.nn(c:D.tk)(h:Sts D n M N){l:Let}(b:l∈N.bt)(a:l.src<5/\l.dst<5):Sts D n M (N.nn l):=by
 unfold Meet.nn;split
 .rename_i hu;exact h.s0 (.take N l b a hu c)
 .exact h
theorem Sts.comes(c:D.tk)(l:List Let)(h:Sts D n M N)(a:∀ m∈l,m∈N.bt/\m.src<5/\m.dst<5):Sts D n M (l.foldl (λM l=>M.nn l) N):=by
 induction l generalizing N with
 | nil=>exact h
 | cons x l ih=>exact ih (h.nn c (a x O').1 (a x O').2) λm b=>by rw[Ef];exact a m (I' _ b)
theorem Sts.sa(g:i<5)(l:List Cmd)(p:Nod)(h:Sts D n M (M.set i p ls ts))(a:p.up=true)(d:p.ae.drop p.done=l) :
  Sts D n M (M.set i (sa i l p ts).1 ls (Go.Proofs.YtogibonjmbhliabGreatDoor.sa i l p ts).2)/\(Go.Proofs.YtogibonjmbhliabGreatDoor.sa i l p ts).1.up=true:=by
 induction l generalizing p ts with
 | nil=>exact⟨h,a⟩
 | cons c l ih =>
  rw[Go.Proofs.YtogibonjmbhliabGreatDoor.sa];split
  .exact⟨h,a⟩
  .rename_i he
   have f:p.ae[p.done]?=some c:=by have:=congrArg (·[0]?) d;simpa using this
   have b:=DO { p with ni:=doS p.ni c,done:=p.done+1 } c;have e:=B1 M i p ls ts;have s:=Stp.one (D:=D) (M.set i p ls ts) i c g (by rw[e];exact a) (by rw[e];exact f) (by rw[e];exact mX.1 he);rw[e,Cj]at s
   refine ih _ (h.s0 s) (b.1.trans a) ?_;rw[b.2.1,b.2.2.1];show p.ae.drop (p.done+1)=l;rw[<- pG,d];rfl
theorem Sts.ov(g:i<5)(l:List Pend)(p:Nod)(h:Sts D n M (M.set i { p with bw:=l } ls ts))(b:p.up=true)(f:p.bw=[])(c:¬ p.sy<(p.d.length:Int)) :
  Sts D n M (M.set i (ov i l p ls).1 (Go.Proofs.YtogibonjmbhliabGreatDoor.ov i l p ls).2 ts)/\(Go.Proofs.YtogibonjmbhliabGreatDoor.ov i l p ls).1.up=true:=by
 induction l generalizing p ls with
 | nil =>
  have:({ p with bw:=[] }:Nod)=p:=by cases p;simp_all
  rw[this]at h;exact⟨h,b⟩
 | cons q l ih =>
  have a:=D6 p i q;have e:=B1 M i { p with bw:=q::l } ls ts;have s:=Stp.run (D:=D) (M.set i { p with bw:=q::l } ls ts) i g (by rw[e];exact b) q l (by rw[e]) (by rw[e];exact c);rw[e,Cj,OK,MK]at s
  exact ih (p.lr i q) (h.s0 s) (a.2.1.trans b) (a.1.trans f) (by rw[a.2.2.1,a.2.2.2];exact c)
theorem Sts.piece(c:i<5)(M:Meet)(x:(M.ab i).up=true):Sts D 1 M (M.set i ((M.ab i).piece i M.bt M.ew).1 ((M.ab i).piece i M.bt M.ew).2.1 ((M.ab i).piece i M.bt M.ew).2.2):=by
 have w:Sts D 0 M (M.set i (M.ab i) M.bt M.ew):=by rw[show M.set i (M.ab i) M.bt M.ew=M by unfold Meet.set;rw[Nf]];exact .nil 0 M
 obtain⟨q,l⟩:=Sts.sa c _ (M.ab i) w x rfl;unfold Nod.piece;simp only;generalize Go.Proofs.YtogibonjmbhliabGreatDoor.sa i ((M.ab i).ae.drop (M.ab i).done) (M.ab i) M.ew=a at q l ⊢;have e:=B1 M i a.1 M.bt a.2;have s:=Stp.ask (D:=D) (M.set i a.1 M.bt a.2) i c (by rw[e];exact l);rw[e,Cj]at s
 have t:=q.s0 s;have n:=(IA a.1 i).trans l;clear e s q;generalize (a.1.kc i)=b at t n ⊢;have e:=B1 M i b.1 (M.bt++b.2) a.2;have s:=Stp.prop (D:=D) (M.set i b.1 (M.bt++b.2) a.2) i c (by rw[e];exact n);rw[e,Cj]at s
 have g:=t.snoc s (m:=1) (by omega);have h:=(Ey b.1).trans n;clear e s t;change Sts D 1 M (M.set i b.1.cF (M.bt++b.2) a.2)at g;generalize b.1.cF=r at g h ⊢;generalize M.bt++b.2=k at g ⊢;have j:Sts D 1 M (M.set i (r.oh i k).1 (r.oh i k).2 a.2)/\(r.oh i k).1.up=true:=by
  unfold Nod.oh;split
  .exact⟨g,h⟩
  .rename_i hn
   have e:=B1 M i r k a.2;unfold Nod.rZ;split
   .rename_i h1
    have o:Db r.d r.sy=0:=mX.1 λe=>hn ⟨h1,e⟩;have p:AO r.d r.sy:=by
     unfold Db at o;split at o
     .assumption
     .cases o
    have s:=Stp.rZ (D:=D) (M.set i r k a.2) i c (by rw[e];exact h) (by rw[e];exact h1) (by rw[e];exact p);rw[e,Cj]at s
    have u:Hs r.d r.sy=r.d:=if_pos p;have v:I4 r.d r.sy=(r.d.length:Int):=if_pos p;rw[u,v];exact Sts.ov c r.bw { r with sy:=(r.d.length:Int),bw:=[] } (g.s0 s) h rfl (rm _)
   .rename_i h1
    exact Sts.ov c r.bw { r with bw:=[] } g h rfl h1
 generalize r.oh i k=f at j ⊢;unfold Nod.bN;split
 .rename_i hL
  have e:=B1 M i f.1 f.2 a.2;have s:=Stp.rW (D:=D) (M.set i f.1 f.2 a.2) i c (by rw[e];exact j.2) (by rw[e];exact hL);rw[e,Cj]at s
  exact j.1.s0 s
 .exact j.1
theorem EM(M:Meet)(i:Nat):M.set i (M.ab i) M.bt M.ew=M:=by unfold Meet.set;rw[Nf]
theorem Pb(g:MOk n M){x:Lac}(v:LacOk x)(j:D.may x):Sts D 1 M (M.act x):=by
 obtain⟨j,y,z,i,A⟩:=j;have b:∀ {k:Int},x.k=k->FZ k=true->x.n.toNat<5:=λ{k} e w=>by have:=v.n (by rw[e];exact w);omega
 unfold Meet.act;simp only;split
 .rename_i h1
  by_cases c:(M.ab x.n.toNat).up=true
  .exact(Stp.sub M _ x.d (b h1 rfl) c (j h1)).s
  .unfold Nod.sj Nod.sm;rw[if_pos (by simpa using c)];rw[EM];exact .nil 1 M
 .split
  .rename_i hk
   split
   .rename_i c;exact(Stp.lead M _ (b hk rfl) c (y hk)).s
   .rw[EM];exact .nil 1 M
  .split
   .rename_i h3
    by_cases c:(M.ab x.n.toNat).up=true
    .rw[if_pos c,if_pos c,if_pos c];exact Sts.piece (b h3 rfl) M c
    .rw[if_neg c,if_neg c,if_neg c,EM];exact .nil 1 M
   .split
    .rename_i hk4
     obtain⟨o,r⟩:=i (by omega);unfold Meet.move;split
     .exact .nil 1 M
     .rename_i l q
      have f:=nH q;have B:=And.intro (g.bt l f).src (g.bt l f).dst;have u:∀ N:Meet,Sts D 1 M N->N.bt=M.bt->Sts D 1 M (if x.k≠6 then{ N with bt:=M.bt.eraseIdx (x.a.toNat%M.bt.length) }else N):=λN h e=>by
       split
       .exact h.s0 (.bt N _ (λm f=>by rw[e];exact p8 f) o)
       .exact h
      simp only;split
      .have:=u (M.nn l) ((Sts.nil 1 M).nn r f B) (Ef M l);by_cases t:x.k≠6
       .rw[if_pos t]at this ⊢;rw[Om];exact this
       .rw[if_neg t]at this ⊢;exact this
      .exact u M (.nil 1 M) rfl
    .split
     .rename_i hk7
      unfold Meet.rY;rw[Ih];exact(Sts.comes (i (by omega)).2 M.bt (.nil 1 M) λm f=>⟨f,(g.bt m f).src,(g.bt m f).dst⟩).s0 (.bt _ [] (λl q=>by cases q) (i (by omega)).1)
     .split
      .rename_i hk
       split
       .rename_i c;exact(Stp.lp M _ x.p (b hk rfl) c (v.p (by rw[hk];rfl)).1 (z hk)).s
       .rw[EM];exact .nil 1 M
      .split
       .rename_i h9
        split
        .rw[EM];exact .nil 1 M
        .rename_i c;exact(Stp.start M _ (b h9 rfl) (by simpa using c) (A h9)).s
       .exact .nil 1 M
theorem Ff(L:List Lac)(b:MOk n M)(d:n+L.length<=1000000)(c:∀ x∈L,LacOk x/\D.may x):Sts D L.length M (M.dW L):=by
 induction L generalizing n M with
 | nil=>exact .nil _ M
 | cons x L ih =>
  have a:=c x O';rw[nD]at d
  rw[nD,rG];exact(Pb b a.1 a.2).trans (ih (b.act (by omega) a.1) (by omega) λy e=>c y (I' _ e))
end
end
section
def whT:Wh:=⟨λ_ _=>True,True,True,True,True,True⟩
theorem Ju(x:Lac):whT.may x:=⟨λ_=>trivial,λ_=>trivial,λ_=>trivial,λ_=>⟨trivial,trivial⟩,λ_=>trivial⟩
inductive Rk where
 | pr (b:Bal)
 | vt (v:Vt)
def Rk.body:Rk->List Int
 | .pr b=>Bv b
 | .vt v=>Bk v
def Rk.ap(a:Acc):Rk->Acc
 | .pr b=>⟨b,a.vs⟩
 | .vt v=>⟨v.b,Bp a.vs v⟩
def Rk.err(a:Acc):Rk->Int
 | .pr b=>Cl a b
 | .vt v=>AX a v
def Rk.ok(a:Acc):Rk->Prop
 | .pr b=>Cl a b=0/\a.p≠b
 | .vt v=>AX a v=0/\v∉a.vs
variable{D:Wh}{K R:Int}{M N:Meet}{a:Acc}{b:Bal}{c:Cmd}{cov:List (Bal × Nat)}{dr qs rs rs':List Rk}{i j n s:Nat}{l:List Cmd}{p:Nod}{q x:Pend}{r:Rk}{v:Vt}{vs:List Vt}
theorem Rk.ok.err(h:Rk.ok a r):Rk.err a r=0:=by cases r<;>exact h.1
def BD(rs:List Rk):Acc:=rs.foldl Rk.ap a0
theorem BY(a:List Rk)(r:Rk):BD (a++[r])=Rk.ap (BD a) r:=by unfold BD;rw[pS];rfl
def AN(rs:List Rk):Prop:=∀ i r,rs[i]?=some r->Rk.ok (BD (rs.take i)) r
theorem AN.nil:AN []:=λi r h=>by simp at h
theorem AN.left(h:AN (rs++qs)):AN rs:=λi r e=>by
 have a:=(V'.1 e).1;have:=h i r (by rw[nm a];exact e)
 rwa [nJ (by omega)]at this
theorem AN.pre(h:AN qs)(a:rs <+: qs):AN rs:=by obtain⟨x,rfl⟩:=a;exact h.left
theorem AN.snoc(h:AN rs)(a:Rk.ok (BD rs) r):AN (rs++[r]):=λi q e=>by
 rcases nW i rs.length with hi|hi
 .rw[nm hi]at e
  rw[nJ (by omega)];exact h i q e
 .have:=(V'.1 e).1;rw[H',n7]at this
  obtain rfl:i=rs.length:=by omega
  rw[nt (A' _)]at e
  simp at e;subst e;rw[nJ (A' _),oL];exact a
theorem AN.last(h:AN (rs++[r])):Rk.ok (BD rs) r:=by
 have:=h rs.length r (by simp)
 rwa [nJ (A' _),oL]at this
theorem AN.ind{P:List Rk->Prop}(a:P [])(b:∀ rs r,AN rs->Rk.ok (BD rs) r->P rs->P (rs++[r]))(h:AN rs):P rs:=by
 have:∀ k,k<=rs.length->P (rs.take k):=by
  intro k;induction k with
  | zero=>intro _;exact a
  | succ k ih =>
   intro c;have e:rs.take (k+1)=rs.take k++[rs[k]]:=by rw[nv (by omega)]
   rw[e];exact b _ _ (h.pre (pD _ _)) (h k _ (E' (by omega))) (ih (by omega))
 have:=this rs.length (A' _)
 rwa [oL]at this
theorem Ag.uA(h:Ag a)(c:Ab b)(i:¬ b.lt a.p):Ag ⟨b,a.vs⟩:=by
 refine⟨.inl c,λv d=>⟨(h.2.1 v d).1,λg=>?_⟩,h.2.2⟩;have e:=(h.2.1 v d).1.2.1;have f:=(h.2.1 v d).2;rw[EZ c.pr e.pr]at g
 rw[EZ h.1 e.pr]at f
 rw[EZ c.pr h.1]at i
 omega
theorem Ag.tS(h:Ag a)(d:Ah v)(e:¬ v.b.lt a.p):Ag ⟨v.b,Bp a.vs v⟩:=by
 refine⟨.inl d.2.1,λu c=>?_,JE v h.2.2⟩;rcases(BH h.2.2).1 c with rfl|⟨c,_⟩
 .refine⟨d,λg=>?_⟩;change u.b.lt u.b at g;unfold Bal.lt at g;omega
 .exact(h.uA d.2.1 e).2.1 u c
theorem Lf:Ag a0:=⟨.inr ⟨rfl,rfl⟩,λv a=>(P' a).elim,trivial⟩
theorem Rk.may(h:Ag a)(c:Rk.err a r=0):Ag (Rk.ap a r):=by
 cases r with
 | pr b=>have:=Co c;exact h.uA this.2.1 this.2.2
 | vt v=>have:=As c;exact h.tS this.2.1 this.2.2
theorem AN.acc(h:AN rs):Ag (BD rs):=h.ind (P:=λrs=>Ag (BD rs)) Lf λrs r _ a b=>by rw[BY];exact Rk.may b a.err
theorem Bq{a:Bal}(c:Ar a)(d:Ar b)(h:¬ a.lt b):b.key<=a.key:=by rw[EZ c d]at h;omega
theorem Rk.sU(h:Ag a)(c:Rk.err a r=0):a.p.key<=(Rk.ap a r).p.key:=by
 cases r with
 | pr b=>have:=Co c;exact Bq this.2.1.pr h.1 this.2.2
 | vt v=>have:=As c;exact Bq this.2.1.2.1.pr h.1 this.2.2
theorem Jg(h:AN rs):∀ v∈(BD rs).vs,Rk.vt v∈rs:=h.ind (P:=λrs=>∀ v∈(BD rs).vs,Rk.vt v∈rs) (λv a=>by cases a) λrs r d e c v a=>by
 rw[BY]at a
 cases r with
 | pr b=>exact mY _ (c v a)
 | vt u =>
  rcases(BH d.acc.2.2).1 a with rfl|⟨a,_⟩
  .exact mW _ O'
  .exact mY _ (c v a)
theorem Ag.le(h:Ag a)(c:v∈a.vs):v.b.key<=a.p.key:=Bq h.1 (h.2.1 v c).1.2.1.pr (h.2.1 v c).2
theorem Md(h:Ag a)(f:AX a v=0){u:Vt}(c:u∈a.vs):∃ x∈Bp a.vs v,x.bu=u.bu/\u.b.key<=x.b.key:=by
 have d:=As f;by_cases e:u.bu=v.bu
 .exact⟨v,(BH h.2.2).2 (.inl rfl),e.symm,nz (h.le c) (Bq d.2.1.2.1.pr h.1 d.2.2)⟩
 .exact⟨u,(BH h.2.2).2 (.inr ⟨c,e⟩),rfl,mT _⟩
theorem R4(h:AN rs):∀ v,Rk.vt v∈rs->v.b.key<=(BD rs).p.key/\∃ u∈(BD rs).vs,u.bu=v.bu/\v.b.key<=u.b.key:=h.ind (P:=λrs=>∀ v,Rk.vt v∈rs->v.b.key<=(BD rs).p.key/\∃ u∈(BD rs).vs,u.bu=v.bu/\v.b.key<=u.b.key) (λv hv=>by cases hv) λrs r c a e v hv=>by
 have d:=Rk.sU c.acc a.err;rw[BY];rcases U'.1 hv with hv|hv
 .obtain⟨h1,u,h2,h3,h4⟩:=e v hv;refine⟨nz h1 d,?_⟩;cases r with
  | pr b=>exact⟨u,h2,h3,h4⟩
  | vt w =>
   obtain⟨x,f,g,i⟩:=Md c.acc a.err h2;exact⟨x,f,g.trans h3,nz h4 i⟩
 .rw[<- G'.1 hv]at a ⊢
  exact⟨mT _,v,(BH c.acc.2.2).2 (.inl rfl),rfl,mT _⟩
theorem D5(h:AN (rs++qs)):(BD rs).p.key<=(BD (rs++qs)).p.key/\∀ v,Rk.vt v∈qs->(BD rs).p.key<=v.b.key:=by
 have:∀ k,k<=qs.length->(BD rs).p.key<=(BD (rs++qs.take k)).p.key/\∀ v,Rk.vt v∈qs.take k->(BD rs).p.key<=v.b.key:=by
  intro k;induction k with
  | zero=>intro _;rw[oF,nA];exact⟨mT _,λv hv=>by cases hv⟩
  | succ k ih =>
   intro i;obtain⟨c,g⟩:=ih (by omega);have e:qs.take (k+1)=qs.take k++[qs[k]]:=by rw[nv (by omega)]
   have a:AN (rs++qs.take k++[qs[k]]):=h.pre (by rw[mU,<- e];exact List.prefix_append_right_inj rs |>.2 (pD _ _));have d:=Rk.sU a.left.acc a.last.err;rw[<- BY]at d
   rw[e,<- mU];refine⟨nz c d,λv hv=>?_⟩;rcases U'.1 hv with hv|hv
   .exact g v hv
   .have hl:=a.last;rw[<- G'.1 hv]at hl
    have f:=As hl.err;exact nz c (Bq f.2.1.2.1.pr a.left.acc.1 f.2.2)
 have:=this qs.length (A' _)
 rwa [oL]at this
def fl(rs:List Rk):List Int:=AE (rs.map Rk.body)
theorem dN(a:List Rk)(r:Rk):fl (a++[r])=fl a++AL r.body:=by unfold fl;rw[nE,CF];simp[AE]
theorem SR(b a:List Rk):fl (b++a)=fl b++fl a:=by unfold fl;rw[nE,CF]
theorem YR(h:rs <+: qs):(fl rs).length<=(fl qs).length:=by obtain⟨x,rfl⟩:=h;rw[SR,H'];omega
theorem kx(h:rs <+: qs)(a:(fl qs).length<=(fl rs).length):rs=qs:=by
 obtain⟨x,rfl⟩:=h;rw[SR,H']at a
 have:=QF (x.map Rk.body);rw[nw]at this
 unfold fl at a;obtain rfl:x=[]:=Z' (by omega);rw[nA]
theorem AN.uC(h:AN rs):Chn ((List.range (rs.length+1)).map λj=>BD (rs.take j)) (rs.map Rk.body):=by
 refine⟨by simp,by simp[BD],λi b a c g f l=>?_⟩;simp only[nR,oM]at g f l;obtain⟨r,e,rfl⟩:=g;obtain⟨j,n,rfl⟩:=f;obtain⟨k,o,rfl⟩:=l;have m:=(V'.1 e).1;rw[oY (by omega)]at n o
 cases n;cases o;have d:=(h i r e).err;have p:rs[i]=r:=by rw[E' m]at e;exact nQ e
 rw[nv m,BY,p];generalize BD (rs.take i)=a at d ⊢;cases r with
 | pr b=>show DK a (Bv b)=_;rw[YE a (Co d).2.1];exact if_pos d
 | vt v=>show DK a (Bk v)=_;rw[YF a (As d).2.1];exact if_pos d
structure TpU(p:Nod)(dr rs:List Rk):Prop where
 ok:AN rs
 pre:dr <+: rs
 d:p.d=fl rs
 sy:p.sy=((fl dr).length:Int)
 vo:p.vo=BD rs
 len:p.d.length<=100000
structure TpD(p:Nod)(dr:List Rk):Prop where
 ok:AN dr
 tx:Ec p.d=((fl dr).length,BD dr)
 tk:p.d.take (fl dr).length=fl dr
 sy:p.sy=(p.d.length:Int)
 len:p.d.length<=100000
theorem TpU.sL(h:TpU p dr rs):AO p.d p.sy:=by
 have:=YR h.pre;have:=h.d;refine⟨h.len,by rw[h.sy];omega,?_⟩;rw[h.sy,h.d];omega
theorem TpU.zero:TpU CZ [] []:=⟨AN.nil,na _,rfl,rfl,rfl,by decide⟩
theorem TpU.all(h:TpU p dr rs)(a:¬ p.sy<(p.d.length:Int)):dr=rs:=kx h.pre (by rw[h.sy,h.d]at a;omega)
theorem TpU.lp(h:TpU p dr rs){k:Int}(u:0<=k):∃ dr',dr <+: dr'/\dr' <+: rs/\TpD (p.lp k) dr':=by
 have o:=h.sL;have b:Gq p.d p.sy k=0:=by unfold Gq;rw[if_neg (λe=>e o),if_neg (by omega)]
 have f:=o;unfold AO at f;have t:p.sy<=Gt p.d p.sy k/\Gt p.d p.sy k<=(p.d.length:Int):=by unfold Gt;split<;>omega
 obtain⟨j,a,r,l,m,n,h5⟩:=h.ok.uC.uu (Gt p.d p.sy k).toNat;rw[nw]at r h5
 rw[nR,oY (by omega)]at l
 obtain rfl:BD (rs.take j)=a:=by simpa using l
 have i:AE ((rs.map Rk.body).take j)=fl (rs.take j):=by unfold fl;rw[qP]
 rw[i]at m n
 have c:(p.lp k).d=(fl rs).take (Gt p.d p.sy k).toNat:=by
  unfold Nod.lp;rw[if_neg (λe=>e b)];show KH p.d p.sy k=_;unfold KH;rw[if_pos b,h.d]
 have s:(p.lp k).sy=Gt p.d p.sy k:=by
  unfold Nod.lp;rw[if_neg (λe=>e b)];show KI p.d p.sy k=_;unfold KI;rw[if_pos b]
 have q:((fl rs).take (Gt p.d p.sy k).toNat).length=(Gt p.d p.sy k).toNat:=by rw[X',<- h.d];omega
 refine⟨rs.take j,?_,pD _ _,h.ok.pre (pD _ _),by rw[c];exact m,?_,?_,?_⟩
 .obtain⟨x,hx⟩:=h.pre;rcases nW j dr.length with g|g
  .exfalso;rcases h5 with h5|h5
   .rw[<- hx,H']at h5;omega
   .have hp:rs.take (j+1) <+: dr:=by rw[<- hx,nJ (by omega)];exact pD _ _
    have:=YR hp;rw[show AE ((rs.map Rk.body).take (j+1))=fl (rs.take (j+1))by unfold fl;rw[qP]]at h5
    have:=h.sy;omega
  .rw[<- hx,List.take_append];rw[np g];exact oE _ _
 .rw[c,pH,oG n];have e:fl rs=fl (rs.take j)++fl (rs.drop j):=by rw[<- SR,oz]
  rw[show(fl rs).take (fl (rs.take j)).length=(fl (rs.take j)++fl (rs.drop j)).take (fl (rs.take j)).length by rw[<- e],nJ (A' _),oL]
 .rw[s,c,q];omega
 .rw[c,q];have:=h.len;omega
theorem TpD.start(h:TpD p dr):TpU p.start dr dr:=by
 have c:AO p.d p.sy:=⟨h.len,by rw[h.sy];omega,by rw[h.sy];omega⟩;have g:Db p.d p.sy=0:=if_pos c;have i:NN p.d p.sy=((fl dr).length:Int):=by unfold NN;rw[if_pos c,h.tx]
 have j:GA p.d p.sy=BD dr:=by unfold GA;rw[if_pos c,h.tx]
 have a:=Vm p.d;rw[h.tx]at a
 have a:(fl dr).length<=p.d.length:=a;have f:=h.len;unfold Nod.start;rw[if_neg (λe=>e g),i,j];split
 .rename_i hlt
  have b:JM p.d p.sy=fl dr:=by unfold JM;rw[if_pos c,h.tx];exact h.tk
  have k:ME p.d p.sy=((fl dr).length:Int):=by unfold ME;rw[if_pos c,h.tx];exact if_pos (by rw[h.sy];exact hlt)
  exact⟨h.ok,na _,b,k,rfl,by show(JM p.d p.sy).length<=_;rw[b];omega⟩
 .rename_i hge
  have b:p.d=fl dr:=by have:=h.tk;rwa [np (by omega)]at this
  exact⟨h.ok,na _,b,by show p.sy=_;rw[h.sy,<- b],rfl,f⟩
theorem TpU.rZ(h:TpU p dr rs):TpU { p with sy:=(p.d.length:Int) } rs rs:=⟨h.ok,na _,h.d,by show(p.d.length:Int)=_;rw[h.d],h.vo,h.len⟩
def Nod.tv(p:Nod)(d:List Int)(s:Int)(a:Acc):Nod:={ p with d:=d,sy:=s,vo:=a }
theorem TpU.write(h:TpU p dr rs)(a:Rk.ok p.vo r)(b:p.d.length+(r.body.length+5)<=100000):TpU (p.tv (p.d++AL r.body) p.sy (Rk.ap p.vo r)) dr (rs++[r]):=by
 rw[h.vo]at a
 refine⟨h.ok.snoc a,h.pre.trans (oE _ _),?_,h.sy,?_,?_⟩
 .show p.d++_=_;rw[h.d,dN]
 .show Rk.ap p.vo r=_;rw[h.vo,BY]
 .show(p.d++AL r.body).length<=_;rw[H',Bi];omega
theorem TpU.au(h:TpU p dr rs)(b:Bal):((p.au b).2.2≠0/\(p.au b).1=p) \/
  ((p.au b).2.2=0/\Cl p.vo b=0/\(p.au b).2.1=p.vo.vs/\∃ rs',rs <+: rs'/\TpU (p.au b).1 dr rs'/\(∀ v,Rk.vt v∈rs'↔Rk.vt v∈rs)/\(BD rs').p=b/\(BD rs').vs=p.vo.vs/\∃ d a,(p.au b).1=p.tv d p.sy a):=by
 unfold Nod.au;split
 .rename_i c;exact .inl ⟨c,rfl⟩
 .rename_i c
  have c:=mX.1 c;split
  .rename_i h2
   refine .inr ⟨rfl,c,rfl,rs,na _,?_,λ_=>Iff.rfl,?_,?_,p.d,p.vo,?_⟩
   .rw[h2];exact h
   .rw[<- h.vo];exact h2.symm
   .rw[<- h.vo]
   .rw[h2];rfl
  .rename_i h2
   split
   .rename_i f;exact .inl ⟨f,rfl⟩
   .rename_i f
    have f:=mX.1 f;have j:=Kb f;have g:Gb p.d p.sy (Ab b) (Bv b)=p.d++AL (Bv b):=if_pos f;have i:GV p.d p.sy (Ab b) (Bv b)=p.sy:=if_pos f;rw[g,i];refine .inr ⟨rfl,c,rfl,rs++[Rk.pr b],oE _ _,(h.write (r:=.pr b) ⟨c,λe=>h2 e.symm⟩ j.2.1),λv=>by simp,?_,?_,_,_,rfl⟩
    .rw[BY];rfl
    .rw[BY,h.vo];rfl
theorem Wp{l:List Vt}(h:BR l)(hv:v∈l):Bp l v=l:=by
 induction l with
 | nil=>cases hv
 | cons u us ih =>
  rw[Bp];rcases nf.1 hv with rfl|hv
  .rw[if_neg (rm _),if_pos rfl]
  .rw[if_pos (h.1 v hv),ih h.2 hv]
theorem TpU.cn(h:TpU p dr rs)(v:Vt):((p.cn v).2≠0/\(p.cn v).1=p) \/
  ((p.cn v).2=0/\AX p.vo v=0/\∃ rs',rs <+: rs'/\TpU (p.cn v).1 dr rs'/\(∀ u,Rk.vt u∈rs'↔u=v\/Rk.vt u∈rs)/\(BD rs').p=v.b/\∃ d a,(p.cn v).1=p.tv d p.sy a):=by
 unfold Nod.cn;split
 .rename_i c;exact .inl ⟨c,rfl⟩
 .rename_i c
  have c:=mX.1 c;have i:=As c;split
  .rename_i h2
   have m:=i.1.le h2;have l:=Bq i.2.1.2.1.pr i.1.1 i.2.2;have e:v.b=p.vo.p:=DC i.2.1.2.1.pr i.1.1 (by omega);have j:(⟨v.b,Bp p.vo.vs v⟩:Acc)=p.vo:=by rw[Wp i.1.2.2 h2,e]
   rw[j];refine .inr ⟨rfl,c,rs,na _,h,λu=>⟨.inr,λhu=>?_⟩,by rw[<- h.vo];exact e.symm,p.d,p.vo,rfl⟩;rcases hu with rfl|hu
   .exact Jg h.ok u (by rw[<- h.vo];exact h2)
   .exact hu
  .rename_i h2
   split
   .rename_i f;exact .inl ⟨f,rfl⟩
   .rename_i f
    have f:=mX.1 f;have n:=Kb f;have k:Gb p.d p.sy (Ah v) (Bk v)=p.d++AL (Bk v):=if_pos f;have j:GV p.d p.sy (Ah v) (Bk v)=p.sy:=if_pos f;rw[k,j];refine .inr ⟨rfl,c,rs++[Rk.vt v],oE _ _,h.write (r:=.vt v) ⟨c,h2⟩ n.2.1,λu=>?_,by rw[BY];rfl,_,_,rfl⟩;rw[U',G'];exact⟨λg=>g.elim .inr λe=>.inl (Rk.vt.inj e),λg=>g.elim (λe=>.inr (by rw[e])) .inl⟩
structure Gs where
 dr:Nat->List Rk
 W:Bal->Nat->Cmd->Prop
def Gs.held(σ:Gs)(n:Nat)(v:Vt):Prop:=Rk.vt v∈σ.dr n
def Gs.H(σ:Gs)(n s:Nat)(b:Int)(c:Cmd):Prop:=∃ v,σ.held n v/\v.bu=(s:Int)/\v.b.key=b/\v.w=c
def Gs.P(σ:Gs)(n:Nat):Int:=(BD (σ.dr n)).p.key
def Gs.sr(σ:Gs)(v:Vt):Prop:=Ah v/\σ.W v.b v.bu.toNat v.w
def Gs.sZ(σ:Gs)(s:Nat)(c:Cmd):Prop:=∃ b,Ch σ.H s b c
structure GsI(σ:Gs):Prop where
 ok:∀ n,AN (σ.dr n)
 th:PInv σ.H σ.P
 w1:∀ b s c c',σ.W b s c->σ.W b s c'->c=c'
 w2:∀ b s c,σ.W b s c->Ab b/\Ek σ.H σ.P s b.key c
 w3:∀ b s c,σ.W b s c->b.key<=σ.P b.n.toNat
 hv:∀ n v,σ.held n v->σ.sr v
structure Gs.le(σ τ:Gs):Prop where
 pre:∀ n,σ.dr n <+: τ.dr n
 W:∀ b s c,σ.W b s c->τ.W b s c
theorem Gs.le.refl(σ:Gs):σ.le σ:=⟨λ_=>na _,λ_ _ _ h=>h⟩
variable{σ τ:Gs}
theorem Gs.le.trans{υ:Gs}(h:σ.le τ)(k:τ.le υ):σ.le υ:=⟨λn=>(h.pre n).trans (k.pre n),λb s c g=>k.W b s c (h.W b s c g)⟩
theorem Gs.le.held(h:σ.le τ)(g:σ.held n v):τ.held n v:=(h.pre n).subset g
theorem Gs.le.H(h:σ.le τ){b:Int}(g:σ.H n s b c):τ.H n s b c:=by obtain⟨v,a,d⟩:=g;exact⟨v,h.held a,d⟩
theorem Gs.le.sr(h:σ.le τ)(g:σ.sr v):τ.sr v:=⟨g.1,h.W _ _ _ g.2⟩
theorem Gs.le.sZ(h:σ.le τ)(g:σ.sZ s c):τ.sZ s c:=by obtain⟨b,Q,a,d⟩:=g;exact⟨b,Q,a,λq f e=>h.H (d q f e)⟩
theorem Gs.le.P(h:σ.le τ)(a:GsI τ)(n:Nat):σ.P n<=τ.P n:=by
 obtain⟨x,b⟩:=h.pre n;have:=a.ok n;unfold Gs.P;rw[<- b]at this ⊢
 exact(D5 this).1
structure Gs.tj(i:Nat)(σ τ:Gs):Prop where
 le:σ.le τ
 new:∀ b s c,τ.W b s c->σ.W b s c\/b.n=(i:Int)
 uF:∀ n,n≠i->τ.dr n=σ.dr n
theorem Gs.tj.refl(i:Nat)(σ:Gs):Gs.tj i σ σ:=⟨.refl σ,λ_ _ _ h=>.inl h,λ_ _=>rfl⟩
def Gs.ext(σ:Gs)(i:Nat)(qs:List Rk):Gs:=⟨upN σ.dr i (σ.dr i++qs),σ.W⟩
theorem Ik(σ:Gs)(i:Nat)(a:List Rk):(σ.ext i a).dr i=σ.dr i++a:=Dd _ _ _
theorem LN(σ:Gs)(a:List Rk)(h:n≠i):(σ.ext i a).dr n=σ.dr n:=Du _ _ h
theorem Pr(σ:Gs)(i:Nat)(a:List Rk):Gs.tj i σ (σ.ext i a):=⟨⟨λn=>by
 by_cases e:n=i
 .subst e;rw[Ik];exact oE _ _
 .rw[LN σ a e];exact na _,λ_ _ _ h=>h⟩,λ_ _ _ h=>.inl h,λn h=>LN σ a h⟩
theorem QD(σ:Gs)(i:Nat)(r:Rk):(σ.ext i [r]).P=upP σ.P i (Rk.ap (BD (σ.dr i)) r).p.key:=by
 funext n
 unfold Gs.P upP;split
 .rename_i e;subst e;rw[Ik,BY]
 .rename_i e;rw[LN σ _ e]
theorem IL:(σ.ext i qs).held n v↔σ.held n v\/(n=i/\Rk.vt v∈qs):=by
 unfold Gs.held;by_cases e:n=i
 .subst e;rw[Ik,U'];simp
 .rw[LN σ qs e];simp[e]
theorem GsI.uq(h:GsI σ)(D:Rk.ok (BD (σ.dr i)) r)(F:∀ v,r=.vt v->σ.sr v):GsI (σ.ext i [r]):=by
 have l:=(h.ok i).acc;have t:=Rk.sU l D.err;have f:=(Pr σ i [r]).le;have q:∀ n,AN ((σ.ext i [r]).dr n):=λn=>by
  by_cases e:n=i
  .subst e;rw[Ik];exact(h.ok n).snoc D
  .rw[LN σ _ e];exact h.ok n
 have d:σ.P i<=(Rk.ap (BD (σ.dr i)) r).p.key:=t;have B:∀ n,σ.P n<=(σ.ext i [r]).P n:=λn=>by rw[QD];exact Ng d n
 have o:∀ n v,(σ.ext i [r]).held n v->(σ.ext i [r]).sr v:=λn v g=>by
  rcases IL.1 g with g|⟨_,g⟩
  .exact f.sr (h.hv n v g)
  .exact f.sr (F v (G'.1 g).symm)
 cases r with
 | pr b =>
  have j:(σ.ext i [.pr b]).H=σ.H:=by
   funext n s a c
   exact propext ⟨λ⟨v,g,k⟩=>⟨v,(IL.1 g).resolve_right λe=>by simp at e,k⟩,λ⟨v,g,k⟩=>⟨v,f.held g,k⟩⟩
  refine⟨q,?_,h.w1,λa s c g=>⟨(h.w2 a s c g).1,?_⟩,λa s c g=>nz (h.w3 a s c g) (B _),o⟩
  .rw[j,QD];exact h.th.au d
  .rw[j,QD];exact(h.w2 a s c g).2.up d
 | vt v =>
  obtain⟨z,C⟩:=F v rfl;have I:v.bu=(v.bu.toNat:Int):=by have:=z.1;omega
  have j:(σ.ext i [.vt v]).H=ii σ.H i v.bu.toNat v.b.key v.w:=by
   funext n s a c
   refine propext ⟨λ⟨u,g,G,x,y⟩=>?_,λg=>?_⟩
   .rcases IL.1 g with g|⟨g1,g2⟩
    .exact .inl ⟨u,g,G,x,y⟩
    .have e:u=v:=Rk.vt.inj (G'.1 g2);subst e;exact .inr ⟨g1,by omega,x.symm,y.symm⟩
   .rcases g with⟨u,g,k⟩|⟨rfl,rfl,rfl,rfl⟩
    .exact⟨u,f.held g,k⟩
    .exact⟨v,IL.2 (.inr ⟨rfl,G'.2 rfl⟩),I,rfl,rfl⟩
  refine⟨q,?_,h.w1,λa s c g=>⟨(h.w2 a s c g).1,?_⟩,λa s c g=>nz (h.w3 a s c g) (B _),o⟩
  .rw[j,QD];refine h.th.cn d (by have:=z.2.1.pos;show 0<v.b.key;omega) (h.w2 _ _ _ C).2 λm J ⟨u,g,G,x,y⟩=>?_;have E:=h.hv m u g;have e:u.b=v.b:=DC E.1.2.1.pr z.2.1.pr x;have A:=E.2;rw[e,show u.bu.toNat=v.bu.toNat by omega,y]at A
   exact h.w1 _ _ _ _ A C
  .rw[j,QD];exact(h.w2 a s c g).2.cn d
theorem dI(σ:Gs)(i:Nat)(r:Rk)(a:List Rk):(σ.ext i [r]).ext i a=σ.ext i (r::a):=by unfold Gs.ext;simp only[Dd,V2,mU,List.singleton_append]
theorem GsI.ext(h:GsI σ)(a:List Rk)(b:AN (σ.dr i++a))(c:∀ v,Rk.vt v∈a->σ.sr v):GsI (σ.ext i a):=by
 induction a generalizing σ with
 | nil =>
  have:σ.ext i []=σ:=by unfold Gs.ext;rw[nA,Nf]
  rw[this];exact h
 | cons r a ih =>
  rw[<- dI];have d:AN (σ.dr i++[r]):=b.pre ⟨a,by simp⟩;refine ih (h.uq d.last λv e=>c v (by rw[e];exact O')) ?_ λv g=>(Pr σ i [r]).le.sr (c v (I' _ g));rw[Ik,mU];exact b
structure PrmOk(dr:List Rk)(b:Bal)(vs:List Vt):Prop where
 le:b.key<=(BD dr).p.key
 sub:∀ v∈vs,Rk.vt v∈dr/\v.b.key<=b.key
 uy:∀ v,Rk.vt v∈dr->v.b.key<b.key->∃ u∈vs,u.bu=v.bu/\v.b.key<=u.b.key
 acc:Ag ⟨b,vs⟩
theorem PrmOk.mono(h:PrmOk dr b vs)(e:dr <+: rs)(d:AN rs):PrmOk rs b vs:=by
 obtain⟨x,rfl⟩:=e;have c:=D5 d;refine⟨nz h.le c.1,λv hv=>⟨mY _ (h.sub v hv).1,(h.sub v hv).2⟩,λv hv a=>?_,h.acc⟩;rcases U'.1 hv with hv|hv
 .exact h.uy v hv a
 .have:=c.2 v hv;have:=h.le;omega
theorem PrmOk.of(c:AN rs)(d:(BD rs).p=b)(a:(BD rs).vs=vs):PrmOk rs b vs:=by
 subst d a;exact⟨mT _,λv a=>⟨Jg c v a,c.acc.le a⟩,λv a _=>(R4 c v a).2,c.acc⟩
structure RdI(σ:Gs)(i:Nat)(r:Rnd):Prop where
 gC:r.gC=Bb\/(Ab r.gC/\r.gC.n=(i:Int))
 next:∀ s c,σ.W r.gC s c->s<r.next
 own:∀ j,j<5->r.rk j=true->r.gC.key<=σ.P i
 an:∀ j,j<5->∀ v∈(r.an j).vs,σ.held j v/\v.b.key<=r.gC.key/\(r.rk j=false->v.b=r.gC)
 prom:∀ j,j<5->r.rk j=true->r.gC.key<=σ.P j/\∀ v,σ.held j v->v.b.key<r.gC.key->∃ u∈(r.an j).vs,u.bu=v.bu/\v.b.key<=u.b.key
 acc:∀ j,j<5->Ag (r.an j)/\(r.rk j=true->(r.an j).p=r.gC)
def PnI(σ:Gs)(rs:List Rk)(r:Rnd):Pend->Prop
 | .began b vs=>PrmOk rs b vs/\b.key<=r.gC.key
 | .prom _ b vs=>PrmOk rs b vs/\b.key<=σ.P b.n.toNat
 | .voted _ v=>Rk.vt v∈rs
 | .prop v=>Rk.vt v∈rs
 | .eo _ b=>Ar b/\b.key<=(BD rs).p.key
 | _=>True
structure UpI(σ:Gs)(i:Nat)(p:Nod)(rs:List Rk):Prop where
 tp:TpU p (σ.dr i) rs
 sr:∀ v,Rk.vt v∈rs->σ.sr v
 rd:RdI σ i p.bn
 bp:p.bn.gC.key<=p.vo.p.key
 pe:∀ q∈p.bw,PnI σ rs p.bn q
def AgL(σ:Gs)(l:List Cmd)(k:Nat):Prop:=∀ s c,l[s]?=some c->σ.sZ (k+s) c
structure NdI(σ:Gs)(i:Nat)(p:Nod):Prop where
 up:p.up=true->∃ rs,UpI σ i p rs
 dn:p.up=false->TpD p (σ.dr i)
 ag:AgL σ p.ae 0
structure LtI(σ:Gs)(l:Let):Prop where
 k0:l.kind=0->l.gC.key<=σ.P l.gC.n.toNat
 k1:l.kind=1->PrmOk (σ.dr l.src) l.gC l.mv/\l.gC.key<=σ.P l.gC.n.toNat/\AgL σ l.fv 0
 k2:l.kind=2->Ar l.gC/\l.gC.key<=σ.P l.src
 k3:l.kind=3->σ.sr l.cn
 k4:l.kind=4->σ.held l.src l.cn
 k5:l.kind=5->AgL σ l.fv l.bu
structure AgI(σ:Gs)(M:Meet):Prop where
 gs:GsI σ
 nd:∀ i,i<5->NdI σ i (M.ab i)
 lt:∀ l∈M.bt,LtI σ l
theorem AgL.mono(h:σ.le τ){k:Nat}(g:AgL σ l k):AgL τ l k:=λs c e=>h.sZ (g s c e)
theorem RdI.mono(h:σ.le τ)(f:GsI τ){r:Rnd}(g:RdI σ i r)(m:∀ s c,τ.W r.gC s c->s<r.next):RdI τ i r:=by
 refine⟨g.gC,m,λj a d=>nz (g.own j a d) (h.P f i),λj a v e=>⟨h.held (g.an j a v e).1,(g.an j a v e).2⟩,λj a d=>⟨nz (g.prom j a d).1 (h.P f j),λv e k=>?_⟩,g.acc⟩;obtain⟨x,n⟩:=h.pre j;have l:=f.ok j;have hv':Rk.vt v∈τ.dr j:=e;rw[<- n]at l hv'
 rcases U'.1 hv' with hv'|hv'
 .exact(g.prom j a d).2 v hv' k
 .have h1:=(D5 l).2 v hv';have o:=(g.prom j a d).1;have p:σ.P j<=v.b.key:=h1;omega
theorem PnI.mono(h:σ.le τ)(d:GsI τ)(a:rs <+: rs')(c:AN rs'){r r':Rnd}(e:r.gC.key<=r'.gC.key)(g:PnI σ rs r q):PnI τ rs' r' q:=by
 cases q with
 | began b vs=>exact⟨g.1.mono a c,nz g.2 e⟩
 | prom to b vs=>exact⟨g.1.mono a c,nz g.2 (h.P d _)⟩
 | voted to v=>exact a.subset g
 | prop v=>exact a.subset g
 | eo to b=>obtain⟨x,rfl⟩:=a;exact⟨g.1,nz g.2 (D5 c).1⟩
 | _=>trivial
theorem NdI.mono(h:Gs.tj i σ τ)(a:GsI τ)(n:GsI σ)(d:j≠i)(g:NdI σ j p):NdI τ j p:=by
 have e:=h.uF j d;refine⟨λl=>?_,λb=>by rw[e];exact g.dn b,g.ag.mono h.le⟩;obtain⟨o,k⟩:=g.up l;refine⟨o,by rw[e];exact k.tp,λv m=>h.le.sr (k.sr v m),k.rd.mono h.le a λs c hW=>?_,k.bp,λq f=>(k.pe q f).mono h.le a (na _) k.tp.ok (mT _)⟩;rcases h.new _ _ _ hW with hW|hW
 .exact k.rd.next s c hW
 .rcases k.rd.gC with hb|⟨_,hb⟩
  .have:=(a.w2 _ _ _ ‹_›).1;rw[hb]at this
   exact absurd this (by decide)
  .rw[hb]at hW;omega
theorem LtI.mono(h:σ.le τ)(a:GsI τ){l:Let}(g:LtI σ l):LtI τ l :=
 ⟨λe=>nz (g.k0 e) (h.P a _),λe=>⟨(g.k1 e).1.mono (h.pre _) (a.ok _),nz (g.k1 e).2.1 (h.P a _),(g.k1 e).2.2.mono h⟩,λe=>⟨(g.k2 e).1,nz (g.k2 e).2 (h.P a _)⟩,λe=>h.sr (g.k3 e),λe=>h.held (g.k4 e),λe=>(g.k5 e).mono h⟩
theorem AgI.set(h:AgI σ M)(b:Gs.tj i σ τ)(a:GsI τ)(g:NdI τ i p){ls:List Let}(d:∀ l∈ls,l∈M.bt\/LtI τ l)(ts:List Tol):AgI τ (M.set i p ls ts) :=
 ⟨a,λj c=>by
  show NdI τ j (upN M.ab i p j);unfold upN;split
  .rename_i e;rw[e];exact g
  .rename_i e;exact(h.nd j c).mono b a h.gs e,λl f=>(d l f).elim (λk=>(h.lt l k).mono b.le a) id⟩
theorem U5{r:Rnd}(h:∀ j,j<5->∀ v∈(r.an j).vs,σ.held j v)(a:CY r.jv (s:Int)=0):σ.sZ s (CQ r.jv (s:Int)):=by
 have k:CQ r.jv (s:Int)=((Hl (Dx r.jv (s:Int)) r.jv.length).map (·.w)).getD ⟨0,0,0,0,0⟩:=if_pos a;unfold CY at a;split at a
 .cases a
 .split at a
  .cases a
  .rename_i d
   have d:=mX.1 d;split at a
   .rename_i hO
    obtain⟨v,g⟩:=oq.1 hO;rw[k,g];have m:=List.find?_some g;have i:5<2*BQ (Dx r.jv (s:Int)) v:=nG m;have e:Dx r.jv (s:Int)=Ae (r.an 0).vs (s:Int)++(Ae (r.an 1).vs (s:Int)++(Ae (r.an 2).vs (s:Int)++(Ae (r.an 3).vs (s:Int)++Ae (r.an 4).vs (s:Int)))):=by
     unfold Dx Rnd.jv Ae;simp[List.filter_append]
    rw[e,C1,C1,C1,C1]at i
    have c:∀ j,j<5->BR (r.an j).vs:=λj l=>(d (r.an j) (by unfold Rnd.jv;rcases rU l with rfl|rfl|rfl|rfl|rfl<;>simp)).2.2;have o:=IW (c 0 (by omega)) (s:Int) v;have p:=IW (c 1 (by omega)) (s:Int) v;have t:=IW (c 2 (by omega)) (s:Int) v;have u:=IW (c 3 (by omega)) (s:Int) v;have x:=IW (c 4 (by omega)) (s:Int) v;refine⟨v.b.key,λq=>decide (v∈(r.an q).vs/\v.bu=(s:Int)),?_,λq n f=>?_⟩
    .show 3<=(decide (v∈(r.an 0).vs/\v.bu=(s:Int))).toNat+(decide (v∈(r.an 1).vs/\v.bu=(s:Int))).toNat+(decide (v∈(r.an 2).vs/\v.bu=(s:Int))).toNat+(decide (v∈(r.an 3).vs/\v.bu=(s:Int))).toNat+(decide (v∈(r.an 4).vs/\v.bu=(s:Int))).toNat;omega
    .obtain⟨h1,h2⟩:=nG f;exact⟨v,h q n v h1,h2,rfl,rfl⟩
   .cases a
theorem AgL.snoc(h:AgL σ l 0)(a:σ.sZ l.length c):AgL σ (l++[c]) 0:=λs d e=>by
 rcases nW s l.length with g|g
 .rw[nm g]at e;exact h s d e
 .have:=(V'.1 e).1;rw[H',n7]at this
  obtain rfl:s=l.length:=by omega
  rw[nt (A' _)]at e
  simp at e;subst e;rw[nS];exact a
theorem Va{r:Rnd}(h:∀ j,j<5->∀ v∈(r.an j).vs,σ.held j v)(k:Nat)(a:AgL σ l 0):AgL σ (FG k r l) 0:=by
 induction k generalizing l with
 | zero=>exact a
 | succ k ih =>
  rw[FG];split
  .rename_i he;exact ih (a.snoc (U5 h he))
  .exact a
theorem QR{b:List Cmd}{a:Nat}(d:AgL σ l 0)(f:AgL σ b a)(h:a<=l.length):AgL σ (l++b.drop (l.length-a)) 0:=λs c e=>by
 rcases nW s l.length with g|g
 .rw[nm g]at e;exact d s c e
 .rw[nt g,nY]at e
  have:=f _ c e
  rwa [show a+(l.length-a+(s-l.length))=0+s by omega]at this
theorem Wn(a:Acc)(l:List Vt):∀ v∈(Dg a l).vs,v∈a.vs\/v∈l:=by
 induction l generalizing a with
 | nil=>exact λv b=>.inl b
 | cons u l ih =>
  intro v b;rw[Dg]at b
  rcases ih _ v b with h|h
  .by_cases he:AX a u=0
   .rw[if_pos he]at h
    have h:v∈Bu a u:=h;rw[(DB he).2]at h
    rcases(BH (As he).1.2.2).1 h with rfl|⟨h,_⟩
    .exact .inr O'
    .exact .inl h
   .rw[if_neg he]at h;exact .inl h
  .exact .inr (I' _ h)
theorem Wm(a:Acc)(l:List Vt):∀ u∈a.vs,∃ x∈(Dg a l).vs,x.bu=u.bu/\u.b.key<=x.b.key:=by
 induction l generalizing a with
 | nil=>exact λu d=>⟨u,d,rfl,mT _⟩
 | cons w l ih =>
  intro u d;rw[Dg];by_cases c:AX a w=0
  .rw[if_pos c];obtain⟨x,e,f,g⟩:=Md (As c).1 c d;obtain⟨y,h,i,j⟩:=ih ⟨BN a w,Bu a w⟩ x (by show x∈Bu a w;rw[(DB c).2];exact e);exact⟨y,h,i.trans f,nz g j⟩
  .rw[if_neg c];exact ih a u d
theorem Wl(a:Acc)(l:List Vt)(c:Ag a)(g:a.p=b)(h:∀ v∈l,v.b.key<=b.key):Ag (Dg a l)/\(Dg a l).p=b:=by
 induction l generalizing a with
 | nil=>exact⟨c,g⟩
 | cons u l ih =>
  rw[Dg];by_cases d:AX a u=0
  .rw[if_pos d];have f:=As d;have e:u.b=b:=by
    have k:=Bq f.2.1.2.1.pr c.1 f.2.2;have m:=h u O';rw[g]at k
    exact DC f.2.1.2.1.pr (g▸c.1) (by omega)
   have j:(⟨BN a u,Bu a u⟩:Acc)=⟨u.b,Bp a.vs u⟩:=by rw[(DB d).1,(DB d).2]
   rw[j];exact ih _ (c.tS f.2.1 f.2.2) e λv i=>h v (I' _ i)
  .rw[if_neg d];exact ih a c g λv i=>h v (I' _ i)
theorem RdI.sf{r:Rnd}(h:RdI σ i r)(f:PrmOk (σ.dr j) r.gC vs)(s:r.gC.key<=σ.P i):RdI σ i (r.sf j vs):=by
 refine⟨h.gC,h.next,λ_ _ _=>s,λk c v a=>?_,λk c n=>?_,λk c=>?_⟩
 rotate_right
 .show Ag (upN r.an j (Dg ⟨r.gC,vs⟩ (r.an j).vs) k)/\(upN r.rk j true k=true->(upN r.an j (Dg ⟨r.gC,vs⟩ (r.an j).vs) k).p=r.gC);unfold upN;split
  .rename_i e;subst e
   have:=Wl (b:=r.gC) ⟨r.gC,vs⟩ (r.an k).vs f.acc rfl λv a=>(h.an k c v a).2.1;exact⟨this.1,λ_=>this.2⟩
  .exact h.acc k c
 .have a:v∈(upN r.an j (Dg ⟨r.gC,vs⟩ (r.an j).vs) k).vs:=a;by_cases e:k=j
  .subst e;rw[Dd]at a
   rcases Wn _ _ v a with g|g
   .exact⟨(f.sub v g).1,(f.sub v g).2,λe=>by rw[show(r.sf k vs).rk k=true from Dd _ _ _]at e;cases e⟩
   .have:=h.an k c v g;exact⟨this.1,this.2.1,λe=>by rw[show(r.sf k vs).rk k=true from Dd _ _ _]at e;cases e⟩
  .rw[Du _ _ e]at a
   have:=h.an k c v a;exact⟨this.1,this.2.1,λo=>this.2.2 (by rwa [show(r.sf j vs).rk k=r.rk k from Du _ _ e]at o)⟩
 .by_cases e:k=j
  .subst e;refine⟨f.le,λv a d=>?_⟩;obtain⟨u,l,m,q⟩:=f.uy v a d;obtain⟨x,t,w,y⟩:=Wm ⟨r.gC,vs⟩ (r.an k).vs u l;exact⟨x,by show x∈(upN r.an k _ k).vs;rw[Dd];exact t,w.trans m,nz q y⟩
  .rw[show(r.sf j vs).rk k=r.rk k from Du _ _ e]at n
   have:=h.prom k c n;exact⟨this.1,λv a d=>by
    obtain⟨u,l,m⟩:=this.2 v a d;exact⟨u,by show u∈(upN r.an j _ k).vs;rw[Du _ _ e];exact l,m⟩⟩
theorem RdI.count{r:Rnd}(h:RdI σ i r)(l:v.b=r.gC)(f:AX (r.an j) v=0)(o:σ.held j v):RdI σ i { r with an:=upN r.an j ⟨BN (r.an j) v,Bu (r.an j) v⟩ }:=by
 have d:=As f;have g:Bu (r.an j) v=Bp (r.an j).vs v:=(DB f).2;refine⟨h.gC,h.next,h.own,λk c u a=>?_,λk c n=>⟨(h.prom k c n).1,λu a m=>?_⟩,λk c=>?_⟩
 rotate_right
 .show Ag (upN r.an j ⟨BN (r.an j) v,Bu (r.an j) v⟩ k)/\(r.rk k=true->(upN r.an j ⟨BN (r.an j) v,Bu (r.an j) v⟩ k).p=r.gC);unfold upN;split
  .rw[(DB f).1,g];exact⟨d.1.tS d.2.1 d.2.2,λ_=>l⟩
  .exact h.acc k c
 .have a:u∈(upN r.an j ⟨BN (r.an j) v,Bu (r.an j) v⟩ k).vs:=a;by_cases e:k=j
  .subst e;rw[Dd]at a
   have a:u∈Bu (r.an k) v:=a;rw[g]at a
   rcases(BH d.1.2.2).1 a with rfl|⟨a,_⟩
   .exact⟨o,by rw[l];exact mT _,λ_=>l⟩
   .exact h.an k c u a
  .rw[Du _ _ e]at a;exact h.an k c u a
 .obtain⟨x,h1,h2,h3⟩:=(h.prom k c n).2 u a m;by_cases e:k=j
  .subst e;obtain⟨y,q,s,t⟩:=Md d.1 f h1;exact⟨y,by show y∈(upN r.an k _ k).vs;rw[Dd];show y∈Bu (r.an k) v;rw[g];exact q,s.trans h2,nz h3 t⟩
  .exact⟨x,by show x∈(upN r.an j _ k).vs;rw[Du _ _ e];exact h1,h2,h3⟩
theorem UpI.pd{q:Nod}(h:UpI σ i p rs)(b:q.d=p.d)(j:q.sy=p.sy)(c:q.vo=p.vo)(f:RdI σ i q.bn)(a:q.bn.gC=p.bn.gC)(e:∀ x∈q.bw,x∈p.bw\/PnI σ rs q.bn x):UpI σ i q rs :=
 ⟨⟨h.tp.ok,h.tp.pre,b.trans h.tp.d,j.trans h.tp.sy,c.trans h.tp.vo,by rw[b];exact h.tp.len⟩,h.sr,f,by rw[a,c];exact h.bp,λx k=>(e x k).elim (λg=>by
  have:=h.pe x g;cases x<;>first|exact this|exact trivial|(refine⟨this.1,?_⟩;first|exact this.2|(rw[a];exact this.2))) id⟩
theorem UpI.count(h:UpI σ i p rs)(a:AgL σ p.ae 0)(d:σ.held j v):UpI σ i (p.count j v) rs/\AgL σ (p.count j v).ae 0:=by
 unfold Nod.count;split
 .exact⟨h,a⟩
 .rename_i b
  have b:=mX.1 b;split
  .exact⟨h,a⟩
  .rename_i he
   have c:=h.rd.count b (mX.1 he) d;exact⟨h.pd rfl rfl rfl c rfl λx g=>.inl g,Va (λj e v f=>(c.an j e v f).1) 41 a⟩
theorem NdI.mk'(b:p.up=true)(h:UpI σ i p rs)(a:AgL σ p.ae 0):NdI σ i p:=⟨λ_=>⟨rs,h⟩,λe=>(by rw[b]at e;cases e),a⟩
theorem AgL.nil(σ:Gs)(k:Nat):AgL σ [] k:=λs c e=>by simp at e
theorem AgL.drop(h:AgL σ l 0)(k:Nat):AgL σ (l.drop k) k:=λs c e=>by
 rw[nY]at e
 have:=h _ c e
 rwa [nS]at this
theorem UpI.wait(h:UpI σ i p rs)(a:PnI σ rs p.bn x):UpI σ i (p.wait x) rs :=
 h.pd rfl rfl rfl h.rd rfl λy b=>(U'.1 b).imp id λe=>by rw[G'.1 e];exact a
theorem UpI.eo(h:UpI σ i p rs)(to:Nat)(e:Int):UpI σ i (p.eo to e) rs:=by
 unfold Nod.eo;split
 .exact h.wait (by show Ar p.vo.p/\p.vo.p.key<=_;rw[h.tp.vo];exact⟨h.tp.ok.acc.1,mT _⟩)
 .exact h
theorem OE(p:Nod)(to:Nat)(e:Int):(p.eo to e).ae=p.ae:=by unfold Nod.eo;split<;>rfl
theorem UpI.wrote{q:Nod}(h:UpI σ i p rs)(f:σ.le τ)(k:GsI τ)(e:τ.dr i=σ.dr i)(a:TpU q (σ.dr i) rs')(l:rs <+: rs')(n:∀ v,Rk.vt v∈rs'->τ.sr v){r:Rnd}(m:RdI τ i r)(b:p.bn.gC.key<=r.gC.key)(c:r.gC.key<=q.vo.p.key)(o:PnI τ rs' r x)(j:q.bw=p.bw):UpI τ i (Nod.wait { q with bn:=r } x) rs' :=
 ⟨by rw[e];exact⟨a.ok,a.pre,a.d,a.sy,a.vo,a.len⟩,n,m,c,λy s=>by
  rcases U'.1 s with g|g
  .have g:y∈q.bw:=g;rw[j]at g
   exact(h.pe y g).mono f k l a.ok b
  .rw[G'.1 g];exact o⟩
theorem FD(h:UpI σ i p rs)(l:List Cmd):UpI σ i (p.eb l) rs/\(p.eb l).ae=p.ae:=by
 unfold Nod.eb;split
 .exact⟨h.pd rfl rfl rfl ⟨h.rd.gC,h.rd.next,h.rd.own,h.rd.an,h.rd.prom,h.rd.acc⟩ rfl λx a=>.inl a,rfl⟩
 .exact⟨h,rfl⟩
theorem QQ(h:UpI σ i p rs)(a:AgL σ p.ae 0):UpI σ i p.rV rs/\AgL σ p.rV.ae 0:=⟨h.pd rfl rfl rfl h.rd rfl λx d=>.inl d,Va (λj b v c=>(h.rd.an j b v c).1) 41 a⟩
theorem NdI.take(C:GsI σ)(h:NdI σ i p)(D:p.up=true){l:Let}(u:LtI σ l)(G:l.src<5):NdI σ i (p.take l):=by
 obtain⟨f,k⟩:=h.up D;have c:=h.ag
 suffices g:∃ b,UpI σ i (p.take l) b/\AgL σ (p.take l).ae 0 by
  obtain⟨b,w,o⟩:=g;exact NdI.mk' ((congrArg Prod.fst (PU p l)).trans D) w o
 unfold Nod.take;split
 .rename_i hk
  rcases k.tp.au l.gC with⟨e,he⟩|⟨e,he,hvs,b,hp,ht,hm,hpb,hpv,d,a,hq⟩
  .rw[if_pos e];exact⟨f,k.eo _ _,by rw[OE];exact c⟩
  .rw[if_neg (λg=>g e)];have m:=Co he;refine⟨b,?_,?_⟩
   .refine k.wrote (q:=(p.au l.gC).1) (r:=(p.au l.gC).1.bn) (.refl σ) C rfl ht hp (λv B=>k.sr v ((hm v).1 B)) ?_ ?_ ?_ ⟨PrmOk.of ht.ok hpb (hpv.trans hvs.symm),u.k0 hk⟩ (by rw[hq];rfl)
    .rw[hq];exact k.rd
    .rw[hq];exact mT _
    .rw[ht.vo,hpb,hq];exact nz k.bp (Bq m.2.1.pr m.1.1 m.2.2)
   .show AgL σ (p.au l.gC).1.ae 0;rw[hq];exact c
 .rename_i hk
  obtain⟨w,o,E⟩:=u.k1 hk;have y:AgL σ (p.ln 0 l.fv).ae 0:=QR c E (nB _);have s:UpI σ i (p.ln 0 l.fv) f:=k.pd rfl rfl rfl k.rd rfl λx j=>.inl j;generalize p.ln 0 l.fv=K at y s ⊢;simp only;split
  .exact⟨f,s,y⟩
  .rename_i hc
   have A:K.leads=true:=by cases hh:K.leads with|true=>rfl|false=>exact absurd (.inl hh) hc
   have t:l.gC=K.bn.gC:=mX.1 λe=>hc (.inr (.inl e));have z:K.bn.gC≠Bb:=(nG A).1;rw[t]at w o
   have F:=(s.rd.gC.resolve_left z).2;rw[F,nV]at o
   have n:=s.rd.sf w o;exact⟨f,QQ (p:={ K with bn:={ K.bn.sf l.src l.mv with bN:=upN K.bn.bN l.src l.fv.length } }) (s.pd rfl rfl rfl ⟨n.gC,n.next,n.own,n.an,n.prom,n.acc⟩ rfl λx j=>.inl j) y⟩
 .exact⟨f,k.pd rfl rfl rfl k.rd rfl λx j=>.inl j,c⟩
 .rename_i hk
  rcases k.tp.cn l.cn with⟨e,he⟩|⟨e,he,b,hp,ht,hm,hpb,d,a,hq⟩
  .rw[if_pos e];exact⟨f,k.eo _ _,by rw[OE];exact c⟩
  .rw[if_neg (λg=>g e)];have m:=As he;refine⟨b,?_,?_⟩
   .refine k.wrote (q:=(p.cn l.cn).1) (r:=(p.cn l.cn).1.bn) (.refl σ) C rfl ht hp (λv B=>((hm v).1 B).elim (λe=>by rw[e];exact u.k3 hk) (k.sr v)) ?_ ?_ ?_ ((hm _).2 (.inl rfl)) (by rw[hq];rfl)
    .rw[hq];exact k.rd
    .rw[hq];exact mT _
    .rw[ht.vo,hpb,hq];exact nz k.bp (Bq m.2.1.2.1.pr m.1.1 m.2.2)
   .show AgL σ (p.cn l.cn).1.ae 0;rw[hq];exact c
 .rename_i hk
  exact⟨f,k.count c (u.k4 hk)⟩
 .rename_i hk
  split
  .exact⟨f,k.wait trivial,c⟩
  .rename_i hlt;exact⟨f,k.pd rfl rfl rfl k.rd rfl λx j=>.inl j,QR c (u.k5 hk) (by omega)⟩
 .have:=FD k l.fv;simp only;split
  .exact⟨f,this.1.wait trivial,by show AgL σ (p.eb l.fv).ae 0;rw[this.2];exact c⟩
  .exact⟨f,this.1,by rw[this.2];exact c⟩
 .exact⟨f,k,c⟩
theorem WU(W:GsI σ)(h:RdI σ i p.bn)(X:Ab p.bn.gC)(Y:p.bn.rX=true)(hs:p.bn.next<=s)(t:p.rQ s=some c):Ek σ.H σ.P s p.bn.gC.key c:=by
 have h5:5<2*J8 p.bn.rk:=nG Y;have m:∀ j,j<5->∀ v∈(p.bn.an j).vs,v.bu=(s:Int)->v∈Ae (p.bn.jv.map (·.vs)).flatten (s:Int):=λj F v M e=>by
  refine Be.2 ⟨pE.2 ⟨(p.bn.an j).vs,ny.2 ⟨p.bn.an j,?_,rfl⟩,M⟩,e⟩;unfold Rnd.jv;rcases rU F with rfl|rfl|rfl|rfl|rfl<;>simp
 refine⟨p.bn.rk,by omega,λq n o=>(h.prom q n o).1,?_⟩;unfold Nod.rQ at t;split at t
 .cases t
 .rename_i d
  have d:=mX.1 d;have D:DS (p.bn.jv.map (·.vs)) (s:Int)=(Gf (p.bn.jv.map (·.vs)) (s:Int)).isSome:=if_pos d;have S:H9 (p.bn.jv.map (·.vs)) (s:Int)=((Gf (p.bn.jv.map (·.vs)) (s:Int)).map (·.w)).getD ⟨0,0,0,0,0⟩:=if_pos d;have r:∀ l∈p.bn.jv.map (·.vs),∀ v∈l,Ah v:=by
   unfold Ck at d;split at d
   .cases d
   .split at d
    .assumption
    .cases d
  have L:∀ v∈Ae (p.bn.jv.map (·.vs)).flatten (s:Int),Ar v.b:=λv M=>by
   obtain⟨l,k,f⟩:=pE.1 (Be.1 M).1;exact(r l k v f).2.1.pr
  rcases Sf _ L with⟨h0,E⟩|⟨x,E,hx,hmax⟩
  .left;intro q n o U V ⟨v,g,R,Z,k3⟩;refine Int.not_lt.1 λz=>?_;obtain⟨u,k,f,_⟩:=(h.prom q n o).2 v g (by omega);have:=m q n u k (f.trans R);rw[h0]at this;cases this
  .right;have E:Gf (p.bn.jv.map (·.vs)) (s:Int)=some x:=E;rw[E]at D S
   have D:DS (p.bn.jv.map (·.vs)) (s:Int)=true:=D;rw[if_pos D]at t
   have G:c=x.w:=(nQ t).symm.trans S;obtain⟨O,Q⟩:=Be.1 hx;obtain⟨j,F,N⟩:∃ j,j<5/\x∈(p.bn.an j).vs:=by
    obtain⟨l,k,f⟩:=pE.1 O;obtain⟨a,C,rfl⟩:=ny.1 k;unfold Rnd.jv at C;simp only[nf,P',or_false]at C;rcases C with rfl|rfl|rfl|rfl|rfl
    .exact⟨0,by omega,f⟩
    .exact⟨1,by omega,f⟩
    .exact⟨2,by omega,f⟩
    .exact⟨3,by omega,f⟩
    .exact⟨4,by omega,f⟩
   obtain⟨y,I,J⟩:=h.an j F x N;have B:=W.hv j x y;have A:x.b≠p.bn.gC:=λe=>by
    have k:=B.2;rw[e]at k
    have:=h.next _ _ k;omega
   have z:x.b.key<p.bn.gC.key:=by
    rcases Int.lt_or_eq_of_le I with g|g
    .exact g
    .exact absurd (DC B.1.2.1.pr X.pr g) A
   have K:p.bn.rk j=true:=by
    cases hh:p.bn.rk j with
    | true=>rfl
    | false=>exact absurd (J hh) A
   refine⟨x.b.key,z,⟨j,F,K,x,y,Q,rfl,G.symm⟩,λq n o U V ⟨v,g,R,Z,k3⟩ T=>?_⟩;obtain⟨u,k,f,C⟩:=(h.prom q n o).2 v g (by omega);have:=hmax u (m q n u k (f.trans R));omega
def Gs.prop(σ:Gs)(b:Bal)(s:Nat)(c:Cmd):Gs:=⟨σ.dr,λb' s' c'=>σ.W b' s' c'\/(b'=b/\s'=s/\c'=c)⟩
theorem GsI.prop(h:GsI σ)(e:Ab b)(d:Ek σ.H σ.P s b.key c)(f:b.key<=σ.P b.n.toNat)(a:∀ c',¬ σ.W b s c'):GsI (σ.prop b s c):=by
 refine⟨h.ok,h.th,?_,?_,?_,λn v g=>⟨(h.hv n v g).1,.inl (h.hv n v g).2⟩⟩
 .rintro b' s' c1 c2 (g|⟨rfl,rfl,rfl⟩) (k|⟨e1,e2,e3⟩)
  .exact h.w1 _ _ _ _ g k
  .subst e1 e2;exact absurd g (a _)
  .exact absurd k (a _)
  .exact e3.symm
 .rintro b' s' c' (g|⟨rfl,rfl,rfl⟩)
  .exact h.w2 _ _ _ g
  .exact⟨e,d⟩
 .rintro b' s' c' (g|⟨rfl,rfl,rfl⟩)
  .exact h.w3 _ _ _ g
  .exact f
theorem NdI.cF(x:GsI σ)(h:NdI σ i p)(D:p.up=true):∃ τ ex,Gs.tj i σ τ/\GsI τ/\NdI τ i p.cF/\(∀ b s c,τ.W b s c->σ.W b s c\/ex=some (b,s))/\∀ b s,ex=some (b,s)->s<40/\b=p.bn.gC:=by
 obtain⟨L,k⟩:=h.up D;have f:∃ τ ex,Gs.tj i σ τ/\GsI τ/\NdI τ i p/\(∀ b s c,τ.W b s c->σ.W b s c\/ex=some (b,s))/\∀ b s,ex=some (b,s)->s<40/\b=p.bn.gC:=⟨σ,none,.refl i σ,x,h,λ_ _ _ h=>.inl h,λ_ _ e=>by cases e⟩;have o:=(Ey p).trans D
 revert o
 unfold Nod.cF;split
 .exact λ_=>f
 .rename_i hc
  have z:p.leads=true:=by cases hh:p.leads with|true=>rfl|false=>exact absurd (.inl hh) hc
  have n:p.bn.rX=true:=by cases hh:p.bn.rX with|true=>rfl|false=>exact absurd (.inr (.inl hh)) hc
  have A:p.bn.next<=p.ae.length:=Nat.not_lt.1 λe=>hc (.inr (.inr e));cases hn:p.rQ p.ae.length with
  | none=>exact λ_=>f
  | some c =>
   simp only;rcases k.tp.cn ⟨(p.ae.length:Int),p.bn.gC,c⟩with⟨e,he⟩|⟨e,he,rs',hp,ht,hm,hpb,d,a,w⟩
   .rw[if_pos e];exact λ_=>f
   .rw[if_neg (λg=>g e)];intro o;have E:=As he;have y:p.bn.gC≠Bb:=(nG z).1;obtain⟨C,t⟩:=k.rd.gC.resolve_left y;have G:=WU x k.rd C n A hn;have H:∀ m,¬ σ.W p.bn.gC p.ae.length m:=λm g=>by have:=k.rd.next _ _ g;omega
    have I:p.bn.gC.key<=σ.P i:=by
     obtain⟨q,w,F,_⟩:=IS p.bn.rk p.bn.rk (by have:5<2*J8 p.bn.rk:=nG n;omega) (by have:5<2*J8 p.bn.rk:=nG n;omega);exact k.rd.own q w F
    have l:=x.prop C G (by rw[t,nV];exact I) H;have j:Gs.tj i σ (σ.prop p.bn.gC p.ae.length c):=⟨⟨λ_=>na _,λ_ _ _ g=>.inl g⟩,λb s m g=>g.imp id λe=>by rw[e.1];exact t,λ_ _=>rfl⟩;have B:(σ.prop p.bn.gC p.ae.length c).sr ⟨(p.ae.length:Int),p.bn.gC,c⟩:=⟨E.2.1,.inr ⟨rfl,nV _,rfl⟩⟩;have K:=k.rd.mono (τ:=σ.prop p.bn.gC p.ae.length c) (r:=p.bn) j.le l;refine⟨_,some (p.bn.gC,p.ae.length),j,l,NdI.mk' (rs:=rs') o ?_ ?_,λb s m g=>g.imp id λe=>by rw[e.1,e.2.1],λb s e=>?_⟩
    .refine k.wrote (q:=(p.cn ⟨(p.ae.length:Int),p.bn.gC,c⟩).1) (r:={ p.bn with next:=p.ae.length+1 }) j.le l rfl ht hp (λv J=>((hm v).1 J).elim (λe=>by rw[e];exact B) λg=>j.le.sr (k.sr v g)) ?_ (mT _) ?_ ((hm _).2 (.inl rfl)) (by rw[w];rfl)
     .have g:=k.rd;refine RdI.mono (σ:=σ) j.le l (r:={ p.bn with next:=p.ae.length+1 }) ⟨g.gC,λs m u=>j' (g.next s m u) (by show p.bn.next<=p.ae.length+1;omega),g.own,g.an,g.prom,g.acc⟩ λs m u=>?_;rcases u with u|⟨_,rfl,_⟩
      .exact j' (g.next s m u) (by show p.bn.next<=p.ae.length+1;omega)
      .exact Nat.lt_succ_self _
     .rw[ht.vo,hpb];exact mT _
    .show AgL _ (p.cn ⟨(p.ae.length:Int),p.bn.gC,c⟩).1.ae 0;rw[w];exact h.ag.mono j.le
    .cases e;have:=E.2.1.1.2;exact⟨by simp only at this;omega,rfl⟩
theorem LtI.none{l:Let}(h:l.kind=6):LtI σ l:=⟨λe=>by omega,λe=>by omega,λe=>by omega,λe=>by omega,λe=>by omega,λe=>by omega⟩
theorem LtI.news{l:Let}(h:l.kind=5)(a:AgL σ l.fv l.bu):LtI σ l:=⟨λe=>by omega,λe=>by omega,λe=>by omega,λe=>by omega,λe=>by omega,λ_=>a⟩
theorem NdI.run(D:GsI σ)(I:i<5)(h:NdI σ i p)(j:p.up=true){l:List Pend}(B:p.bw=q::l)(F:¬ p.sy<(p.d.length:Int)):NdI σ i { p.lr i q with bw:=l }/\∀ m∈p.rT i q,LtI σ m:=by
 obtain⟨C,k⟩:=h.up j;have f:=k.tp.all F;have c:=k.pe q (by rw[B];exact O');have t:∀ x∈l,x∈p.bw:=λx u=>by rw[B];exact I' _ u
 have o:∀ {w:Nod},UpI σ i w C->w.bw=p.bw->UpI σ i { w with bw:=l } C:=λ{w} g e=>g.pd rfl rfl rfl g.rd rfl λx u=>.inl (by rw[e];exact t x u);cases q with
 | began b vs =>
  unfold Nod.lr Nod.rT;simp only;split
  .exact⟨NdI.mk' j (o k rfl) h.ag,λm a=>by cases a⟩
  .rename_i e
   have e:=mX.1 e;obtain⟨y,H⟩:=c;have r:=k.tp.ok.acc;rw[<- k.tp.vo]at r
   have A:=k.bp;have z:p.bn.gC=b:=by
    rw[<- e];refine DC ?_ r.1 (by rw[e]at A ⊢;omega);rcases k.rd.gC with g|g
    .rw[g];exact .inr ⟨rfl,rfl⟩
    .exact g.1.pr
   have s:b.key<=σ.P i:=by have:=y.le;rw[<- f]at this;exact this
   rw[<- f,<- z]at y
   rw[<- z]at s
   refine⟨NdI.mk' j (o (w:={ p with bn:=p.bn.sf i vs }) (k.pd rfl rfl rfl (k.rd.sf y s) rfl λx u=>.inl u) rfl) h.ag,λm a=>?_⟩;obtain⟨to,_,rfl⟩:=CI a;refine⟨λ_=>?_,λe=>(by cases e),λe=>(by cases e),λe=>(by cases e),λe=>(by cases e),λe=>(by cases e)⟩;show b.key<=σ.P b.n.toNat;rw[<- z];rcases k.rd.gC with g|g
   .rw[g];have G:=(D.ok (Bb.n.toNat)).acc.1;have:0<=σ.P (Bb.n.toNat):=by
     unfold Ar Ab at G;unfold Gs.P Bal.key;omega
    exact this
   .rw[g.2,nV];exact s
 | prom to b vs =>
  refine⟨NdI.mk' j (o k rfl) h.ag,λm a=>?_⟩;rw[G'.1 a];refine⟨λe=>(by cases e),λ_=>⟨?_,c.2,h.ag⟩,λe=>(by cases e),λe=>(by cases e),λe=>(by cases e),λe=>(by cases e)⟩;show PrmOk (σ.dr i) b vs;rw[f];exact c.1
 | voted to v =>
  refine⟨NdI.mk' j (o k rfl) h.ag,λm a=>?_⟩;rw[G'.1 a];refine⟨λe=>(by cases e),λe=>(by cases e),λe=>(by cases e),λe=>(by cases e),λ_=>?_,λe=>(by cases e)⟩;show Rk.vt v∈σ.dr i;rw[f];exact c
 | eo to b =>
  refine⟨NdI.mk' j (o k rfl) h.ag,λm a=>?_⟩;rw[G'.1 a];refine⟨λe=>(by cases e),λe=>(by cases e),λ_=>?_,λe=>(by cases e),λe=>(by cases e),λe=>(by cases e)⟩;show Ar b/\b.key<=(BD (σ.dr i)).p.key;rw[f];exact c
 | prop v =>
  have E:σ.held i v:=by show Rk.vt v∈σ.dr i;rw[f];exact c
  have g:=k.count h.ag E;refine⟨NdI.mk' ((congrArg Prod.fst (LI p i v)).trans j) (o g.1 (D6 p i (.prop v)).1) g.2,λm a=>?_⟩;obtain⟨to,_,rfl⟩:=CI a;exact⟨λe=>(by cases e),λe=>(by cases e),λe=>(by cases e),λ_=>k.sr v c,λe=>(by cases e),λe=>(by cases e)⟩
 | askNews to=>exact⟨NdI.mk' j (o k rfl) h.ag,λm a=>by rw[G'.1 a];exact LtI.none rfl⟩
 | start=>exact⟨NdI.mk' j (o k rfl) h.ag,λm a=>by obtain⟨to,_,rfl⟩:=CI a;exact LtI.none rfl⟩
 | tell to bu=>exact⟨NdI.mk' j (o k rfl) h.ag,λm a=>by rw[G'.1 a];exact LtI.news rfl (h.ag.drop bu)⟩
theorem NdI.lead(w:GsI σ)(E:i<5)(h:NdI σ i p)(y:p.up=true):NdI σ i (p.lead i):=by
 obtain⟨F,k⟩:=h.up y;have f:(p.lead i).up=true:=(congrArg Prod.fst (UW p i)).trans y
 revert f
 unfold Nod.lead;simp only;generalize m:(⟨max p.dT p.vo.p.r+1,(i:Int)⟩:Bal)=b;rcases k.tp.au b with⟨e,he⟩|⟨e,he,hvs,rs',hp,ht,hm,hpb,hpv,d,a,hq⟩
 .rw[if_pos e];exact λ_=>h
 .rw[if_neg (λg=>g e)];intro f;have A:=Co he;have C:p.vo.p.key<b.key:=by
   have:=A.1.1;rw[<- m];unfold Ar Ab at this;show 5*p.vo.p.r+p.vo.p.n<5*(max p.dT p.vo.p.r+1)+(i:Int);omega
  refine NdI.mk' (rs:=rs') f ?_ ?_
  .refine k.wrote (q:=(p.au b).1) (r:=⟨b,λ_=>false,λ_=>DW,λ_=>p.ae.length,0,[]⟩) (.refl σ) w rfl ht hp (λv o=>k.sr v ((hm v).1 o)) ?_ ?_ ?_ ⟨PrmOk.of ht.ok hpb (hpv.trans hvs.symm),mT _⟩ (by rw[hq];rfl)
   .refine⟨.inr ⟨A.2.1,by rw[<- m]⟩,λs c B=>?_,λj _ e=>(by cases e),λj _ v o=>(by cases o),λj _ e=>(by cases e),λj _=>⟨Lf,λe=>(by cases e)⟩⟩;have l:=w.w3 _ _ _ B;rw[show b.n.toNat=i by rw[<- m];exact nV i]at l
    obtain⟨x,z⟩:=k.tp.pre;have t:=k.tp.ok;rw[<- z]at t
    have u:=(D5 t).1;rw[z,<- k.tp.vo]at u
    have D:σ.P i<=p.vo.p.key:=u;have l:b.key<=σ.P i:=l;omega
   .have:=k.bp;show _<=b.key;omega
   .rw[ht.vo,hpb];exact mT _
  .show AgL σ (p.au b).1.ae 0;rw[hq];exact h.ag
theorem JY(k:Nat):∀ m∈Dn p i k,m.kind=5/\m.fv=p.ae.drop m.bu:=by
 induction k with
 | zero=>intro m hm;cases hm
 | succ k ih =>
  intro m hm;rw[Dn]at hm
  rcases U'.1 hm with hm|hm
  .exact ih m hm
  .split at hm
   .rw[G'.1 hm];exact⟨rfl,rfl⟩
   .cases hm
theorem AgI.step(h:AgI σ M)(s:Stp D n M N):∃ τ ex,σ.le τ/\AgI τ N/\(∀ b s c,τ.W b s c->σ.W b s c\/ex=some (b,s))/\∀ b s,ex=some (b,s)->n=1/\s<40/\∃ i,i<5/\b=(M.ab i).bn.gC:=by
 have t:=h.gs;have done:∀ {i:Nat} {p:Nod} {H:List Let} {O:List Tol},NdI σ i p->(∀ l∈H,l∈M.bt\/LtI σ l)->∃ τ ex,σ.le τ/\AgI τ (M.set i p H O)/\(∀ b s c,τ.W b s c->σ.W b s c\/ex=some (b,s))/\∀ b s,ex=some (b,s)->n=1/\s<40/\∃ i,i<5/\b=(M.ab i).bn.gC:=λ{i p H O} F f=>⟨σ,none,.refl σ,h.set (.refl _ σ) t F f O,λ_ _ _ h=>.inl h,λ_ _ e=>by cases e⟩;have same:∀ l∈M.bt,l∈M.bt\/LtI σ l:=λl f=>.inl f;have app:∀ {ms:List Let},(∀ m∈ms,LtI σ m)->∀ l∈M.bt++ms,l∈M.bt\/LtI σ l:=λg l f=>(U'.1 f).imp id (g l);cases s with
 | take _ l f hd hu _=>exact done ((h.nd _ hd.2).take t hu (h.lt l f) hd.1) same
 | bt _ H f _=>exact⟨σ,none,.refl σ,⟨t,h.nd,λl g=>h.lt l (f l g)⟩,λ_ _ _ h=>.inl h,λ_ _ e=>by cases e⟩
 | one _ i c hi hu hc he =>
  refine done ?_ same;obtain⟨r,k⟩:=(h.nd i hi).up hu;have R:=DO { M.ab i with ni:=doS (M.ab i).ni c,done:=(M.ab i).done+1 } c;refine NdI.mk' (R.1.trans hu) (rs:=r) ?_ (by rw[R.2.1];exact(h.nd i hi).ag);unfold Nod.hZ;split<;>exact k.pd rfl rfl rfl k.rd rfl λx a=>.inl a
 | ask _ i hi hu =>
  obtain⟨r,k⟩:=(h.nd i hi).up hu;have A:=(h.nd i hi).ag;have E:=(IA (M.ab i) i).trans hu;generalize F:M.ab i=p at k A E ⊢;refine done (NdI.mk' (rs:=r) E ?_ ?_) (app ?_)
  .unfold Nod.kc;split
   .exact k.pd rfl rfl rfl k.rd rfl λx a=>.inl a
   .split
    .exact(FD (p:={ p with cl:=(AZ p.vo.p p.cl (p.br.take 40)).2 }) (k.pd rfl rfl rfl k.rd rfl λx a=>.inl a) _).1
    .exact k.pd rfl rfl rfl k.rd rfl λx a=>.inl a
  .unfold Nod.kc;split
   .exact A
   .split
    .show AgL σ (Nod.eb _ _).ae 0;rw[(FD (p:={ p with cl:=(AZ p.vo.p p.cl (p.br.take 40)).2 }) (k.pd rfl rfl rfl k.rd rfl λx a=>.inl a) _).2];exact A
    .exact A
  .intro m w;unfold Nod.kc at w;split at w
   .cases w
   .split at w
    .cases w
    .rw[G'.1 w];exact LtI.none rfl
 | prop _ i hi hu =>
  obtain⟨τ,ex,o,z,X,Y,P⟩:=(h.nd i hi).cF t hu;exact⟨τ,ex,o.le,h.set o z X (λl f=>.inl f) _,Y,λb s e=>⟨rfl,(P b s e).1,i,hi,(P b s e).2⟩⟩
 | rZ _ i hi hu hlt I =>
  obtain⟨r,k⟩:=(h.nd i hi).up hu;obtain⟨x,a⟩:=k.tp.pre;have z:=t.ext (i:=i) x (by rw[a];exact k.tp.ok) λv u=>k.sr v (by rw[<- a];exact mW _ u);have o:=Pr σ i x;refine⟨σ.ext i x,none,o.le,h.set o z (NdI.mk' (p:={ M.ab i with sy:=((M.ab i).d.length:Int) }) (rs:=r) hu ⟨?_,λv u=>o.le.sr (k.sr v u),k.rd.mono o.le z λs c J=>k.rd.next s c J,k.bp,λq G=>(k.pe q G).mono o.le z (na _) k.tp.ok (mT _)⟩ ((h.nd i hi).ag.mono o.le)) (λl f=>.inl f) _,λ_ _ _ h=>.inl h,λ_ _ e=>by cases e⟩;rw[Ik,a];exact k.tp.rZ
 | run _ i hi hu q l F hs =>
  have g:=(h.nd i hi).run t hi hu F hs;exact done g.1 (app g.2)
 | rW _ i hi hu hL =>
  obtain⟨r,k⟩:=(h.nd i hi).up hu;refine done (NdI.mk' (rs:=r) hu (k.pd rfl rfl rfl ⟨k.rd.gC,k.rd.next,k.rd.own,k.rd.an,k.rd.prom,k.rd.acc⟩ rfl λx a=>.inl a) (h.nd i hi).ag) (app λm w=>?_);obtain⟨U,V⟩:=JY 5 m w;exact LtI.news U (by rw[V];exact(h.nd i hi).ag.drop _)
 | lead _ i hi hu _=>exact done ((h.nd i hi).lead t hi hu) same
 | sub _ i d hi hu Q =>
  obtain⟨r,k⟩:=(h.nd i hi).up hu;have A:=(h.nd i hi).ag;refine done ?_ same;unfold Nod.sj Nod.sm;split
  .exact h.nd i hi
  .split
   .exact NdI.mk' (rs:=r) hu (k.pd rfl rfl rfl k.rd rfl λx a=>.inl a) A
   .split
    .exact h.nd i hi
    .show NdI σ i (Nod.want _ _);unfold Nod.want;split
     .exact h.nd i hi
     .exact NdI.mk' (rs:=r) hu (k.pd rfl rfl rfl k.rd rfl λx a=>.inl a) A
 | lp _ i c hi hu hc _ =>
  obtain⟨r,k⟩:=(h.nd i hi).up hu;obtain⟨T,⟨x,a⟩,⟨y,S⟩,Q⟩:=k.tp.lp hc;have z:=t.ext (i:=i) x (k.tp.ok.pre ⟨y,by rw[a];exact S⟩) λv u=>k.sr v (by rw[<- S,<- a];exact mY _ (mW _ u));have o:=Pr σ i x;have B:=Fk (p:=M.ab i) k.tp.sL hc;exact⟨σ.ext i x,none,o.le,h.set o z ⟨λe=>(by rw[B.2.1]at e;cases e),λ_=>(by rw[Ik,a];exact Q),by rw[B.2.2.2];exact AgL.nil _ _⟩ (λl f=>.inl f) _,λ_ _ _ h=>.inl h,λ_ _ e=>by cases e⟩
 | start _ i hi hu _ =>
  have k:=(h.nd i hi).dn hu;have I:AO (M.ab i).d (M.ab i).sy:=⟨k.len,by rw[k.sy];omega,by rw[k.sy];omega⟩;have C:=Fw (p:=M.ab i) I;have L:=k.start;have K:(M.ab i).start.bn=fA/\(M.ab i).start.bw=[.start]:=by
   unfold Nod.start;rw[if_neg (λe=>e (if_pos I))];split<;>exact⟨rfl,rfl⟩
  refine done (NdI.mk' (rs:=σ.dr i) C.2.1 ⟨L,λv u=>t.hv i v u,?_,?_,λq G=>?_⟩ (by rw[C.2.2.2];exact AgL.nil _ _)) same
  .rw[K.1];exact⟨.inl rfl,λs c J=>absurd (t.w2 _ _ _ J).1 (by decide),λj _ e=>(by cases e),λj _ v u=>(by cases u),λj _ e=>(by cases e),λj _=>⟨Lf,λe=>(by cases e)⟩⟩
  .rw[K.1,L.vo];have Z:=L.ok.acc.1;show(0:Int)<=_;unfold Ar Ab at Z;unfold Bal.key;omega
  .rw[K.2]at G
   rw[G'.1 G];trivial
theorem AgI.steps(s:Sts D n M N)(h:AgI σ M):∃ (τ:Gs) (ex:List (Bal × Nat)),σ.le τ/\AgI τ N/\ex.length<=n/\∀ b s c,τ.W b s c->σ.W b s c\/(b,s)∈ex:=by
 induction s with
 | nil=>exact⟨σ,[],.refl σ,h,nB _,λ_ _ _ h=>.inl h⟩
 | snoc _ s hm ih =>
  obtain⟨τ,ex,a,l,o,i⟩:=ih h;obtain⟨υ,k,d,f,j,m⟩:=l.step s;cases k with
  | none=>exact⟨υ,ex,a.trans d,f,by omega,λb s c g=>(j b s c g).elim (i b s c) λe=>by cases e⟩
  | some x=>exact⟨υ,x::ex,a.trans d,f,by have:=(m x.1 x.2 rfl).1;rw[nD];omega,λb s c g=>(j b s c g).elim (λg=>(i b s c g).imp id (I' _)) λe=>.inr (by cases e;exact O')⟩
theorem AgI.zero:AgI ⟨λ_=>[],λ_ _ _=>False⟩ Ap :=
 ⟨⟨λ_=>AN.nil,⟨λn s b c ⟨v,g,_⟩=>(by cases g),λn k s b c h ⟨v,g,_⟩=>(by cases g),λn s b c ⟨v,g,_⟩=>(by cases g)⟩,λ_ _ _ _ g=>g.elim,λ_ _ _ g=>g.elim,λ_ _ _ g=>g.elim,λn v g=>(by cases g)⟩,
  λi _=>NdI.mk' (rs:=[]) rfl ⟨TpU.zero,λv g=>(by cases g),⟨.inl rfl,λ_ _ g=>g.elim,λj _ e=>(by cases e),λj _ v f=>(by cases f),λj _ e=>(by cases e),λj _=>⟨Lf,λe=>(by cases e)⟩⟩,mT _,λq d=>(by cases d)⟩ (AgL.nil _ _),λl a=>by cases a⟩
theorem agree{L K:List Lac}(k:∀ x∈L++K,LacOk x)(q:(L++K).length<=100000)(o:i<5)(p:j<5){d:Cmd}(m:((Ap.dW L).ab i).ae[s]?=some c)(n:((Ap.dW (L++K)).ab j).ae[s]?=some d):c=d:=by
 rw[H']at q
 have a:∀ x∈L,LacOk x:=λx b=>k x (mY _ b);have r:Sts whT L.length Ap (Ap.dW L):=Ff L MOk.zero (by omega) λx b=>⟨a x b,Ju x⟩;have t:Sts whT K.length (Ap.dW L) (Ap.dW (L++K)):=by
  rw[AH];exact Ff K (I9 L a (by omega)) (by omega) λx b=>⟨k x (mW _ b),Ju x⟩
 obtain⟨σ,_,_,g,_⟩:=AgI.zero.steps r;obtain⟨τ,_,l,h,_⟩:=g.steps t;have e:=l.sZ ((g.nd i o).ag s c m);have f:=(h.nd j p).ag s d n;obtain⟨u,e⟩:=e;obtain⟨v,f⟩:=f;exact h.gs.th.agree e f
theorem Pz{α:Type}[DecidableEq α]{l m:List α}(f:l.Nodup)(h:∀ x∈l,x∈m):l.length<=m.length:=by
 induction l generalizing m with
 | nil=>exact nB _
 | cons x l ih =>
  obtain⟨c,d⟩:=pu.1 f;have a:=h x O';have:=ih d (m:=m.erase x) λy b=>(List.mem_erase_of_ne (λe=>c (by rw[<- e];exact b))).2 (h y (I' _ b));rw[List.length_erase_of_mem a]at this
  have:=List.length_pos_of_mem a;rw[nD];omega
def prc:List Rk->Nat
 | []=>0
 | .pr _::l=>prc l+1
 | .vt _::l=>prc l
def vts:List Rk->List Vt
 | []=>[]
 | .pr _::l=>vts l
 | .vt v::l=>v::vts l
theorem fd(l m:List Rk):prc (l++m)=prc l+prc m:=by
 induction l with
 | nil=>simp[prc]
 | cons r l ih=>cases r<;>simp[prc,ih];omega
theorem go(l m:List Rk):vts (l++m)=vts l++vts m:=by
 induction l with
 | nil=>rfl
 | cons r l ih=>cases r<;>simp[vts,ih]
theorem VA{l:List Rk}:v∈vts l↔Rk.vt v∈l:=by
 induction l with
 | nil=>simp[vts]
 | cons r l ih=>cases r<;>simp[vts,ih]
theorem dM(a:List Rk):(fl a).length=14*prc a+38*(vts a).length:=by
 induction a with
 | nil=>rfl
 | cons r l ih =>
  have e:fl (r::l)=AL r.body++fl l:=rfl;rw[e,H',Bi,ih];cases r with
  | pr b=>show(Bv b).length+5+_=14*(prc l+1)+38*(vts l).length;rw[Kx];omega
  | vt v=>show(Bk v).length+5+_=14*prc l+38*((vts l).length+1);rw[GR];omega
theorem jp(h:AN rs):(prc rs:Int)<=(BD rs).p.key:=h.ind (P:=λrs=>(prc rs:Int)<=(BD rs).p.key) (by decide) λrs r f a g=>by
 have c:=Rk.sU f.acc a.err;rw[fd,BY];cases r with
 | pr b =>
  have d:=Co a.1;have:(BD rs).p.key≠b.key:=λe=>a.2 (DC d.1.1 d.2.1.pr e);have c:(BD rs).p.key<=b.key:=c;show((prc rs+1:Nat):Int)<=b.key;omega
 | vt v=>show((prc rs+0:Nat):Int)<=_;exact nz (by omega) c
theorem XE(q:GsI σ)(h:AN rs)(a:∀ v,Rk.vt v∈rs->σ.sr v):(vts rs).Nodup:=by
 revert a
 refine h.ind (P:=λrs=>(∀ v,Rk.vt v∈rs->σ.sr v)->(vts rs).Nodup) (λ_=>oQ) λrs r f l i a=>?_;have i:=i λv g=>a v (mY _ g);rw[go];cases r with
 | pr b=>show(vts rs++[]).Nodup;rw[nA];exact i
 | vt v =>
  show(vts rs++[v]).Nodup;refine pq.2 ⟨i,pu.2 ⟨P',oQ⟩,λx w y z e=>?_⟩;rw[G'.1 z]at e
  subst e;obtain⟨A,u,d,k,B⟩:=R4 f x (VA.1 w);have o:=As l.1;have t:=f.acc.le d;have s:=Bq o.2.1.2.1.pr f.acc.1 o.2.2;have m:=a u (mY _ (Jg f u d));have c:=a x (mW _ O');have j:u.b=x.b:=DC m.1.2.1.pr c.1.2.1.pr (by omega);have n:=m.2;rw[j,k]at n
  have p:=q.w1 _ _ _ _ n c.2;have:u=x:=(Vt.eq_iff u x).1 ⟨k,j,p⟩;rw[this]at d
  exact l.2 d
theorem gp(o:GsI σ)(h:AN rs)(d:∀ v,Rk.vt v∈rs->σ.sr v)(z:∀ b s c,σ.W b s c->(b,s)∈cov):(vts rs).length<=cov.length:=by
 have p:=XE o h d;have f:∀ v∈vts rs,σ.sr v:=λv g=>d v (VA.1 g);have:((vts rs).map λv=>(v.b,v.bu.toNat)).Nodup:=by
  clear h d;generalize vts rs=q at p f ⊢;induction q with
  | nil=>exact oQ
  | cons v l ih =>
   obtain⟨w,y⟩:=pu.1 p;refine pu.2 ⟨λg=>?_,ih y λu a=>f u (I' _ a)⟩;obtain⟨u,a,e⟩:=ny.1 g;have j:=f u (I' _ a);have k:=f v O';have i:u.b=v.b:=congrArg Prod.fst e;have r:u.bu.toNat=v.bu.toNat:=congrArg Prod.snd e;have n:=j.2;rw[i,r]at n
   have t:=o.w1 _ _ _ _ n k.2;have:u=v:=(Vt.eq_iff u v).1 ⟨by have:=j.1.1;have:=k.1.1;omega,i,t⟩;rw[this]at a;exact w a
 have:=Pz this (m:=cov) λx A=>by
  obtain⟨v,d,rfl⟩:=ny.1 A;exact z _ _ _ (f v d).2
 rwa [nw]at this
theorem cA(h:AgI σ M)(a:∀ b s c,σ.W b s c->(b,s)∈cov)(e:j<5)(f:(M.ab j).up=true):((M.ab j).d.length:Int)<=14*(M.ab j).vo.p.key+38*(cov.length:Int):=by
 obtain⟨l,k⟩:=(h.nd j e).up f;have g:=gp h.gs k.tp.ok k.sr a;have i:=jp k.tp.ok;rw[k.tp.d,dM,k.tp.vo];omega
def Nod.pk(p:Nod):Int:=if p.up then p.vo.p.key else(Ec p.d).2.p.key
def KbI(K R:Int)(M:Meet):Prop:=∀ j,j<5->(M.ab j).pk<=K/\5*(M.ab j).dT<=R
theorem NdI.sN(h:NdI σ j p):σ.P j<=p.pk:=by
 unfold Nod.pk;split
 .rename_i hu
  obtain⟨c,k⟩:=h.up hu;obtain⟨x,b⟩:=k.tp.pre;have a:=k.tp.ok;rw[<- b]at a
  have:=(D5 a).1;rw[b,<- k.tp.vo]at this
  exact this
 .rename_i hu
  rw[(h.dn (by simpa using hu)).tx];exact mT _
theorem AgI.sN(h:AgI σ M)(c:KbI K R M)(d:Ab b)(e:b.key<=σ.P b.n.toNat):b.key<=K:=by
 have a:b.n.toNat<5:=by unfold Ab at d;omega
 exact nz e (nz (h.nd _ a).sN (c _ a).1)
theorem Zs(h:Ar b):5*b.r<=b.key:=by unfold Ar Ab at h;unfold Bal.key;omega
theorem KbI.set(h:KbI K R M)(b:p.pk<=K/\5*p.dT<=R)(ls:List Let)(ts:List Tol):KbI K R (M.set i p ls ts):=λj a=>by
 show(upN M.ab i p j).pk<=K/\5*(upN M.ab i p j).dT<=R;unfold upN;split
 .exact b
 .exact h j a
theorem KbI.step(P:¬ D.ld)(h:AgI σ M)(s:Stp D n M N)(Q:K<=R)(m:KbI K R M):KbI K R N:=by
 have pd:∀ {i:Nat} {p:Nod},i<5->(M.ab i).up=true->p.up=true->p.vo.p.key<=(M.ab i).vo.p.key\/p.vo.p.key<=K->p.dT=(M.ab i).dT->p.pk<=K/\5*p.dT<=R:=λ{i p} j f z S A=>by
  have o:=m i j;unfold Nod.pk at o ⊢;rw[if_pos f]at o
  rw[if_pos z,A];exact⟨S.elim (λg=>nz g o.1) id,o.2⟩
 cases s with
 | take _ l hl hd f _ =>
  have w:=h.lt l hl;obtain⟨O,k⟩:=(h.nd _ hd.2).up f;have b:=(congrArg Prod.fst (PU (M.ab l.dst) l)).trans f;refine m.set ?_ _ _
  revert b
  unfold Nod.take;split
  .rename_i u
   rcases k.tp.au l.gC with⟨e,he⟩|⟨e,he,hvs,rs',z,v,hm,hpb,hpv,d,a,hq⟩
   .rw[if_pos e];intro b;refine pd hd.2 f b (.inl ?_) ?_<;>(unfold Nod.eo;split)<;>first|exact mT _|rfl
   .rw[if_neg (λg=>g e)];intro b;refine pd hd.2 f b (.inr ?_) (by show((M.ab l.dst).au l.gC).1.dT=_;rw[hq];rfl);show((M.ab l.dst).au l.gC).1.vo.p.key<=K;rw[v.vo,hpb];exact h.sN m (Co he).2.1 (w.k0 u)
  .simp only;split<;>exact λb=>pd hd.2 f b (.inl (mT _)) rfl
  .rename_i u
   intro b;have o:=pd (p:=M.ab l.dst) hd.2 f f (.inl (mT _)) rfl;refine⟨o.1,?_⟩;have B:=nz (w.k2 u).2 (nz (h.nd _ hd.1).sN (m _ hd.1).1);have J:5*l.gC.r<=K:=nz (Zs (w.k2 u).1) B;show 5*max (M.ab l.dst).dT l.gC.r<=R;have:=o.2;omega
  .rename_i u
   rcases k.tp.cn l.cn with⟨e,he⟩|⟨e,he,rs',z,v,hm,hpb,d,a,hq⟩
   .rw[if_pos e];intro b;refine pd hd.2 f b (.inl ?_) ?_<;>(unfold Nod.eo;split)<;>first|exact mT _|rfl
   .rw[if_neg (λg=>g e)];intro b;refine pd hd.2 f b (.inr ?_) (by show((M.ab l.dst).cn l.cn).1.dT=_;rw[hq];rfl);show((M.ab l.dst).cn l.cn).1.vo.p.key<=K;rw[v.vo,hpb];exact h.sN m (As he).2.1.2.1 (h.gs.w3 _ _ _ (w.k3 u).2)
  .unfold Nod.count;split
   .exact λb=>pd hd.2 f b (.inl (mT _)) rfl
   .split<;>exact λb=>pd hd.2 f b (.inl (mT _)) rfl
  .split<;>exact λb=>pd hd.2 f b (.inl (mT _)) rfl
  .simp only;unfold Nod.eb;split<;>split<;>exact λb=>pd hd.2 f b (.inl (mT _)) rfl
  .exact λb=>pd hd.2 f b (.inl (mT _)) rfl
 | bt _ ls hl _=>exact m
 | one _ i c j f hc he =>
  refine m.set (pd j f ((DO { M.ab i with ni:=doS (M.ab i).ni c,done:=(M.ab i).done+1 } c).1.trans f) (.inl ?_) ?_) _ _<;>(unfold Nod.hZ;split)<;>first|exact mT _|rfl
 | ask _ i j f =>
  refine m.set (pd j f ((IA _ i).trans f) (.inl ?_) ?_) _ _<;>(unfold Nod.kc;split)<;>first|exact mT _|rfl|(split<;>first|exact mT _|rfl|(unfold Nod.eb;split<;>first|exact mT _|rfl))
 | prop _ i j f =>
  refine m.set (pd j f ((Ey _).trans f) (.inl ?_) ?_) _ _
  .obtain⟨O,k⟩:=(h.nd i j).up f;unfold Nod.cF;split
   .exact mT _
   .rename_i hc
    have G:(M.ab i).leads=true:=by cases hh:(M.ab i).leads with|true=>rfl|false=>exact absurd (.inl hh) hc
    cases hn:(M.ab i).rQ (M.ab i).ae.length with
    | none=>exact mT _
    | some c =>
     simp only;rcases k.tp.cn ⟨((M.ab i).ae.length:Int),(M.ab i).bn.gC,c⟩with⟨e,he⟩|⟨e,he,rs',z,v,hm,hpb,d,a,hq⟩
     .rw[if_pos e];exact mT _
     .rw[if_neg (λg=>g e)];show((M.ab i).cn _).1.vo.p.key<=_;rw[v.vo,hpb,(nG G).2];exact mT _
  .unfold Nod.cF;split
   .rfl
   .split
    .rfl
    .split
     .rfl
     .show((M.ab i).cn _).1.dT=_;unfold Nod.cn;split
      .rfl
      .split
       .rfl
       .split<;>rfl
 | rZ _ i j f hlt E=>exact m.set (pd (p:={ M.ab i with sy:=((M.ab i).d.length:Int) }) j f f (.inl (mT _)) rfl) _ _
 | run _ i j f q l z hs =>
  have u:=D6 (M.ab i) i q;refine m.set (pd (p:={ (M.ab i).lr i q with bw:=l }) j f (u.2.1.trans f) (.inl ?_) ?_) _ _<;>(cases q<;>first|exact mT _|rfl|(simp only[Nod.lr];split<;>first|exact mT _|rfl)|(simp only[Nod.lr,Nod.count];split<;>first|exact mT _|rfl|(split<;>first|exact mT _|rfl)))
 | rW _ i j f w=>exact m.set (pd (p:=E6 (M.ab i) i 5) j f f (.inl (mT _)) rfl) _ _
 | lead _ i j f w=>exact absurd w P
 | sub _ i d j f hd =>
  have b:((M.ab i).sj i d M.ew).1.up=true:=by
   unfold Nod.sj Nod.sm;split
   .exact f
   .split
    .exact f
    .split
     .exact f
     .show(Nod.want _ _).up=true;unfold Nod.want;split<;>exact f
  refine m.set (pd j f b (.inl ?_) ?_) _ _<;>(unfold Nod.sj Nod.sm;split)<;>first|exact mT _|rfl|(split<;>first|exact mT _|rfl|(split<;>first|exact mT _|rfl|(simp only[Nod.want];split<;>first|exact mT _|rfl)))
 | lp _ i c j f hc hC =>
  obtain⟨O,k⟩:=(h.nd i j).up f;obtain⟨x,_,⟨y,L⟩,C⟩:=k.tp.lp hc;have F:=Fk (p:=M.ab i) k.tp.sL hc;have A:((M.ab i).lp c).dT=0:=by
   unfold Nod.lp;rw[if_neg]
   .rfl
   .intro e;exact e (by unfold Gq;rw[if_neg (λe=>e k.tp.sL),if_neg (by omega)])
  have t:=(m i j).1;unfold Nod.pk at t;rw[if_pos f]at t
  have o:=k.tp.ok;rw[<- L]at o
  have B:=(D5 o).1;rw[L,<- k.tp.vo]at B
  have I:=(AN.left o).acc.1;have J:0<=(BD x).p.key:=by unfold Ar Ab at I;unfold Bal.key;omega
  refine m.set ⟨?_,by rw[A];omega⟩ _ _;unfold Nod.pk;rw[if_neg (by rw[F.2.1];decide),C.tx];show(BD x).p.key<=K;omega
 | start _ i j f _ =>
  have k:=(h.nd i j).dn f;have v:=k.start;have E:AO (M.ab i).d (M.ab i).sy:=⟨k.len,by rw[k.sy];omega,by rw[k.sy];omega⟩;have H:=Fw (p:=M.ab i) E;have A:(M.ab i).start.dT=0:=by
   unfold Nod.start;rw[if_neg (λe=>e (if_pos E))];split<;>rfl
  have t:=(m i j).1;unfold Nod.pk at t;rw[if_neg (by rw[f];decide),k.tx]at t
  have t:(BD (σ.dr i)).p.key<=K:=t;have I:=v.ok.acc.1;have J:0<=(BD (σ.dr i)).p.key:=by unfold Ar Ab at I;unfold Bal.key;omega
  refine m.set ⟨?_,by rw[A];omega⟩ _ _;unfold Nod.pk;rw[if_pos H.2.1,v.vo];exact t
def wh1:Wh:=⟨λ_ _=>False,False,False,False,False,False⟩
def wh0:Wh:=⟨λ_ _=>False,False,False,False,True,False⟩
theorem Stp.calm{c:Nat}(h:Stp wh1 c M N):Stp wh0 c M N:=by
 cases h with
 | take _ l hl hd hu ht=>exact .take M l hl hd hu trivial
 | bt _ ls h hd=>exact False.elim hd
 | one _ i c hi hu hc he=>exact .one M i c hi hu hc he
 | ask _ i hi hu=>exact .ask M i hi hu
 | prop _ i hi hu=>exact .prop M i hi hu
 | rZ _ i hi hu h hT=>exact .rZ M i hi hu h hT
 | run _ i hi hu q l hp hs=>exact .run M i hi hu q l hp hs
 | rW _ i hi hu hL=>exact .rW M i hi hu hL
 | lead _ i hi hu hL=>exact False.elim hL
 | sub _ i d hi hu hD=>exact False.elim hD
 | lp _ i k hi hu hk hC=>exact False.elim hC
 | start _ i hi hu hs=>exact False.elim hs
theorem K3{to:Nat}{e:Int}(a:q∈p.bw):q∈(p.eo to e).bw:=by
 unfold Nod.eo;split
 .exact mY _ a
 .exact a
theorem Hj{l:Let}(a:q∈p.bw):q∈(p.take l).bw:=by
 unfold Nod.take;split
 .split
  .exact K3 a
  .exact mY _ (by rw[FQ];exact a)
 .simp only;split<;>exact a
 .exact a
 .split
  .exact K3 a
  .exact mY _ (by rw[Hk];exact a)
 .unfold Nod.count;split
  .exact a
  .split<;>exact a
 .split
  .exact mY _ a
  .exact a
 .simp only;unfold Nod.eb;split<;>split<;>first|exact a|exact mY _ a
 .exact a
theorem PC(a:q∈p.bw):q∈p.cF.bw:=by
 unfold Nod.cF;split
 .exact a
 .split
  .exact a
  .split
   .exact a
   .exact mY _ (by rw[Hk];exact a)
theorem Jz(p:Nod)(i:Nat):(p.kc i).1.bw=p.bw/\(p.kc i).1.d=p.d/\(p.kc i).1.sy=p.sy:=by
 unfold Nod.kc;split
 .exact⟨rfl,rfl,rfl⟩
 .split
  .unfold Nod.eb;split<;>exact⟨rfl,rfl,rfl⟩
  .exact⟨rfl,rfl,rfl⟩
theorem GO(p:Nod)(c:Cmd):(p.hZ c).bw=p.bw/\(p.hZ c).d=p.d/\(p.hZ c).sy=p.sy:=by unfold Nod.hZ;split<;>exact⟨rfl,rfl,rfl⟩
theorem Y8(i:Nat)(l:List Cmd)(p:Nod)(a:List Tol):(sa i l p a).1.d=p.d/\(sa i l p a).1.sy=p.sy:=by
 induction l generalizing p a with
 | nil=>exact⟨rfl,rfl⟩
 | cons c l ih =>
  rw[sa];split
  .exact⟨rfl,rfl⟩
  .have h1:=ih (Nod.hZ { p with ni:=doS p.ni c,done:=p.done+1 } c) (if(p.cl c).isSome=true then a++[⟨i,c.c,c.s,doC p.ni c,doA p.ni c⟩]else a);have b:=GO { p with ni:=doS p.ni c,done:=p.done+1 } c;exact⟨h1.1.trans b.2.1,h1.2.trans b.2.2⟩
theorem SG(i:Nat)(l:List Pend)(p:Nod)(a:List Let):(ov i l p a).1.bw=p.bw:=by
 induction l generalizing p a with
 | nil=>rfl
 | cons q l ih=>rw[ov,ih];exact(D6 p i q).1
theorem Iv(h:AO p.d p.sy)(i:Nat)(k:List Let)(l:List Tol):(p.piece i k l).1.bw=[]:=by
 unfold Nod.piece;simp only;have g:=Y8 i (p.ae.drop p.done) p l;generalize sa i (p.ae.drop p.done) p l=a at g ⊢;have j:=Jz a.1 i;generalize a.1.kc i=b at j ⊢;have c:b.1.tp:=by show AO b.1.d b.1.sy;rw[j.2.1,j.2.2,g.1,g.2];exact h
 have m:b.1.cF.tp:=by
  unfold Nod.cF;split
  .exact c
  .split
   .exact c
   .split
    .exact c
    .exact Qa c _
 generalize b.1.cF=r at m ⊢;have n:(r.oh i (k++b.2)).1.bw=[]:=by
  unfold Nod.oh;rw[if_neg (λe=>e.2 (if_pos m)),SG]
 generalize r.oh i (k++b.2)=f at n ⊢;unfold Nod.bN;split<;>exact n
theorem An(M:Meet)(i:Nat)(p:Nod)(a:List Let)(b:List Tol)(j:Nat):(M.set i p a b).ab j=if j=i then p else M.ab j:=rfl
theorem OC{c:Nat}(s:Stp wh0 c M N)(hq:q∈(M.ab i).bw):q∈(N.ab i).bw\/∃ l,(M.ab i).bw=q::l/\N=M.set i { (M.ab i).lr i q with bw:=l } (M.bt++(M.ab i).rT i q) M.ew:=by
 have put:∀ {j:Nat} {p:Nod} {a:List Let} {b:List Tol},(j=i->q∈p.bw)->q∈((M.set j p a b).ab i).bw:=λ{j p a b} h=>by
  rw[An];split
  .rename_i e;exact h e.symm
  .exact hq
 cases s with
 | take _ l hl hd hu ht=>exact .inl (put λe=>Hj (by rw[e];exact hq))
 | bt _ a h hd=>exact False.elim hd
 | one _ j c hi hu hc he=>exact .inl (put λe=>by rw[(GO _ c).1,e];exact hq)
 | ask _ j hi hu=>exact .inl (put λe=>by rw[(Jz _ j).1,e];exact hq)
 | prop _ j hi hu=>exact .inl (put λe=>PC (by rw[e];exact hq))
 | rZ _ j hi hu h hT=>exact .inl (put λe=>by subst e;exact hq)
 | run _ j hi hu x l hp hs =>
  by_cases e:j=i
  .subst e;rw[hp]at hq
   rcases nf.1 hq with rfl|hq
   .exact .inr ⟨l,hp,rfl⟩
   .exact .inl (by rw[An,if_pos rfl];exact hq)
  .exact .inl (put λf=>absurd f e)
 | rW _ j hi hu hL=>exact .inl (put λe=>by subst e;exact hq)
 | lead _ j hi hu hL=>exact False.elim hL
 | sub _ j d hi hu hD=>exact False.elim hD
 | lp _ j k hi hu hk hC=>exact False.elim hC
 | start _ j hi hu hs=>exact False.elim hs
theorem Hi(a:(M.ab i).up=true):M.act (acN 3 (i:Int))=M.set i ((M.ab i).piece i M.bt M.ew).1 ((M.ab i).piece i M.bt M.ew).2.1 ((M.ab i).piece i M.bt M.ew).2.2:=by
 unfold Meet.act;simp[acN,a]
theorem FV(a:i<5):LacOk (acN 3 (i:Int)):=ET ⟨.inr (.inl rfl),by omega,by omega⟩
theorem bK(i:Nat):wh1.may (acN 3 (i:Int)):=⟨λe=>absurd e (by show(3:Int)≠1;decide),λe=>absurd e (by show(3:Int)≠2;decide),λe=>absurd e (by show(3:Int)≠8;decide),λe=>absurd e (by show ¬ ((3:Int)=4\/(3:Int)=5\/(3:Int)=6\/(3:Int)=7);decide),λe=>absurd e (by show(3:Int)≠9;decide)⟩
end
section
variable{I J:Meet->Prop}
section
variable{M:Meet}{i n:Nat}
theorem CA(a:∀ c M N,Stp wh1 c M N->I M->I N)(b:MOk n M)(d:i<5)(h:I M):I (M.act (acN 3 (i:Int))):=(Pb (D:=wh1) b (FV d) (bK i)).inv a h
theorem Xm(a:∀ c M N,Stp wh1 c M N->I M->I N)(b:∀ c M N,Stp wh1 c M N->I M->J M->J N)(e:MOk n M)(f:i<5)(p:(M.ab i).up=true)(o:AO (M.ab i).d (M.ab i).sy){q:Pend}(j:q∈(M.ab i).bw)(h:I M)(m:∀ N l,I N->(N.ab i).bw=q::l->J (N.set i { (N.ab i).lr i q with bw:=l } (N.bt++(N.ab i).rT i q) N.ew)):J (M.act (acN 3 (i:Int))):=by
 have k:=CA (I:=λN=>I N/\(q∈(N.ab i).bw\/J N)) (λc A B s g=>⟨a c A B s g.1,by
  rcases g.2 with g2|g2
  .rcases OC s.calm g2 with g3|⟨l,g3,rfl⟩
   .exact .inl g3
   .exact .inr (m A l g.1 g3)
  .exact .inr (b c A B s g.1 g2)⟩) e f ⟨h,.inl j⟩
 refine k.2.resolve_left λg=>?_;rw[Hi p,An,if_pos rfl,Iv o]at g
 cases g
def TkS(M N:Meet):Prop:=∃ l,l∈M.bt/\(l.src<5/\l.dst<5)/\(M.ab l.dst).up=true/\N=M.set l.dst ((M.ab l.dst).take l) M.bt M.ew
theorem TkS.sq{N:Meet}(h:TkS M N):Stp wh0 0 M N:=by obtain⟨l,a,b,c,rfl⟩:=h;exact .take M l a b c trivial
theorem J9(e:∀ M N,TkS M N->I M->I N)(l:List Let)(a:∀ m∈l,m∈M.bt/\m.src<5/\m.dst<5)(h:I M):I (l.foldl (λM l=>M.nn l) M)/\(l.foldl (λM l=>M.nn l) M).bt=M.bt:=by
 induction l generalizing M with
 | nil=>exact⟨h,rfl⟩
 | cons x l ih =>
  obtain⟨b,c⟩:=a x O';have d:I (M.nn x):=by
   unfold Meet.nn;split
   .rename_i hu;exact e M _ ⟨x,b,c,hu,rfl⟩ h
   .exact h
  have:=ih (M:=M.nn x) (λm f=>by rw[Ef];exact a m (I' _ f)) d;exact⟨this.1,this.2.trans (Ef M x)⟩
theorem DH(f:∀ M N,TkS M N->I M->I N)(t:∀ M N,TkS M N->I M->J M->J N)(o:MOk n M)(h:I M){l:Let}(k:l∈M.bt)(q:∀ N,I N->(N.ab l.dst).up=true)(u:∀ N,I N->N.bt=M.bt->J (N.set l.dst ((N.ab l.dst).take l) N.bt N.ew)):∃ N,M.act (acN 7 0)={ N with bt:=[] }/\I N/\J N/\N.bt=M.bt:=by
 have j:∀ m∈M.bt,m.src<5/\m.dst<5:=λm d=>⟨(o.bt m d).src,(o.bt m d).dst⟩;obtain⟨a,b,e⟩:=List.append_of_mem k;have r:M.act (acN 7 0)={ M.bt.foldl (λM l=>M.nn l) M with bt:=[] }:=by
  show M.rY=_;unfold Meet.rY;rw[Ih]
 refine⟨_,r,?_⟩;have c:=J9 f a (M:=M) (λm d=>by have:m∈M.bt:=by rw[e];exact mY _ d
                                                exact⟨this,j m this⟩) h
 rw[show M.bt.foldl (λM l=>M.nn l) M=b.foldl (λM l=>M.nn l) ((a.foldl (λM l=>M.nn l) M).nn l)by rw[e,pS];rfl];generalize a.foldl (λM l=>M.nn l) M=A at c ⊢;have p:A.nn l=A.set l.dst ((A.ab l.dst).take l) A.bt A.ew:=by unfold Meet.nn;rw[if_pos (q A c.1)];rfl
 have s:TkS A (A.nn l):=⟨l,by rw[c.2];exact k,j l k,q A c.1,p⟩;have i:=J9 (I:=λN=>I N/\J N) (λA B s g=>⟨f A B s g.1,t A B s g.1 g.2⟩) b (M:=A.nn l) (λm d=>by
  have:m∈M.bt:=by rw[e];exact mW _ (I' _ d)
  exact⟨by rw[Ef,c.2];exact this,j m this⟩) ⟨f _ _ s c.1,by rw[p];exact u A c.1 c.2⟩
 exact⟨i.1.1,i.1.2,by rw[i.2,Ef,c.2]⟩
end
end
section
variable{K R:Int}{M:Meet}{n:Nat}{σ:Gs}
theorem KbI.mono{a b:Int}(h:KbI K R M)(d:K<=a)(e:R<=b):KbI a b M:=λj c=>⟨nz (h j c).1 d,nz (h j c).2 e⟩
theorem Ua{D:Wh}(l:¬ D.ld){N:Meet}(s:Sts D n M N)(h:AgI σ M)(a:K<=R)(f:KbI K R M):∃ (τ:Gs) (ex:List (Bal × Nat)),σ.le τ/\AgI τ N/\KbI K R N/\ex.length<=n/\∀ b s c,τ.W b s c->σ.W b s c\/(b,s)∈ex:=by
 induction s with
 | nil=>exact⟨σ,[],.refl σ,h,f,nB _,λ_ _ _ g=>.inl g⟩
 | snoc _ s hm ih =>
  obtain⟨τ,ex,i,d,j,r,k⟩:=ih h f;obtain⟨υ,e,m,o,p,q⟩:=d.step s;refine⟨υ,ex++e.toList,i.trans m,o,j.step l d s a,?_,λb s c g=>?_⟩
  .cases e with
   | none=>simp;omega
   | some x=>have:=(q x.1 x.2 rfl).1;simp;omega
  .rcases p b s c g with g|g
   .exact(k b s c g).imp id λg=>mY _ g
   .exact .inr (mW _ (by rw[g];exact G'.2 rfl))
theorem KbI.lead(h:AgI σ M)(l:KbI R R M){i:Nat}(m:i<5)(j:(M.ab i).up=true)(o:List Let)(q:List Tol):KbI (R+9) (R+9) (M.set i ((M.ab i).lead i) o q):=by
 obtain⟨t,k⟩:=(h.nd i m).up j;have f:=l i m;have c:=f.1;unfold Nod.pk at c;rw[if_pos j]at c
 have s:=Zs (b:=(M.ab i).vo.p) (by rw[k.tp.vo];exact k.tp.ok.acc.1);refine(l.mono (by omega) (by omega)).set ?_ _ _;unfold Nod.lead;simp only;generalize n:(⟨max (M.ab i).dT (M.ab i).vo.p.r+1,(i:Int)⟩:Bal)=b;rcases k.tp.au b with⟨e,he⟩|⟨e,he,hvs,rs',hp,ht,hm,hpb,hpv,d,a,hq⟩
 .rw[if_pos e];exact⟨by have:=f.1;omega,by have:=f.2;omega⟩
 .rw[if_neg (λg=>g e)];refine⟨?_,?_⟩
  .show(if((M.ab i).au b).1.up=true then((M.ab i).au b).1.vo.p.key else(Ec ((M.ab i).au b).1.d).2.p.key)<=_;rw[if_pos (by rw[hq];exact j),ht.vo,hpb,<- n];show 5*(max (M.ab i).dT (M.ab i).vo.p.r+1)+(i:Int)<=_;omega
  .show 5*((M.ab i).au b).1.dT<=_;rw[hq];show 5*(M.ab i).dT<=_;omega
def whL:Wh:=⟨λ_ _=>True,False,True,True,True,True⟩
def lds(L:List Lac):Nat:=L.countP λx=>decide (x.k=2)
theorem Xc(L:List Lac)(w:MOk n M)(B:n+L.length<=1000000)(v:∀ x∈L,LacOk x)(h:AgI σ M)(l:KbI R R M){cov:List (Bal × Nat)}(m:∀ b s c,σ.W b s c->(b,s)∈cov) :
  ∃ (τ:Gs) (cov':List (Bal × Nat)),σ.le τ/\AgI τ (M.dW L)/\KbI (R+9*(lds L:Int)) (R+9*(lds L:Int)) (M.dW L)/\cov'.length<=cov.length+L.length/\∀ b s c,τ.W b s c->(b,s)∈cov':=by
 induction L generalizing n M σ R cov with
 | nil=>exact⟨σ,cov,.refl σ,h,l.mono (by simp[lds]) (by simp[lds]),A' _,m⟩
 | cons x L ih =>
  rw[nD]at B
  have t:=v x O';have r:lds (x::L)=lds L+if x.k=2 then 1 else 0:=by unfold lds;rw[pW];simp
  have one:∃ (τ:Gs) (cov':List (Bal × Nat)),σ.le τ/\AgI τ (M.act x)/\KbI (R+if x.k=2 then 9 else 0) (R+if x.k=2 then 9 else 0) (M.act x)/\cov'.length<=cov.length+1/\∀ b s c,τ.W b s c->(b,s)∈cov':=by
   by_cases d:x.k=2
   .rw[if_pos d];have z:x.n.toNat<5:=by have:=t.n (by rw[d];rfl);omega
    have e:M.act x=M.set x.n.toNat (if(M.ab x.n.toNat).up then(M.ab x.n.toNat).lead x.n.toNat else M.ab x.n.toNat) M.bt M.ew:=by
     unfold Meet.act;simp only;rw[if_neg (by omega),if_pos d]
    by_cases o:(M.ab x.n.toNat).up=true
    .rw[if_pos o]at e
     obtain⟨τ,u,f,i,j,p⟩:=h.step (D:=whT) (.lead M _ z o trivial);refine⟨τ,cov,f,by rw[e];exact i,by rw[e];exact l.lead h z o _ _,by omega,λb s c g=>?_⟩;rcases j b s c g with g|g
     .exact m b s c g
     .exact absurd (p b s g).1 (by decide)
    .rw[if_neg o,EM]at e
     rw[e];exact⟨σ,cov,.refl σ,h,l.mono (by omega) (by omega),by omega,m⟩
   .rw[if_neg d,Int.add_zero];obtain⟨τ,u,f,i,j,p,q⟩:=Ua (D:=whL) (λe=>e) (Pb w t ⟨λ_=>trivial,λe=>d e,λ_=>trivial,λ_=>⟨trivial,trivial⟩,λ_=>trivial⟩) h (mT R) l;refine⟨τ,cov++u,f,i,j,by rw[H'];omega,λb s c g=>?_⟩;exact(q b s c g).elim (λg=>mY _ (m b s c g)) λg=>mW _ g
  obtain⟨τ,cov',f,i,j,p,q⟩:=one;obtain⟨υ,a,E,F,A,H,G⟩:=ih (w.act (by omega) t) (by omega) (λy C=>v y (I' _ C)) i j q;have e:R+(if x.k=2 then 9 else 0)+9*(lds L:Int)=R+9*(lds (x::L):Int):=by
   rw[r];split<;>omega
  rw[e]at A
  exact⟨υ,a,f.trans E,F,A,by rw[nD];omega,G⟩
theorem KbI.zero:KbI 0 0 Ap:=λj a=>⟨by show CZ.pk<=0;decide,by show 5*CZ.dT<=0;decide⟩
end
section
variable{S:Cmd->Prop}
section
def VsS(S:Cmd->Prop)(l:List Vt):Prop:=∀ v∈l,S v.w
def RsS(S:Cmd->Prop)(rs:List Rk):Prop:=∀ v,Rk.vt v∈rs->S v.w
def PnS(S:Cmd->Prop):Pend->Prop
 | .began _ vs=>VsS S vs
 | .prom _ _ vs=>VsS S vs
 | .voted _ v=>S v.w
 | .prop v=>S v.w
 | _=>True
structure NdS(S:Cmd->Prop)(p:Nod):Prop where
 up:p.up=true->∃ dr rs,TpU p dr rs/\RsS S rs
 dn:p.up=false->∃ dr,TpD p dr/\RsS S dr
 ag:∀ c∈p.ae,S c
 wa:∀ c∈p.br,S c
 qu:∀ c∈p.bn.fa,S c
 he:∀ j,j<5->VsS S (p.bn.an j).vs
 pe:∀ q∈p.bw,PnS S q
structure LtS(S:Cmd->Prop)(l:Let):Prop where
 vs:VsS S l.mv
 wh:∀ c∈l.fv,S c
 vt:l.kind=3\/l.kind=4->S l.cn.w
variable{M:Meet}{a:Acc}{dr:List Rk}{i:Nat}{l:List Cmd}{p q:Nod}{r:Rnd}{s:Int}{v:Vt}
theorem NdS.tape(h:NdS S p)(i:q.up=p.up)(a:q.d=p.d)(f:q.sy=p.sy)(n:q.vo=p.vo)(l:∀ c∈q.ae,S c)(t:∀ c∈q.br,S c)(r:∀ c∈q.bn.fa,S c)(m:∀ j,j<5->VsS S (q.bn.an j).vs)(o:∀ x∈q.bw,PnS S x):NdS S q :=
 ⟨λe=>by
  obtain⟨b,s,k,g⟩:=h.up (i▸e);exact⟨b,s,⟨k.ok,k.pre,a.trans k.d,f.trans k.sy,n.trans k.vo,by rw[a];exact k.len⟩,g⟩,λe=>by
  obtain⟨b,k,g⟩:=h.dn (i▸e);exact⟨b,⟨k.ok,by rw[a];exact k.tx,by rw[a];exact k.tk,by rw[f,a];exact k.sy,by rw[a];exact k.len⟩,g⟩,l,t,r,m,o⟩
theorem NdS.wait(h:NdS S p){x:Pend}(a:PnS S x):NdS S (p.wait x) :=
 h.tape rfl rfl rfl rfl h.ag h.wa h.qu h.he λy b=>(U'.1 b).elim (h.pe y) λe=>by rw[G'.1 e];exact a
theorem NdS.eo(h:NdS S p)(to:Nat)(e:Int):NdS S (p.eo to e):=by
 unfold Nod.eo;split
 .exact h.wait trivial
 .exact h
theorem NdS.wrote(h:NdS S p){b:List Rk}(i:TpU q dr b)(g:RsS S b)(j:p.up=true){d:List Int}(f:q=p.tv d p.sy a)(k:∀ c∈q.ae,S c):NdS S q:=by
 subst f;exact⟨λ_=>⟨dr,b,i,g⟩,λe=>(by rw[show(p.tv d p.sy a).up=p.up from rfl,j]at e;cases e),h.ag,h.wa,h.qu,h.he,h.pe⟩
theorem ib(h:∀ j,j<5->VsS S (r.an j).vs)(b:a∈r.jv):VsS S a.vs:=by
 unfold Rnd.jv at b;simp only[nf,P',or_false]at b;rcases b with rfl|rfl|rfl|rfl|rfl
 .exact h 0 (by omega)
 .exact h 1 (by omega)
 .exact h 2 (by omega)
 .exact h 3 (by omega)
 .exact h 4 (by omega)
theorem YS(h:∀ j,j<5->VsS S (r.an j).vs)(e:v∈Ae (r.jv.map (·.vs)).flatten s):S v.w:=by
 obtain⟨l,b,c⟩:=pE.1 (Be.1 e).1;obtain⟨a,d,rfl⟩:=ny.1 b;exact ib h d v c
theorem i8(h:∀ j,j<5->VsS S (r.an j).vs)(a:CY r.jv s=0):S (CQ r.jv s):=by
 have c:CQ r.jv s=((Hl (Dx r.jv s) r.jv.length).map (·.w)).getD ⟨0,0,0,0,0⟩:=if_pos a;unfold CY at a;split at a
 .cases a
 .split at a
  .cases a
  .split at a
   .rename_i hO
    obtain⟨v,b⟩:=oq.1 hO;rw[c,b];exact YS h (ri b)
   .cases a
theorem jc(h:∀ j,j<5->VsS S (r.an j).vs)(k:Nat)(a:∀ c∈l,S c):∀ c∈FG k r l,S c:=by
 induction k generalizing l with
 | zero=>exact a
 | succ k ih =>
  rw[FG];split
  .rename_i he;exact ih λc b=>(U'.1 b).elim (a c) λe=>by rw[G'.1 e];exact i8 h he
  .exact a
theorem NdS.rV(h:NdS S p):NdS S p.rV:=h.tape rfl rfl rfl rfl (jc h.he 41 h.ag) h.wa h.qu h.he h.pe
theorem dZ(a:Acc)(l:List Vt)(d:VsS S a.vs)(e:VsS S l):VsS S (Dg a l).vs:=by
 induction l generalizing a with
 | nil=>exact d
 | cons u l ih =>
  rw[Dg];refine ih _ ?_ λv b=>e v (I' _ b);by_cases c:AX a u=0
  .rw[if_pos c];intro v b;have b:v∈Bu a u:=b;rw[(DB c).2]at b
   rcases(BH (As c).1.2.2).1 b with rfl|⟨b,_⟩
   .exact e v O'
   .exact d v b
  .rw[if_neg c];exact d
theorem Zg(h:∀ j,j<5->VsS S (r.an j).vs)(j:Nat)(b:j<5){a:List Vt}(d:VsS S a):∀ k,k<5->VsS S ((r.sf j a).an k).vs:=λk c=>by
 show VsS S (upN r.an j _ k).vs;unfold upN;split
 .exact dZ ⟨r.gC,a⟩ _ d (h j b)
 .exact h k c
theorem NdS.count(h:NdS S p){j:Nat}(c:j<5)(e:S v.w):NdS S (p.count j v):=by
 unfold Nod.count;split
 .exact h
 .split
  .exact h
  .rename_i b
   have b:=mX.1 b;refine NdS.rV (h.tape rfl rfl rfl rfl h.ag h.wa h.qu (λk d=>?_) h.pe);show VsS S (upN p.bn.an j _ k).vs;unfold upN;split
   .intro u a;have a:u∈Bu (p.bn.an j) v:=a;rw[(DB b).2]at a
    rcases(BH (As b).1.2.2).1 a with rfl|⟨a,_⟩
    .exact e
    .exact h.he j c u a
   .exact h.he k d
theorem iK(q l:List Cmd)(b:∀ c∈q,S c)(f:∀ c∈l,S c):∀ c∈Hm q l,S c:=by
 induction l generalizing q with
 | nil=>exact b
 | cons d l ih =>
  rw[Hm];refine ih _ ?_ λc a=>f c (I' _ a);split
  .exact λc a=>(U'.1 a).elim (b c) λe=>by rw[G'.1 e];exact f d O'
  .exact b
theorem NdS.eb(h:NdS S p)(a:∀ c∈l,S c):NdS S (p.eb l):=by
 unfold Nod.eb;split
 .exact h.tape rfl rfl rfl rfl h.ag h.wa (iK _ _ h.qu a) h.he h.pe
 .exact h
theorem NdS.ln(h:NdS S p)(bu:Nat)(b:∀ c∈l,S c):NdS S (p.ln bu l) :=
 h.tape rfl rfl rfl rfl (λc a=>(U'.1 a).elim (h.ag c) λg=>b c (oX g)) h.wa h.qu h.he h.pe
theorem TpU.uB{a:List Rk}(h:TpU p dr a)(b:RsS S a):VsS S p.vo.vs:=λv c=>b v (Jg h.ok v (by rw[<- h.vo];exact c))
theorem NdS.take(h:NdS S p)(f:p.up=true){l:Let}(b:LtS S l)(j:l.src<5):NdS S (p.take l):=by
 obtain⟨m,n,k,c⟩:=h.up f;unfold Nod.take;split
 .rcases k.au l.gC with⟨e,he⟩|⟨e,he,hvs,rs',hp,ht,hm,hpb,hpv,d,a,hq⟩
  .rw[if_pos e];exact h.eo _ _
  .rw[if_neg (λg=>g e)];exact(h.wrote ht (λv i=>c v ((hm v).1 i)) f hq (by rw[hq];exact h.ag)).wait (by show VsS S _;rw[hvs];exact k.uB c)
 .have hL:=h.ln 0 b.wh;generalize p.ln 0 l.fv=K at hL ⊢;simp only;split
  .exact hL
  .exact NdS.rV (hL.tape rfl rfl rfl rfl hL.ag hL.wa hL.qu (Zg hL.he _ j b.vs) hL.pe)
 .exact h.tape rfl rfl rfl rfl h.ag h.wa h.qu h.he h.pe
 .rename_i hk
  rcases k.cn l.cn with⟨e,he⟩|⟨e,he,rs',hp,ht,hm,hpb,d,a,hq⟩
  .rw[if_pos e];exact h.eo _ _
  .rw[if_neg (λg=>g e)];exact(h.wrote ht (λv i=>((hm v).1 i).elim (λe=>by rw[e];exact b.vt (.inl hk)) (c v)) f hq (by rw[hq];exact h.ag)).wait (b.vt (.inl hk))
 .rename_i hk;exact h.count j (b.vt (.inr hk))
 .split
  .exact h.wait trivial
  .exact h.ln _ b.wh
 .simp only;split
  .exact(h.eb b.wh).wait trivial
  .exact h.eb b.wh
 .exact h
theorem Ll(h:NdS S p){s:Nat}{c:Cmd}(b:p.rQ s=some c):S c:=by
 unfold Nod.rQ at b;split at b
 .cases b
 .rename_i a
  have a:=mX.1 a;split at b
  .rename_i hF
   have f:H9 (p.bn.jv.map (·.vs)) (s:Int)=((Gf (p.bn.jv.map (·.vs)) (s:Int)).map (·.w)).getD ⟨0,0,0,0,0⟩:=if_pos a;have d:DS (p.bn.jv.map (·.vs)) (s:Int)=(Gf (p.bn.jv.map (·.vs)) (s:Int)).isSome:=if_pos a;rw[hF]at d
   obtain⟨x,i⟩:=oq.1 d.symm;rw[i]at f
   rw[<- nQ b,f];refine YS h.he (s:=(s:Int)) ?_;have:∀ (l:List Vt) (o:Option Vt) (x:Vt),BW l o=some x->x∈l\/o=some x:=by
    intro l;induction l with
    | nil=>intro o x e;exact .inr e
    | cons v l ih =>
     intro o x e;cases o with
     | none =>
      rw[BW]at e
      rcases ih _ _ e with g|g
      .exact .inl (I' _ g)
      .left;cases g;exact O'
     | some u =>
      rw[BW]at e
      split at e
      .rcases ih _ _ e with g|g
       .exact .inl (I' _ g)
       .left;cases g;exact O'
      .rcases ih _ _ e with g|g
       .exact .inl (I' _ g)
       .exact .inr g
   exact(this _ _ _ i).resolve_right λe=>by cases e
  .exact h.qu c (ri b)
theorem NdS.cF(h:NdS S p)(f:p.up=true):NdS S p.cF:=by
 obtain⟨l,m,k,i⟩:=h.up f;unfold Nod.cF;split
 .exact h
 .cases hn:p.rQ p.ae.length with
  | none=>exact h
  | some c =>
   have b:=Ll h hn;simp only;rcases k.cn ⟨(p.ae.length:Int),p.bn.gC,c⟩with⟨e,he⟩|⟨e,he,rs',hp,ht,hm,hpb,d,a,hq⟩
   .rw[if_pos e];exact h
   .rw[if_neg (λg=>g e)];have g:=h.wrote ht (λv j=>((hm v).1 j).elim (λe=>by rw[e];exact b) (i v)) f hq (by rw[hq];exact h.ag);exact NdS.wait (p:={ (p.cn ⟨(p.ae.length:Int),p.bn.gC,c⟩).1 with bn:={ p.bn with next:=p.ae.length+1 } }) (g.tape rfl rfl rfl rfl g.ag g.wa h.qu h.he g.pe) b
theorem NdS.run(o:i<5)(h:NdS S p){q:Pend}{l:List Pend}(r:p.bw=q::l):NdS S { p.lr i q with bw:=l }/\∀ m∈p.rT i q,LtS S m:=by
 have f:=h.pe q (by rw[r];exact O');have j:∀ {n:Nod},NdS S n->n.bw=p.bw->NdS S { n with bw:=l }:=λ{n} g e=>g.tape rfl rfl rfl rfl g.ag g.wa g.qu g.he λx s=>g.pe x (by rw[e,r];exact I' _ s);have none:∀ c∈([]:List Cmd),S c:=λc k=>by cases k
 have a:VsS S []:=λc k=>by cases k
 cases q with
 | began b vs =>
  unfold Nod.lr Nod.rT;simp only;split
  .exact⟨j h rfl,λm d=>(by cases d)⟩
  .refine⟨j (n:={ p with bn:=p.bn.sf i vs }) (h.tape rfl rfl rfl rfl h.ag h.wa h.qu (Zg h.he i o f) h.pe) rfl,λm d=>?_⟩;obtain⟨to,_,rfl⟩:=CI d;exact⟨a,none,λe=>e.elim (λg=>by cases g) λg=>(by cases g)⟩
 | prom to b vs=>exact⟨j h rfl,λm d=>by rw[G'.1 d];exact⟨f,h.ag,λe=>e.elim (λg=>by cases g) λg=>(by cases g)⟩⟩
 | voted to v=>exact⟨j h rfl,λm d=>by rw[G'.1 d];exact⟨a,none,λ_=>f⟩⟩
 | eo to b=>exact⟨j h rfl,λm d=>by rw[G'.1 d];exact⟨a,none,λe=>e.elim (λg=>by cases g) λg=>(by cases g)⟩⟩
 | prop v =>
  refine⟨j (h.count o f) (D6 p i (.prop v)).1,λm d=>?_⟩;obtain⟨to,_,rfl⟩:=CI d;exact⟨a,none,λ_=>f⟩
 | askNews to=>exact⟨j h rfl,λm d=>by rw[G'.1 d];exact⟨a,none,λe=>e.elim (λg=>by cases g) λg=>(by cases g)⟩⟩
 | start =>
  refine⟨j h rfl,λm d=>?_⟩;obtain⟨to,_,rfl⟩:=CI d;exact⟨a,none,λe=>e.elim (λg=>by cases g) λg=>(by cases g)⟩
 | tell to bu=>exact⟨j h rfl,λm d=>by rw[G'.1 d];exact⟨a,λc k=>h.ag c (oX k),λe=>e.elim (λg=>by cases g) λg=>(by cases g)⟩⟩
theorem NdS.lead(h:NdS S p)(m:p.up=true):NdS S (p.lead i):=by
 obtain⟨o,q,k,l⟩:=h.up m;unfold Nod.lead;simp only;generalize (⟨max p.dT p.vo.p.r+1,(i:Int)⟩:Bal)=b;rcases k.au b with⟨e,he⟩|⟨e,he,hvs,rs',hp,ht,hm,hpb,hpv,d,a,hq⟩
 .rw[if_pos e];exact h
 .rw[if_neg (λg=>g e)];have g:=h.wrote ht (λv f=>l v ((hm v).1 f)) m hq (by rw[hq];exact h.ag);exact NdS.wait (p:={ (p.au b).1 with bn:=⟨b,λ_=>false,λ_=>DW,λ_=>p.ae.length,0,[]⟩ }) (x:=.began b (p.au b).2.1) (g.tape rfl rfl rfl rfl g.ag g.wa (λc n=>by cases n) (λj _ v f=>by cases f) g.pe) (by show VsS S _;rw[hvs];exact k.uB l)
theorem ir(b:Bal)(f:Cmd->Option Bal)(l:List Cmd)(h:∀ c∈l,S c):∀ c∈(AZ b f l).1,S c:=by
 induction l generalizing f with
 | nil=>intro c a;cases a
 | cons d l g =>
  have g:=λf=>g f λc a=>h c (I' _ a);rw[AZ];split
  .exact λc a=>(nf.1 a).elim (λe=>by rw[e];exact h d O') (g _ c)
  .exact g f
structure MtS(S:Cmd->Prop)(M:Meet):Prop where
 nd:∀ i,i<5->NdS S (M.ab i)
 lt:∀ l∈M.bt,LtS S l
theorem MtS.set(h:MtS S M)(d:NdS S p){ls:List Let}(b:∀ l∈ls,l∈M.bt\/LtS S l)(ts:List Tol):MtS S (M.set i p ls ts) :=
 ⟨λj a=>by
  show NdS S (upN M.ab i p j);unfold upN;split
  .exact d
  .exact h.nd j a,λl c=>(b l c).elim (h.lt l) id⟩
theorem MtS.step{D:Wh}(x:∀ i d,D.d i d->∀ now:Nat,opE d (now:Int)=0->S (Hr d (now:Int))){n:Nat}{N:Meet}(s:Stp D n M N)(h:MtS S M):MtS S N:=by
 have same:∀ l∈M.bt,l∈M.bt\/LtS S l:=λl o=>.inl o;have app:∀ {ms:List Let},(∀ m∈ms,LtS S m)->∀ l∈M.bt++ms,l∈M.bt\/LtS S l:=λg l o=>(U'.1 o).imp id (g l);cases s with
 | take _ l o hd hu _=>exact h.set ((h.nd _ hd.2).take hu (h.lt l o) hd.1) same _
 | bt _ ls o _=>exact⟨h.nd,λl g=>h.lt l (o l g)⟩
 | one _ i c hi hu a he =>
  refine h.set ?_ same _;have k:=h.nd i hi;unfold Nod.hZ;split
  .exact k.tape rfl rfl rfl rfl k.ag (λc a=>k.wa c (List.mem_of_mem_erase a)) k.qu k.he k.pe
  .exact k.tape rfl rfl rfl rfl k.ag k.wa k.qu k.he k.pe
 | ask _ i hi hu =>
  have k:=h.nd i hi;have E:=ir (M.ab i).vo.p (M.ab i).cl ((M.ab i).br.take 40) λc a=>k.wa c (nu a);have B:NdS S { M.ab i with cl:=(AZ (M.ab i).vo.p (M.ab i).cl ((M.ab i).br.take 40)).2 }:=k.tape rfl rfl rfl rfl k.ag k.wa k.qu k.he k.pe;refine h.set ?_ (app ?_) _
  .unfold Nod.kc;split
   .exact B
   .split
    .exact B.eb E
    .exact B
  .intro m hm;unfold Nod.kc at hm;split at hm
   .cases hm
   .split at hm
    .cases hm
    .rw[G'.1 hm];exact⟨λv f=>(by cases f),E,λe=>e.elim (λg=>by cases g) λg=>(by cases g)⟩
 | prop _ i hi hu=>exact h.set ((h.nd i hi).cF hu) same _
 | rZ _ i hi hu hlt y =>
  have k:=h.nd i hi;obtain⟨u,C,g,r⟩:=k.up hu;exact h.set (p:={ M.ab i with sy:=((M.ab i).d.length:Int) }) ⟨λ_=>⟨C,C,g.rZ,r⟩,λe=>(by rw[show _=(M.ab i).up from rfl,hu]at e;cases e),k.ag,k.wa,k.qu,k.he,k.pe⟩ same _
 | run _ i hi hu q l hp hs =>
  have g:=(h.nd i hi).run hi hp;exact h.set g.1 (app g.2) _
 | rW _ i hi hu hL =>
  have k:=h.nd i hi;refine h.set (p:=E6 (M.ab i) i 5) (k.tape rfl rfl rfl rfl k.ag k.wa k.qu k.he k.pe) (app ?_) _;have:∀ n,∀ m∈Dn (M.ab i) i n,LtS S m:=by
   intro n;induction n with
   | zero=>intro m hm;cases hm
   | succ n ih =>
    intro m hm;rw[Dn]at hm
    rcases U'.1 hm with hm|hm
    .exact ih m hm
    .split at hm
     .rw[G'.1 hm];exact⟨λv f=>(by cases f),λc a=>k.ag c (oX a),λe=>e.elim (λg=>by cases g) λg=>(by cases g)⟩
     .cases hm
  exact this 5
 | lead _ i hi hu _=>exact h.set ((h.nd i hi).lead hu) same _
 | sub _ i d hi hu hd =>
  have k:=h.nd i hi;refine h.set ?_ same _;unfold Nod.sj Nod.sm;split
  .exact k
  .split
   .exact k.tape rfl rfl rfl rfl k.ag k.wa k.qu k.he k.pe
   .rename_i he
    split
    .exact k
    .show NdS S (Nod.want _ _);unfold Nod.want;split
     .exact k
     .exact k.tape rfl rfl rfl rfl k.ag (λc a=>(U'.1 a).elim (k.wa c) λe=>by rw[G'.1 e];exact x i d hd _ (mX.1 he)) k.qu k.he k.pe
 | lp _ i c hi hu a _ =>
  have k:=h.nd i hi;obtain⟨u,C,g,r⟩:=k.up hu;obtain⟨w,_,G,x⟩:=g.lp a;have z:Gq (M.ab i).d (M.ab i).sy c=0:=by unfold Gq;rw[if_neg (λe=>e g.sL),if_neg (by omega)]
  have A:=Fk (p:=M.ab i) g.sL a;refine h.set ⟨λe=>(by rw[A.2.1]at e;cases e),λ_=>⟨w,x,λv f=>r v (G.subset f)⟩,?_,?_,?_,?_,?_⟩ same _<;>(unfold Nod.lp;rw[if_neg (λe=>e z)])
  .exact λc a=>by cases a
  .exact λc a=>by cases a
  .exact λc a=>by cases a
  .exact λj _ v f=>by cases f
  .exact λc a=>by cases a
 | start _ i hi hu _ =>
  obtain⟨u,g,r⟩:=(h.nd i hi).dn hu;have y:AO (M.ab i).d (M.ab i).sy:=⟨g.len,by rw[g.sy];omega,by rw[g.sy];omega⟩;have t:=Fw (p:=M.ab i) y;have b:(M.ab i).start.bn=fA/\(M.ab i).start.bw=[.start]/\(M.ab i).start.br=[]:=by
   unfold Nod.start;rw[if_neg (λe=>e (if_pos y))];split<;>exact⟨rfl,rfl,rfl⟩
  refine h.set ⟨λ_=>⟨u,u,g.start,r⟩,λe=>(by rw[t.2.1]at e;cases e),?_,?_,?_,?_,?_⟩ same _
  .rw[t.2.2.2];exact λc a=>by cases a
  .rw[b.2.2];exact λc a=>by cases a
  .rw[b.1];exact λc a=>by cases a
  .rw[b.1];exact λj _ v f=>by cases f
  .rw[b.2.1];exact λq F=>by rw[G'.1 F];trivial
theorem MtS.zero:MtS S Ap:=⟨λi _=>⟨λ_=>⟨[],[],TpU.zero,λv b=>(by cases b)⟩,λe=>(by cases e),λc a=>(by cases a),λc a=>(by cases a),λc a=>(by cases a),λj _ v b=>(by cases b),λc a=>(by cases a)⟩,λl d=>(by cases d)⟩
theorem ig(L:List Lac)(f:∀ x∈L,LacOk x)(n:L.length<=100000)(j:∀ x∈L,x.k=1->∀ now:Nat,opE x.d (now:Int)=0->S (Hr x.d (now:Int))):MtS S (Ap.dW L):=by
 have s:Sts ⟨λ_ d=>∃ x∈L,x.k=1/\x.d=d,True,True,True,True,True⟩ L.length Ap (Ap.dW L):=Ff L MOk.zero (by omega) λx a=>⟨f x a,λe=>⟨x,a,e,rfl⟩,λ_=>trivial,λ_=>trivial,λ_=>⟨trivial,trivial⟩,λ_=>trivial⟩;exact s.inv (λ_ M N h g=>g.step (λi d l now m=>by obtain⟨x,b,c,rfl⟩:=l;exact j x b c now m) h) MtS.zero
end
end
structure Ev(p q:Nod):Prop where
 up:q.up=p.up
 gC:q.bn.gC=p.bn.gC
 vo:p.vo.p.key<=q.vo.p.key
 dT:p.dT<=q.dT
 ag:p.ae <+: q.ae
 rk:∀ j,p.bn.rk j=true->q.bn.rk j=true
 next:p.bn.next<=q.bn.next
 qu:p.bn.fa <+: q.bn.fa
 wa:∀ c∈q.br,c∈p.br
 dn:p.done<=q.done
theorem Ev.refl(p:Nod):Ev p p:=⟨rfl,rfl,mT _,mT _,na _,λ_ h=>h,A' _,na _,λ_ h=>h,A' _⟩
theorem Ev.trans{p q r:Nod}(h:Ev p q)(k:Ev q r):Ev p r:=⟨k.up.trans h.up,k.gC.trans h.gC,nz h.vo k.vo,nz h.dT k.dT,h.ag.trans k.ag,λj g=>k.rk j (h.rk j g),mV h.next k.next,h.qu.trans k.qu,λc g=>h.wa c (k.wa c g),mV h.dn k.dn⟩
theorem IR(k:Nat)(r:Rnd)(l:List Cmd):l <+: FG k r l:=by
 induction k generalizing l with
 | zero=>exact na _
 | succ k ih =>
  rw[FG];split
  .exact(oE _ _).trans (ih _)
  .exact na _
theorem QB(l q:List Cmd):q <+: Hm q l:=by
 induction l generalizing q with
 | nil=>exact na _
 | cons c l ih =>
  rw[Hm];split
  .exact(oE _ _).trans (ih _)
  .exact ih _
theorem Ev.au(p:Nod)(b:Bal):Ev p (p.au b).1:=by
 unfold Nod.au;split
 .exact .refl p
 .rename_i h
  have a:=Co (mX.1 h);have c:p.vo.p.key<=b.key:=Bq a.2.1.pr a.1.1 a.2.2;split
  .exact⟨rfl,rfl,c,mT _,na _,λ_ h=>h,A' _,na _,λ_ h=>h,A' _⟩
  .split
   .exact .refl p
   .exact⟨rfl,rfl,c,mT _,na _,λ_ h=>h,A' _,na _,λ_ h=>h,A' _⟩
theorem Ev.cn(p:Nod)(v:Vt):Ev p (p.cn v).1:=by
 unfold Nod.cn;split
 .exact .refl p
 .rename_i h
  have a:=As (mX.1 h);have c:p.vo.p.key<=v.b.key:=Bq a.2.1.2.1.pr a.1.1 a.2.2;split
  .exact⟨rfl,rfl,c,mT _,na _,λ_ h=>h,A' _,na _,λ_ h=>h,A' _⟩
  .split
   .exact .refl p
   .exact⟨rfl,rfl,c,mT _,na _,λ_ h=>h,A' _,na _,λ_ h=>h,A' _⟩
theorem Ev.bw{p q:Nod}(h:Ev p q)(x:List Pend):Ev p { q with bw:=x }:=⟨h.up,h.gC,h.vo,h.dT,h.ag,h.rk,h.next,h.qu,h.wa,h.dn⟩
theorem Ev.ux(p:Nod){l:List Cmd}(h:p.ae <+: l):Ev p { p with ae:=l }:=⟨rfl,rfl,mT _,mT _,h,λ_ h=>h,A' _,na _,λ_ h=>h,A' _⟩
theorem Ev.eo(p:Nod)(to:Nat)(e:Int):Ev p (p.eo to e):=by
 unfold Nod.eo;split
 .exact(Ev.refl p).bw _
 .exact .refl p
theorem Ev.count(p:Nod)(j:Nat)(v:Vt):Ev p (p.count j v):=by
 unfold Nod.count;split
 .exact .refl p
 .split
  .exact .refl p
  .exact⟨rfl,rfl,mT _,mT _,IR _ _ _,λ_ h=>h,A' _,na _,λ_ h=>h,A' _⟩
theorem Ev.uk(p:Nod)(l:List Cmd):Ev p (p.eb l):=by
 unfold Nod.eb;split
 .exact⟨rfl,rfl,mT _,mT _,na _,λ_ h=>h,A' _,QB _ _,λ_ h=>h,A' _⟩
 .exact .refl p
theorem V1{f:Nat->Bool}{i j:Nat}(h:f j=true):upN f i true j=true:=by unfold upN;split<;>first|rfl|exact h
theorem Ev.take(p:Nod)(l:Let):Ev p (p.take l):=by
 unfold Nod.take;split
 .split
  .exact .eo p _ _
  .exact(Ev.au p l.gC).bw _
 .simp only;have a:Ev p (p.ln 0 l.fv):=.ux p (oE _ _);split
  .exact a
  .exact⟨rfl,rfl,mT _,mT _,a.ag.trans (IR _ _ _),λ_ h=>V1 h,A' _,na _,λ_ h=>h,A' _⟩
 .exact⟨rfl,rfl,mT _,Int.le_max_left _ _,na _,λ_ h=>h,A' _,na _,λ_ h=>h,A' _⟩
 .split
  .exact .eo p _ _
  .exact(Ev.cn p l.cn).bw _
 .exact .count p _ _
 .split
  .exact(Ev.refl p).bw _
  .exact .ux p (oE _ _)
 .simp only;split
  .exact(Ev.uk p l.fv).bw _
  .exact .uk p l.fv
 .exact .refl p
theorem Ev.cF(p:Nod):Ev p p.cF:=by
 unfold Nod.cF;split
 .exact .refl p
 .rename_i hc
  have a:p.bn.next<=p.ae.length:=by omega
  split
  .exact .refl p
  .split
   .exact .refl p
   .have h1:=Ev.cn p ⟨(p.ae.length:Int),p.bn.gC,‹Cmd›⟩;exact⟨h1.up,rfl,h1.vo,h1.dT,h1.ag,λ_ h=>h,mV a (om _),na _,h1.wa,h1.dn⟩
theorem Ev.hZ(p:Nod)(c:Cmd):Ev p (p.hZ c):=by
 unfold Nod.hZ;split
 .exact⟨rfl,rfl,mT _,mT _,na _,λ_ h=>h,A' _,na _,λ_ h=>List.mem_of_mem_erase h,A' _⟩
 .exact .refl p
theorem Ev.kc(p:Nod)(i:Nat):Ev p (p.kc i).1:=by
 have a:Ev p { p with cl:=(AZ p.vo.p p.cl (p.br.take 40)).2 }:=⟨rfl,rfl,mT _,mT _,na _,λ_ h=>h,A' _,na _,λ_ h=>h,A' _⟩;unfold Nod.kc;split
 .exact a
 .split
  .exact a.trans (.uk _ _)
  .exact a
theorem Ev.lr(p:Nod)(i:Nat)(q:Pend):Ev p (p.lr i q):=by
 cases q with
 | began b vs =>
  simp only[Nod.lr];split
  .exact .refl p
  .exact⟨rfl,rfl,mT _,mT _,na _,λ_ h=>V1 h,A' _,na _,λ_ h=>h,A' _⟩
 | prop v=>exact .count p i v
 | _=>exact .refl p
theorem Stp.ev{c:Nat}{M N:Meet}(s:Stp wh0 c M N)(j:Nat):Ev (M.ab j) (N.ab j):=by
 have put:∀ {i:Nat} {p:Nod} {a:List Let} {b:List Tol},Ev (M.ab i) p->Ev (M.ab j) ((M.set i p a b).ab j):=λ{i p a b} h=>by
  rw[An];split
  .rename_i e;rw[e];exact h
  .exact .refl _
 cases s with
 | take _ l hl hd hu ht=>exact put (.take _ l)
 | bt _ a h hd=>exact False.elim hd
 | one _ i c hi hu hc he =>
  refine put (Ev.trans (q:={ M.ab i with ni:=doS (M.ab i).ni c,done:=(M.ab i).done+1 }) ?_ (.hZ _ c));exact⟨rfl,rfl,mT _,mT _,na _,λ_ h=>h,A' _,na _,λ_ h=>h,om _⟩
 | ask _ i hi hu=>exact put (.kc _ i)
 | prop _ i hi hu=>exact put (.cF _)
 | rZ _ i hi hu h hT=>exact put ⟨rfl,rfl,mT _,mT _,na _,λ_ h=>h,A' _,na _,λ_ h=>h,A' _⟩
 | run _ i hi hu q l hp hs=>exact put ((Ev.lr _ i q).bw l)
 | rW _ i hi hu hL=>exact put ⟨rfl,rfl,mT _,mT _,na _,λ_ h=>h,A' _,na _,λ_ h=>h,A' _⟩
 | lead _ i hi hu hL=>exact False.elim hL
 | sub _ i d hi hu hD=>exact False.elim hD
 | lp _ i k hi hu hk hC=>exact False.elim hC
 | start _ i hi hu hs=>exact False.elim hs
theorem Stp.si{c:Nat}{M N:Meet}(s:Stp wh0 c M N){l:Let}(a:l∈M.bt):l∈N.bt:=by
 cases s with
 | bt _ ls h hd=>exact False.elim hd
 | ask _ i hi hu=>exact mY _ a
 | run _ i hi hu q l hp hs=>exact mY _ a
 | rW _ i hi hu hL=>exact mY _ a
 | _=>exact a
structure Cm(S:Cmd->Prop)(K:Int)(B:Nat->Bal)(cov:List (Bal × Nat))(M:Meet):Prop where
 ex:∃ σ,AgI σ M/\∀ b s c,σ.W b s c->(b,s)∈cov
 kb:K<=3600/\KbI K 3600 M
 up:∀ j,j<5->(M.ab j).up=true
 gC:∀ j,j<5->(M.ab j).bn.gC=B j
 s:MtS S M
section
variable{S:Cmd->Prop}{K:Int}{B:Nat->Bal}{cov:List (Bal × Nat)}
section
variable{M:Meet}{j:Nat}
theorem Cm.step(n:∀ j,j<5->∀ s,s<40->(B j,s)∈cov){c:Nat}{N:Meet}(s:Stp wh0 c M N)(h:Cm S K B cov M):Cm S K B cov N:=by
 obtain⟨σ,d,f⟩:=h.ex;obtain⟨τ,o,p,k,l,m⟩:=d.step s;refine⟨⟨τ,k,λb t c g=>?_⟩,⟨h.kb.1,h.kb.2.step (λe=>e) d s h.kb.1⟩,λj a=>(s.ev j).up.trans (h.up j a),λj a=>(s.ev j).gC.trans (h.gC j a),h.s.step (λ_ _ e=>False.elim e) s⟩;rcases l b t c g with g|g
 .exact f b t c g
 .obtain⟨_,h7,i,hi,e⟩:=m b t g;rw[e,h.gC i hi];exact n i hi t h7
theorem Cm.sL(h:Cm S K B cov M)(a:j<5):AO (M.ab j).d (M.ab j).sy:=by
 obtain⟨σ,b,_⟩:=h.ex;obtain⟨c,k⟩:=(b.nd j a).up (h.up j a);exact k.tp.sL
theorem Cm.le(h:Cm S K B cov M)(a:j<5):(M.ab j).vo.p.key<=K:=by
 have:=(h.kb.2 j a).1;unfold Nod.pk at this
 rwa [if_pos (h.up j a)]at this
theorem Cm.len(h:Cm S K B cov M)(a:j<5):((M.ab j).d.length:Int)<=14*K+38*(cov.length:Int):=by
 obtain⟨σ,b,c⟩:=h.ex;have e:=cA b c a (h.up j a);have:=h.le a;omega
end
end
section
variable{S:Cmd->Prop}{K:Int}{B:Nat->Bal}{cov:List (Bal × Nat)}{M:Meet}
theorem Cm.acc(h:Cm S K B cov M){j:Nat}(a:j<5):Ag (M.ab j).vo:=by
 obtain⟨σ,b,_⟩:=h.ex;obtain⟨c,k⟩:=(b.nd j a).up (h.up j a);rw[k.tp.vo];exact k.tp.ok.acc
theorem Cm.prom(h:Cm S K B cov M)(k:14*K+38*(cov.length:Int)<=99000){j:Nat}(a:j<5){b:Bal}(c:Ab b)(i:¬ b.lt (M.ab j).vo.p):((M.ab j).au b).2.2=0/\((M.ab j).au b).1.vo.p=b:=by
 have e:Cl (M.ab j).vo b=0:=by unfold Cl;rw[if_neg (λg=>g (h.acc a)),if_neg (λg=>g c),if_neg i]
 have f:CJ (M.ab j).d (M.ab j).sy (Ab b) (Bv b)=0:=by
  have:=h.len a;unfold CJ;rw[Vq (h.sL a) (by rw[Kx];omega),if_neg (λg=>g rfl),if_pos c]
 unfold Nod.au;rw[if_neg (λg=>g e)];split
 .exact⟨rfl,rfl⟩
 .rw[if_neg (λg=>g f)];exact⟨rfl,rfl⟩
theorem Cm.tS(h:Cm S K B cov M)(k:14*K+38*(cov.length:Int)<=99000){j:Nat}(a:j<5){v:Vt}(c:Ah v)(i:¬ v.b.lt (M.ab j).vo.p):((M.ab j).cn v).2=0/\((M.ab j).cn v).1.vo.p=v.b:=by
 have e:AX (M.ab j).vo v=0:=by unfold AX;rw[if_neg (λg=>g (h.acc a)),if_neg (λg=>g c),if_neg i]
 have f:CJ (M.ab j).d (M.ab j).sy (Ah v) (Bk v)=0:=by
  have:=h.len a;unfold CJ;rw[Vq (h.sL a) (by rw[GR];omega),if_neg (λg=>g rfl),if_pos c]
 unfold Nod.cn;rw[if_neg (λg=>g e)];split
 .exact⟨rfl,rfl⟩
 .rw[if_neg (λg=>g f)];exact⟨rfl,rfl⟩
end
section
variable{I J:Meet->Prop}
section
variable{M:Meet}{j n:Nat}
theorem E4(M:Meet){i:Nat}(h:j≠i):(M.act (acN 3 (i:Int))).ab j=M.ab j:=by
 unfold Meet.act;simp only[acN];rw[if_neg (by decide),if_neg (by decide),if_pos trivial,An,if_neg (by rw[nV];exact h)]
theorem Fx(i:∀ c M N,Stp wh1 c M N->I M->I N)(r:∀ c M N,Stp wh1 c M N->I M->J M->J N)(z:∀ M j,I M->j<5->(M.ab j).up=true/\AO (M.ab j).d (M.ab j).sy)(v:MOk n M)(D:n+5<=1000000)(h:I M)(m:j<5){q:Pend}(w:q∈(M.ab j).bw)(x:∀ N l,I N->Ev (M.ab j) (N.ab j)->(N.ab j).bw=q::l->J (N.set j { (N.ab j).lr j q with bw:=l } (N.bt++(N.ab j).rT j q) N.ew)):J (M.dW (AD 3 5)):=by
 have y:∀ k,k<=5->MOk (n+k) (M.dW (AD 3 k))/\I (M.dW (AD 3 k))/\(k<=j->(M.dW (AD 3 k)).ab j=M.ab j)/\(j<k->J (M.dW (AD 3 k))):=by
  intro k;induction k with
  | zero=>exact λ_=>⟨v,h,λ_=>rfl,λe=>absurd e (oZ _)⟩
  | succ k ih =>
   intro C;obtain⟨b,f,p,u⟩:=ih (by omega);rw[BX,Ay];refine⟨b.act (by omega) (FV (by omega)),CA i b (by omega) f,λe=>by rw[E4 _ (by omega)];exact p (by omega),λe=>?_⟩;by_cases t:j<k
   .exact(CA (I:=λN=>I N/\J N) (λc A B s g=>⟨i c A B s g.1,r c A B s g.1 g.2⟩) b (by omega) ⟨f,u t⟩).2
   .obtain rfl:k=j:=by omega
    have o:=p (A' _);have a:=z _ k f m;exact Xm (I:=λN=>I N/\Ev (M.ab k) (N.ab k)) (λc A B s g=>⟨i c A B s g.1,g.2.trans (s.calm.ev k)⟩) (λc A B s g=>r c A B s g.1) b m a.1 a.2 (by rw[o];exact w) ⟨f,by rw[o];exact .refl _⟩ λN l g=>x N l g.1 g.2
 exact(y 5 (A' _)).2.2.2 m
theorem Bm(d:∀ c M N,Stp wh1 c M N->I M->I N)(e:MOk n M)(i:n+5<=1000000)(h:I M):MOk (n+5) (M.dW (AD 3 5))/\I (M.dW (AD 3 5)):=by
 have f:∀ k,k<=5->MOk (n+k) (M.dW (AD 3 k))/\I (M.dW (AD 3 k)):=by
  intro k;induction k with
  | zero=>exact λ_=>⟨e,h⟩
  | succ k ih =>
   intro g;obtain⟨a,b⟩:=ih (by omega);rw[BX,Ay];exact⟨a.act (by omega) (FV (by omega)),CA d a (by omega) b⟩
 exact f 5 (A' _)
theorem Cu(d:∀ M N,TkS M N->I M->I N)(b:MOk n M)(h:I M):∃ N,M.act (acN 7 0)={ N with bt:=[] }/\I N/\N.bt=M.bt:=by
 have c:M.act (acN 7 0)={ M.bt.foldl (λM l=>M.nn l) M with bt:=[] }:=by
  show M.rY=_;unfold Meet.rY;rw[Ih]
 have:=J9 d M.bt (M:=M) (λm a=>⟨a,(b.bt m a).src,(b.bt m a).dst⟩) h;exact⟨_,c,this⟩
end
end
theorem Stp.tQ{c:Nat}{M N:Meet}(s:Stp wh1 c M N)(j:Nat):(N.ab j).vo.p=(M.ab j).vo.p:=by
 have put:∀ {i:Nat} {p:Nod} {b:List Let} {f:List Tol},p.vo.p=(M.ab i).vo.p->((M.set i p b f).ab j).vo.p=(M.ab j).vo.p:=λ{i p b f} h=>by
  rw[An];split
  .rename_i e;rw[e];exact h
  .rfl
 cases s with
 | take _ l a hd hu ht=>exact False.elim ht
 | bt _ b h hd=>exact False.elim hd
 | one _ i c hi hu hc he=>exact put (by unfold Nod.hZ;split<;>rfl)
 | ask _ i hi hu=>exact put (by
   unfold Nod.kc;split
   .rfl
   .split
    .unfold Nod.eb;split<;>rfl
    .rfl)
 | prop _ i hi hu=>exact put (by
   unfold Nod.cF;split
   .rfl
   .rename_i hc
    have a:(M.ab i).bn.gC=(M.ab i).vo.p:=by
     have:(M.ab i).leads=true:=by cases hh:(M.ab i).leads with|true=>rfl|false=>exact absurd (.inl hh) hc
     exact(nG this).2
    split
    .rfl
    .split
     .rfl
     .show((M.ab i).cn _).1.vo.p=_;unfold Nod.cn;split
      .rfl
      .split
       .exact a
       .split
        .rfl
        .exact a)
 | rZ _ i hi hu h hT=>exact put rfl
 | run _ i hi hu q l hp hs=>exact put (by
   show((M.ab i).lr i q).vo.p=_;cases q<;>first|rfl|(simp only[Nod.lr];split<;>rfl)|(simp only[Nod.lr,Nod.count];split<;>first|rfl|(split<;>rfl)))
 | rW _ i hi hu hL=>exact put rfl
 | lead _ i hi hu hL=>exact False.elim hL
 | sub _ i d hi hu hD=>exact False.elim hD
 | lp _ i k hi hu hk hC=>exact False.elim hC
 | start _ i hi hu hs=>exact False.elim hs
theorem MJ{i:Nat}(l:Let){j k:Nat}(a:j<k)(h:j≠i):{ l with src:=i,dst:=j }∈BZ i l k:=ny.2 ⟨j,qi.2 ⟨oK.2 a,M' h⟩,rfl⟩
section
variable{S:Cmd->Prop}{K:Int}{B:Nat->Bal}{cov:List (Bal × Nat)}
theorem Cm.drop{M:Meet}(h:Cm S K B cov M):Cm S K B cov { M with bt:=[] }:=by
 obtain⟨σ,b,c⟩:=h.ex;exact⟨⟨σ,⟨b.gs,b.nd,λl a=>by cases a⟩,c⟩,h.kb,h.up,h.gC,⟨h.s.nd,λl a=>by cases a⟩⟩
def Gr8(K:Int)(p:Nod):Prop:=K<=5*p.dT+4\/K<=p.vo.p.key
theorem Gr8.ev{p q:Nod}(h:Gr8 K p)(e:Ev p q):Gr8 K q:=by
 have:=e.dT;have:=e.vo;unfold Gr8 at *;omega
theorem jo(P:∀ j,j<5->∀ s,s<40->(B j,s)∈cov){n:Nat}{M:Meet}(C:MOk n M)(hn:n+12<=1000000)(h:Cm S K B cov M){i:Nat}(Q:i<5){j:Nat}(f:j<5)(L:(M.ab j).vo.p.key=K){b:Bal}{vs:List Vt}(O:(M.ab i).vo.p=b)(u:Ab b)(hq:.began b vs∈(M.ab i).bw) :
  Gr8 K ((M.dW (Ao++Ao)).ab i):=by
 have W:∀ A:Meet,A.dW (Ao++Ao)=(((A.dW (AD 3 5)).act (acN 7 0)).dW (AD 3 5)).act (acN 7 0):=λA=>by
  rw[AH,show Ao=AD 3 5++[acN 7 0]from rfl,Ay,Ay]
 have a:∀ c A N,Stp wh1 c A N->Cm S K B cov A->Cm S K B cov N:=λc A N s g=>g.step P s.calm;have d:∀ A N,TkS A N->Cm S K B cov A->Cm S K B cov N:=λA N s g=>g.step P s.sq;have m:LacOk (acN 7 0):=by rw[<- Dr];decide
 rw[W];by_cases D:Gr8 K (M.ab i)
 .-- it knows already
  have z:=Bm (I:=λN=>Cm S K B cov N/\Gr8 K (N.ab i)) (λc A N s g=>⟨a c A N s g.1,g.2.ev (s.calm.ev i)⟩) C (by omega) ⟨h,D⟩;obtain⟨N,F,x,_⟩:=Cu (I:=λN=>Cm S K B cov N/\Gr8 K (N.ab i)) (λA N s g=>⟨d A N s g.1,g.2.ev (s.sq.ev i)⟩) z.1 z.2;have t:=z.1.act (by omega) m;rw[F]at t ⊢
  have H:=Bm (I:=λN=>Cm S K B cov N/\Gr8 K (N.ab i)) (λc A N s g=>⟨a c A N s g.1,g.2.ev (s.calm.ev i)⟩) t (by omega) ⟨x.1.drop,x.2⟩;obtain⟨T,G,R,_⟩:=Cu (I:=λN=>Cm S K B cov N/\Gr8 K (N.ab i)) (λA N s g=>⟨d A N s g.1,g.2.ev (s.sq.ev i)⟩) H.1 H.2;rw[G];exact R.2
 .have hij:i≠j:=λe=>D (.inr (by rw[e,L];exact mT _));have a0:b.key<K:=by rw[<- O];unfold Gr8 at D;omega
  obtain⟨b0,o⟩:∃ b0,(M.ab j).vo.p=b0:=⟨_,rfl⟩;rw[o]at L
  have w:Ar b0:=by rw[<- o];exact(h.acc f).1
  have E:∀ A N,TkS A N->Cm S K B cov A->(A.ab j).vo.p=b0->(N.ab j).vo.p=b0:=λA N s g e=>by
   have X:=(s.sq.ev j).vo;have h2:=(d A N s g).le f;rw[e]at X
   exact DC ((d A N s g).acc f).1 w (by omega)
  have y:=Bm (I:=λN=>Cm S K B cov N/\(N.ab j).vo.p=b0) (λc A N s g=>⟨a c A N s g.1,(s.tQ j).trans g.2⟩) C (by omega) ⟨h,o⟩;have U:=Fx (I:=λN=>Cm S K B cov N/\(N.ab i).vo.p=b) (J:=λN=>({ BJ 0 with gC:=b,src:=i,dst:=j }:Let)∈N.bt) (λc A N s g=>⟨a c A N s g.1,(s.tQ i).trans g.2⟩) (λc A N s _ g=>s.calm.si g) (λA k g v=>⟨g.1.up k v,g.1.sL v⟩) C (by omega) ⟨h,O⟩ Q hq (λN l g _ _=>by
   refine mW _ ?_;simp only[Nod.rT];rw[if_neg (λe=>e g.2)];exact MJ { BJ 0 with gC:=b } f (Ne.symm hij))
  obtain⟨N,F,x,G,R⟩:=DH (I:=λN=>Cm S K B cov N/\(N.ab j).vo.p=b0) (J:=λN=>Pend.eo i b0∈(N.ab j).bw) (λA N s g=>⟨d A N s g.1,E A N s g.1 g.2⟩) (λA N s _ g=>by
   obtain⟨l,_,_,_,rfl⟩:=s;rw[An];split
   .rename_i e;rw[<- e];exact Hj g
   .exact g) y.1 y.2 U (λN g=>g.1.up j f) (λN g _=>by
   rw[An,if_pos rfl];have Y:Cl (N.ab j).vo b=7:=by
    unfold Cl;rw[if_neg (λe=>e (g.1.acc f)),if_neg (λe=>e u),if_pos (by rw[EZ u.pr (g.1.acc f).1,g.2];omega)]
   have Z:(N.ab j).au b=(N.ab j,[],7):=by unfold Nod.au;rw[Y,if_pos (by decide)]
   show Pend.eo i b0∈(if((N.ab j).au b).2.2≠0 then(N.ab j).eo i ((N.ab j).au b).2.2 else _).bw;rw[Z,if_pos (show(7:Int)≠0 by decide)];unfold Nod.eo;rw[if_pos rfl,<- g.2];exact mW _ (G'.2 rfl))
  have t:=y.1.act (by omega) m;rw[F]at t ⊢
  have c1:=Bm (I:=Cm S K B cov) a t (by omega) x.1.drop;have V:=Fx (I:=Cm S K B cov) (J:=λN=>({ BJ 2 with gC:=b0,src:=j,dst:=i }:Let)∈N.bt) a (λc A N s _ g=>s.calm.si g) (λA k g v=>⟨g.up k v,g.sL v⟩) t (by omega) x.1.drop f (q:=.eo i b0) G (λN l g _ _=>mW _ (G'.2 rfl));obtain⟨T,k5,k6,k7,_⟩:=DH (I:=Cm S K B cov) (J:=λN=>Gr8 K (N.ab i)) d (λA N s _ g=>g.ev (s.sq.ev i)) c1.1 c1.2 V (λN g=>g.up i Q) (λN g _=>by
   rw[An,if_pos rfl];refine .inl ?_;show K<=5*max (N.ab i).dT b0.r+4;have:b0.key<=5*b0.r+4:=by unfold Ar Ab at w;unfold Bal.key;omega
   omega)
  rw[k5];exact k7
end
def P1(i:Nat)(p:Nod):Prop:=p.bn.next=0/\∀ j,j≠i->p.bn.rk j=false
theorem P1.uD{i:Nat}{p:Nod}(h:P1 i p):p.bn.rX=false:=by
 unfold Rnd.rX J8;have k:=h.2;have g:∀ j,(p.bn.rk j).toNat<=if j=i then 1 else 0:=λj=>by
  split
  .cases p.bn.rk j<;>decide
  .rename_i e;rw[k j e];decide
 have a:=g 0;have b:=g 1;have c:=g 2;have d:=g 3;have f:=g 4;refine D' ?_;split at a<;>split at b<;>split at c<;>split at d<;>split at f<;>omega
theorem Stp.p1{c:Nat}{M N:Meet}(s:Stp wh1 c M N){i:Nat}(h:P1 i (M.ab i)):P1 i (N.ab i):=by
 have put:∀ {k:Nat} {p:Nod} {a:List Let} {m:List Tol},(i=k->P1 i p)->P1 i ((M.set k p a m).ab i):=λ{k p a m} g=>by
  rw[An];split
  .rename_i e;exact g e
  .exact h
 cases s with
 | take _ l hl hd hu ht=>exact False.elim ht
 | bt _ a h hd=>exact False.elim hd
 | one _ k c hi hu hc he=>exact put λe=>by subst e;unfold Nod.hZ;split<;>exact h
 | ask _ k hi hu =>
  exact put λe=>by
   subst e;unfold Nod.kc;split
   .exact h
   .split
    .unfold Nod.eb;split<;>exact h
    .exact h
 | prop _ k hi hu =>
  exact put λe=>by
   subst e;unfold Nod.cF;rw[if_pos (.inr (.inl h.uD))];exact h
 | rZ _ k hi hu hs hT=>exact put λe=>by subst e;exact h
 | run _ k hi hu q l hp hs =>
  exact put λe=>by
   subst e;show P1 i ((M.ab i).lr i q);cases q with
   | began b vs =>
    simp only[Nod.lr];split
    .exact h
    .exact⟨h.1,λj f=>by show upN (M.ab i).bn.rk i true j=false;rw[Du _ _ f];exact h.2 j f⟩
   | prop v =>
    simp only[Nod.lr,Nod.count];split
    .exact h
    .split<;>exact h
   | _=>exact h
 | rW _ k hi hu hL=>exact put λe=>by subst e;exact h
 | lead _ k hi hu hL=>exact False.elim hL
 | sub _ k d hi hu hD=>exact False.elim hD
 | lp _ k x hi hu hk hC=>exact False.elim hC
 | start _ k hi hu hs=>exact False.elim hs
theorem fW{i:Nat}{p:Nod}(h:P1 i p){l:Let}(c:l.kind=1->l.src≠i->l.gC≠p.bn.gC):P1 i (p.take l):=by
 have f:∀ v,P1 i (p.cn v).1:=λv=>by
  unfold Nod.cn;split
  .exact h
  .split
   .exact h
   .split<;>exact h
 unfold Nod.take;split
 .split
  .unfold Nod.eo;split<;>exact h
  .show P1 i (p.au l.gC).1;unfold Nod.au;split
   .exact h
   .split
    .exact h
    .split<;>exact h
 .rename_i hk
  simp only;split
  .exact h
  .rename_i hc
   have b:l.gC=p.bn.gC:=nP λe=>hc (.inr (.inl e));have d:l.src=i:=nP λe=>c hk e b;exact⟨h.1,λj a=>by show upN p.bn.rk l.src true j=false;rw[Du _ _ (by rw[d];exact a)];exact h.2 j a⟩
 .exact h
 .split
  .unfold Nod.eo;split<;>exact h
  .exact f _
 .unfold Nod.count;split
  .exact h
  .split<;>exact h
 .split<;>exact h
 .simp only;unfold Nod.eb;split<;>split<;>exact h
 .exact h
section
variable{S:Cmd->Prop}{K:Int}{B:Nat->Bal}{cov:List (Bal × Nat)}
theorem Cm.top(a:∀ j,j<5->∀ s,s<40->(B j,s)∈cov){c:Nat}{A N:Meet}(s:Stp wh0 c A N)(g:Cm S K B cov A){b:Bal}(h:Ar b)(k:b.key=K){j:Nat}(d:j<5)(e:(A.ab j).vo.p=b):(N.ab j).vo.p=b:=by
 have f:=(s.ev j).vo;have i:=(g.step a s).le d;rw[e]at f
 exact DC ((g.step a s).acc d).1 h (by omega)
theorem fb(D:∀ j,j<5->∀ s,s<40->(B j,s)∈cov)(hQ:14*K+38*(cov.length:Int)<=99000){n:Nat}{M:Meet}(Y:MOk n M)(hn:n+12<=1000000)(h:Cm S K B cov M){i:Nat}(L:i<5){b:Bal}(o:Ab b)(X:b.key=K)(hB:B i=b)(hv:(M.ab i).vo.p=b)(R:∀ j,j<5->j≠i->(M.ab j).vo.p.key<K){d:List Vt}(hq:.began b d∈(M.ab i).bw)(T:P1 i (M.ab i)) :
  Cm S K B cov (M.dW Ao)/\(∀ j,j<5->((M.dW Ao).ab j).vo.p=b)/\((M.dW Ao).ab i).bn.rk i=true/\(∀ j,j<5->j≠i->∃ d,Pend.prom i b d∈((M.dW Ao).ab j).bw)/\P1 i ((M.dW Ao).ab i)/\(M.dW Ao).bt=[]/\MOk (n+6) (M.dW Ao):=by
 have v:LacOk (acN 7 0):=by rw[<- Dr];decide
 have t:∀ c A N,Stp wh1 c A N->Cm S K B cov A->Cm S K B cov N:=λc A N s g=>g.step D s.calm;have u:∀ A N,TkS A N->Cm S K B cov A->Cm S K B cov N:=λA N s g=>g.step D s.sq;have U:=Bm (I:=λN=>Cm S K B cov N/\(∀ j,(N.ab j).vo.p=(M.ab j).vo.p)/\P1 i (N.ab i)) (λc A N s g=>⟨t c A N s g.1,λj=>(s.tQ j).trans (g.2.1 j),s.p1 g.2.2⟩) Y (by omega) ⟨h,λ_=>rfl,T⟩;have F:=Fx (I:=λN=>Cm S K B cov N/\(N.ab i).vo.p=b) (J:=λN=>(∀ j,j<5->j≠i->({ BJ 0 with gC:=b,src:=i,dst:=j }:Let)∈N.bt)/\(N.ab i).bn.rk i=true) (λc A N s g=>⟨t c A N s g.1,(s.tQ i).trans g.2⟩) (λc A N s _ g=>⟨λj a e=>s.calm.si (g.1 j a e),(s.calm.ev i).rk i g.2⟩) (λA k g E=>⟨g.1.up k E,g.1.sL E⟩) Y (by omega) ⟨h,hv⟩ L hq (λN l g _ _=>by
  refine⟨λj a e=>mW _ ?_,?_⟩
  .simp only[Nod.rT];rw[if_neg (λe=>e g.2)];exact MJ { BJ 0 with gC:=b } a e
  .rw[An,if_pos rfl];show((N.ab i).lr i (.began b d)).bn.rk i=true;simp only[Nod.lr];rw[if_neg (λe=>e g.2)];exact Dd _ _ _)
 rw[show Ao=AD 3 5++[acN 7 0]from rfl,Ay];generalize M.dW (AD 3 5)=A at U F ⊢;obtain⟨z,f,r,H⟩:=U;have Q:∀ m∈A.bt,m.kind=1->m.src≠i->m.gC≠b:=λm Z E hs e=>by
  obtain⟨σ,y,_⟩:=f.ex;have q:=(z.bt m Z).src;have G:=((y.lt m Z).k1 E).1.le;have W:=(y.nd _ q).sN;unfold Nod.pk at W;rw[if_pos (f.up _ q),r]at W
  have h4:=R _ q hs;have h6:m.gC.key<=σ.P m.src:=G;rw[e]at h6
  omega
 obtain⟨N,k1,⟨k2,k3,k4,k5,k6⟩,k7⟩:=Cu (I:=λN=>Cm S K B cov N/\(N.ab i).vo.p=b/\P1 i (N.ab i)/\(N.ab i).bn.rk i=true/\N.bt=A.bt) (λC N s g=>by
  refine⟨u C N s g.1,g.1.top D s.sq o.pr X L g.2.1,?_,(s.sq.ev i).rk i g.2.2.2.1,?_⟩
  .obtain⟨l,hl,_,_,rfl⟩:=s;rw[An];split
   .rename_i e
    rw[<- e];exact fW g.2.2.1 λy G=>by rw[g.1.gC i L,hB];exact Q l (by rw[<- g.2.2.2.2];exact hl) y G
   .exact g.2.2.1
  .obtain⟨l,hl,_,_,rfl⟩:=s;exact g.2.2.2.2) z ⟨f,(r i).trans hv,H,F.2,rfl⟩
 have a:∀ j,j<5->j≠i->((A.act (acN 7 0)).ab j).vo.p=b/\∃ d,Pend.prom i b d∈((A.act (acN 7 0)).ab j).bw:=λj a O=>by
  obtain⟨N',q1,q2,q3,_⟩:=DH (I:=Cm S K B cov) (J:=λN=>(N.ab j).vo.p=b/\∃ d,Pend.prom i b d∈(N.ab j).bw) u (λC N s g e=>⟨g.top D s.sq o.pr X a e.1,by
   obtain⟨d,V⟩:=e.2;refine⟨d,?_⟩;obtain⟨l,_,_,_,rfl⟩:=s;rw[An];split
   .rename_i e3;rw[<- e3];exact Hj V
   .exact V⟩) z f (F.1 j a O) (λN g=>g.up j a) (λN g _=>by
   rw[An,if_pos rfl];have a0:=g.le a;have x:=g.prom hQ a o (by rw[EZ o.pr (g.acc a).1];omega);have e:(N.ab j).take ({ BJ 0 with gC:=b,src:=i,dst:=j }:Let)=((N.ab j).au b).1.wait (.prom i b ((N.ab j).au b).2.1):=by
    show(if((N.ab j).au b).2.2≠0 then _ else _)=_;rw[if_neg (λg=>g x.1)]
   rw[e];exact⟨x.2,_,mW _ (G'.2 rfl)⟩)
  rw[q1];exact q3
 have w:=z.act (by omega) v;rw[k1]at a w ⊢
 exact⟨k2.drop,λj q=>by
  by_cases e:j=i
  .rw[e];exact k3
  .exact(a j q e).1,k5,λj q e=>(a j q e).2,k4,rfl,w⟩
end
section
theorem gc(f:Cmd->Option Bal)(c:Cmd)(b:Option Bal):Ca f c b c=b:=if_pos rfl
variable{c:Cmd}{p:Nod}
theorem V3(f:Cmd->Option Bal){d:Cmd}(b:Option Bal)(h:d≠c):Ca f c b d=f d:=if_neg h
theorem Lz{b:Bal}(p:b≠Bb)(l:List Cmd)(f:Cmd->Option Bal):(∀ c,c∉l->(AZ b f l).2 c=f c)/\(∀ c∈l,(AZ b f l).2 c=some b)/\(∀ c∈l,f c=some b\/c∈(AZ b f l).1)/\∀ c∈(AZ b f l).1,c∈l:=by
 induction l generalizing f with
 | nil=>exact⟨λ_ _=>rfl,λ_ h=>(by cases h),λ_ h=>(by cases h),λ_ h=>(by cases h)⟩
 | cons c l ih =>
  rw[AZ];split
  .rename_i hc
   obtain⟨j,k,m,n⟩:=ih (Ca f c (some b));refine⟨λd a=>?_,λd a=>?_,λd a=>?_,λd a=>?_⟩
   .show(AZ b (Ca f c (some b)) l).2 d=f d;rw[j d λe=>a (I' _ e),V3 _ _ λe=>a (by rw[e];exact O')]
   .show(AZ b (Ca f c (some b)) l).2 d=some b;by_cases i:d∈l
    .exact k d i
    .rcases nf.1 a with rfl|e
     .rw[j d i,gc]
     .exact absurd e i
   .rcases nf.1 a with rfl|e
    .exact .inr O'
    .by_cases e2:d=c
     .rw[e2];exact .inr O'
     .rcases m d e with g|g
      .rw[V3 _ _ e2]at g;exact .inl g
      .exact .inr (I' _ g)
   .rcases nf.1 a with rfl|e
    .exact O'
    .exact I' _ (n d e)
  .rename_i hc
   have o:f c=some b:=by
    have:=mX.1 hc;cases hh:f c with
    | none=>rw[hh]at this;exact absurd this.symm p
    | some x=>rw[hh]at this;exact congrArg some this
   obtain⟨j,k,m,n⟩:=ih f;refine⟨λd a=>j d λe=>a (I' _ e),λd a=>?_,λd a=>?_,λd a=>I' _ (n d a)⟩
   .by_cases i:d∈l
    .exact k d i
    .rcases nf.1 a with rfl|e
     .rw[j d i];exact o
     .exact absurd e i
   .rcases nf.1 a with rfl|e
    .exact .inl o
    .exact m d e
theorem Ij(l q:List Cmd)(h:q.Nodup):(Hm q l).Nodup:=by
 induction l generalizing q with
 | nil=>exact h
 | cons c l ih =>
  rw[Hm];refine ih _ ?_;split
  .rename_i hc
   exact pq.2 ⟨h,pu.2 ⟨P',oQ⟩,λx a y b e=>hc.2 (by rw[<- G'.1 b,<- e];exact a)⟩
  .exact h
theorem Q9{C:List Cmd}(j:C.length<40)(l q:List Cmd)(g:q.Nodup)(a:∀ c∈q,c∈C)(b:∀ c∈l,c∈C):∀ c∈l,c∈Hm q l:=by
 induction l generalizing q with
 | nil=>exact λc hc=>by cases hc
 | cons d l ih =>
  have f:=Pz g a;have i:=b d O';intro c hc;rw[Hm];have h:d∈(if q.length<40/\d∉q then q++[d]else q):=by
   by_cases e:d∈q
   .split
    .exact mY _ e
    .exact e
   .rw[if_pos ⟨by omega,e⟩];exact mW _ (G'.2 rfl)
  rcases nf.1 hc with rfl|hc
  .exact(QB l _).subset h
  .refine ih _ ?_ (λx hx=>?_) (λx hx=>b x (I' _ hx)) c hc
   .exact Ij [d] q g
   .split at hx
    .rcases U'.1 hx with hx|hx
     .exact a x hx
     .rw[G'.1 hx];exact i
    .exact a x hx
structure AskI(p:Nod):Prop where
 nd:p.br.Nodup
 wa:∀ c,c∈p.br↔(p.cl c).isSome=true
 le:∀ c x,p.cl c=some x->x.key<=p.vo.p.key
 un:∀ c∈p.br,c∉p.ae.take p.done
 qn:p.bn.fa.Nodup
 dn:p.done<=p.ae.length
theorem RN{α:Type}{l m:List α}{k:Nat}(h:l <+: m)(a:k<=l.length):m.take k=l.take k:=by obtain⟨x,rfl⟩:=h;exact nJ a
theorem AskI.pd{q:Nod}(h:AskI p)(e:Ev p q)(i:q.br=p.br/\q.cl=p.cl/\q.done=p.done)(f:q.bn.fa.Nodup):AskI q:=by
 obtain⟨a,b,d⟩:=i;refine⟨by rw[a];exact h.nd,by rw[a,b];exact h.wa,λc x g=>nz (h.le c x (by rw[<- b];exact g)) e.vo,?_,f,by rw[d];exact mV h.dn e.ag.length_le⟩;rw[a,d,RN e.ag h.dn];exact h.un
theorem Bj(p:Nod)(b:Bal):((p.au b).1.br=p.br/\(p.au b).1.cl=p.cl/\(p.au b).1.done=p.done)/\(p.au b).1.bn=p.bn:=by
 unfold Nod.au;split
 .exact⟨⟨rfl,rfl,rfl⟩,rfl⟩
 .split
  .exact⟨⟨rfl,rfl,rfl⟩,rfl⟩
  .split<;>exact⟨⟨rfl,rfl,rfl⟩,rfl⟩
theorem CD(p:Nod)(v:Vt):((p.cn v).1.br=p.br/\(p.cn v).1.cl=p.cl/\(p.cn v).1.done=p.done)/\(p.cn v).1.bn=p.bn:=by
 unfold Nod.cn;split
 .exact⟨⟨rfl,rfl,rfl⟩,rfl⟩
 .split
  .exact⟨⟨rfl,rfl,rfl⟩,rfl⟩
  .split<;>exact⟨⟨rfl,rfl,rfl⟩,rfl⟩
theorem RM(p:Nod)(l:Let)(a:p.bn.fa.Nodup):((p.take l).br=p.br/\(p.take l).cl=p.cl/\(p.take l).done=p.done)/\(p.take l).bn.fa.Nodup:=by
 unfold Nod.take;split
 .split
  .unfold Nod.eo;split<;>exact⟨⟨rfl,rfl,rfl⟩,a⟩
  .have:=Bj p l.gC;exact⟨this.1,by show(p.au l.gC).1.bn.fa.Nodup;rw[this.2];exact a⟩
 .simp only;split<;>exact⟨⟨rfl,rfl,rfl⟩,a⟩
 .exact⟨⟨rfl,rfl,rfl⟩,a⟩
 .split
  .unfold Nod.eo;split<;>exact⟨⟨rfl,rfl,rfl⟩,a⟩
  .have:=CD p l.cn;exact⟨this.1,by show(p.cn l.cn).1.bn.fa.Nodup;rw[this.2];exact a⟩
 .unfold Nod.count;split
  .exact⟨⟨rfl,rfl,rfl⟩,a⟩
  .split<;>exact⟨⟨rfl,rfl,rfl⟩,a⟩
 .split<;>exact⟨⟨rfl,rfl,rfl⟩,a⟩
 .simp only;unfold Nod.eb;split<;>split<;>first|exact⟨⟨rfl,rfl,rfl⟩,a⟩|exact⟨⟨rfl,rfl,rfl⟩,Ij _ _ a⟩
 .exact⟨⟨rfl,rfl,rfl⟩,a⟩
theorem AskI.kc(h:AskI p)(i:Nat)(q:0<=p.vo.p.key):AskI (p.kc i).1:=by
 have key:∀ (l:List Cmd) (f:Cmd->Option Bal),(∀ c,c∈l->(f c).isSome=true)->(∀ c,((AZ p.vo.p f l).2 c).isSome=(f c).isSome)/\∀ c x,(AZ p.vo.p f l).2 c=some x->f c=some x\/x=p.vo.p:=by
  intro l;induction l with
  | nil=>exact λf _=>⟨λ_=>rfl,λ_ _ g=>.inl g⟩
  | cons c l ih =>
   intro f j;rw[AZ];split
   .have hu:∀ d,(Ca f c (some p.vo.p) d).isSome=(f d).isSome:=λd=>by
     unfold Ca;split
     .rename_i e;rw[e,j c O'];rfl
     .rfl
    obtain⟨a,k⟩:=ih (Ca f c (some p.vo.p)) λd b=>by rw[hu];exact j d (I' _ b)
    refine⟨λd=>(a d).trans (hu d),λd x g=>?_⟩;rcases k d x g with g|g
    .unfold Ca at g;split at g
     .exact .inr (nQ g).symm
     .exact .inl g
    .exact .inr g
   .exact ih f λd b=>j d (I' _ b)
 obtain⟨n,o⟩:=key (p.br.take 40) p.cl λc m=>(h.wa c).1 (nu m);have a:AskI { p with cl:=(AZ p.vo.p p.cl (p.br.take 40)).2 }:=⟨h.nd,λc=>by show _↔((AZ p.vo.p p.cl (p.br.take 40)).2 c).isSome=true;rw[n];exact h.wa c,λc x g=>by
  rcases o c x g with g|g
  .exact h.le c x g
  .rw[g];exact mT _,h.un,h.qn,h.dn⟩
 unfold Nod.kc;split
 .exact a
 .split
  .refine a.pd (.uk _ _) ?_ ?_
   .unfold Nod.eb;split<;>exact⟨rfl,rfl,rfl⟩
   .unfold Nod.eb;split
    .exact Ij _ _ h.qn
    .exact h.qn
  .exact a
theorem AskI.one(h:AskI p)(b:p.ae[p.done]?=some c)(s:Sto):AskI (Nod.hZ { p with ni:=s,done:=p.done+1 } c):=by
 have f:=(V'.1 b).1;have i:p.ae.take (p.done+1)=p.ae.take p.done++[c]:=by rw[px,b];rfl
 unfold Nod.hZ;split
 .refine⟨h.nd.erase c,λd=>?_,λd x g=>?_,λd a=>?_,h.qn,f⟩
  .show d∈p.br.erase c↔(Ca p.cl c none d).isSome=true;rw[h.nd.mem_erase_iff];unfold Ca;split
   .rename_i e;simp[e]
   .rename_i e;rw[h.wa d];simp[e]
  .have g:Ca p.cl c none d=some x:=g;unfold Ca at g;split at g
   .cases g
   .exact h.le d x g
  .have a:d∈p.br.erase c:=a;rw[h.nd.mem_erase_iff]at a
   show d∉p.ae.take (p.done+1);rw[i];intro e;rcases U'.1 e with e|e
   .exact h.un d a.2 e
   .exact a.1 (G'.1 e)
 .rename_i hn
  refine⟨h.nd,h.wa,h.le,λd a=>?_,h.qn,f⟩;show d∉p.ae.take (p.done+1);rw[i];intro e;rcases U'.1 e with e|e
  .exact h.un d a e
  .rw[G'.1 e]at a
   exact hn ((h.wa c).1 a)
theorem AskI.want(h:AskI p)(b:c∉p.ae.take p.done)(a:0<=p.vo.p.key):AskI (p.want c):=by
 unfold Nod.want;split
 .exact h
 .rename_i hn
  have f:c∉p.br:=λe=>hn ((h.wa c).1 e);refine⟨pq.2 ⟨h.nd,pu.2 ⟨P',oQ⟩,λx i y j e=>f (by rw[<- G'.1 j,<- e];exact i)⟩,λd=>?_,λd x g=>?_,λd hd=>?_,h.qn,h.dn⟩
  .show d∈p.br++[c]↔(Ca p.cl c (some Bb) d).isSome=true;unfold Ca;split
   .rename_i e;simp[e]
   .rename_i e;rw[<- h.wa d];simp[e]
  .have g:Ca p.cl c (some Bb) d=some x:=g;unfold Ca at g;split at g
   .rw[<- nQ g];exact a
   .exact h.le d x g
  .rcases U'.1 hd with hd|hd
   .exact h.un d hd
   .rw[G'.1 hd];exact b
theorem AskI.bare(p:Nod)(u:Bool)(d:List Int)(s:Int)(a:Acc)(x:List Pend):AskI (p.bare u d s a x):=⟨oQ,λc=>⟨λe=>(by cases e),λe=>(by cases e)⟩,λc x e=>(by cases e),λc e=>(by cases e),oQ,A' _⟩
theorem AskI.step{D:Wh}{c:Nat}{M N:Meet}(s:Stp D c M N){σ:Gs}(g:AgI σ M)(h:∀ j,j<5->AskI (M.ab j)):∀ j,j<5->AskI (N.ab j):=by
 intro j i;have put:∀ {k:Nat} {p:Nod} {f:List Let} {o:List Tol},(k<5->AskI p)->AskI ((M.set k p f o).ab j):=λ{k p f o} e=>by
  rw[An];split
  .rename_i e2;exact e (by omega)
  .exact h j i
 have pos:∀ {k:Nat},k<5->(M.ab k).up=true->0<=(M.ab k).vo.p.key:=λ{k} m a=>by
  obtain⟨t,q⟩:=(g.nd k m).up a;have n:=q.tp.ok.acc.1;rw[<- q.tp.vo]at n
  unfold Ar Ab at n;unfold Bal.key;omega
 cases s with
 | take _ l hl hd a ht =>
  have:=RM (M.ab l.dst) l (h _ hd.2).qn;exact put λ_=>(h _ hd.2).pd (.take _ l) this.1 this.2
 | bt _ f hl hd=>exact h j i
 | one _ k c hi a hc he=>exact put λ_=>(h k hi).one hc _
 | ask _ k hi a=>exact put λ_=>(h k hi).kc k (pos hi a)
 | prop _ k hi a =>
  refine put λ_=>(h k hi).pd (.cF _) ?_ ?_
  .unfold Nod.cF;split
   .exact⟨rfl,rfl,rfl⟩
   .split
    .exact⟨rfl,rfl,rfl⟩
    .split
     .exact⟨rfl,rfl,rfl⟩
     .exact(CD (M.ab k) _).1
  .unfold Nod.cF;split
   .exact(h k hi).qn
   .split
    .exact(h k hi).qn
    .split<;>exact(h k hi).qn
 | rZ _ k hi a hs hT=>exact put λ_=>⟨(h k hi).nd,(h k hi).wa,(h k hi).le,(h k hi).un,(h k hi).qn,(h k hi).dn⟩
 | run _ k hi a q l hp hs =>
  refine put λ_=>(h k hi).pd ((Ev.lr _ k q).bw l) ?_ ?_
  .show((M.ab k).lr k q).br=_/\((M.ab k).lr k q).cl=_/\((M.ab k).lr k q).done=_;cases q<;>first|exact⟨rfl,rfl,rfl⟩|(simp only[Nod.lr];split<;>exact⟨rfl,rfl,rfl⟩)|(simp only[Nod.lr,Nod.count];split<;>first|exact⟨rfl,rfl,rfl⟩|(split<;>exact⟨rfl,rfl,rfl⟩))
  .show((M.ab k).lr k q).bn.fa.Nodup;have:=(h k hi).qn;cases q<;>first|exact this|(simp only[Nod.lr];split<;>exact this)|(simp only[Nod.lr,Nod.count];split<;>first|exact this|(split<;>exact this))
 | rW _ k hi a hL=>exact put λ_=>⟨(h k hi).nd,(h k hi).wa,(h k hi).le,(h k hi).un,(h k hi).qn,(h k hi).dn⟩
 | lead _ k hi a hL =>
  refine put λ_=>?_;unfold Nod.lead;simp only;split
  .exact h k hi
  .generalize (⟨max (M.ab k).dT (M.ab k).vo.p.r+1,(k:Int)⟩:Bal)=b;have e:=Bj (M.ab k) b;have q:=(h k hi).pd (.au _ b) e.1 (by rw[e.2];exact(h k hi).qn);exact⟨q.nd,q.wa,q.le,q.un,oQ,q.dn⟩
 | sub _ k d hi a hD =>
  refine put λ_=>?_;unfold Nod.sj Nod.sm;split
  .exact h k hi
  .split
   .exact⟨(h k hi).nd,(h k hi).wa,(h k hi).le,(h k hi).un,(h k hi).qn,(h k hi).dn⟩
   .split
    .exact h k hi
    .rename_i hc;exact(h k hi).want hc (pos hi a)
 | lp _ k x hi a m hC =>
  refine put λ_=>?_;unfold Nod.lp;split
  .exact h k hi
  .exact .bare _ _ _ _ _ _
 | start _ k hi a hs =>
  refine put λ_=>?_;unfold Nod.start;split
  .exact h k hi
  .split<;>exact .bare _ _ _ _ _ _
theorem AskI.zero:∀ j,j<5->AskI (Ap.ab j):=λj _=>AskI.bare CZ true [] 0 DW []
end
end Go.Proofs.YtogibonjmbhliabGreatDoor
