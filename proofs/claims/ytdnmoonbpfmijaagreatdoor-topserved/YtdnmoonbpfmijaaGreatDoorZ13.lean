/- Part 13 of the walk. -/
import Derived.Test.YtdnmoonbpfmijaaGreatDoorZ12
set_option maxRecDepth 100000
set_option maxHeartbeats 4000000
set_option linter.unusedVariables false
namespace Go.Proofs.YtdnmoonbpfmijaaGreatDoor
structure Alw where
 ca:Bool
 ld:Bool
 cr:Bool
 st:Bool
structure NInv(A:Alw)(i:Nat)(D:List Int->Prop)(Q:Let->Prop)(P:Nod->Prop):Prop where
 take:A.ca=true->∀ p l,P p->Q l->l.dst=i->p.up=true->P (p.take l)
 one:∀ p c,P p->p.up=true->p.ae[p.done]?=some c->doE p.nn c=0->P (Nod.gC { p with nn:=doS p.nn c,done:=p.done+1 } c)
 ask:∀ p,P p->p.up=true->P (p.ln i).1/\∀ l∈(p.ln i).2,Q l
 prop:∀ p,P p->p.up=true->P p.cF
 rJ:∀ p,P p->p.up=true->P p.rJ
 run:∀ p q l,P p->p.up=true->p.bw=q::l->¬ p.sy<(p.d.length:Int)->P { p.lp i q with bw:=l }/\∀ m∈p.rE i q,Q m
 rG:∀ p,P p->p.up=true->p.leads=true->P (EI p i 5)/\∀ l∈Dx p i 5,Q l
 lead:A.ld=true->∀ p,P p->p.up=true->P (p.lead i)
 sub:∀ p d ts,P p->D d->p.up=true->P (p.rO i d ts).1
 mv:A.cr=true->∀ p k,P p->0<=k->p.up=true->P (p.mv k)
 start:A.st=true->∀ p,P p->p.up=false->P p.start
theorem OF(p:Nod)(i:Nat)(q:Pend)(x:List Pend):({ p with bw:=x }:Nod).lp i q={ p.lp i q with bw:=x }:=by
 cases q with
 | began b vs=>unfold Nod.lp;simp only;split<;>rfl
 | prop v =>
  unfold Nod.lp Nod.count;simp only;split
  .rfl
  .split<;>rfl
 | _=>rfl
theorem DJ(p:Nod)(i:Nat)(q:Pend):(p.lp i q).bw=p.bw/\(p.lp i q).up=p.up/\(p.lp i q).d=p.d/\(p.lp i q).sy=p.sy:=by
 cases q with
 | began b vs=>unfold Nod.lp;simp only;split<;>exact⟨rfl,rfl,rfl,rfl⟩
 | prop v =>
  unfold Nod.lp Nod.count;simp only;split
  .exact⟨rfl,rfl,rfl,rfl⟩
  .split<;>exact⟨rfl,rfl,rfl,rfl⟩
 | _=>exact⟨rfl,rfl,rfl,rfl⟩
theorem Mz(p:Nod)(i:Nat)(q:Pend)(x:List Pend):({ p with bw:=x }:Nod).rE i q=p.rE i q:=by cases q<;>rfl
theorem Ec(p:Nod)(c:Cmd):(p.gC c).up=p.up/\(p.gC c).ae=p.ae/\(p.gC c).done=p.done/\(p.gC c).nn=p.nn:=by unfold Nod.gC;split<;>exact⟨rfl,rfl,rfl,rfl⟩
theorem Sq(p:Nod)(l:List Cmd):(p.eb l).up=p.up:=by unfold Nod.eb;split<;>rfl
theorem I2(p:Nod)(i:Nat):(p.ln i).1.up=p.up:=by
 unfold Nod.ln;split
 .rfl
 .split
  .exact Sq _ _
  .rfl
theorem fB(p:Nod)(v:Vt):(p.cn v).1.up=p.up:=by
 unfold Nod.cn;split
 .rfl
 .split
  .rfl
  .split<;>rfl
theorem ED(p:Nod):p.cF.up=p.up:=by
 unfold Nod.cF;split
 .rfl
 .split
  .rfl
  .split
   .rfl
   .exact fB p _
theorem jw(p:Nod):p.rJ.up=p.up:=by unfold Nod.rJ;split<;>rfl
section
variable{A:Alw}{i:Nat}{D:List Int->Prop}{Q:Let->Prop}{P:Nod->Prop}
theorem NInv.rK(h:NInv A i D Q P)(l:List Cmd)(p:Nod)(e:List Tol)(d:P p)(a:p.up=true)(f:p.ae.drop p.done=l):P (rK i l p e).1/\(Go.Proofs.YtdnmoonbpfmijaaGreatDoor.rK i l p e).1.up=true:=by
 induction l generalizing p e with
 | nil=>exact⟨d,a⟩
 | cons c l ih =>
  rw[Go.Proofs.YtdnmoonbpfmijaaGreatDoor.rK];split
  .exact⟨d,a⟩
  .rename_i he
   have g:p.ae[p.done]?=some c:=by
    have:=congrArg (·[0]?) f;simpa using this
   have b:=Ec { p with nn:=doS p.nn c,done:=p.done+1 } c;refine ih _ _ (h.one p c d a g (mF.1 he)) (b.1.trans a) ?_;rw[b.2.1,b.2.2.1];show p.ae.drop (p.done+1)=l;rw[<- pm,f];rfl
theorem NInv.pf(h:NInv A i D Q P)(l:List Pend)(p:Nod)(ls:List Let)(b:P { p with bw:=l })(c:p.up=true)(k:p.bw=[])(j:¬ p.sy<(p.d.length:Int))(g:∀ m∈ls,Q m):P (pf i l p ls).1/\(∀ m∈(Go.Proofs.YtdnmoonbpfmijaaGreatDoor.pf i l p ls).2,Q m)/\(Go.Proofs.YtdnmoonbpfmijaaGreatDoor.pf i l p ls).1.up=true:=by
 induction l generalizing p ls with
 | nil =>
  refine⟨?_,g,c⟩;have:({ p with bw:=[] }:Nod)=p:=by cases p;simp_all
  rw[this]at b;exact b
 | cons q l ih =>
  have a:=DJ p i q;obtain⟨e,f⟩:=h.run { p with bw:=q::l } q l b c rfl j;rw[OF]at e
  rw[Mz]at f
  exact ih (p.lp i q) (ls++p.rE i q) e (a.2.1.trans c) (a.1.trans k) (by rw[a.2.2.1,a.2.2.2];exact j) λm n=>(Q'.1 n).elim (g m) (f m)
theorem NInv.piece(h:NInv A i D Q P)(p:Nod)(ls:List Let)(ts:List Tol)(y:P p)(z:p.up=true)(x:∀ m∈ls,Q m):P (p.piece i ls ts).1/\∀ m∈(p.piece i ls ts).2.1,Q m:=by
 obtain⟨s,n⟩:=h.rK _ p ts y z rfl;unfold Nod.piece;simp only;obtain⟨t,u⟩:=h.ask _ s n;have o:=(I2 (Go.Proofs.YtdnmoonbpfmijaaGreatDoor.rK i (p.ae.drop p.done) p ts).1 i).trans n;have f:=h.prop _ t o;have c:=(ED ((Go.Proofs.YtdnmoonbpfmijaaGreatDoor.rK i (p.ae.drop p.done) p ts).1.ln i).1).trans o;have a:∀ m∈ls++((Go.Proofs.YtdnmoonbpfmijaaGreatDoor.rK i (p.ae.drop p.done) p ts).1.ln i).2,Q m:=λm g=>(Q'.1 g).elim (x m) (u m);generalize ls++((Go.Proofs.YtdnmoonbpfmijaaGreatDoor.rK i (p.ae.drop p.done) p ts).1.ln i).2=k at a ⊢;generalize ((Go.Proofs.YtdnmoonbpfmijaaGreatDoor.rK i (p.ae.drop p.done) p ts).1.ln i).1.cF=r at f c ⊢;have b:P (r.ov i k).1/\(∀ m∈(r.ov i k).2,Q m)/\(r.ov i k).1.up=true:=by
  unfold Nod.ov;split
  .exact⟨f,a,c⟩
  .rename_i hn
   have j:=h.rJ r f c;have l:r.rJ.bw=r.bw:=by unfold Nod.rJ;split<;>rfl
   refine h.pf r.bw { r.rJ with bw:=[] } k (by rw[<- l];exact j) ((jw r).trans c) rfl ?_ a;show ¬ r.rJ.sy<(r.rJ.d.length:Int);unfold Nod.rJ;split
   .rename_i h1
    have:De r.d r.sy=0:=mF.1 λe=>hn ⟨h1,e⟩;have q:AT r.d r.sy:=by
     unfold De at this;split at this
     .assumption
     .cases this
    show ¬ Ir r.d r.sy<((Hr r.d r.sy).length:Int);unfold Ir Hr;rw[if_pos q,if_pos q];exact qJ _
   .rename_i h1;exact h1
 unfold Nod.bN;split
 .rename_i hL
  obtain⟨v,w⟩:=h.rG _ b.1 b.2.2 hL;exact⟨v,λm g=>(Q'.1 g).elim (b.2.1 m) (w m)⟩
 .exact⟨b.1,b.2.1⟩
end
section
structure GInv(Q:Let->Prop)(P:Nat->Nod->Prop)(M:Meet):Prop where
 ab:∀ i,i<5->P i (M.ab i)
 br:∀ l∈M.br,Q l
variable{A:Alw}{D:Nat->List Int->Prop}{M:Meet}{P:Nat->Nod->Prop}{Q:Let->Prop}{R:List Tol->Prop}{i:Nat}{k now s:Int}{p:Nod}{x:Lac}
theorem GInv.set(h:GInv Q P M){i:Nat}{p:Nod}{ls:List Let}{ts:List Tol}(c:P i p)(b:∀ l∈ls,Q l):GInv Q P (M.set i p ls ts) :=
 ⟨λj a=>by
  show P j (upN M.ab i p j);unfold upN;split
  .rename_i e;rw[e];exact c
  .exact h.ab j a,b⟩
theorem GInv.pd(b:∀ i,i<5->NInv A i (D i) Q (P i))(c:A.ca=true){M:Meet}(h:GInv Q P M){l:Let}(d:Q l)(a:l.dst<5):GInv Q P (M.pd l):=by
 unfold Meet.pd;split
 .rename_i hu
  exact h.set (ls:=M.br) (ts:=M.ew) ((b _ a).take c _ l (h.ab _ a) d rfl hu) h.br
 .exact h
theorem GInv.comes(b:∀ i,i<5->NInv A i (D i) Q (P i))(c:A.ca=true)(l:List Let){M:Meet}(h:GInv Q P M)(a:∀ m∈l,Q m/\m.dst<5):GInv Q P (l.foldl (λM l=>M.pd l) M):=by
 induction l generalizing M with
 | nil=>exact h
 | cons x l ih=>exact ih (h.pd b c (a x O').1 (a x O').2) λm d=>a m (I' _ d)
structure Alw.Ok(A:Alw)(x:Lac):Prop where
 ca:x.k=4\/x.k=6\/x.k=7->A.ca=true
 ld:x.k=2->A.ld=true
 cr:x.k=8->A.cr=true
 st:x.k=9->A.st=true
theorem GInv.act(g:∀ i,i<5->NInv A i (D i) Q (P i)){n:Nat}{M:Meet}(h:GInv Q P M)(B:MOk n M){x:Lac}(C:LacOk x)(q:A.Ok x)(F:x.k=1->D x.n.toNat x.d):GInv Q P (M.act x):=by
 have b:∀ {k:Int},x.k=k->Gi k=true->x.n.toNat<5:=λ{k} e E=>by have:=C.n (by rw[e];exact E);omega
 unfold Meet.act;simp only;by_cases r:x.k=1
 .rw[if_pos r];have c:=b r rfl;refine h.set ?_ h.br;unfold Nod.rO;by_cases f:(M.ab x.n.toNat).up=true
  .exact(g _ c).sub _ x.d M.ew (h.ab _ c) (F r) f
  .unfold Nod.rQ;rw[if_pos (by simpa using f)];exact h.ab _ c
 .rw[if_neg r];by_cases s:x.k=2
  .rw[if_pos s];have c:=b s rfl;refine h.set ?_ h.br;split
   .rename_i f;exact(g _ c).lead (q.ld s) _ (h.ab _ c) f
   .exact h.ab _ c
  .rw[if_neg s];by_cases u:x.k=3
   .rw[if_pos u];have c:=b u rfl;by_cases f:(M.ab x.n.toNat).up=true
    .have:=(g _ c).piece _ M.br M.ew (h.ab _ c) f h.br;rw[if_pos f,if_pos f,if_pos f];exact h.set this.1 this.2
    .rw[if_neg f,if_neg f,if_neg f];exact h.set (h.ab _ c) h.br
   .rw[if_neg u];by_cases w:x.k=4\/x.k=5\/x.k=6
    .rw[if_pos w];unfold Meet.move;split
     .exact h
     .rename_i l v
      have j:=mU v;have z:GInv Q P (if x.k≠6 then{ M with br:=M.br.eraseIdx (x.a.toNat%M.br.length) }else M):=by
       split
       .exact⟨h.ab,λm j=>h.br m (pH j)⟩
       .exact h
      simp only;split
      .rename_i h5
       exact z.pd g (q.ca (by omega)) (h.br l j) (B.br l j).dst
      .exact z
    .rw[if_neg w];by_cases y:x.k=7
     .rw[if_pos y];unfold Meet.rI;exact GInv.comes g (q.ca (by omega)) _ ⟨h.ab,λl v=>by cases v⟩ λm j=>⟨h.br m j,(B.br m j).dst⟩
     .rw[if_neg y];by_cases o:x.k=8
      .rw[if_pos o];have c:=b o rfl;refine h.set ?_ h.br;split
       .rename_i f;exact(g _ c).mv (q.cr o) _ x.p (h.ab _ c) (C.p (by rw[o];rfl)).1 f
       .exact h.ab _ c
      .rw[if_neg o];by_cases t:x.k=9
       .rw[if_pos t];have c:=b t rfl;refine h.set ?_ h.br;split
        .exact h.ab _ c
        .rename_i f;exact(g _ c).start (q.st t) _ (h.ab _ c) (by simpa using f)
       .rw[if_neg t];exact h
structure TInv(i:Nat)(D:List Int->Prop)(P:Nod->Prop)(R:List Tol->Prop):Prop where
 one:∀ p c ts,P p->p.up=true->p.ae[p.done]?=some c->doE p.nn c=0->(p.cl c).isSome=true->R ts->R (ts++[⟨i,c.c,c.s,doC p.nn c,doA p.nn c⟩])
 sub:∀ p d ts,P p->D d->p.up=true->opE d (p.done:Int)=0->En d (p.done:Int)∈p.ae.take p.done->R ts->R (ts++[⟨i,(En d (p.done:Int)).c,(En d (p.done:Int)).s,doC p.nn (En d (p.done:Int)),doA p.nn (En d (p.done:Int))⟩])
theorem TInv.rK{D:List Int->Prop}{P:Nod->Prop}(h:NInv A i D Q P)(t:TInv i D P R)(l:List Cmd)(p:Nod)(b:List Tol)(j:P p)(e:p.up=true)(g:p.ae.drop p.done=l)(a:R b):R (rK i l p b).2:=by
 induction l generalizing p b with
 | nil=>exact a
 | cons c l ih =>
  rw[Go.Proofs.YtdnmoonbpfmijaaGreatDoor.rK];split
  .exact a
  .rename_i he
   have f:p.ae[p.done]?=some c:=by
    have:=congrArg (·[0]?) g;simpa using this
   have d:=Ec { p with nn:=doS p.nn c,done:=p.done+1 } c;refine ih _ _ (h.one p c j e f (mF.1 he)) (d.1.trans e) ?_ ?_
   .rw[d.2.1,d.2.2.1];show p.ae.drop (p.done+1)=l;rw[<- pm,g];rfl
   .split
    .rename_i ha;exact t.one p c b j e f (mF.1 he) ha a
    .exact a
theorem NW(M:Meet)(l:Let):(M.pd l).ew=M.ew:=by unfold Meet.pd;split<;>rfl
theorem RW(l:List Let)(M:Meet):(l.foldl (λM l=>M.pd l) M).ew=M.ew:=by
 induction l generalizing M with
 | nil=>rfl
 | cons x l ih=>exact(ih _).trans (NW M x)
theorem Wi(M:Meet)(k:Int)(a:Nat):(M.move k a).ew=M.ew:=by
 unfold Meet.move;split
 .rfl
 .simp only;split
  .rw[NW];split<;>rfl
  .split<;>rfl
theorem X0(M:Meet){x:Lac}(a:x.k≠1)(b:x.k≠3):(M.act x).ew=M.ew:=by
 unfold Meet.act;simp only;rw[if_neg a];split
 .rfl
 .split
  .exact Wi _ _ _
  .split
   .exact RW _ _
   .split
    .rfl
    .split<;>rfl
theorem GInv.ew(g:∀ i,i<5->NInv A i (D i) Q (P i))(c:∀ i,i<5->TInv i (D i) (P i) R){M:Meet}(h:GInv Q P M)(a:R M.ew){x:Lac}(e:LacOk x)(f:x.k=1->D x.n.toNat x.d):R (M.act x).ew:=by
 by_cases b:x.k=1
 .have hi:x.n.toNat<5:=by have:=e.n (by rw[b];rfl);omega
  unfold Meet.act;simp only;rw[if_pos b];show R (Nod.rO _ _ _ _).2;unfold Nod.rO Nod.rQ;split
  .exact a
  .rename_i hu
   split
   .exact a
   .rename_i he
    split
    .rename_i hm
     exact(c _ hi).sub _ _ _ (h.ab _ hi) (f b) (by simpa using hu) (mF.1 he) hm a
    .exact a
 .by_cases h3:x.k=3
  .have hi:x.n.toNat<5:=by have:=e.n (by rw[h3];rfl);omega
   unfold Meet.act;simp only;rw[if_neg b,if_neg (by omega),if_pos h3];show R (if _ then _ else _);split
   .rename_i hu
    exact TInv.rK (g _ hi) (c _ hi) _ _ _ (h.ab _ hi) hu rfl a
   .exact a
  .rw[X0 M b h3];exact a
theorem GInv.dT(c:∀ i,i<5->NInv A i (D i) Q (P i))(g:∀ i,i<5->TInv i (D i) (P i) R)(L:List Lac){n:Nat}{M:Meet}(b:MOk n M)(j:n+L.length<=1000000)(h:GInv Q P M)(e:R M.ew)(f:∀ x∈L,LacOk x/\A.Ok x/\(x.k=1->D x.n.toNat x.d)):GInv Q P (M.dT L)/\R (M.dT L).ew/\MOk (n+L.length) (M.dT L):=by
 induction L generalizing n M with
 | nil=>exact⟨h,e,b⟩
 | cons x L ih =>
  have a:=f x O';rw[np]at j
  have:=ih (b.act (by omega) a.1) (by omega) (h.act c b a.1 a.2.1 a.2.2) (h.ew c g e a.1 a.2.2) λy l=>f y (I' _ l);rw[np,show n+(L.length+1)=n+1+L.length by omega];exact this
theorem TInv.all(i:Nat)(D:List Int->Prop)(P:Nod->Prop):TInv i D P λ_=>True:=⟨λ_ _ _ _ _ _ _ _ _=>trivial,λ_ _ _ _ _ _ _ _ _=>trivial⟩
def Nod.ub(p:Nod):Bool × Nat:=(p.up,p.bad)
theorem Mj(p:Nod)(b:Bal):(p.au b).1.ub=p.ub:=by
 unfold Nod.au;split
 .rfl
 .split
  .rfl
  .split<;>rfl
theorem Vh(p:Nod)(v:Vt):(p.cn v).1.ub=p.ub:=by
 unfold Nod.cn;split
 .rfl
 .split
  .rfl
  .split<;>rfl
theorem Lz(p:Nod)(j:Nat)(v:Vt):(p.count j v).ub=p.ub:=by
 unfold Nod.count;split
 .rfl
 .split<;>rfl
theorem OB(p:Nod)(to:Nat)(e:Int):(p.fa to e).ub=p.ub:=by unfold Nod.fa;split<;>rfl
theorem L8(p:Nod)(l:List Cmd):(p.eb l).ub=p.ub:=by unfold Nod.eb;split<;>rfl
theorem PH(p:Nod)(l:Let):(p.take l).ub=p.ub:=by
 unfold Nod.take;split
 .split
  .exact OB _ _ _
  .exact Mj p l.jv
 .simp only;split<;>rfl
 .rfl
 .split
  .exact OB _ _ _
  .exact Vh p l.cn
 .exact Lz p _ _
 .split<;>rfl
 .simp only;split<;>exact L8 p l.hZ
 .rfl
theorem eJ(p:Nod)(i:Nat)(q:Pend):(p.lp i q).ub=p.ub:=by
 cases q with
 | began b vs=>unfold Nod.lp;simp only;split<;>rfl
 | prop v=>exact Lz p i v
 | _=>rfl
theorem Yl(i:Nat)(l:List Pend)(p:Nod)(a:List Let):(pf i l p a).1.ub=p.ub:=by
 induction l generalizing p a with
 | nil=>rfl
 | cons q l ih=>exact(ih _ _).trans (eJ p i q)
theorem OM(p:Nod)(c:Cmd):(p.gC c).ub=p.ub:=by unfold Nod.gC;split<;>rfl
theorem hY(i:Nat)(l:List Cmd)(p:Nod)(a:List Tol):(rK i l p a).1.ub=p.ub:=by
 induction l generalizing p a with
 | nil=>rfl
 | cons c l ih =>
  rw[rK];split
  .rfl
  .exact(ih _ _).trans (OM _ _)
theorem cA(p:Nod)(i:Nat):(p.ln i).1.ub=p.ub:=by
 unfold Nod.ln;split
 .rfl
 .split
  .exact L8 _ _
  .rfl
theorem Ty(p:Nod):p.cF.ub=p.ub:=by
 unfold Nod.cF;split
 .rfl
 .split
  .rfl
  .split
   .rfl
   .exact Vh p _
theorem aV(p:Nod)(i:Nat)(a:List Let):(p.ov i a).1.ub=p.ub:=by
 unfold Nod.ov;split
 .rfl
 .rw[Yl];unfold Nod.rJ;split<;>rfl
theorem Xg(p:Nod)(i:Nat)(a:List Let):(p.bN i a).1.ub=p.ub:=by unfold Nod.bN;split<;>rfl
theorem ZJ(p:Nod)(i:Nat)(a:List Let)(b:List Tol):(p.piece i a b).1.ub=p.ub:=by
 unfold Nod.piece;simp only;rw[Xg,aV,Ty,cA,hY]
theorem Pp(p:Nod)(i:Nat):(p.lead i).ub=p.ub:=by
 unfold Nod.lead;simp only;split
 .rfl
 .exact Mj p _
theorem Un(M:Meet)(l:Let)(j:Nat):((M.pd l).ab j).ub=(M.ab j).ub:=by
 unfold Meet.pd;split
 .show(upN M.ab l.dst _ j).ub=_;unfold upN;split
  .rename_i h;rw[h];exact PH _ _
  .rfl
 .rfl
theorem XV(l:List Let)(M:Meet)(j:Nat):((l.foldl (λM l=>M.pd l) M).ab j).ub=(M.ab j).ub:=by
 induction l generalizing M with
 | nil=>rfl
 | cons x l ih=>exact(ih _).trans (Un M x j)
theorem dM(M:Meet)(k:Int)(a:Nat)(j:Nat):((M.move k a).ab j).ub=(M.ab j).ub:=by
 unfold Meet.move;split
 .rfl
 .simp only;split
  .rw[Un];split<;>rfl
  .split<;>rfl
theorem Jf(M:Meet)(i:Nat)(p:Nod)(a:List Let)(b:List Tol)(j:Nat):(M.set i p a b).ab j=if j=i then p else M.ab j:=rfl
theorem gp(M:Meet){x:Lac}(f:x.k≠1)(g:x.k≠8)(h:x.k≠9)(j:Nat):((M.act x).ab j).ub=(M.ab j).ub:=by
 unfold Meet.act;simp only;rw[if_neg f];by_cases a:x.k=2
 .rw[if_pos a,Jf];split
  .rename_i e
   rw[e];split
   .exact Pp _ _
   .rfl
  .rfl
 .rw[if_neg a];by_cases b:x.k=3
  .rw[if_pos b,Jf];split
   .rename_i e
    rw[e];split
    .exact ZJ _ _ _ _
    .rfl
   .rfl
  .rw[if_neg b];by_cases c:x.k=4\/x.k=5\/x.k=6
   .rw[if_pos c];exact dM _ _ _ _
   .rw[if_neg c];by_cases d:x.k=7
    .rw[if_pos d];exact XV _ _ _
    .rw[if_neg d,if_neg g,if_neg h]
theorem js(M:Meet){x:Lac}(h:x.k=1)(j:Nat):((M.act x).ab j).ub=if j=x.n.toNat/\(M.ab j).up=true/\opE x.d ((M.ab j).done:Int)≠0 then((M.ab j).up,(M.ab j).bad+1)else(M.ab j).ub:=by
 unfold Meet.act;simp only;rw[if_pos h,Jf];by_cases f:j=x.n.toNat
 .subst f;rw[if_pos rfl];unfold Nod.rO Nod.rQ;by_cases b:(M.ab x.n.toNat).up=false
  .rw[if_pos b,if_neg (by rw[b];simp)]
  .rw[if_neg b];have g:(M.ab x.n.toNat).up=true:=by simpa using b
   by_cases a:opE x.d ((M.ab x.n.toNat).done:Int)≠0
   .rw[if_pos a,if_pos ⟨rfl,g,a⟩];rfl
   .rw[if_neg a,if_neg (c:=_/\_) (λe=>a e.2.2)];split
    .rfl
    .show(Nod.want _ _).ub=_;unfold Nod.want;split<;>rfl
 .rw[if_neg f,if_neg (λe=>f e.1)]
theorem X3{a b c m v:Int}(d:0<=now)(f:now<=60):Ek a b 60 k c s m v now=Ek a b 60 k c s m v 0:=by
 unfold Ek;rw[if_neg (c:=¬ (0<=now/\now<=60)) (λe=>e ⟨d,f⟩),if_neg (c:=¬ ((0:Int)<=0/\(0:Int)<=60)) (by decide)]
theorem Wo{l:List Int}(d:l.length=30)(b:∀ x∈l,0<=x/\x<256):unE l≠0:=by
 unfold unE;by_cases h:Ii l≠0
 .rw[if_pos h];exact h
 .rw[if_neg h,if_pos]
  .decide
  .have h0:Ii l=0:=mF.1 h;have a:=h0;unfold Ii at a;split at a
   .cases a
   .split at a
    .cases a
    .have:=(WC a (λx c=>b x (nX c))).2.1;unfold N1;rw[if_pos h0];rw[mM]at this
     omega
theorem ej(g:Gr){a:Int}(b:0<=a)(c:a<=60):opE (pkB g) a=opE (pkB g) 0:=by
 unfold pkB;split
 .have hl:(pkP g).length=63:=Ij (IT g);have:=Wo (l:=(pkP g).take 30) (by rw[X'];omega) (λx hx=>by
   have hx:=mP hx;unfold pkP at hx;rw[Md (IT g)]at hx
   have d:=(CG (F1 (IT g)).2.2).2;unfold InC at d;rcases mO.1 hx with rfl|hx
   .omega
   .exact O7 _ _ (Me (F1 (IT g)).2.1) x hx)
  unfold opE;rw[if_pos this,if_pos this]
 .unfold pkP;rw[(UM (IT g) a).1,(UM (IT g) 0).1];exact X3 b c
theorem AJ(M:Meet)(L:List Lac)(x:Lac):M.dT (L++[x])=(M.dT L).act x:=by unfold Meet.dT;rw[o0];rfl
theorem Vr{L:List Lac}(h:L[i]?=some x):M.dT (L.take (i+1))=(M.dT (L.take i)).act x:=by rw[nR,h];exact AJ M (L.take i) x
theorem I0(L:List Lac)(h:∀ x∈L,LacOk x)(d:L.length<=100000):MOk L.length (As.dT L):=by
 suffices ∀ i,i<=L.length->MOk i (As.dT (L.take i))by have a:=this L.length (A' _);rwa [oh]at a
 intro i;induction i with
 | zero=>intro _;exact MOk.zero
 | succ i ih =>
  intro c;have b:L[i]?=some L[i]:=G' (by omega);rw[Vr b];exact(ih (by omega)).act (by omega) (h _ (nu _))
theorem de(g:Gr)(b:Bool):LacOk (Nr g b):=by
 have d:=Br g.a 5 (by omega);have e:=Br g.c 20 (by omega);have f:=Br g.c 90 (by omega);have h:(pkB g).length<=63:=by
  have:(pkP g).length=63:=Ij (IT g);unfold pkB;split
  .rw[X'];omega
  .omega
 rw[<- DP];unfold Nr acN
 repeat' split
 all_goals simp[dF,Gi,Iw,Ix];try omega
theorem Rl{P:Lac->Prop}(b:P (acN 7 0)){a:Bool}(c:∀ g,P (Nr g a))(s:Nat)(l:List Gr):∀ x∈Mw a s l,P x:=by
 induction l generalizing s with
 | nil=>intro x hx;cases hx
 | cons g l ih =>
  intro x hx;rcases mO.1 hx with rfl|hx
  .unfold WK;split
   .exact b
   .exact c g
  .exact ih _ x hx
theorem ar(l:List Gr)(m:Nat)(a:Bool):∀ x∈scr l m a,LacOk x:=Rl (by rw[<- DP];decide) (λg=>de g a) _ _
theorem aq(a:Bool)(s:Nat)(l:List Gr):(Mw a s l).length=l.length:=by
 induction l generalizing s with
 | nil=>rfl
 | cons g l ih=>rw[Mw,np,ih,np]
theorem UT(l:List Gr)(m:Nat)(a:Bool):(scr l m a).length<=m:=by unfold scr;rw[aq,X'];omega
theorem jk(l:List Gr)(m:Nat)(a:Bool):∀ x∈scr l m a,x.k=1->∃ g,x.d=pkB g:=Rl (P:=λx=>x.k=1->∃ g,x.d=pkB g) (by intro h;cases h) (λg=>by
 unfold Nr acN
 repeat' split
 all_goals first
  | exact λ_=>⟨g,rfl⟩
  | exact λh=>absurd h (by simp)) _ _
def Nod.tp(p:Nod):Prop:=AT p.d p.sy
theorem Vo{d:List Int}{may:Prop}[Decidable may]{b:List Int}(h:CK d s may b=0):AT (Gj d s may b) (GV d s may b):=by
 obtain⟨a,c,_⟩:=Kd h;unfold Gj GV;rw[if_pos h,if_pos h];unfold AT at *;rw[H',Bi];omega
theorem Mi(h:p.tp)(b:Bal):(p.au b).1.tp:=by
 unfold Nod.au;split
 .exact h
 .split
  .exact h
  .split
   .exact h
   .rename_i hw;exact Vo (mF.1 hw)
theorem PN(h:p.tp)(v:Vt):(p.cn v).1.tp:=by
 unfold Nod.cn;split
 .exact h
 .split
  .exact h
  .split
   .exact h
   .rename_i hw;exact Vo (mF.1 hw)
theorem OA(h:p.tp)(to:Nat)(e:Int):(p.fa to e).tp:=by unfold Nod.fa;split<;>exact h
theorem XW(h:p.tp)(j:Nat)(v:Vt):(p.count j v).tp:=by
 unfold Nod.count;split
 .exact h
 .split<;>exact h
theorem Sp(h:p.tp)(l:List Cmd):(p.eb l).tp:=by unfold Nod.eb;split<;>exact h
theorem I7(h:p.tp){k:Int}(c:0<=k):(p.mv k).tp/\(p.mv k).up=false/\(p.mv k).done=0/\(p.mv k).ae=[]:=by
 have a:Gx p.d p.sy k=0:=by unfold Gx;rw[if_neg (λe=>e h),if_neg (by omega)]
 unfold Nod.mv;rw[if_neg (λe=>e a)];refine⟨?_,rfl,rfl,rfl⟩;show AT (KD p.d p.sy k) (KE p.d p.sy k);unfold KD KE;rw[if_pos a,if_pos a];unfold Nod.tp AT at h;have b:0<=Gy p.d p.sy k/\Gy p.d p.sy k<=(p.d.length:Int):=by unfold Gy;split<;>omega
 unfold AT;rw[X'];omega
theorem F8(h:p.tp):p.start.tp/\p.start.up=true/\p.start.done=0/\p.start.ae=[]:=by
 have b:De p.d p.sy=0:=if_pos h;have c:=YK p.d p.d.length;unfold Nod.start;rw[if_neg (λe=>e b)];split
 .refine⟨?_,rfl,rfl,rfl⟩;show AT (JM p.d p.sy) (Ms p.d p.sy);unfold JM Ms;have a:AT p.d p.sy:=h;rw[if_pos a,if_pos a];unfold Nod.tp AT at h;unfold AT;rw[X'];unfold Er;split<;>omega
 .exact⟨h,rfl,rfl,rfl⟩
theorem j0(A:Alw)(i:Nat):NInv A i (λ_=>True) (λ_=>True) Nod.tp where
 take:=λ_ p l h _ _ _=>by
  unfold Nod.take;split
  .split
   .exact OA h _ _
   .exact Mi h l.jv
  .simp only;split<;>exact h
  .exact h
  .split
   .exact OA h _ _
   .exact PN h l.cn
  .exact XW h _ _
  .split<;>exact h
  .simp only;split<;>exact Sp h l.hZ
  .exact h
 one:=λp c h _ _ _=>by unfold Nod.gC;split<;>exact h
 ask:=λp h _=>⟨by
  unfold Nod.ln;split
  .exact h
  .split
   .unfold Nod.eb;split<;>exact h
   .exact h,λ_ _=>trivial⟩
 prop:=λp h _=>by
  unfold Nod.cF;split
  .exact h
  .split
   .exact h
   .split
    .exact h
    .exact PN h _
 rJ:=λp h _=>by
  unfold Nod.rJ;split
  .show AT (Hr p.d p.sy) (Ir p.d p.sy);unfold Hr Ir;have b:AT p.d p.sy:=h;rw[if_pos b,if_pos b];unfold Nod.tp AT at h;unfold AT;omega
  .exact h
 run:=λp q l h _ _ _=>⟨by
  have a:=DJ p i q;show AT (p.lp i q).d (p.lp i q).sy;rw[a.2.2.1,a.2.2.2];exact h,λ_ _=>trivial⟩
 rG:=λp h _ _=>⟨h,λ_ _=>trivial⟩
 lead:=λ_ p h _=>by
  unfold Nod.lead;simp only;split
  .exact h
  .exact Mi h _
 sub:=λp d e h _ _=>by
  unfold Nod.rO Nod.rQ;split
  .exact h
  .split
   .exact h
   .split
    .exact h
    .show(Nod.want _ _).tp;unfold Nod.want;split<;>exact h
 mv:=λ_ p k h a _=>(I7 h a).1
 start:=λ_ p h _=>(F8 h).1
def jG:Alw:=⟨true,true,true,true⟩
theorem ce(x:Lac):jG.Ok x:=⟨λ_=>rfl,λ_=>rfl,λ_=>rfl,λ_=>rfl⟩
theorem Ue(L:List Lac)(h:∀ x∈L,LacOk x)(c:L.length<=100000){i:Nat}(a:i<5):((As.dT L).ab i).tp :=
 (GInv.dT (R:=λ_=>True) (D:=λ_ _=>True) (Q:=λ_=>True) (P:=λ_=>Nod.tp) (λi _=>j0 jG i) (λi _=>TInv.all i _ _) L MOk.zero (by omega) ⟨λ_ _=>(by show AT [] 0;decide),λ_ _=>trivial⟩ trivial λx b=>⟨h x b,ce x,λ_=>trivial⟩).1.ab i a
theorem Vq(M:Meet){i:Nat}(b:i<5)(a:(M.ab i).tp)(j:Nat):((M.act (acN 9 (i:Int))).ab j).up=if j=i then true else(M.ab j).up:=by
 show(upN M.ab (i:Int).toNat _ j).up=_;unfold upN;rw[nt];split
 .split
  .assumption
  .exact(F8 a).2.1
 .rfl
theorem X1(M:Meet){x:Lac}(c:x.k≠8){j:Nat}(a:(M.ab j).up=true):((M.act x).ab j).up=true:=by
 by_cases b:x.k=1
 .have:=congrArg Prod.fst (js M b j);split at this
  .exact this.trans a
  .exact this.trans a
 .by_cases h9:x.k=9
  .unfold Meet.act;simp only;rw[if_neg b,if_neg (by omega),if_neg (by omega),if_neg (by omega),if_neg (by omega),if_neg (by omega),if_pos h9,Jf];split
   .rename_i e;rw[<- e,if_pos a];exact a
   .exact a
  .exact(congrArg Prod.fst (gp M b c h9 j)).trans a
theorem bZ(L:List Lac)(a:∀ x∈L,x.k≠8)(M:Meet){j:Nat}(b:(M.ab j).up=true):((M.dT L).ab j).up=true:=by
 induction L generalizing M with
 | nil=>exact b
 | cons x L ih=>exact ih (λy c=>a y (I' _ c)) _ (X1 M (a x O') b)
theorem AB(M:Meet)(L K:List Lac):M.dT (L++K)=(M.dT L).dT K:=o0
theorem Fc{n:Int}(h:(k=2\/k=3\/k=9)/\0<=n/\n<=4):LacOk (acN k n):=by
 rw[<- DP];rcases h with⟨rfl|rfl|rfl,h1,h2⟩<;>simp[dF,acN,Gi,Iw,Ix]<;>omega
theorem LS{P:Lac->Prop}(h:∀ n:Nat,n<5->P (acN k (n:Int))){j:Nat}(c:j<=5):∀ x∈AE k j,P x:=by
 intro x b;obtain⟨n,a,rfl⟩:=mY.1 b;exact h n (by have:=oQ.1 a;omega)
theorem LA{P:Lac->Prop}(b:∀ n:Nat,n<5->P (acN 3 (n:Int)))(c:P (acN 7 0))(m:Nat):∀ x∈Al m,P x:=by
 induction m with
 | zero=>intro x a;cases a
 | succ m ih =>
  intro x a;rcases Q'.1 a with h|h
  .exact ih x h
  .rcases Q'.1 h with h|h
   .exact LS b (A' _) x h
   .rw[D'.1 h];exact c
theorem Mv{P:Lac->Prop}(c:∀ n:Nat,n<5->P (acN 9 (n:Int)))(a:∀ n:Nat,n<5->P (acN 3 (n:Int)))(b:P (acN 7 0))(m:Nat):∀ x∈Dw m,P x:=by
 intro x d;rcases Q'.1 d with h|h
 .exact LS c (A' _) x h
 .exact LA a b m x h
theorem P7(m:Nat):∀ x∈Dw m,LacOk x:=Mv (λn a=>Fc ⟨.inr (.inr rfl),by omega,by omega⟩) (λn a=>Fc ⟨.inr (.inl rfl),by omega,by omega⟩) (by rw[<- DP];decide) m
theorem jg(L:List Lac)(h:∀ x∈L,LacOk x)(m:Nat)(o:L.length+6*m+5<=100000){j:Nat}(b:j<5):((As.dT (L++Dw m)).ab j).up=true:=by
 unfold Dw;rw[<- mK,AB];refine bZ _ (LA (λ_ _=>by show(3:Int)≠8;decide) (by decide) m) _ ?_;have d:∀ k,k<=5->j<k->((As.dT (L++AE 9 k)).ab j).up=true:=by
  intro k;induction k with
  | zero=>intro _ h;omega
  | succ k ih =>
   intro l c;have a:∀ x∈L++AE 9 k,LacOk x:=λx g=>(Q'.1 g).elim (h x) λe=>LS (λn p=>Fc ⟨.inr (.inr rfl),by omega,by omega⟩) (by omega) x e;have f:=Ue (L++AE 9 k) a (by rw[H',YQ];omega) (i:=k) (by omega);rw[BT,<- mK,AJ,Vq _ (by omega) f];split
   .rfl
   .exact ih (by omega) (by omega)
 exact d 5 (A' _) b
theorem Rn{P:Lac->Prop}(c:∀ n:Nat,n<5->P (acN 9 (n:Int)))(a:∀ n:Nat,n<5->P (acN 3 (n:Int)))(b:P (acN 7 0)){i:Int}(e:P (acN 2 i))(l:List Lac):∀ x∈Es l i,P x:=by
 have d:∀ m,∀ x∈Cz m i,P x:=λm x hx=>by
  rcases Q'.1 hx with hx|hx
  .rcases Q'.1 hx with hx|hx
   .exact Mv c a b 0 x hx
   .rw[D'.1 hx];exact e
  .exact Mv c a b m x hx
 intro x hx;exact(Q'.1 hx).elim (d _ x) (d _ x)
theorem aF(l:List Lac)(i:Int):(Es l i).length<=1222+240*l.length:=by
 have b:(l.filter hvy).length<=l.length:=pz _ _;have a:∀ m,(Dw m).length=5+6*m:=λm=>by unfold Dw;rw[H',Id];rfl
 unfold Es Cz Fw;simp only[H',a,nE];omega
structure Wh where
 d:Nat->List Int->Prop
 ld:Prop
 cr:Prop
 dr:Prop
 tk:Prop
 st:Prop
def Wh.may(D:Wh)(x:Lac):Prop:=(x.k=1->D.d x.n.toNat x.d)/\(x.k=2->D.ld)/\(x.k=8->D.cr)/\(x.k=4\/x.k=5\/x.k=6\/x.k=7->D.dr/\D.tk)/\(x.k=9->D.st)
inductive Stp (D:Wh):Nat->Meet->Meet->Prop
 | take (M:Meet) (l:Let) (hl:l∈M.br) (hd:l.src<5/\l.dst<5) (hu:(M.ab l.dst).up=true) (ht:D.tk):Stp D 0 M (M.set l.dst ((M.ab l.dst).take l) M.br M.ew)
 | br (M:Meet) (ls:List Let) (h:∀ l∈ls,l∈M.br) (hd:D.dr):Stp D 0 M { M with br:=ls }
 | one (M:Meet) (i:Nat) (c:Cmd) (hi:i<5) (hu:(M.ab i).up=true) (hc:(M.ab i).ae[(M.ab i).done]?=some c) (he:doE (M.ab i).nn c=0) :
   Stp D 0 M (M.set i (Nod.gC { M.ab i with nn:=doS (M.ab i).nn c,done:=(M.ab i).done+1 } c) M.br (if((M.ab i).cl c).isSome=true then M.ew++[⟨i,c.c,c.s,doC (M.ab i).nn c,doA (M.ab i).nn c⟩]else M.ew))
 | ask (M:Meet) (i:Nat) (hi:i<5) (hu:(M.ab i).up=true):Stp D 0 M (M.set i ((M.ab i).ln i).1 (M.br++((M.ab i).ln i).2) M.ew)
 | prop (M:Meet) (i:Nat) (hi:i<5) (hu:(M.ab i).up=true):Stp D 1 M (M.set i (M.ab i).cF M.br M.ew)
 | rJ (M:Meet) (i:Nat) (hi:i<5) (hu:(M.ab i).up=true) (h:(M.ab i).sy<((M.ab i).d.length:Int)) (hT:AT (M.ab i).d (M.ab i).sy):Stp D 0 M (M.set i { M.ab i with sy:=((M.ab i).d.length:Int) } M.br M.ew)
 | run (M:Meet) (i:Nat) (hi:i<5) (hu:(M.ab i).up=true) (q:Pend) (l:List Pend) (hp:(M.ab i).bw=q::l) (hs:¬ (M.ab i).sy<((M.ab i).d.length:Int)):Stp D 0 M (M.set i { (M.ab i).lp i q with bw:=l } (M.br++(M.ab i).rE i q) M.ew)
 | rG (M:Meet) (i:Nat) (hi:i<5) (hu:(M.ab i).up=true) (hL:(M.ab i).leads=true):Stp D 0 M (M.set i (EI (M.ab i) i 5) (M.br++Dx (M.ab i) i 5) M.ew)
 | lead (M:Meet) (i:Nat) (hi:i<5) (hu:(M.ab i).up=true) (hL:D.ld):Stp D 0 M (M.set i ((M.ab i).lead i) M.br M.ew)
 | sub (M:Meet) (i:Nat) (d:List Int) (hi:i<5) (hu:(M.ab i).up=true) (hD:D.d i d):Stp D 0 M (M.set i ((M.ab i).rO i d M.ew).1 M.br ((M.ab i).rO i d M.ew).2)
 | mv (M:Meet) (i:Nat) (k:Int) (hi:i<5) (hu:(M.ab i).up=true) (hk:0<=k) (hC:D.cr):Stp D 0 M (M.set i ((M.ab i).mv k) M.br M.ew)
 | start (M:Meet) (i:Nat) (hi:i<5) (hu:(M.ab i).up=false) (hs:D.st):Stp D 0 M (M.set i (M.ab i).start M.br M.ew)
inductive Sts (D:Wh):Nat->Meet->Meet->Prop
 | nil (n:Nat) (M:Meet):Sts D n M M
 | snoc {n c m:Nat} {M N K:Meet} (h:Sts D n M N) (s:Stp D c N K) (hm:n+c<=m):Sts D m M K
end
section
variable{D:Wh}
section
variable{K M N:Meet}{i m n:Nat}{α:Type}
theorem Sts.mono(h:Sts D n M N)(a:n<=m):Sts D m M N:=by
 cases h with
 | nil=>exact .nil m M
 | snoc h s hm=>exact .snoc h s (by omega)
theorem Sts.trans(h:Sts D n M N)(k:Sts D m N K):Sts D (n+m) M K:=by
 induction k with
 | nil=>exact h.mono (by omega)
 | snoc _ s hm ih=>exact(ih h).snoc s (by omega)
theorem Sts.s0(h:Sts D n M N)(s:Stp D 0 N K):Sts D n M K:=h.snoc s (A' _)
theorem Stp.s(h:Stp D 0 M N):Sts D n M N:=(Sts.nil n M).s0 h
theorem Sts.inv{I:Meet->Prop}(b:∀ c M N,Stp D c M N->I M->I N){n:Nat}{M N:Meet}(h:Sts D n M N)(a:I M):I N:=by
 induction h with
 | nil=>exact a
 | snoc _ s _ ih=>exact b _ _ _ s (ih a)
theorem MU(f:Nat->α)(i:Nat):upN f i (f i)=f:=by funext j;unfold upN;split<;>simp_all
theorem Vc(f:Nat->α)(i:Nat)(x y:α):upN (upN f i x) i y=upN f i y:=by funext j;unfold upN;split<;>rfl
theorem Ci(M:Meet)(i:Nat)(p q:Nod)(c a:List Let)(d b:List Tol):(M.set i p c d).set i q a b=M.set i q a b:=by unfold Meet.set;simp only[Vc]
theorem Bj(M:Meet)(i:Nat)(p:Nod)(a:List Let)(b:List Tol):(M.set i p a b).ab i=p:=Dg M.ab i p
theorem Et(M:Meet)(l:Let):(M.pd l).br=M.br:=by unfold Meet.pd;split<;>rfl
theorem NY(M:Meet)(l:Let)(a:List Let):({ M with br:=a }:Meet).pd l={ M.pd l with br:=a }:=by
 unfold Meet.pd;show(if(M.ab l.dst).up=true then _ else _)=_;split<;>rfl
theorem H9(l:List Let)(M:Meet)(a:List Let):l.foldl (λM l=>M.pd l) ({ M with br:=a }:Meet)={ l.foldl (λM l=>M.pd l) M with br:=a }:=by
 induction l generalizing M with
 | nil=>rfl
 | cons x l ih=>rw[rj,NY,ih];rfl
theorem Sts.pd(c:D.tk){n:Nat}{M N:Meet}(h:Sts D n M N){l:Let}(b:l∈N.br)(a:l.src<5/\l.dst<5):Sts D n M (N.pd l):=by
 unfold Meet.pd;split
 .rename_i hu;exact h.s0 (.take N l b a hu c)
 .exact h
theorem Sts.comes(c:D.tk)(l:List Let){n:Nat}{M N:Meet}(h:Sts D n M N)(a:∀ m∈l,m∈N.br/\m.src<5/\m.dst<5):Sts D n M (l.foldl (λM l=>M.pd l) N):=by
 induction l generalizing N with
 | nil=>exact h
 | cons x l ih=>exact ih (h.pd c (a x O').1 (a x O').2) λm b=>by rw[Et];exact a m (I' _ b)
theorem Sts.rK(k:i<5)(l:List Cmd)(p:Nod){M:Meet}{d:List Let}{a:List Tol}(h:Sts D n M (M.set i p d a))(b:p.up=true)(g:p.ae.drop p.done=l) :
  Sts D n M (M.set i (rK i l p a).1 d (Go.Proofs.YtdnmoonbpfmijaaGreatDoor.rK i l p a).2)/\(Go.Proofs.YtdnmoonbpfmijaaGreatDoor.rK i l p a).1.up=true:=by
 induction l generalizing p a with
 | nil=>exact⟨h,b⟩
 | cons c l ih =>
  rw[Go.Proofs.YtdnmoonbpfmijaaGreatDoor.rK];split
  .exact⟨h,b⟩
  .rename_i he
   have j:p.ae[p.done]?=some c:=by have:=congrArg (·[0]?) g;simpa using this
   have f:=Ec { p with nn:=doS p.nn c,done:=p.done+1 } c;have e:=Bj M i p d a;have s:=Stp.one (D:=D) (M.set i p d a) i c k (by rw[e];exact b) (by rw[e];exact j) (by rw[e];exact mF.1 he);rw[e,Ci]at s
   refine ih _ (h.s0 s) (f.1.trans b) ?_;rw[f.2.1,f.2.2.1];show p.ae.drop (p.done+1)=l;rw[<- pm,g];rfl
theorem Sts.pf(g:i<5)(l:List Pend)(p:Nod){M:Meet}{ls:List Let}{ts:List Tol}(h:Sts D n M (M.set i { p with bw:=l } ls ts))(b:p.up=true)(f:p.bw=[])(c:¬ p.sy<(p.d.length:Int)) :
  Sts D n M (M.set i (pf i l p ls).1 (Go.Proofs.YtdnmoonbpfmijaaGreatDoor.pf i l p ls).2 ts)/\(Go.Proofs.YtdnmoonbpfmijaaGreatDoor.pf i l p ls).1.up=true:=by
 induction l generalizing p ls with
 | nil =>
  have:({ p with bw:=[] }:Nod)=p:=by cases p;simp_all
  rw[this]at h;exact⟨h,b⟩
 | cons q l ih =>
  have a:=DJ p i q;have e:=Bj M i { p with bw:=q::l } ls ts;have s:=Stp.run (D:=D) (M.set i { p with bw:=q::l } ls ts) i g (by rw[e];exact b) q l (by rw[e]) (by rw[e];exact c);rw[e,Ci,OF,Mz]at s
  exact ih (p.lp i q) (h.s0 s) (a.2.1.trans b) (a.1.trans f) (by rw[a.2.2.1,a.2.2.2];exact c)
theorem Sts.piece(c:i<5)(M:Meet)(x:(M.ab i).up=true):Sts D 1 M (M.set i ((M.ab i).piece i M.br M.ew).1 ((M.ab i).piece i M.br M.ew).2.1 ((M.ab i).piece i M.br M.ew).2.2):=by
 have w:Sts D 0 M (M.set i (M.ab i) M.br M.ew):=by rw[show M.set i (M.ab i) M.br M.ew=M by unfold Meet.set;rw[MU]];exact .nil 0 M
 obtain⟨q,l⟩:=Sts.rK c _ (M.ab i) w x rfl;unfold Nod.piece;simp only;generalize Go.Proofs.YtdnmoonbpfmijaaGreatDoor.rK i ((M.ab i).ae.drop (M.ab i).done) (M.ab i) M.ew=a at q l ⊢;have e:=Bj M i a.1 M.br a.2;have s:=Stp.ask (D:=D) (M.set i a.1 M.br a.2) i c (by rw[e];exact l);rw[e,Ci]at s
 have t:=q.s0 s;have n:=(I2 a.1 i).trans l;clear e s q;generalize (a.1.ln i)=b at t n ⊢;have e:=Bj M i b.1 (M.br++b.2) a.2;have s:=Stp.prop (D:=D) (M.set i b.1 (M.br++b.2) a.2) i c (by rw[e];exact n);rw[e,Ci]at s
 have g:=t.snoc s (m:=1) (by omega);have h:=(ED b.1).trans n;clear e s t;change Sts D 1 M (M.set i b.1.cF (M.br++b.2) a.2)at g;generalize b.1.cF=r at g h ⊢;generalize M.br++b.2=k at g ⊢;have j:Sts D 1 M (M.set i (r.ov i k).1 (r.ov i k).2 a.2)/\(r.ov i k).1.up=true:=by
  unfold Nod.ov;split
  .exact⟨g,h⟩
  .rename_i hn
   have e:=Bj M i r k a.2;unfold Nod.rJ;split
   .rename_i h1
    have o:De r.d r.sy=0:=mF.1 λe=>hn ⟨h1,e⟩;have p:AT r.d r.sy:=by
     unfold De at o;split at o
     .assumption
     .cases o
    have s:=Stp.rJ (D:=D) (M.set i r k a.2) i c (by rw[e];exact h) (by rw[e];exact h1) (by rw[e];exact p);rw[e,Ci]at s
    have u:Hr r.d r.sy=r.d:=if_pos p;have v:Ir r.d r.sy=(r.d.length:Int):=if_pos p;rw[u,v];exact Sts.pf c r.bw { r with sy:=(r.d.length:Int),bw:=[] } (g.s0 s) h rfl (qJ _)
   .rename_i h1
    exact Sts.pf c r.bw { r with bw:=[] } g h rfl h1
 generalize r.ov i k=f at j ⊢;unfold Nod.bN;split
 .rename_i hL
  have e:=Bj M i f.1 f.2 a.2;have s:=Stp.rG (D:=D) (M.set i f.1 f.2 a.2) i c (by rw[e];exact j.2) (by rw[e];exact hL);rw[e,Ci]at s
  exact j.1.s0 s
 .exact j.1
theorem EX(M:Meet)(i:Nat):M.set i (M.ab i) M.br M.ew=M:=by unfold Meet.set;rw[MU]
theorem OW(g:MOk n M){x:Lac}(v:LacOk x)(j:D.may x):Sts D 1 M (M.act x):=by
 obtain⟨j,y,z,i,A⟩:=j;have b:∀ {k:Int},x.k=k->Gi k=true->x.n.toNat<5:=λ{k} e w=>by have:=v.n (by rw[e];exact w);omega
 unfold Meet.act;simp only;split
 .rename_i h1
  by_cases c:(M.ab x.n.toNat).up=true
  .exact(Stp.sub M _ x.d (b h1 rfl) c (j h1)).s
  .unfold Nod.rO Nod.rQ;rw[if_pos (by simpa using c)];rw[EX];exact .nil 1 M
 .split
  .rename_i hk
   split
   .rename_i c;exact(Stp.lead M _ (b hk rfl) c (y hk)).s
   .rw[EX];exact .nil 1 M
  .split
   .rename_i h3
    by_cases c:(M.ab x.n.toNat).up=true
    .rw[if_pos c,if_pos c,if_pos c];exact Sts.piece (b h3 rfl) M c
    .rw[if_neg c,if_neg c,if_neg c,EX];exact .nil 1 M
   .split
    .rename_i hk4
     obtain⟨o,r⟩:=i (by omega);unfold Meet.move;split
     .exact .nil 1 M
     .rename_i l q
      have f:=mU q;have B:=And.intro (g.br l f).src (g.br l f).dst;have u:∀ N:Meet,Sts D 1 M N->N.br=M.br->Sts D 1 M (if x.k≠6 then{ N with br:=M.br.eraseIdx (x.a.toNat%M.br.length) }else N):=λN h e=>by
       split
       .exact h.s0 (.br N _ (λm f=>by rw[e];exact pH f) o)
       .exact h
      simp only;split
      .have:=u (M.pd l) ((Sts.nil 1 M).pd r f B) (Et M l);by_cases t:x.k≠6
       .rw[if_pos t]at this ⊢;rw[NY];exact this
       .rw[if_neg t]at this ⊢;exact this
      .exact u M (.nil 1 M) rfl
    .split
     .rename_i hk7
      unfold Meet.rI;rw[H9];exact(Sts.comes (i (by omega)).2 M.br (.nil 1 M) λm f=>⟨f,(g.br m f).src,(g.br m f).dst⟩).s0 (.br _ [] (λl q=>by cases q) (i (by omega)).1)
     .split
      .rename_i hk
       split
       .rename_i c;exact(Stp.mv M _ x.p (b hk rfl) c (v.p (by rw[hk];rfl)).1 (z hk)).s
       .rw[EX];exact .nil 1 M
      .split
       .rename_i h9
        split
        .rw[EX];exact .nil 1 M
        .rename_i c;exact(Stp.start M _ (b h9 rfl) (by simpa using c) (A h9)).s
       .exact .nil 1 M
theorem I1(L:List Lac){n:Nat}{M:Meet}(b:MOk n M)(d:n+L.length<=1000000)(c:∀ x∈L,LacOk x/\D.may x):Sts D L.length M (M.dT L):=by
 induction L generalizing n M with
 | nil=>exact .nil _ M
 | cons x L ih =>
  have a:=c x O';rw[np]at d
  rw[np,Nat.add_comm];exact(OW b a.1 a.2).trans (ih (b.act (by omega) a.1) (by omega) λy e=>c y (I' _ e))
end
end
section
def whT:Wh:=⟨λ_ _=>True,True,True,True,True,True⟩
theorem Vl(x:Lac):whT.may x:=⟨λ_=>trivial,λ_=>trivial,λ_=>trivial,λ_=>⟨trivial,trivial⟩,λ_=>trivial⟩
inductive Rk where
 | pr (b:Bal)
 | vt (v:Vt)
def Rk.body:Rk->List Int
 | .pr b=>Bx b
 | .vt v=>Bl v
def Rk.ap(a:Acc):Rk->Acc
 | .pr b=>⟨b,a.vs⟩
 | .vt v=>⟨v.b,Bp a.vs v⟩
def Rk.err(a:Acc):Rk->Int
 | .pr b=>Cl a b
 | .vt v=>Bb a v
def Rk.ok(a:Acc):Rk->Prop
 | .pr b=>Cl a b=0/\a.p≠b
 | .vt v=>Bb a v=0/\v∉a.vs
variable{D:Wh}{K R:Int}{M N:Meet}{a:Acc}{b:Bal}{dr qs rs rs':List Rk}{i j n:Nat}{l:List Cmd}{p:Nod}{q:Pend}{r:Rk}{v:Vt}{vs:List Vt}
theorem Rk.ok.err(h:Rk.ok a r):Rk.err a r=0:=by cases r<;>exact h.1
def B3(rs:List Rk):Acc:=rs.foldl Rk.ap a0
theorem BU(a:List Rk)(r:Rk):B3 (a++[r])=Rk.ap (B3 a) r:=by unfold B3;rw[o0];rfl
def AR(rs:List Rk):Prop:=∀ i r,rs[i]?=some r->Rk.ok (B3 (rs.take i)) r
theorem AR.nil:AR []:=λi r h=>by simp at h
theorem AR.left(h:AR (rs++qs)):AR rs:=λi r e=>by
 have a:=(U'.1 e).1;have:=h i r (by rw[mS a];exact e)
 rwa [mX (by omega)]at this
theorem AR.pre(h:AR qs)(a:rs <+: qs):AR rs:=by obtain⟨x,rfl⟩:=a;exact h.left
theorem AR.snoc(h:AR rs)(a:Rk.ok (B3 rs) r):AR (rs++[r]):=λi q e=>by
 rcases nG i rs.length with hi|hi
 .rw[mS hi]at e
  rw[mX (by omega)];exact h i q e
 .have:=(U'.1 e).1;rw[H',nE]at this
  obtain rfl:i=rs.length:=by omega
  rw[mT (A' _)]at e
  simp at e;subst e;rw[mX (A' _),oh];exact a
theorem AR.last(h:AR (rs++[r])):Rk.ok (B3 rs) r:=by
 have:=h rs.length r (by simp)
 rwa [mX (A' _),oh]at this
theorem AR.ind{P:List Rk->Prop}(b:P [])(c:∀ a r,AR a->Rk.ok (B3 a) r->P a->P (a++[r])){a:List Rk}(h:AR a):P a:=by
 have:∀ k,k<=a.length->P (a.take k):=by
  intro k;induction k with
  | zero=>intro _;exact b
  | succ k ih =>
   intro d;have e:a.take (k+1)=a.take k++[a[k]]:=by rw[mW (by omega)]
   rw[e];exact c _ _ (h.pre (pl _ _)) (h k _ (G' (by omega))) (ih (by omega))
 have:=this a.length (A' _)
 rwa [oh]at this
theorem Ag.uh(h:Ag a)(c:Ab b)(i:¬ b.lt a.p):Ag ⟨b,a.vs⟩:=by
 refine⟨.inl c,λv d=>⟨(h.2.1 v d).1,λg=>?_⟩,h.2.2⟩;have e:=(h.2.1 v d).1.2.1;have f:=(h.2.1 v d).2;rw[Fg c.pr e.pr]at g
 rw[Fg h.1 e.pr]at f
 rw[Fg c.pr h.1]at i
 omega
theorem Ag.ti(h:Ag a)(d:Ah v)(e:¬ v.b.lt a.p):Ag ⟨v.b,Bp a.vs v⟩:=by
 refine⟨.inl d.2.1,λu c=>?_,J9 v h.2.2⟩;rcases(BC h.2.2).1 c with rfl|⟨c,_⟩
 .refine⟨d,λg=>?_⟩;change u.b.lt u.b at g;unfold Bal.lt at g;omega
 .exact(h.uh d.2.1 e).2.1 u c
theorem KU:Ag a0:=⟨.inr ⟨rfl,rfl⟩,λv a=>(P' a).elim,trivial⟩
theorem Rk.may(h:Ag a){r:Rk}(c:Rk.err a r=0):Ag (Rk.ap a r):=by
 cases r with
 | pr b=>have:=Cq c;exact h.uh this.2.1 this.2.2
 | vt v=>have:=Ap c;exact h.ti this.2.1 this.2.2
theorem AR.acc(h:AR rs):Ag (B3 rs):=h.ind (P:=λrs=>Ag (B3 rs)) KU λrs r _ a b=>by rw[BU];exact Rk.may b a.err
theorem Bq{a:Bal}(c:Ao a)(d:Ao b)(h:¬ a.lt b):b.key<=a.key:=by rw[Fg c d]at h;omega
theorem Rk.sA(h:Ag a){r:Rk}(c:Rk.err a r=0):a.p.key<=(Rk.ap a r).p.key:=by
 cases r with
 | pr b=>have:=Cq c;exact Bq this.2.1.pr h.1 this.2.2
 | vt v=>have:=Ap c;exact Bq this.2.1.2.1.pr h.1 this.2.2
theorem Jd(h:AR rs):∀ v∈(B3 rs).vs,Rk.vt v∈rs:=h.ind (P:=λrs=>∀ v∈(B3 rs).vs,Rk.vt v∈rs) (λv a=>by cases a) λrs r d e c v a=>by
 rw[BU]at a
 cases r with
 | pr b=>exact mI _ (c v a)
 | vt u =>
  rcases(BC d.acc.2.2).1 a with rfl|⟨a,_⟩
  .exact mG _ O'
  .exact mI _ (c v a)
theorem Ag.le(h:Ag a){v:Vt}(c:v∈a.vs):v.b.key<=a.p.key:=Bq h.1 (h.2.1 v c).1.2.1.pr (h.2.1 v c).2
theorem LR(h:Ag a){v:Vt}(f:Bb a v=0){u:Vt}(c:u∈a.vs):∃ x∈Bp a.vs v,x.bu=u.bu/\u.b.key<=x.b.key:=by
 have d:=Ap f;by_cases e:u.bu=v.bu
 .exact⟨v,(BC h.2.2).2 (.inl rfl),e.symm,na (h.le c) (Bq d.2.1.2.1.pr h.1 d.2.2)⟩
 .exact⟨u,(BC h.2.2).2 (.inr ⟨c,e⟩),rfl,mE _⟩
theorem Rg(h:AR rs):∀ v,Rk.vt v∈rs->v.b.key<=(B3 rs).p.key/\∃ u∈(B3 rs).vs,u.bu=v.bu/\v.b.key<=u.b.key:=h.ind (P:=λrs=>∀ v,Rk.vt v∈rs->v.b.key<=(B3 rs).p.key/\∃ u∈(B3 rs).vs,u.bu=v.bu/\v.b.key<=u.b.key) (λv hv=>by cases hv) λrs r c a e v hv=>by
 have d:=Rk.sA c.acc a.err;rw[BU];rcases Q'.1 hv with hv|hv
 .obtain⟨h1,u,h2,h3,h4⟩:=e v hv;refine⟨na h1 d,?_⟩;cases r with
  | pr b=>exact⟨u,h2,h3,h4⟩
  | vt w =>
   obtain⟨x,f,g,i⟩:=LR c.acc a.err h2;exact⟨x,f,g.trans h3,na h4 i⟩
 .rw[<- D'.1 hv]at a ⊢
  exact⟨mE _,v,(BC c.acc.2.2).2 (.inl rfl),rfl,mE _⟩
theorem DI(h:AR (rs++qs)):(B3 rs).p.key<=(B3 (rs++qs)).p.key/\∀ v,Rk.vt v∈qs->(B3 rs).p.key<=v.b.key:=by
 have:∀ k,k<=qs.length->(B3 rs).p.key<=(B3 (rs++qs.take k)).p.key/\∀ v,Rk.vt v∈qs.take k->(B3 rs).p.key<=v.b.key:=by
  intro k;induction k with
  | zero=>intro _;rw[n7,mZ];exact⟨mE _,λv hv=>by cases hv⟩
  | succ k ih =>
   intro i;obtain⟨c,g⟩:=ih (by omega);have e:qs.take (k+1)=qs.take k++[qs[k]]:=by rw[mW (by omega)]
   have a:AR (rs++qs.take k++[qs[k]]):=h.pre (by rw[mK,<- e];exact List.prefix_append_right_inj rs |>.2 (pl _ _));have d:=Rk.sA a.left.acc a.last.err;rw[<- BU]at d
   rw[e,<- mK];refine⟨na c d,λv hv=>?_⟩;rcases Q'.1 hv with hv|hv
   .exact g v hv
   .have hl:=a.last;rw[<- D'.1 hv]at hl
    have f:=Ap hl.err;exact na c (Bq f.2.1.2.1.pr a.left.acc.1 f.2.2)
 have:=this qs.length (A' _)
 rwa [oh]at this
def fl(rs:List Rk):List Int:=AF (rs.map Rk.body)
theorem db(a:List Rk)(r:Rk):fl (a++[r])=fl a++AN r.body:=by unfold fl;rw[ng,CH];simp[AF]
theorem Sy(b a:List Rk):fl (b++a)=fl b++fl a:=by unfold fl;rw[ng,CH]
theorem Yz(h:rs <+: qs):(fl rs).length<=(fl qs).length:=by obtain⟨x,rfl⟩:=h;rw[Sy,H'];omega
theorem jV(h:rs <+: qs)(a:(fl qs).length<=(fl rs).length):rs=qs:=by
 obtain⟨x,rfl⟩:=h;rw[Sy,H']at a
 have:=Qt (x.map Rk.body);rw[mV]at this
 unfold fl at a;obtain rfl:x=[]:=Z' (by omega);rw[mZ]
theorem AR.uj(h:AR rs):Chn ((List.range (rs.length+1)).map λj=>B3 (rs.take j)) (rs.map Rk.body):=by
 refine⟨by simp,by simp[B3],λi b a c g f l=>?_⟩;simp only[nz,oz]at g f l;obtain⟨r,e,rfl⟩:=g;obtain⟨j,n,rfl⟩:=f;obtain⟨k,o,rfl⟩:=l;have m:=(U'.1 e).1;rw[oK (by omega)]at n o
 cases n;cases o;have d:=(h i r e).err;have p:rs[i]=r:=by rw[G' m]at e;exact ny e
 rw[mW m,BU,p];generalize B3 (rs.take i)=a at d ⊢;cases r with
 | pr b=>show DX a (Bx b)=_;rw[Yn a (Cq d).2.1];exact if_pos d
 | vt v=>show DX a (Bl v)=_;rw[Yo a (Ap d).2.1];exact if_pos d
structure TpU(p:Nod)(dr rs:List Rk):Prop where
 ok:AR rs
 pre:dr <+: rs
 d:p.d=fl rs
 sy:p.sy=((fl dr).length:Int)
 vo:p.vo=B3 rs
 len:p.d.length<=100000
structure TpD(p:Nod)(dr:List Rk):Prop where
 ok:AR dr
 sO:Er p.d=((fl dr).length,B3 dr)
 tk:p.d.take (fl dr).length=fl dr
 sy:p.sy=(p.d.length:Int)
 len:p.d.length<=100000
theorem TpU.sm(h:TpU p dr rs):AT p.d p.sy:=by
 have:=Yz h.pre;have:=h.d;refine⟨h.len,by rw[h.sy];omega,?_⟩;rw[h.sy,h.d];omega
theorem TpU.zero:TpU Dc [] []:=⟨AR.nil,mJ _,rfl,rfl,rfl,by decide⟩
theorem TpU.all(h:TpU p dr rs)(a:¬ p.sy<(p.d.length:Int)):dr=rs:=jV h.pre (by rw[h.sy,h.d]at a;omega)
theorem TpU.mv(h:TpU p dr rs){k:Int}(u:0<=k):∃ dr',dr <+: dr'/\dr' <+: rs/\TpD (p.mv k) dr':=by
 have o:=h.sm;have b:Gx p.d p.sy k=0:=by unfold Gx;rw[if_neg (λe=>e o),if_neg (by omega)]
 have f:=o;unfold AT at f;have t:p.sy<=Gy p.d p.sy k/\Gy p.d p.sy k<=(p.d.length:Int):=by unfold Gy;split<;>omega
 obtain⟨j,a,r,l,m,n,h5⟩:=h.ok.uj.uc (Gy p.d p.sy k).toNat;rw[mV]at r h5
 rw[nz,oK (by omega)]at l
 obtain rfl:B3 (rs.take j)=a:=by simpa using l
 have i:AF ((rs.map Rk.body).take j)=fl (rs.take j):=by unfold fl;rw[qi]
 rw[i]at m n
 have c:(p.mv k).d=(fl rs).take (Gy p.d p.sy k).toNat:=by
  unfold Nod.mv;rw[if_neg (λe=>e b)];show KD p.d p.sy k=_;unfold KD;rw[if_pos b,h.d]
 have s:(p.mv k).sy=Gy p.d p.sy k:=by
  unfold Nod.mv;rw[if_neg (λe=>e b)];show KE p.d p.sy k=_;unfold KE;rw[if_pos b]
 have q:((fl rs).take (Gy p.d p.sy k).toNat).length=(Gy p.d p.sy k).toNat:=by rw[X',<- h.d];omega
 refine⟨rs.take j,?_,pl _ _,h.ok.pre (pl _ _),by rw[c];exact m,?_,?_,?_⟩
 .obtain⟨x,hx⟩:=h.pre;rcases nG j dr.length with g|g
  .exfalso;rcases h5 with h5|h5
   .rw[<- hx,H']at h5;omega
   .have hp:rs.take (j+1) <+: dr:=by rw[<- hx,mX (by omega)];exact pl _ _
    have:=Yz hp;rw[show AF ((rs.map Rk.body).take (j+1))=fl (rs.take (j+1))by unfold fl;rw[qi]]at h5
    have:=h.sy;omega
  .rw[<- hx,List.take_append];rw[mN g];exact nZ _ _
 .rw[c,po,nU n];have e:fl rs=fl (rs.take j)++fl (rs.drop j):=by rw[<- Sy,nH]
  rw[show(fl rs).take (fl (rs.take j)).length=(fl (rs.take j)++fl (rs.drop j)).take (fl (rs.take j)).length by rw[<- e],mX (A' _),oh]
 .rw[s,c,q];omega
 .rw[c,q];have:=h.len;omega
theorem TpD.start(h:TpD p dr):TpU p.start dr dr:=by
 have c:AT p.d p.sy:=⟨h.len,by rw[h.sy];omega,by rw[h.sy];omega⟩;have g:De p.d p.sy=0:=if_pos c;have i:ND p.d p.sy=((fl dr).length:Int):=by unfold ND;rw[if_pos c,h.sO]
 have j:GF p.d p.sy=B3 dr:=by unfold GF;rw[if_pos c,h.sO]
 have a:=UP p.d;rw[h.sO]at a
 have a:(fl dr).length<=p.d.length:=a;have f:=h.len;unfold Nod.start;rw[if_neg (λe=>e g),i,j];split
 .rename_i hlt
  have b:JM p.d p.sy=fl dr:=by unfold JM;rw[if_pos c,h.sO];exact h.tk
  have k:Ms p.d p.sy=((fl dr).length:Int):=by unfold Ms;rw[if_pos c,h.sO];exact if_pos (by rw[h.sy];exact hlt)
  exact⟨h.ok,mJ _,b,k,rfl,by show(JM p.d p.sy).length<=_;rw[b];omega⟩
 .rename_i hge
  have b:p.d=fl dr:=by have:=h.tk;rwa [mN (by omega)]at this
  exact⟨h.ok,mJ _,b,by show p.sy=_;rw[h.sy,<- b],rfl,f⟩
theorem TpU.rJ(h:TpU p dr rs):TpU { p with sy:=(p.d.length:Int) } rs rs:=⟨h.ok,mJ _,h.d,by show(p.d.length:Int)=_;rw[h.d],h.vo,h.len⟩
def Nod.tv(p:Nod)(d:List Int)(s:Int)(a:Acc):Nod:={ p with d:=d,sy:=s,vo:=a }
theorem TpU.write(h:TpU p dr rs){r:Rk}(a:Rk.ok p.vo r)(b:p.d.length+(r.body.length+5)<=100000):TpU (p.tv (p.d++AN r.body) p.sy (Rk.ap p.vo r)) dr (rs++[r]):=by
 rw[h.vo]at a
 refine⟨h.ok.snoc a,h.pre.trans (nZ _ _),?_,h.sy,?_,?_⟩
 .show p.d++_=_;rw[h.d,db]
 .show Rk.ap p.vo r=_;rw[h.vo,BU]
 .show(p.d++AN r.body).length<=_;rw[H',Bi];omega
theorem TpU.au(h:TpU p dr rs)(b:Bal):((p.au b).2.2≠0/\(p.au b).1=p) \/
  ((p.au b).2.2=0/\Cl p.vo b=0/\(p.au b).2.1=p.vo.vs/\∃ rs',rs <+: rs'/\TpU (p.au b).1 dr rs'/\(∀ v,Rk.vt v∈rs'↔Rk.vt v∈rs)/\(B3 rs').p=b/\(B3 rs').vs=p.vo.vs/\∃ d a,(p.au b).1=p.tv d p.sy a):=by
 unfold Nod.au;split
 .rename_i c;exact .inl ⟨c,rfl⟩
 .rename_i c
  have c:=mF.1 c;split
  .rename_i h2
   refine .inr ⟨rfl,c,rfl,rs,mJ _,?_,λ_=>Iff.rfl,?_,?_,p.d,p.vo,?_⟩
   .rw[h2];exact h
   .rw[<- h.vo];exact h2.symm
   .rw[<- h.vo]
   .rw[h2];rfl
  .rename_i h2
   split
   .rename_i f;exact .inl ⟨f,rfl⟩
   .rename_i f
    have f:=mF.1 f;have j:=Kd f;have g:Gj p.d p.sy (Ab b) (Bx b)=p.d++AN (Bx b):=if_pos f;have i:GV p.d p.sy (Ab b) (Bx b)=p.sy:=if_pos f;rw[g,i];refine .inr ⟨rfl,c,rfl,rs++[Rk.pr b],nZ _ _,(h.write (r:=.pr b) ⟨c,λe=>h2 e.symm⟩ j.2.1),λv=>by simp,?_,?_,_,_,rfl⟩
    .rw[BU];rfl
    .rw[BU,h.vo];rfl
theorem VS{l:List Vt}(h:BN l){v:Vt}(hv:v∈l):Bp l v=l:=by
 induction l with
 | nil=>cases hv
 | cons u us ih =>
  rw[Bp];rcases mO.1 hv with rfl|hv
  .rw[if_neg (qJ _),if_pos rfl]
  .rw[if_pos (h.1 v hv),ih h.2 hv]
theorem TpU.cn(h:TpU p dr rs)(v:Vt):((p.cn v).2≠0/\(p.cn v).1=p) \/
  ((p.cn v).2=0/\Bb p.vo v=0/\∃ rs',rs <+: rs'/\TpU (p.cn v).1 dr rs'/\(∀ u,Rk.vt u∈rs'↔u=v\/Rk.vt u∈rs)/\(B3 rs').p=v.b/\∃ d a,(p.cn v).1=p.tv d p.sy a):=by
 unfold Nod.cn;split
 .rename_i c;exact .inl ⟨c,rfl⟩
 .rename_i c
  have c:=mF.1 c;have i:=Ap c;split
  .rename_i h2
   have m:=i.1.le h2;have l:=Bq i.2.1.2.1.pr i.1.1 i.2.2;have e:v.b=p.vo.p:=DO i.2.1.2.1.pr i.1.1 (by omega);have j:(⟨v.b,Bp p.vo.vs v⟩:Acc)=p.vo:=by rw[VS i.1.2.2 h2,e]
   rw[j];refine .inr ⟨rfl,c,rs,mJ _,h,λu=>⟨.inr,λhu=>?_⟩,by rw[<- h.vo];exact e.symm,p.d,p.vo,rfl⟩;rcases hu with rfl|hu
   .exact Jd h.ok u (by rw[<- h.vo];exact h2)
   .exact hu
  .rename_i h2
   split
   .rename_i f;exact .inl ⟨f,rfl⟩
   .rename_i f
    have f:=mF.1 f;have n:=Kd f;have k:Gj p.d p.sy (Ah v) (Bl v)=p.d++AN (Bl v):=if_pos f;have j:GV p.d p.sy (Ah v) (Bl v)=p.sy:=if_pos f;rw[k,j];refine .inr ⟨rfl,c,rs++[Rk.vt v],nZ _ _,h.write (r:=.vt v) ⟨c,h2⟩ n.2.1,λu=>?_,by rw[BU];rfl,_,_,rfl⟩;rw[Q',D'];exact⟨λg=>g.elim .inr λe=>.inl (Rk.vt.inj e),λg=>g.elim (λe=>.inr (by rw[e])) .inl⟩
structure Gs where
 dr:Nat->List Rk
 W:Bal->Nat->Cmd->Prop
def Gs.held(σ:Gs)(n:Nat)(v:Vt):Prop:=Rk.vt v∈σ.dr n
def Gs.H(σ:Gs)(n s:Nat)(b:Int)(c:Cmd):Prop:=∃ v,σ.held n v/\v.bu=(s:Int)/\v.b.key=b/\v.w=c
def Gs.P(σ:Gs)(n:Nat):Int:=(B3 (σ.dr n)).p.key
def Gs.rW(σ:Gs)(v:Vt):Prop:=Ah v/\σ.W v.b v.bu.toNat v.w
def Gs.sK(σ:Gs)(s:Nat)(c:Cmd):Prop:=∃ b,Ch σ.H s b c
structure GsI(σ:Gs):Prop where
 ok:∀ n,AR (σ.dr n)
 sI:PInv σ.H σ.P
 w1:∀ b s c c',σ.W b s c->σ.W b s c'->c=c'
 w2:∀ b s c,σ.W b s c->Ab b/\Ez σ.H σ.P s b.key c
 w3:∀ b s c,σ.W b s c->b.key<=σ.P b.n.toNat
 hv:∀ n v,σ.held n v->σ.rW v
structure Gs.le(σ τ:Gs):Prop where
 pre:∀ n,σ.dr n <+: τ.dr n
 W:∀ b s c,σ.W b s c->τ.W b s c
theorem Gs.le.refl(σ:Gs):σ.le σ:=⟨λ_=>mJ _,λ_ _ _ h=>h⟩
variable{σ τ:Gs}
theorem Gs.le.trans{υ:Gs}(h:σ.le τ)(k:τ.le υ):σ.le υ:=⟨λn=>(h.pre n).trans (k.pre n),λb s c g=>k.W b s c (h.W b s c g)⟩
theorem Gs.le.held(h:σ.le τ){n:Nat}{v:Vt}(g:σ.held n v):τ.held n v:=(h.pre n).subset g
theorem Gs.le.H(h:σ.le τ){n s:Nat}{b:Int}{c:Cmd}(g:σ.H n s b c):τ.H n s b c:=by obtain⟨v,a,d⟩:=g;exact⟨v,h.held a,d⟩
theorem Gs.le.rW(h:σ.le τ){v:Vt}(g:σ.rW v):τ.rW v:=⟨g.1,h.W _ _ _ g.2⟩
theorem Gs.le.sK(h:σ.le τ){s:Nat}{c:Cmd}(g:σ.sK s c):τ.sK s c:=by obtain⟨b,Q,a,d⟩:=g;exact⟨b,Q,a,λq f e=>h.H (d q f e)⟩
theorem Gs.le.P(h:σ.le τ)(a:GsI τ)(n:Nat):σ.P n<=τ.P n:=by
 obtain⟨x,b⟩:=h.pre n;have:=a.ok n;unfold Gs.P;rw[<- b]at this ⊢
 exact(DI this).1
structure Gs.sP(i:Nat)(σ τ:Gs):Prop where
 le:σ.le τ
 new:∀ b s c,τ.W b s c->σ.W b s c\/b.n=(i:Int)
 uo:∀ n,n≠i->τ.dr n=σ.dr n
theorem Gs.sP.refl(i:Nat)(σ:Gs):Gs.sP i σ σ:=⟨.refl σ,λ_ _ _ h=>.inl h,λ_ _=>rfl⟩
def Gs.ext(σ:Gs)(i:Nat)(qs:List Rk):Gs:=⟨upN σ.dr i (σ.dr i++qs),σ.W⟩
theorem Ic(σ:Gs)(i:Nat)(a:List Rk):(σ.ext i a).dr i=σ.dr i++a:=Dg _ _ _
theorem L9(σ:Gs){i n:Nat}(a:List Rk)(h:n≠i):(σ.ext i a).dr n=σ.dr n:=D3 _ _ h
theorem Pi(σ:Gs)(i:Nat)(a:List Rk):Gs.sP i σ (σ.ext i a):=⟨⟨λn=>by
 by_cases e:n=i
 .subst e;rw[Ic];exact nZ _ _
 .rw[L9 σ a e];exact mJ _,λ_ _ _ h=>h⟩,λ_ _ _ h=>.inl h,λn h=>L9 σ a h⟩
theorem Qr(σ:Gs)(i:Nat)(r:Rk):(σ.ext i [r]).P=upP σ.P i (Rk.ap (B3 (σ.dr i)) r).p.key:=by
 funext n
 unfold Gs.P upP;split
 .rename_i e;subst e;rw[Ic,BU]
 .rename_i e;rw[L9 σ _ e]
theorem IF:(σ.ext i qs).held n v↔σ.held n v\/(n=i/\Rk.vt v∈qs):=by
 unfold Gs.held;by_cases e:n=i
 .subst e;rw[Ic,Q'];simp
 .rw[L9 σ qs e];simp[e]
theorem GsI.ua(h:GsI σ){i:Nat}{r:Rk}(D:Rk.ok (B3 (σ.dr i)) r)(F:∀ v,r=.vt v->σ.rW v):GsI (σ.ext i [r]):=by
 have l:=(h.ok i).acc;have t:=Rk.sA l D.err;have f:=(Pi σ i [r]).le;have q:∀ n,AR ((σ.ext i [r]).dr n):=λn=>by
  by_cases e:n=i
  .subst e;rw[Ic];exact(h.ok n).snoc D
  .rw[L9 σ _ e];exact h.ok n
 have d:σ.P i<=(Rk.ap (B3 (σ.dr i)) r).p.key:=t;have B:∀ n,σ.P n<=(σ.ext i [r]).P n:=λn=>by rw[Qr];exact MV d n
 have o:∀ n v,(σ.ext i [r]).held n v->(σ.ext i [r]).rW v:=λn v g=>by
  rcases IF.1 g with g|⟨_,g⟩
  .exact f.rW (h.hv n v g)
  .exact f.rW (F v (D'.1 g).symm)
 cases r with
 | pr b =>
  have j:(σ.ext i [.pr b]).H=σ.H:=by
   funext n s a c
   exact propext ⟨λ⟨v,g,k⟩=>⟨v,(IF.1 g).resolve_right λe=>by simp at e,k⟩,λ⟨v,g,k⟩=>⟨v,f.held g,k⟩⟩
  refine⟨q,?_,h.w1,λa s c g=>⟨(h.w2 a s c g).1,?_⟩,λa s c g=>na (h.w3 a s c g) (B _),o⟩
  .rw[j,Qr];exact h.sI.au d
  .rw[j,Qr];exact(h.w2 a s c g).2.up d
 | vt v =>
  obtain⟨z,C⟩:=F v rfl;have I:v.bu=(v.bu.toNat:Int):=by have:=z.1;omega
  have j:(σ.ext i [.vt v]).H=gv σ.H i v.bu.toNat v.b.key v.w:=by
   funext n s a c
   refine propext ⟨λ⟨u,g,G,x,y⟩=>?_,λg=>?_⟩
   .rcases IF.1 g with g|⟨g1,g2⟩
    .exact .inl ⟨u,g,G,x,y⟩
    .have e:u=v:=Rk.vt.inj (D'.1 g2);subst e;exact .inr ⟨g1,by omega,x.symm,y.symm⟩
   .rcases g with⟨u,g,k⟩|⟨rfl,rfl,rfl,rfl⟩
    .exact⟨u,f.held g,k⟩
    .exact⟨v,IF.2 (.inr ⟨rfl,D'.2 rfl⟩),I,rfl,rfl⟩
  refine⟨q,?_,h.w1,λa s c g=>⟨(h.w2 a s c g).1,?_⟩,λa s c g=>na (h.w3 a s c g) (B _),o⟩
  .rw[j,Qr];refine h.sI.cn d (by have:=z.2.1.pos;show 0<v.b.key;omega) (h.w2 _ _ _ C).2 λm J ⟨u,g,G,x,y⟩=>?_;have E:=h.hv m u g;have e:u.b=v.b:=DO E.1.2.1.pr z.2.1.pr x;have A:=E.2;rw[e,show u.bu.toNat=v.bu.toNat by omega,y]at A
   exact h.w1 _ _ _ _ A C
  .rw[j,Qr];exact(h.w2 a s c g).2.cn d
theorem cX(σ:Gs)(i:Nat)(r:Rk)(a:List Rk):(σ.ext i [r]).ext i a=σ.ext i (r::a):=by unfold Gs.ext;simp only[Dg,Vc,mK,List.singleton_append]
theorem GsI.ext(h:GsI σ){i:Nat}(a:List Rk)(b:AR (σ.dr i++a))(c:∀ v,Rk.vt v∈a->σ.rW v):GsI (σ.ext i a):=by
 induction a generalizing σ with
 | nil =>
  have:σ.ext i []=σ:=by unfold Gs.ext;rw[mZ,MU]
  rw[this];exact h
 | cons r a ih =>
  rw[<- cX];have d:AR (σ.dr i++[r]):=b.pre ⟨a,by simp⟩;refine ih (h.ua d.last λv e=>c v (by rw[e];exact O')) ?_ λv g=>(Pi σ i [r]).le.rW (c v (I' _ g));rw[Ic,mK];exact b
structure PrmOk(dr:List Rk)(b:Bal)(vs:List Vt):Prop where
 le:b.key<=(B3 dr).p.key
 sub:∀ v∈vs,Rk.vt v∈dr/\v.b.key<=b.key
 uf:∀ v,Rk.vt v∈dr->v.b.key<b.key->∃ u∈vs,u.bu=v.bu/\v.b.key<=u.b.key
 acc:Ag ⟨b,vs⟩
theorem PrmOk.mono(h:PrmOk dr b vs)(e:dr <+: rs)(d:AR rs):PrmOk rs b vs:=by
 obtain⟨x,rfl⟩:=e;have c:=DI d;refine⟨na h.le c.1,λv hv=>⟨mI _ (h.sub v hv).1,(h.sub v hv).2⟩,λv hv a=>?_,h.acc⟩;rcases Q'.1 hv with hv|hv
 .exact h.uf v hv a
 .have:=c.2 v hv;have:=h.le;omega
theorem PrmOk.of(c:AR rs){b:Bal}{d:List Vt}(e:(B3 rs).p=b)(a:(B3 rs).vs=d):PrmOk rs b d:=by
 subst e a;exact⟨mE _,λv a=>⟨Jd c v a,c.acc.le a⟩,λv a _=>(Rg c v a).2,c.acc⟩
structure RdI(σ:Gs)(i:Nat)(r:Rnd):Prop where
 jv:r.jv=Bf\/(Ab r.jv/\r.jv.n=(i:Int))
 next:∀ s c,σ.W r.jv s c->s<r.next
 own:∀ j,j<5->r.rA j=true->r.jv.key<=σ.P i
 an:∀ j,j<5->∀ v∈(r.an j).vs,σ.held j v/\v.b.key<=r.jv.key/\(r.rA j=false->v.b=r.jv)
 prom:∀ j,j<5->r.rA j=true->r.jv.key<=σ.P j/\∀ v,σ.held j v->v.b.key<r.jv.key->∃ u∈(r.an j).vs,u.bu=v.bu/\v.b.key<=u.b.key
 acc:∀ j,j<5->Ag (r.an j)/\(r.rA j=true->(r.an j).p=r.jv)
def PnI(σ:Gs)(rs:List Rk)(r:Rnd):Pend->Prop
 | .began b vs=>PrmOk rs b vs/\b.key<=r.jv.key
 | .prom _ b vs=>PrmOk rs b vs/\b.key<=σ.P b.n.toNat
 | .voted _ v=>Rk.vt v∈rs
 | .prop v=>Rk.vt v∈rs
 | .fa _ b=>Ao b/\b.key<=(B3 rs).p.key
 | _=>True
structure UpI(σ:Gs)(i:Nat)(p:Nod)(rs:List Rk):Prop where
 tp:TpU p (σ.dr i) rs
 rW:∀ v,Rk.vt v∈rs->σ.rW v
 rd:RdI σ i p.av
 bp:p.av.jv.key<=p.vo.p.key
 pe:∀ q∈p.bw,PnI σ rs p.av q
def AgL(σ:Gs)(l:List Cmd)(k:Nat):Prop:=∀ s c,l[s]?=some c->σ.sK (k+s) c
structure NdI(σ:Gs)(i:Nat)(p:Nod):Prop where
 up:p.up=true->∃ rs,UpI σ i p rs
 dn:p.up=false->TpD p (σ.dr i)
 ag:AgL σ p.ae 0
structure LtI(σ:Gs)(l:Let):Prop where
 k0:l.kind=0->l.jv.key<=σ.P l.jv.n.toNat
 k1:l.kind=1->PrmOk (σ.dr l.src) l.jv l.ni/\l.jv.key<=σ.P l.jv.n.toNat/\AgL σ l.hZ 0
 k2:l.kind=2->Ao l.jv/\l.jv.key<=σ.P l.src
 k3:l.kind=3->σ.rW l.cn
 k4:l.kind=4->σ.held l.src l.cn
 k5:l.kind=5->AgL σ l.hZ l.bu
structure AgI(σ:Gs)(M:Meet):Prop where
 gs:GsI σ
 nd:∀ i,i<5->NdI σ i (M.ab i)
 lt:∀ l∈M.br,LtI σ l
theorem AgL.mono(h:σ.le τ){l:List Cmd}{k:Nat}(g:AgL σ l k):AgL τ l k:=λs c e=>h.sK (g s c e)
theorem RdI.mono(h:σ.le τ)(f:GsI τ){i:Nat}{r:Rnd}(g:RdI σ i r)(m:∀ s c,τ.W r.jv s c->s<r.next):RdI τ i r:=by
 refine⟨g.jv,m,λj a d=>na (g.own j a d) (h.P f i),λj a v e=>⟨h.held (g.an j a v e).1,(g.an j a v e).2⟩,λj a d=>⟨na (g.prom j a d).1 (h.P f j),λv e k=>?_⟩,g.acc⟩;obtain⟨x,n⟩:=h.pre j;have l:=f.ok j;have hv':Rk.vt v∈τ.dr j:=e;rw[<- n]at l hv'
 rcases Q'.1 hv' with hv'|hv'
 .exact(g.prom j a d).2 v hv' k
 .have h1:=(DI l).2 v hv';have o:=(g.prom j a d).1;have p:σ.P j<=v.b.key:=h1;omega
theorem PnI.mono(h:σ.le τ)(f:GsI τ){e a:List Rk}(c:e <+: a)(d:AR a){r r':Rnd}(i:r.jv.key<=r'.jv.key){q:Pend}(g:PnI σ e r q):PnI τ a r' q:=by
 cases q with
 | began b vs=>exact⟨g.1.mono c d,na g.2 i⟩
 | prom to b vs=>exact⟨g.1.mono c d,na g.2 (h.P f _)⟩
 | voted to v=>exact c.subset g
 | prop v=>exact c.subset g
 | fa to b=>obtain⟨x,rfl⟩:=c;exact⟨g.1,na g.2 (DI d).1⟩
 | _=>trivial
theorem NdI.mono(h:Gs.sP i σ τ)(a:GsI τ)(n:GsI σ)(d:j≠i){p:Nod}(g:NdI σ j p):NdI τ j p:=by
 have e:=h.uo j d;refine⟨λl=>?_,λb=>by rw[e];exact g.dn b,g.ag.mono h.le⟩;obtain⟨o,k⟩:=g.up l;refine⟨o,by rw[e];exact k.tp,λv m=>h.le.rW (k.rW v m),k.rd.mono h.le a λs c hW=>?_,k.bp,λq f=>(k.pe q f).mono h.le a (mJ _) k.tp.ok (mE _)⟩;rcases h.new _ _ _ hW with hW|hW
 .exact k.rd.next s c hW
 .rcases k.rd.jv with hb|⟨_,hb⟩
  .have:=(a.w2 _ _ _ ‹_›).1;rw[hb]at this
   exact absurd this (by decide)
  .rw[hb]at hW;omega
theorem LtI.mono(h:σ.le τ)(a:GsI τ){l:Let}(g:LtI σ l):LtI τ l :=
 ⟨λe=>na (g.k0 e) (h.P a _),λe=>⟨(g.k1 e).1.mono (h.pre _) (a.ok _),na (g.k1 e).2.1 (h.P a _),(g.k1 e).2.2.mono h⟩,λe=>⟨(g.k2 e).1,na (g.k2 e).2 (h.P a _)⟩,λe=>h.rW (g.k3 e),λe=>h.held (g.k4 e),λe=>(g.k5 e).mono h⟩
theorem AgI.set(h:AgI σ M){i:Nat}(b:Gs.sP i σ τ)(a:GsI τ){p:Nod}(g:NdI τ i p){ls:List Let}(d:∀ l∈ls,l∈M.br\/LtI τ l)(ts:List Tol):AgI τ (M.set i p ls ts) :=
 ⟨a,λj c=>by
  show NdI τ j (upN M.ab i p j);unfold upN;split
  .rename_i e;rw[e];exact g
  .rename_i e;exact(h.nd j c).mono b a h.gs e,λl f=>(d l f).elim (λk=>(h.lt l k).mono b.le a) id⟩
theorem Ud{r:Rnd}(h:∀ j,j<5->∀ v∈(r.an j).vs,σ.held j v){s:Nat}(a:Db r.kc (s:Int)=0):σ.sK s (CT r.kc (s:Int)):=by
 have k:CT r.kc (s:Int)=((Hp (D6 r.kc (s:Int)) r.kc.length).map (·.w)).getD ⟨0,0,0,0,0⟩:=if_pos a;unfold Db at a;split at a
 .cases a
 .split at a
  .cases a
  .rename_i d
   have d:=mF.1 d;split at a
   .rename_i hO
    obtain⟨v,g⟩:=nS.1 hO;rw[k,g];have m:=ri g;have i:5<2*BM (D6 r.kc (s:Int)) v:=nr m;have e:D6 r.kc (s:Int)=Ae (r.an 0).vs (s:Int)++(Ae (r.an 1).vs (s:Int)++(Ae (r.an 2).vs (s:Int)++(Ae (r.an 3).vs (s:Int)++Ae (r.an 4).vs (s:Int)))):=by
     unfold D6 Rnd.kc Ae;simp[List.filter_append]
    rw[e,CA,CA,CA,CA]at i
    have c:∀ j,j<5->BN (r.an j).vs:=λj l=>(d (r.an j) (by unfold Rnd.kc;rcases rC l with rfl|rfl|rfl|rfl|rfl<;>simp)).2.2;have o:=IQ (c 0 (by omega)) (s:Int) v;have p:=IQ (c 1 (by omega)) (s:Int) v;have t:=IQ (c 2 (by omega)) (s:Int) v;have u:=IQ (c 3 (by omega)) (s:Int) v;have x:=IQ (c 4 (by omega)) (s:Int) v;refine⟨v.b.key,λq=>decide (v∈(r.an q).vs/\v.bu=(s:Int)),?_,λq n f=>?_⟩
    .show 3<=(decide (v∈(r.an 0).vs/\v.bu=(s:Int))).toNat+(decide (v∈(r.an 1).vs/\v.bu=(s:Int))).toNat+(decide (v∈(r.an 2).vs/\v.bu=(s:Int))).toNat+(decide (v∈(r.an 3).vs/\v.bu=(s:Int))).toNat+(decide (v∈(r.an 4).vs/\v.bu=(s:Int))).toNat;omega
    .obtain⟨h1,h2⟩:=nr f;exact⟨v,h q n v h1,h2,rfl,rfl⟩
   .cases a
theorem AgL.snoc(h:AgL σ l 0){c:Cmd}(a:σ.sK l.length c):AgL σ (l++[c]) 0:=λs d e=>by
 rcases nG s l.length with g|g
 .rw[mS g]at e;exact h s d e
 .have:=(U'.1 e).1;rw[H',nE]at this
  obtain rfl:s=l.length:=by omega
  rw[mT (A' _)]at e
  simp at e;subst e;rw[nA];exact a
theorem UB{r:Rnd}(h:∀ j,j<5->∀ v∈(r.an j).vs,σ.held j v)(k:Nat){l:List Cmd}(a:AgL σ l 0):AgL σ (FP k r l) 0:=by
 induction k generalizing l with
 | zero=>exact a
 | succ k ih =>
  rw[FP];split
  .rename_i he;exact ih (a.snoc (Ud h he))
  .exact a
theorem Q7{b:List Cmd}{a:Nat}(d:AgL σ l 0)(f:AgL σ b a)(h:a<=l.length):AgL σ (l++b.drop (l.length-a)) 0:=λs c e=>by
 rcases nG s l.length with g|g
 .rw[mS g]at e;exact d s c e
 .rw[mT g,nQ]at e
  have:=f _ c e
  rwa [show a+(l.length-a+(s-l.length))=0+s by omega]at this
theorem VQ(a:Acc)(l:List Vt):∀ v∈(Dj a l).vs,v∈a.vs\/v∈l:=by
 induction l generalizing a with
 | nil=>exact λv b=>.inl b
 | cons u l ih =>
  intro v b;rw[Dj]at b
  rcases ih _ v b with h|h
  .by_cases he:Bb a u=0
   .rw[if_pos he]at h
    have h:v∈Bv a u:=h;rw[(DN he).2]at h
    rcases(BC (Ap he).1.2.2).1 h with rfl|⟨h,_⟩
    .exact .inr O'
    .exact .inl h
   .rw[if_neg he]at h;exact .inl h
  .exact .inr (I' _ h)
theorem VP(a:Acc)(l:List Vt):∀ u∈a.vs,∃ x∈(Dj a l).vs,x.bu=u.bu/\u.b.key<=x.b.key:=by
 induction l generalizing a with
 | nil=>exact λu d=>⟨u,d,rfl,mE _⟩
 | cons w l ih =>
  intro u d;rw[Dj];by_cases c:Bb a w=0
  .rw[if_pos c];obtain⟨x,e,f,g⟩:=LR (Ap c).1 c d;obtain⟨y,h,i,j⟩:=ih ⟨BJ a w,Bv a w⟩ x (by show x∈Bv a w;rw[(DN c).2];exact e);exact⟨y,h,i.trans f,na g j⟩
  .rw[if_neg c];exact ih a u d
theorem VO(a:Acc)(l:List Vt)(c:Ag a)(g:a.p=b)(h:∀ v∈l,v.b.key<=b.key):Ag (Dj a l)/\(Dj a l).p=b:=by
 induction l generalizing a with
 | nil=>exact⟨c,g⟩
 | cons u l ih =>
  rw[Dj];by_cases d:Bb a u=0
  .rw[if_pos d];have f:=Ap d;have e:u.b=b:=by
    have k:=Bq f.2.1.2.1.pr c.1 f.2.2;have m:=h u O';rw[g]at k
    exact DO f.2.1.2.1.pr (g▸c.1) (by omega)
   have j:(⟨BJ a u,Bv a u⟩:Acc)=⟨u.b,Bp a.vs u⟩:=by rw[(DN d).1,(DN d).2]
   rw[j];exact ih _ (c.ti f.2.1 f.2.2) e λv i=>h v (I' _ i)
  .rw[if_neg d];exact ih a c g λv i=>h v (I' _ i)
theorem RdI.rM{r:Rnd}(h:RdI σ i r){j:Nat}{vs:List Vt}(f:PrmOk (σ.dr j) r.jv vs)(s:r.jv.key<=σ.P i):RdI σ i (r.rM j vs):=by
 refine⟨h.jv,h.next,λ_ _ _=>s,λk c v a=>?_,λk c n=>?_,λk c=>?_⟩
 rotate_right
 .show Ag (upN r.an j (Dj ⟨r.jv,vs⟩ (r.an j).vs) k)/\(upN r.rA j true k=true->(upN r.an j (Dj ⟨r.jv,vs⟩ (r.an j).vs) k).p=r.jv);unfold upN;split
  .rename_i e;subst e
   have:=VO (b:=r.jv) ⟨r.jv,vs⟩ (r.an k).vs f.acc rfl λv a=>(h.an k c v a).2.1;exact⟨this.1,λ_=>this.2⟩
  .exact h.acc k c
 .have a:v∈(upN r.an j (Dj ⟨r.jv,vs⟩ (r.an j).vs) k).vs:=a;by_cases e:k=j
  .subst e;rw[Dg]at a
   rcases VQ _ _ v a with g|g
   .exact⟨(f.sub v g).1,(f.sub v g).2,λe=>by rw[show(r.rM k vs).rA k=true from Dg _ _ _]at e;cases e⟩
   .have:=h.an k c v g;exact⟨this.1,this.2.1,λe=>by rw[show(r.rM k vs).rA k=true from Dg _ _ _]at e;cases e⟩
  .rw[D3 _ _ e]at a
   have:=h.an k c v a;exact⟨this.1,this.2.1,λo=>this.2.2 (by rwa [show(r.rM j vs).rA k=r.rA k from D3 _ _ e]at o)⟩
 .by_cases e:k=j
  .subst e;refine⟨f.le,λv a d=>?_⟩;obtain⟨u,l,m,q⟩:=f.uf v a d;obtain⟨x,t,w,y⟩:=VP ⟨r.jv,vs⟩ (r.an k).vs u l;exact⟨x,by show x∈(upN r.an k _ k).vs;rw[Dg];exact t,w.trans m,na q y⟩
  .rw[show(r.rM j vs).rA k=r.rA k from D3 _ _ e]at n
   have:=h.prom k c n;exact⟨this.1,λv a d=>by
    obtain⟨u,l,m⟩:=this.2 v a d;exact⟨u,by show u∈(upN r.an j _ k).vs;rw[D3 _ _ e];exact l,m⟩⟩
theorem RdI.count{r:Rnd}(h:RdI σ i r){j:Nat}{v:Vt}(l:v.b=r.jv)(f:Bb (r.an j) v=0)(o:σ.held j v):RdI σ i { r with an:=upN r.an j ⟨BJ (r.an j) v,Bv (r.an j) v⟩ }:=by
 have d:=Ap f;have g:Bv (r.an j) v=Bp (r.an j).vs v:=(DN f).2;refine⟨h.jv,h.next,h.own,λk c u a=>?_,λk c n=>⟨(h.prom k c n).1,λu a m=>?_⟩,λk c=>?_⟩
 rotate_right
 .show Ag (upN r.an j ⟨BJ (r.an j) v,Bv (r.an j) v⟩ k)/\(r.rA k=true->(upN r.an j ⟨BJ (r.an j) v,Bv (r.an j) v⟩ k).p=r.jv);unfold upN;split
  .rw[(DN f).1,g];exact⟨d.1.ti d.2.1 d.2.2,λ_=>l⟩
  .exact h.acc k c
 .have a:u∈(upN r.an j ⟨BJ (r.an j) v,Bv (r.an j) v⟩ k).vs:=a;by_cases e:k=j
  .subst e;rw[Dg]at a
   have a:u∈Bv (r.an k) v:=a;rw[g]at a
   rcases(BC d.1.2.2).1 a with rfl|⟨a,_⟩
   .exact⟨o,by rw[l];exact mE _,λ_=>l⟩
   .exact h.an k c u a
  .rw[D3 _ _ e]at a;exact h.an k c u a
 .obtain⟨x,h1,h2,h3⟩:=(h.prom k c n).2 u a m;by_cases e:k=j
  .subst e;obtain⟨y,q,s,t⟩:=LR d.1 f h1;exact⟨y,by show y∈(upN r.an k _ k).vs;rw[Dg];show y∈Bv (r.an k) v;rw[g];exact q,s.trans h2,na h3 t⟩
  .exact⟨x,by show x∈(upN r.an j _ k).vs;rw[D3 _ _ e];exact h1,h2,h3⟩
theorem UpI.rk{q:Nod}(h:UpI σ i p rs)(b:q.d=p.d)(j:q.sy=p.sy)(c:q.vo=p.vo)(f:RdI σ i q.av)(a:q.av.jv=p.av.jv)(e:∀ x∈q.bw,x∈p.bw\/PnI σ rs q.av x):UpI σ i q rs :=
 ⟨⟨h.tp.ok,h.tp.pre,b.trans h.tp.d,j.trans h.tp.sy,c.trans h.tp.vo,by rw[b];exact h.tp.len⟩,h.rW,f,by rw[a,c];exact h.bp,λx k=>(e x k).elim (λg=>by
  have:=h.pe x g;cases x<;>first|exact this|exact trivial|(refine⟨this.1,?_⟩;first|exact this.2|(rw[a];exact this.2))) id⟩
theorem UpI.count(h:UpI σ i p rs)(a:AgL σ p.ae 0){j:Nat}{v:Vt}(d:σ.held j v):UpI σ i (p.count j v) rs/\AgL σ (p.count j v).ae 0:=by
 unfold Nod.count;split
 .exact⟨h,a⟩
 .rename_i b
  have b:=mF.1 b;split
  .exact⟨h,a⟩
  .rename_i he
   have c:=h.rd.count b (mF.1 he) d;exact⟨h.rk rfl rfl rfl c rfl λx g=>.inl g,UB (λj e v f=>(c.an j e v f).1) 41 a⟩
theorem NdI.mk'(b:p.up=true)(h:UpI σ i p rs)(a:AgL σ p.ae 0):NdI σ i p:=⟨λ_=>⟨rs,h⟩,λe=>(by rw[b]at e;cases e),a⟩
theorem AgL.nil(σ:Gs)(k:Nat):AgL σ [] k:=λs c e=>by simp at e
theorem AgL.drop(h:AgL σ l 0)(k:Nat):AgL σ (l.drop k) k:=λs c e=>by
 rw[nQ]at e
 have:=h _ c e
 rwa [nA]at this
theorem UpI.wait(h:UpI σ i p rs){x:Pend}(a:PnI σ rs p.av x):UpI σ i (p.wait x) rs :=
 h.rk rfl rfl rfl h.rd rfl λy b=>(Q'.1 b).imp id λe=>by rw[D'.1 e];exact a
theorem UpI.fa(h:UpI σ i p rs)(to:Nat)(e:Int):UpI σ i (p.fa to e) rs:=by
 unfold Nod.fa;split
 .exact h.wait (by show Ao p.vo.p/\p.vo.p.key<=_;rw[h.tp.vo];exact⟨h.tp.ok.acc.1,mE _⟩)
 .exact h
theorem O9(p:Nod)(to:Nat)(e:Int):(p.fa to e).ae=p.ae:=by unfold Nod.fa;split<;>rfl
theorem UpI.wrote{q:Nod}(h:UpI σ i p rs)(f:σ.le τ)(k:GsI τ)(e:τ.dr i=σ.dr i)(a:TpU q (σ.dr i) rs')(l:rs <+: rs')(n:∀ v,Rk.vt v∈rs'->τ.rW v){r:Rnd}(m:RdI τ i r)(b:p.av.jv.key<=r.jv.key)(c:r.jv.key<=q.vo.p.key){x:Pend}(o:PnI τ rs' r x)(j:q.bw=p.bw):UpI τ i (Nod.wait { q with av:=r } x) rs' :=
 ⟨by rw[e];exact⟨a.ok,a.pre,a.d,a.sy,a.vo,a.len⟩,n,m,c,λy s=>by
  rcases Q'.1 s with g|g
  .have g:y∈q.bw:=g;rw[j]at g
   exact(h.pe y g).mono f k l a.ok b
  .rw[D'.1 g];exact o⟩
theorem FM(h:UpI σ i p rs)(l:List Cmd):UpI σ i (p.eb l) rs/\(p.eb l).ae=p.ae:=by
 unfold Nod.eb;split
 .exact⟨h.rk rfl rfl rfl ⟨h.rd.jv,h.rd.next,h.rd.own,h.rd.an,h.rd.prom,h.rd.acc⟩ rfl λx a=>.inl a,rfl⟩
 .exact⟨h,rfl⟩
theorem Q6(h:UpI σ i p rs)(a:AgL σ p.ae 0):UpI σ i p.rF rs/\AgL σ p.rF.ae 0:=⟨h.rk rfl rfl rfl h.rd rfl λx d=>.inl d,UB (λj b v c=>(h.rd.an j b v c).1) 41 a⟩
theorem NdI.take(C:GsI σ){i:Nat}{p:Nod}(h:NdI σ i p)(D:p.up=true){l:Let}(u:LtI σ l)(G:l.src<5):NdI σ i (p.take l):=by
 obtain⟨f,k⟩:=h.up D;have c:=h.ag
 suffices g:∃ b,UpI σ i (p.take l) b/\AgL σ (p.take l).ae 0 by
  obtain⟨b,w,o⟩:=g;exact NdI.mk' ((congrArg Prod.fst (PH p l)).trans D) w o
 unfold Nod.take;split
 .rename_i hk
  rcases k.tp.au l.jv with⟨e,he⟩|⟨e,he,hvs,b,hp,ht,hm,hpb,hpv,d,a,hq⟩
  .rw[if_pos e];exact⟨f,k.fa _ _,by rw[O9];exact c⟩
  .rw[if_neg (λg=>g e)];have m:=Cq he;refine⟨b,?_,?_⟩
   .refine k.wrote (q:=(p.au l.jv).1) (r:=(p.au l.jv).1.av) (.refl σ) C rfl ht hp (λv B=>k.rW v ((hm v).1 B)) ?_ ?_ ?_ ⟨PrmOk.of ht.ok hpb (hpv.trans hvs.symm),u.k0 hk⟩ (by rw[hq];rfl)
    .rw[hq];exact k.rd
    .rw[hq];exact mE _
    .rw[ht.vo,hpb,hq];exact na k.bp (Bq m.2.1.pr m.1.1 m.2.2)
   .show AgL σ (p.au l.jv).1.ae 0;rw[hq];exact c
 .rename_i hk
  obtain⟨w,o,E⟩:=u.k1 hk;have y:AgL σ (p.lr 0 l.hZ).ae 0:=Q7 c E (nm _);have s:UpI σ i (p.lr 0 l.hZ) f:=k.rk rfl rfl rfl k.rd rfl λx j=>.inl j;generalize p.lr 0 l.hZ=K at y s ⊢;simp only;split
  .exact⟨f,s,y⟩
  .rename_i hc
   have A:K.leads=true:=by cases hh:K.leads with|true=>rfl|false=>exact absurd (.inl hh) hc
   have t:l.jv=K.av.jv:=mF.1 λe=>hc (.inr (.inl e));have z:K.av.jv≠Bf:=(nr A).1;rw[t]at w o
   have F:=(s.rd.jv.resolve_left z).2;rw[F,nt]at o
   have n:=s.rd.rM w o;exact⟨f,Q6 (p:={ K with av:={ K.av.rM l.src l.ni with bN:=upN K.av.bN l.src l.hZ.length } }) (s.rk rfl rfl rfl ⟨n.jv,n.next,n.own,n.an,n.prom,n.acc⟩ rfl λx j=>.inl j) y⟩
 .exact⟨f,k.rk rfl rfl rfl k.rd rfl λx j=>.inl j,c⟩
 .rename_i hk
  rcases k.tp.cn l.cn with⟨e,he⟩|⟨e,he,b,hp,ht,hm,hpb,d,a,hq⟩
  .rw[if_pos e];exact⟨f,k.fa _ _,by rw[O9];exact c⟩
  .rw[if_neg (λg=>g e)];have m:=Ap he;refine⟨b,?_,?_⟩
   .refine k.wrote (q:=(p.cn l.cn).1) (r:=(p.cn l.cn).1.av) (.refl σ) C rfl ht hp (λv B=>((hm v).1 B).elim (λe=>by rw[e];exact u.k3 hk) (k.rW v)) ?_ ?_ ?_ ((hm _).2 (.inl rfl)) (by rw[hq];rfl)
    .rw[hq];exact k.rd
    .rw[hq];exact mE _
    .rw[ht.vo,hpb,hq];exact na k.bp (Bq m.2.1.2.1.pr m.1.1 m.2.2)
   .show AgL σ (p.cn l.cn).1.ae 0;rw[hq];exact c
 .rename_i hk
  exact⟨f,k.count c (u.k4 hk)⟩
 .rename_i hk
  split
  .exact⟨f,k.wait trivial,c⟩
  .rename_i hlt;exact⟨f,k.rk rfl rfl rfl k.rd rfl λx j=>.inl j,Q7 c (u.k5 hk) (by omega)⟩
 .have:=FM k l.hZ;simp only;split
  .exact⟨f,this.1.wait trivial,by show AgL σ (p.eb l.hZ).ae 0;rw[this.2];exact c⟩
  .exact⟨f,this.1,by rw[this.2];exact c⟩
 .exact⟨f,k,c⟩
theorem Wy(W:GsI σ){i:Nat}{p:Nod}(h:RdI σ i p.av)(X:Ab p.av.jv)(Y:p.av.rH=true){s:Nat}(hs:p.av.next<=s){c:Cmd}(t:p.ry s=some c):Ez σ.H σ.P s p.av.jv.key c:=by
 have h5:5<2*Jz p.av.rA:=nr Y;have m:∀ j,j<5->∀ v∈(p.av.an j).vs,v.bu=(s:Int)->v∈Ae (p.av.kc.map (·.vs)).flatten (s:Int):=λj F v M e=>by
  refine AL.2 ⟨oJ.2 ⟨(p.av.an j).vs,mY.2 ⟨p.av.an j,?_,rfl⟩,M⟩,e⟩;unfold Rnd.kc;rcases rC F with rfl|rfl|rfl|rfl|rfl<;>simp
 refine⟨p.av.rA,by omega,λq n o=>(h.prom q n o).1,?_⟩;unfold Nod.ry at t;split at t
 .cases t
 .rename_i d
  have d:=mF.1 d;have D:Ea (p.av.kc.map (·.vs)) (s:Int)=(Eg (p.av.kc.map (·.vs)) (s:Int)).isSome:=if_pos d;have S:GD (p.av.kc.map (·.vs)) (s:Int)=((Eg (p.av.kc.map (·.vs)) (s:Int)).map (·.w)).getD ⟨0,0,0,0,0⟩:=if_pos d;have r:∀ l∈p.av.kc.map (·.vs),∀ v∈l,Ah v:=by
   unfold BY at d;split at d
   .cases d
   .split at d
    .assumption
    .cases d
  have L:∀ v∈Ae (p.av.kc.map (·.vs)).flatten (s:Int),Ao v.b:=λv M=>by
   obtain⟨l,k,f⟩:=oJ.1 (AL.1 M).1;exact(r l k v f).2.1.pr
  rcases Lo _ L with⟨h0,E⟩|⟨x,E,hx,hmax⟩
  .left;intro q n o U V ⟨v,g,R,Z,k3⟩;refine Int.not_lt.1 λz=>?_;obtain⟨u,k,f,_⟩:=(h.prom q n o).2 v g (by omega);have:=m q n u k (f.trans R);rw[h0]at this;cases this
  .right;have E:Eg (p.av.kc.map (·.vs)) (s:Int)=some x:=E;rw[E]at D S
   have D:Ea (p.av.kc.map (·.vs)) (s:Int)=true:=D;rw[if_pos D]at t
   have G:c=x.w:=(ny t).symm.trans S;obtain⟨O,Q⟩:=AL.1 hx;obtain⟨j,F,N⟩:∃ j,j<5/\x∈(p.av.an j).vs:=by
    obtain⟨l,k,f⟩:=oJ.1 O;obtain⟨a,C,rfl⟩:=mY.1 k;unfold Rnd.kc at C;simp only[mO,P',or_false]at C;rcases C with rfl|rfl|rfl|rfl|rfl
    .exact⟨0,by omega,f⟩
    .exact⟨1,by omega,f⟩
    .exact⟨2,by omega,f⟩
    .exact⟨3,by omega,f⟩
    .exact⟨4,by omega,f⟩
   obtain⟨y,I,J⟩:=h.an j F x N;have B:=W.hv j x y;have A:x.b≠p.av.jv:=λe=>by
    have k:=B.2;rw[e]at k
    have:=h.next _ _ k;omega
   have z:x.b.key<p.av.jv.key:=by
    rcases Int.lt_or_eq_of_le I with g|g
    .exact g
    .exact absurd (DO B.1.2.1.pr X.pr g) A
   have K:p.av.rA j=true:=by
    cases hh:p.av.rA j with
    | true=>rfl
    | false=>exact absurd (J hh) A
   refine⟨x.b.key,z,⟨j,F,K,x,y,Q,rfl,G.symm⟩,λq n o U V ⟨v,g,R,Z,k3⟩ T=>?_⟩;obtain⟨u,k,f,C⟩:=(h.prom q n o).2 v g (by omega);have:=hmax u (m q n u k (f.trans R));omega
def Gs.prop(σ:Gs)(b:Bal)(s:Nat)(c:Cmd):Gs:=⟨σ.dr,λb' s' c'=>σ.W b' s' c'\/(b'=b/\s'=s/\c'=c)⟩
theorem GsI.prop(h:GsI σ){b:Bal}{s:Nat}{c:Cmd}(e:Ab b)(d:Ez σ.H σ.P s b.key c)(f:b.key<=σ.P b.n.toNat)(a:∀ c',¬ σ.W b s c'):GsI (σ.prop b s c):=by
 refine⟨h.ok,h.sI,?_,?_,?_,λn v g=>⟨(h.hv n v g).1,.inl (h.hv n v g).2⟩⟩
 .rintro b' s' c1 c2 (g|⟨rfl,rfl,rfl⟩) (k|⟨e1,e2,e3⟩)
  .exact h.w1 _ _ _ _ g k
  .subst e1 e2;exact absurd g (a _)
  .exact absurd k (a _)
  .exact e3.symm
 .rintro b' s' c' (g|⟨rfl,rfl,rfl⟩)
  .exact h.w2 _ _ _ g
  .exact⟨e,d⟩
 .rintro b' s' c' (g|⟨rfl,rfl,rfl⟩)
  .exact h.w3 _ _ _ g
  .exact f
theorem NdI.cF(x:GsI σ){i:Nat}{p:Nod}(h:NdI σ i p)(E:p.up=true):∃ τ ex,Gs.sP i σ τ/\GsI τ/\NdI τ i p.cF/\(∀ b s c,τ.W b s c->σ.W b s c\/ex=some (b,s))/\∀ b s,ex=some (b,s)->s<40/\b=p.av.jv/\s=p.ae.length/\∀ c,τ.W b s c->p.ry s=some c:=by
 obtain⟨rs,k⟩:=h.up E;have f:∃ τ ex,Gs.sP i σ τ/\GsI τ/\NdI τ i p/\(∀ b s c,τ.W b s c->σ.W b s c\/ex=some (b,s))/\∀ b s,ex=some (b,s)->s<40/\b=p.av.jv/\s=p.ae.length/\∀ c,τ.W b s c->p.ry s=some c:=⟨σ,none,.refl i σ,x,h,λ_ _ _ h=>.inl h,λ_ _ e=>by cases e⟩;have o:=(ED p).trans E
 revert o
 unfold Nod.cF;split
 .exact λ_=>f
 .rename_i hc
  have z:p.leads=true:=by cases hh:p.leads with|true=>rfl|false=>exact absurd (.inl hh) hc
  have n:p.av.rH=true:=by cases hh:p.av.rH with|true=>rfl|false=>exact absurd (.inr (.inl hh)) hc
  have A:p.av.next<=p.ae.length:=Nat.not_lt.1 λe=>hc (.inr (.inr e));cases hn:p.ry p.ae.length with
  | none=>exact λ_=>f
  | some c =>
   simp only;rcases k.tp.cn ⟨(p.ae.length:Int),p.av.jv,c⟩with⟨e,he⟩|⟨e,he,rs',hp,ht,hm,hpb,d,a,w⟩
   .rw[if_pos e];exact λ_=>f
   .rw[if_neg (λg=>g e)];intro o;have F:=Ap he;have y:p.av.jv≠Bf:=(nr z).1;obtain⟨D,t⟩:=k.rd.jv.resolve_left y;have H:=Wy x k.rd D n A hn;have C:∀ l,¬ σ.W p.av.jv p.ae.length l:=λl g=>by have:=k.rd.next _ _ g;omega
    have I:p.av.jv.key<=σ.P i:=by
     obtain⟨q,w,G,_⟩:=G9 p.av.rA p.av.rA (by have:5<2*Jz p.av.rA:=nr n;omega) (by have:5<2*Jz p.av.rA:=nr n;omega);exact k.rd.own q w G
    have m:=x.prop D H (by rw[t,nt];exact I) C;have j:Gs.sP i σ (σ.prop p.av.jv p.ae.length c):=⟨⟨λ_=>mJ _,λ_ _ _ g=>.inl g⟩,λb s l g=>g.imp id λe=>by rw[e.1];exact t,λ_ _=>rfl⟩;have B:(σ.prop p.av.jv p.ae.length c).rW ⟨(p.ae.length:Int),p.av.jv,c⟩:=⟨F.2.1,.inr ⟨rfl,nt _,rfl⟩⟩;have K:=k.rd.mono (τ:=σ.prop p.av.jv p.ae.length c) (r:=p.av) j.le m;refine⟨_,some (p.av.jv,p.ae.length),j,m,NdI.mk' (rs:=rs') o ?_ ?_,λb s l g=>g.imp id λe=>by rw[e.1,e.2.1],λb s e=>?_⟩
    .refine k.wrote (q:=(p.cn ⟨(p.ae.length:Int),p.av.jv,c⟩).1) (r:={ p.av with next:=p.ae.length+1 }) j.le m rfl ht hp (λv J=>((hm v).1 J).elim (λe=>by rw[e];exact B) λg=>j.le.rW (k.rW v g)) ?_ (mE _) ?_ ((hm _).2 (.inl rfl)) (by rw[w];rfl)
     .have g:=k.rd;refine RdI.mono (σ:=σ) j.le m (r:={ p.av with next:=p.ae.length+1 }) ⟨g.jv,λs l u=>j' (g.next s l u) (by show p.av.next<=p.ae.length+1;omega),g.own,g.an,g.prom,g.acc⟩ λs l u=>?_;rcases u with u|⟨_,rfl,_⟩
      .exact j' (g.next s l u) (by show p.av.next<=p.ae.length+1;omega)
      .exact Nat.lt_succ_self _
     .rw[ht.vo,hpb];exact mE _
    .show AgL _ (p.cn ⟨(p.ae.length:Int),p.av.jv,c⟩).1.ae 0;rw[w];exact h.ag.mono j.le
    .cases e;have:=F.2.1.1.2;exact⟨by simp only at this;omega,rfl,rfl,λl g=>by
      rcases g with g|⟨_,_,g⟩
      .exact absurd g (C l)
      .rw[g];exact hn⟩
theorem LtI.none{l:Let}(h:l.kind=6):LtI σ l:=⟨λe=>by omega,λe=>by omega,λe=>by omega,λe=>by omega,λe=>by omega,λe=>by omega⟩
theorem LtI.news{l:Let}(h:l.kind=5)(a:AgL σ l.hZ l.bu):LtI σ l:=⟨λe=>by omega,λe=>by omega,λe=>by omega,λe=>by omega,λe=>by omega,λ_=>a⟩
theorem NdI.run(C:GsI σ){i:Nat}(H:i<5){p:Nod}(h:NdI σ i p)(j:p.up=true){q:Pend}{l:List Pend}(A:p.bw=q::l)(E:¬ p.sy<(p.d.length:Int)):NdI σ i { p.lp i q with bw:=l }/\∀ m∈p.rE i q,LtI σ m:=by
 obtain⟨B,k⟩:=h.up j;have f:=k.tp.all E;have c:=k.pe q (by rw[A];exact O');have t:∀ x∈l,x∈p.bw:=λx u=>by rw[A];exact I' _ u
 have o:∀ {p':Nod},UpI σ i p' B->p'.bw=p.bw->UpI σ i { p' with bw:=l } B:=λ{p'} g e=>g.rk rfl rfl rfl g.rd rfl λx u=>.inl (by rw[e];exact t x u);cases q with
 | began b vs =>
  unfold Nod.lp Nod.rE;simp only;split
  .exact⟨NdI.mk' j (o k rfl) h.ag,λm a=>by cases a⟩
  .rename_i e
   have e:=mF.1 e;obtain⟨w,G⟩:=c;have r:=k.tp.ok.acc;rw[<- k.tp.vo]at r
   have z:=k.bp;have y:p.av.jv=b:=by
    rw[<- e];refine DO ?_ r.1 (by rw[e]at z ⊢;omega);rcases k.rd.jv with g|g
    .rw[g];exact .inr ⟨rfl,rfl⟩
    .exact g.1.pr
   have s:b.key<=σ.P i:=by have:=w.le;rw[<- f]at this;exact this
   rw[<- f,<- y]at w
   rw[<- y]at s
   refine⟨NdI.mk' j (o (p':={ p with av:=p.av.rM i vs }) (k.rk rfl rfl rfl (k.rd.rM w s) rfl λx u=>.inl u) rfl) h.ag,λm a=>?_⟩;obtain⟨to,_,rfl⟩:=CJ a;refine⟨λ_=>?_,λe=>(by cases e),λe=>(by cases e),λe=>(by cases e),λe=>(by cases e),λe=>(by cases e)⟩;show b.key<=σ.P b.n.toNat;rw[<- y];rcases k.rd.jv with g|g
   .rw[g];have F:=(C.ok (Bf.n.toNat)).acc.1;have:0<=σ.P (Bf.n.toNat):=by
     unfold Ao Ab at F;unfold Gs.P Bal.key;omega
    exact this
   .rw[g.2,nt];exact s
 | prom to b vs =>
  refine⟨NdI.mk' j (o k rfl) h.ag,λm a=>?_⟩;rw[D'.1 a];refine⟨λe=>(by cases e),λ_=>⟨?_,c.2,h.ag⟩,λe=>(by cases e),λe=>(by cases e),λe=>(by cases e),λe=>(by cases e)⟩;show PrmOk (σ.dr i) b vs;rw[f];exact c.1
 | voted to v =>
  refine⟨NdI.mk' j (o k rfl) h.ag,λm a=>?_⟩;rw[D'.1 a];refine⟨λe=>(by cases e),λe=>(by cases e),λe=>(by cases e),λe=>(by cases e),λ_=>?_,λe=>(by cases e)⟩;show Rk.vt v∈σ.dr i;rw[f];exact c
 | fa to b =>
  refine⟨NdI.mk' j (o k rfl) h.ag,λm a=>?_⟩;rw[D'.1 a];refine⟨λe=>(by cases e),λe=>(by cases e),λ_=>?_,λe=>(by cases e),λe=>(by cases e),λe=>(by cases e)⟩;show Ao b/\b.key<=(B3 (σ.dr i)).p.key;rw[f];exact c
 | prop v =>
  have D:σ.held i v:=by show Rk.vt v∈σ.dr i;rw[f];exact c
  have g:=k.count h.ag D;refine⟨NdI.mk' ((congrArg Prod.fst (Lz p i v)).trans j) (o g.1 (DJ p i (.prop v)).1) g.2,λm a=>?_⟩;obtain⟨to,_,rfl⟩:=CJ a;exact⟨λe=>(by cases e),λe=>(by cases e),λe=>(by cases e),λ_=>k.rW v c,λe=>(by cases e),λe=>(by cases e)⟩
 | askNews to=>exact⟨NdI.mk' j (o k rfl) h.ag,λm a=>by rw[D'.1 a];exact LtI.none rfl⟩
 | start=>exact⟨NdI.mk' j (o k rfl) h.ag,λm a=>by obtain⟨to,_,rfl⟩:=CJ a;exact LtI.none rfl⟩
 | tell to bu=>exact⟨NdI.mk' j (o k rfl) h.ag,λm a=>by rw[D'.1 a];exact LtI.news rfl (h.ag.drop bu)⟩
theorem NdI.lead(w:GsI σ){i:Nat}(E:i<5){p:Nod}(h:NdI σ i p)(y:p.up=true):NdI σ i (p.lead i):=by
 obtain⟨rs,k⟩:=h.up y;have f:(p.lead i).up=true:=(congrArg Prod.fst (Pp p i)).trans y
 revert f
 unfold Nod.lead;simp only;generalize m:(⟨max p.dc p.vo.p.r+1,(i:Int)⟩:Bal)=b;rcases k.tp.au b with⟨e,he⟩|⟨e,he,hvs,rs',hp,ht,hm,hpb,hpv,d,a,hq⟩
 .rw[if_pos e];exact λ_=>h
 .rw[if_neg (λg=>g e)];intro f;have A:=Cq he;have C:p.vo.p.key<b.key:=by
   have:=A.1.1;rw[<- m];unfold Ao Ab at this;show 5*p.vo.p.r+p.vo.p.n<5*(max p.dc p.vo.p.r+1)+(i:Int);omega
  refine NdI.mk' (rs:=rs') f ?_ ?_
  .refine k.wrote (q:=(p.au b).1) (r:=⟨b,λ_=>false,λ_=>Ej,λ_=>p.ae.length,0,[]⟩) (.refl σ) w rfl ht hp (λv o=>k.rW v ((hm v).1 o)) ?_ ?_ ?_ ⟨PrmOk.of ht.ok hpb (hpv.trans hvs.symm),mE _⟩ (by rw[hq];rfl)
   .refine⟨.inr ⟨A.2.1,by rw[<- m]⟩,λs c B=>?_,λj _ e=>(by cases e),λj _ v o=>(by cases o),λj _ e=>(by cases e),λj _=>⟨KU,λe=>(by cases e)⟩⟩;have l:=w.w3 _ _ _ B;rw[show b.n.toNat=i by rw[<- m];exact nt i]at l
    obtain⟨x,z⟩:=k.tp.pre;have t:=k.tp.ok;rw[<- z]at t
    have u:=(DI t).1;rw[z,<- k.tp.vo]at u
    have D:σ.P i<=p.vo.p.key:=u;have l:b.key<=σ.P i:=l;omega
   .have:=k.bp;show _<=b.key;omega
   .rw[ht.vo,hpb];exact mE _
  .show AgL σ (p.au b).1.ae 0;rw[hq];exact h.ag
theorem JZ(k:Nat):∀ m∈Dx p i k,m.kind=5/\m.hZ=p.ae.drop m.bu:=by
 induction k with
 | zero=>intro m hm;cases hm
 | succ k ih =>
  intro m hm;rw[Dx]at hm
  rcases Q'.1 hm with hm|hm
  .exact ih m hm
  .split at hm
   .rw[D'.1 hm];exact⟨rfl,rfl⟩
   .cases hm
theorem AgI.sT(h:AgI σ M)(s:Stp D n M N):∃ τ ex,σ.le τ/\AgI τ N/\(∀ b s c,τ.W b s c->σ.W b s c\/ex=some (b,s))/\∀ b s,ex=some (b,s)->n=1/\s<40/\∃ i,i<5/\b=(M.ab i).av.jv/\(M.ab i).up=true/\s=(M.ab i).ae.length/\∀ c,τ.W b s c->(M.ab i).ry s=some c:=by
 have r:=h.gs;have done:∀ {i:Nat} {p:Nod} {G:List Let} {O:List Tol},NdI σ i p->(∀ l∈G,l∈M.br\/LtI σ l)->∃ τ ex,σ.le τ/\AgI τ (M.set i p G O)/\(∀ b s c,τ.W b s c->σ.W b s c\/ex=some (b,s))/\∀ b s,ex=some (b,s)->n=1/\s<40/\∃ i,i<5/\b=(M.ab i).av.jv/\(M.ab i).up=true/\s=(M.ab i).ae.length/\∀ c,τ.W b s c->(M.ab i).ry s=some c:=λ{i p G O} E f=>⟨σ,none,.refl σ,h.set (.refl _ σ) r E f O,λ_ _ _ h=>.inl h,λ_ _ e=>by cases e⟩;have same:∀ l∈M.br,l∈M.br\/LtI σ l:=λl f=>.inl f;have app:∀ {ms:List Let},(∀ m∈ms,LtI σ m)->∀ l∈M.br++ms,l∈M.br\/LtI σ l:=λg l f=>(Q'.1 f).imp id (g l);cases s with
 | take _ l f hd hu _=>exact done ((h.nd _ hd.2).take r hu (h.lt l f) hd.1) same
 | br _ G f _=>exact⟨σ,none,.refl σ,⟨r,h.nd,λl g=>h.lt l (f l g)⟩,λ_ _ _ h=>.inl h,λ_ _ e=>by cases e⟩
 | one _ i c hi hu hc he =>
  refine done ?_ same;obtain⟨rs,k⟩:=(h.nd i hi).up hu;have Q:=Ec { M.ab i with nn:=doS (M.ab i).nn c,done:=(M.ab i).done+1 } c;refine NdI.mk' (Q.1.trans hu) (rs:=rs) ?_ (by rw[Q.2.1];exact(h.nd i hi).ag);unfold Nod.gC;split<;>exact k.rk rfl rfl rfl k.rd rfl λx a=>.inl a
 | ask _ i hi hu =>
  obtain⟨rs,k⟩:=(h.nd i hi).up hu;have z:=(h.nd i hi).ag;have C:=(I2 (M.ab i) i).trans hu;generalize E:M.ab i=p at k z C ⊢;refine done (NdI.mk' (rs:=rs) C ?_ ?_) (app ?_)
  .unfold Nod.ln;split
   .exact k.rk rfl rfl rfl k.rd rfl λx a=>.inl a
   .split
    .exact(FM (p:={ p with cl:=(Bd p.vo.p p.cl (p.bn.take 40)).2 }) (k.rk rfl rfl rfl k.rd rfl λx a=>.inl a) _).1
    .exact k.rk rfl rfl rfl k.rd rfl λx a=>.inl a
  .unfold Nod.ln;split
   .exact z
   .split
    .show AgL σ (Nod.eb _ _).ae 0;rw[(FM (p:={ p with cl:=(Bd p.vo.p p.cl (p.bn.take 40)).2 }) (k.rk rfl rfl rfl k.rd rfl λx a=>.inl a) _).2];exact z
    .exact z
  .intro m u;unfold Nod.ln at u;split at u
   .cases u
   .split at u
    .cases u
    .rw[D'.1 u];exact LtI.none rfl
 | prop _ i hi hu =>
  obtain⟨τ,ex,o,w,V,X,H⟩:=(h.nd i hi).cF r hu;exact⟨τ,ex,o.le,h.set o w V (λl f=>.inl f) _,X,λb s e=>⟨rfl,(H b s e).1,i,hi,(H b s e).2.1,hu,(H b s e).2.2⟩⟩
 | rJ _ i hi hu hlt I =>
  obtain⟨rs,k⟩:=(h.nd i hi).up hu;obtain⟨x,a⟩:=k.tp.pre;have w:=r.ext (i:=i) x (by rw[a];exact k.tp.ok) λv t=>k.rW v (by rw[<- a];exact mG _ t);have o:=Pi σ i x;refine⟨σ.ext i x,none,o.le,h.set o w (NdI.mk' (p:={ M.ab i with sy:=((M.ab i).d.length:Int) }) (rs:=rs) hu ⟨?_,λv t=>o.le.rW (k.rW v t),k.rd.mono o.le w λs c J=>k.rd.next s c J,k.bp,λq F=>(k.pe q F).mono o.le w (mJ _) k.tp.ok (mE _)⟩ ((h.nd i hi).ag.mono o.le)) (λl f=>.inl f) _,λ_ _ _ h=>.inl h,λ_ _ e=>by cases e⟩;rw[Ic,a];exact k.tp.rJ
 | run _ i hi hu q l E hs =>
  have g:=(h.nd i hi).run r hi hu E hs;exact done g.1 (app g.2)
 | rG _ i hi hu hL =>
  obtain⟨rs,k⟩:=(h.nd i hi).up hu;refine done (NdI.mk' (rs:=rs) hu (k.rk rfl rfl rfl ⟨k.rd.jv,k.rd.next,k.rd.own,k.rd.an,k.rd.prom,k.rd.acc⟩ rfl λx a=>.inl a) (h.nd i hi).ag) (app λm u=>?_);obtain⟨T,U⟩:=JZ 5 m u;exact LtI.news T (by rw[U];exact(h.nd i hi).ag.drop _)
 | lead _ i hi hu _=>exact done ((h.nd i hi).lead r hi hu) same
 | sub _ i d hi hu P =>
  obtain⟨rs,k⟩:=(h.nd i hi).up hu;have z:=(h.nd i hi).ag;refine done ?_ same;unfold Nod.rO Nod.rQ;split
  .exact h.nd i hi
  .split
   .exact NdI.mk' (rs:=rs) hu (k.rk rfl rfl rfl k.rd rfl λx a=>.inl a) z
   .split
    .exact h.nd i hi
    .show NdI σ i (Nod.want _ _);unfold Nod.want;split
     .exact h.nd i hi
     .exact NdI.mk' (rs:=rs) hu (k.rk rfl rfl rfl k.rd rfl λx a=>.inl a) z
 | mv _ i c hi hu hc _ =>
  obtain⟨rs,k⟩:=(h.nd i hi).up hu;obtain⟨S,⟨x,a⟩,⟨y,R⟩,P⟩:=k.tp.mv hc;have w:=r.ext (i:=i) x (k.tp.ok.pre ⟨y,by rw[a];exact R⟩) λv t=>k.rW v (by rw[<- R,<- a];exact mI _ (mG _ t));have o:=Pi σ i x;have A:=I7 (p:=M.ab i) k.tp.sm hc;exact⟨σ.ext i x,none,o.le,h.set o w ⟨λe=>(by rw[A.2.1]at e;cases e),λ_=>(by rw[Ic,a];exact P),by rw[A.2.2.2];exact AgL.nil _ _⟩ (λl f=>.inl f) _,λ_ _ _ h=>.inl h,λ_ _ e=>by cases e⟩
 | start _ i hi hu _ =>
  have k:=(h.nd i hi).dn hu;have I:AT (M.ab i).d (M.ab i).sy:=⟨k.len,by rw[k.sy];omega,by rw[k.sy];omega⟩;have B:=F8 (p:=M.ab i) I;have L:=k.start;have K:(M.ab i).start.av=eG/\(M.ab i).start.bw=[.start]:=by
   unfold Nod.start;rw[if_neg (λe=>e (if_pos I))];split<;>exact⟨rfl,rfl⟩
  refine done (NdI.mk' (rs:=σ.dr i) B.2.1 ⟨L,λv t=>r.hv i v t,?_,?_,λq F=>?_⟩ (by rw[B.2.2.2];exact AgL.nil _ _)) same
  .rw[K.1];exact⟨.inl rfl,λs c J=>absurd (r.w2 _ _ _ J).1 (by decide),λj _ e=>(by cases e),λj _ v t=>(by cases t),λj _ e=>(by cases e),λj _=>⟨KU,λe=>(by cases e)⟩⟩
  .rw[K.1,L.vo];have Y:=L.ok.acc.1;show(0:Int)<=_;unfold Ao Ab at Y;unfold Bal.key;omega
  .rw[K.2]at F
   rw[D'.1 F];trivial
theorem AgI.step(h:AgI σ M)(s:Stp D n M N):∃ τ ex,σ.le τ/\AgI τ N/\(∀ b s c,τ.W b s c->σ.W b s c\/ex=some (b,s))/\∀ b s,ex=some (b,s)->n=1/\s<40/\∃ i,i<5/\b=(M.ab i).av.jv:=by
 obtain⟨τ,ex,a,d,f,g⟩:=h.sT s;exact⟨τ,ex,a,d,f,λb s e=>by
  obtain⟨j,k,i,l,m,_⟩:=g b s e;exact⟨j,k,i,l,m⟩⟩
theorem AgI.zero:AgI ⟨λ_=>[],λ_ _ _=>False⟩ As :=
 ⟨⟨λ_=>AR.nil,⟨λn s b c ⟨v,g,_⟩=>(by cases g),λn k s b c h ⟨v,g,_⟩=>(by cases g),λn s b c ⟨v,g,_⟩=>(by cases g)⟩,λ_ _ _ _ g=>g.elim,λ_ _ _ g=>g.elim,λ_ _ _ g=>g.elim,λn v g=>(by cases g)⟩,
  λi _=>NdI.mk' (rs:=[]) rfl ⟨TpU.zero,λv g=>(by cases g),⟨.inl rfl,λ_ _ g=>g.elim,λj _ e=>(by cases e),λj _ v f=>(by cases f),λj _ e=>(by cases e),λj _=>⟨KU,λe=>(by cases e)⟩⟩,mE _,λq d=>(by cases d)⟩ (AgL.nil _ _),λl a=>by cases a⟩
theorem KY{α:Type}[DecidableEq α]{l m:List α}(f:l.Nodup)(h:∀ x∈l,x∈m):l.length<=m.length:=by
 induction l generalizing m with
 | nil=>exact nm _
 | cons x l ih =>
  obtain⟨c,d⟩:=oY.1 f;have a:=h x O';have:=ih d (m:=m.erase x) λy b=>(qh (λe=>c (by rw[<- e];exact b))).2 (h y (I' _ b));rw[List.length_erase_of_mem a]at this
  have:=List.length_pos_of_mem a;rw[np];omega
def prc:List Rk->Nat
 | []=>0
 | .pr _::l=>prc l+1
 | .vt _::l=>prc l
def vts:List Rk->List Vt
 | []=>[]
 | .pr _::l=>vts l
 | .vt v::l=>v::vts l
theorem el(l m:List Rk):prc (l++m)=prc l+prc m:=by
 induction l with
 | nil=>simp[prc]
 | cons r l ih=>cases r<;>simp[prc,ih];omega
theorem fE(l m:List Rk):vts (l++m)=vts l++vts m:=by
 induction l with
 | nil=>rfl
 | cons r l ih=>cases r<;>simp[vts,ih]
theorem Vk{l:List Rk}:v∈vts l↔Rk.vt v∈l:=by
 induction l with
 | nil=>simp[vts]
 | cons r l ih=>cases r<;>simp[vts,ih]
theorem da(a:List Rk):(fl a).length=14*prc a+38*(vts a).length:=by
 induction a with
 | nil=>rfl
 | cons r l ih =>
  have e:fl (r::l)=AN r.body++fl l:=rfl;rw[e,H',Bi,ih];cases r with
  | pr b=>show(Bx b).length+5+_=14*(prc l+1)+38*(vts l).length;rw[Kw];omega
  | vt v=>show(Bl v).length+5+_=14*prc l+38*((vts l).length+1);rw[GR];omega
theorem iO(h:AR rs):(prc rs:Int)<=(B3 rs).p.key:=h.ind (P:=λrs=>(prc rs:Int)<=(B3 rs).p.key) (by decide) λrs r f a g=>by
 have c:=Rk.sA f.acc a.err;rw[el,BU];cases r with
 | pr b =>
  have d:=Cq a.1;have:(B3 rs).p.key≠b.key:=λe=>a.2 (DO d.1.1 d.2.1.pr e);have c:(B3 rs).p.key<=b.key:=c;show((prc rs+1:Nat):Int)<=b.key;omega
 | vt v=>show((prc rs+0:Nat):Int)<=_;exact na (by omega) c
theorem Xq(s:GsI σ){a:List Rk}(h:AR a)(c:∀ v,Rk.vt v∈a->σ.rW v):(vts a).Nodup:=by
 revert c
 refine h.ind (P:=λa=>(∀ v,Rk.vt v∈a->σ.rW v)->(vts a).Nodup) (λ_=>oE) λa r i m j c=>?_;have j:=j λv g=>c v (mI _ g);rw[fE];cases r with
 | pr b=>show(vts a++[]).Nodup;rw[mZ];exact j
 | vt v =>
  show(vts a++[v]).Nodup;refine oX.2 ⟨j,oY.2 ⟨P',oE⟩,λx z y A e=>?_⟩;rw[D'.1 A]at e
  subst e;obtain⟨B,u,f,l,C⟩:=Rg i x (Vk.1 z);have p:=Ap m.1;have w:=i.acc.le f;have t:=Bq p.2.1.2.1.pr i.acc.1 p.2.2;have n:=c u (mI _ (Jd i u f));have d:=c x (mG _ O');have k:u.b=x.b:=DO n.1.2.1.pr d.1.2.1.pr (by omega);have o:=n.2;rw[k,l]at o
  have q:=s.w1 _ _ _ _ o d.2;have:u=x:=(Vt.eq_iff u x).1 ⟨l,k,q⟩;rw[this]at f
  exact m.2 f
theorem fF(r:GsI σ){d:List Rk}(h:AR d)(i:∀ v,Rk.vt v∈d->σ.rW v){a:List (Bal × Nat)}(B:∀ b s c,σ.W b s c->(b,s)∈a):(vts d).length<=a.length:=by
 have t:=Xq r h i;have j:∀ v∈vts d,σ.rW v:=λv g=>i v (Vk.1 g);have:((vts d).map λv=>(v.b,v.bu.toNat)).Nodup:=by
  clear h i;generalize vts d=q at t j ⊢;induction q with
  | nil=>exact oE
  | cons v l ih =>
   obtain⟨z,A⟩:=oY.1 t;refine oY.2 ⟨λg=>?_,ih A λu f=>j u (I' _ f)⟩;obtain⟨u,f,e⟩:=mY.1 g;have n:=j u (I' _ f);have o:=j v O';have k:u.b=v.b:=congrArg Prod.fst e;have w:u.bu.toNat=v.bu.toNat:=congrArg Prod.snd e;have p:=n.2;rw[k,w]at p
   have y:=r.w1 _ _ _ _ p o.2;have:u=v:=(Vt.eq_iff u v).1 ⟨by have:=n.1.1;have:=o.1.1;omega,k,y⟩;rw[this]at f;exact z f
 have:=KY this (m:=a) λx C=>by
  obtain⟨v,i,rfl⟩:=mY.1 C;exact B _ _ _ (j v i).2
 rwa [mV]at this
theorem bv(h:AgI σ M){a:List (Bal × Nat)}(e:∀ b s c,σ.W b s c->(b,s)∈a){j:Nat}(f:j<5)(g:(M.ab j).up=true):((M.ab j).d.length:Int)<=14*(M.ab j).vo.p.key+38*(a.length:Int):=by
 obtain⟨m,k⟩:=(h.nd j f).up g;have i:=fF h.gs k.tp.ok k.rW e;have l:=iO k.tp.ok;rw[k.tp.d,da,k.tp.vo];omega
def Nod.pk(p:Nod):Int:=if p.up then p.vo.p.key else(Er p.d).2.p.key
def KbI(K R:Int)(M:Meet):Prop:=∀ j,j<5->(M.ab j).pk<=K/\5*(M.ab j).dc<=R
theorem NdI.so(h:NdI σ j p):σ.P j<=p.pk:=by
 unfold Nod.pk;split
 .rename_i hu
  obtain⟨c,k⟩:=h.up hu;obtain⟨x,b⟩:=k.tp.pre;have a:=k.tp.ok;rw[<- b]at a
  have:=(DI a).1;rw[b,<- k.tp.vo]at this
  exact this
 .rename_i hu
  rw[(h.dn (by simpa using hu)).sO];exact mE _
theorem AgI.so(h:AgI σ M){K R:Int}(c:KbI K R M){b:Bal}(d:Ab b)(e:b.key<=σ.P b.n.toNat):b.key<=K:=by
 have a:b.n.toNat<5:=by unfold Ab at d;omega
 exact na e (na (h.nd _ a).so (c _ a).1)
theorem YO(h:Ao b):5*b.r<=b.key:=by unfold Ao Ab at h;unfold Bal.key;omega
theorem KbI.set(h:KbI K R M){i:Nat}{p:Nod}(b:p.pk<=K/\5*p.dc<=R)(ls:List Let)(ts:List Tol):KbI K R (M.set i p ls ts):=λj a=>by
 show(upN M.ab i p j).pk<=K/\5*(upN M.ab i p j).dc<=R;unfold upN;split
 .exact b
 .exact h j a
theorem KbI.step(P:¬ D.ld){n:Nat}{σ:Gs}{M N:Meet}(h:AgI σ M)(s:Stp D n M N){K R:Int}(Q:K<=R)(m:KbI K R M):KbI K R N:=by
 have rk:∀ {i:Nat} {p:Nod},i<5->(M.ab i).up=true->p.up=true->p.vo.p.key<=(M.ab i).vo.p.key\/p.vo.p.key<=K->p.dc=(M.ab i).dc->p.pk<=K/\5*p.dc<=R:=λ{i p} j f z S A=>by
  have o:=m i j;unfold Nod.pk at o ⊢;rw[if_pos f]at o
  rw[if_pos z,A];exact⟨S.elim (λg=>na g o.1) id,o.2⟩
 cases s with
 | take _ l hl hd f _ =>
  have w:=h.lt l hl;obtain⟨O,k⟩:=(h.nd _ hd.2).up f;have b:=(congrArg Prod.fst (PH (M.ab l.dst) l)).trans f;refine m.set ?_ _ _
  revert b
  unfold Nod.take;split
  .rename_i u
   rcases k.tp.au l.jv with⟨e,he⟩|⟨e,he,hvs,rs',z,v,hm,hpb,hpv,d,a,hq⟩
   .rw[if_pos e];intro b;refine rk hd.2 f b (.inl ?_) ?_<;>(unfold Nod.fa;split)<;>first|exact mE _|rfl
   .rw[if_neg (λg=>g e)];intro b;refine rk hd.2 f b (.inr ?_) (by show((M.ab l.dst).au l.jv).1.dc=_;rw[hq];rfl);show((M.ab l.dst).au l.jv).1.vo.p.key<=K;rw[v.vo,hpb];exact h.so m (Cq he).2.1 (w.k0 u)
  .simp only;split<;>exact λb=>rk hd.2 f b (.inl (mE _)) rfl
  .rename_i u
   intro b;have o:=rk (p:=M.ab l.dst) hd.2 f f (.inl (mE _)) rfl;refine⟨o.1,?_⟩;have B:=na (w.k2 u).2 (na (h.nd _ hd.1).so (m _ hd.1).1);have J:5*l.jv.r<=K:=na (YO (w.k2 u).1) B;show 5*max (M.ab l.dst).dc l.jv.r<=R;have:=o.2;omega
  .rename_i u
   rcases k.tp.cn l.cn with⟨e,he⟩|⟨e,he,rs',z,v,hm,hpb,d,a,hq⟩
   .rw[if_pos e];intro b;refine rk hd.2 f b (.inl ?_) ?_<;>(unfold Nod.fa;split)<;>first|exact mE _|rfl
   .rw[if_neg (λg=>g e)];intro b;refine rk hd.2 f b (.inr ?_) (by show((M.ab l.dst).cn l.cn).1.dc=_;rw[hq];rfl);show((M.ab l.dst).cn l.cn).1.vo.p.key<=K;rw[v.vo,hpb];exact h.so m (Ap he).2.1.2.1 (h.gs.w3 _ _ _ (w.k3 u).2)
  .unfold Nod.count;split
   .exact λb=>rk hd.2 f b (.inl (mE _)) rfl
   .split<;>exact λb=>rk hd.2 f b (.inl (mE _)) rfl
  .split<;>exact λb=>rk hd.2 f b (.inl (mE _)) rfl
  .simp only;unfold Nod.eb;split<;>split<;>exact λb=>rk hd.2 f b (.inl (mE _)) rfl
  .exact λb=>rk hd.2 f b (.inl (mE _)) rfl
 | br _ ls hl _=>exact m
 | one _ i c j f hc he =>
  refine m.set (rk j f ((Ec { M.ab i with nn:=doS (M.ab i).nn c,done:=(M.ab i).done+1 } c).1.trans f) (.inl ?_) ?_) _ _<;>(unfold Nod.gC;split)<;>first|exact mE _|rfl
 | ask _ i j f =>
  refine m.set (rk j f ((I2 _ i).trans f) (.inl ?_) ?_) _ _<;>(unfold Nod.ln;split)<;>first|exact mE _|rfl|(split<;>first|exact mE _|rfl|(unfold Nod.eb;split<;>first|exact mE _|rfl))
 | prop _ i j f =>
  refine m.set (rk j f ((ED _).trans f) (.inl ?_) ?_) _ _
  .obtain⟨O,k⟩:=(h.nd i j).up f;unfold Nod.cF;split
   .exact mE _
   .rename_i hc
    have G:(M.ab i).leads=true:=by cases hh:(M.ab i).leads with|true=>rfl|false=>exact absurd (.inl hh) hc
    cases hn:(M.ab i).ry (M.ab i).ae.length with
    | none=>exact mE _
    | some c =>
     simp only;rcases k.tp.cn ⟨((M.ab i).ae.length:Int),(M.ab i).av.jv,c⟩with⟨e,he⟩|⟨e,he,rs',z,v,hm,hpb,d,a,hq⟩
     .rw[if_pos e];exact mE _
     .rw[if_neg (λg=>g e)];show((M.ab i).cn _).1.vo.p.key<=_;rw[v.vo,hpb,(nr G).2];exact mE _
  .unfold Nod.cF;split
   .rfl
   .split
    .rfl
    .split
     .rfl
     .show((M.ab i).cn _).1.dc=_;unfold Nod.cn;split
      .rfl
      .split
       .rfl
       .split<;>rfl
 | rJ _ i j f hlt E=>exact m.set (rk (p:={ M.ab i with sy:=((M.ab i).d.length:Int) }) j f f (.inl (mE _)) rfl) _ _
 | run _ i j f q l z hs =>
  have u:=DJ (M.ab i) i q;refine m.set (rk (p:={ (M.ab i).lp i q with bw:=l }) j f (u.2.1.trans f) (.inl ?_) ?_) _ _<;>(cases q<;>first|exact mE _|rfl|(simp only[Nod.lp];split<;>first|exact mE _|rfl)|(simp only[Nod.lp,Nod.count];split<;>first|exact mE _|rfl|(split<;>first|exact mE _|rfl)))
 | rG _ i j f w=>exact m.set (rk (p:=EI (M.ab i) i 5) j f f (.inl (mE _)) rfl) _ _
 | lead _ i j f w=>exact absurd w P
 | sub _ i d j f hd =>
  have b:((M.ab i).rO i d M.ew).1.up=true:=by
   unfold Nod.rO Nod.rQ;split
   .exact f
   .split
    .exact f
    .split
     .exact f
     .show(Nod.want _ _).up=true;unfold Nod.want;split<;>exact f
  refine m.set (rk j f b (.inl ?_) ?_) _ _<;>(unfold Nod.rO Nod.rQ;split)<;>first|exact mE _|rfl|(split<;>first|exact mE _|rfl|(split<;>first|exact mE _|rfl|(simp only[Nod.want];split<;>first|exact mE _|rfl)))
 | mv _ i c j f hc hC =>
  obtain⟨O,k⟩:=(h.nd i j).up f;obtain⟨x,_,⟨y,L⟩,C⟩:=k.tp.mv hc;have F:=I7 (p:=M.ab i) k.tp.sm hc;have A:((M.ab i).mv c).dc=0:=by
   unfold Nod.mv;rw[if_neg]
   .rfl
   .intro e;exact e (by unfold Gx;rw[if_neg (λe=>e k.tp.sm),if_neg (by omega)])
  have t:=(m i j).1;unfold Nod.pk at t;rw[if_pos f]at t
  have o:=k.tp.ok;rw[<- L]at o
  have B:=(DI o).1;rw[L,<- k.tp.vo]at B
  have I:=(AR.left o).acc.1;have J:0<=(B3 x).p.key:=by unfold Ao Ab at I;unfold Bal.key;omega
  refine m.set ⟨?_,by rw[A];omega⟩ _ _;unfold Nod.pk;rw[if_neg (by rw[F.2.1];decide),C.sO];show(B3 x).p.key<=K;omega
 | start _ i j f _ =>
  have k:=(h.nd i j).dn f;have v:=k.start;have E:AT (M.ab i).d (M.ab i).sy:=⟨k.len,by rw[k.sy];omega,by rw[k.sy];omega⟩;have H:=F8 (p:=M.ab i) E;have A:(M.ab i).start.dc=0:=by
   unfold Nod.start;rw[if_neg (λe=>e (if_pos E))];split<;>rfl
  have t:=(m i j).1;unfold Nod.pk at t;rw[if_neg (by rw[f];decide),k.sO]at t
  have t:(B3 (σ.dr i)).p.key<=K:=t;have I:=v.ok.acc.1;have J:0<=(B3 (σ.dr i)).p.key:=by unfold Ao Ab at I;unfold Bal.key;omega
  refine m.set ⟨?_,by rw[A];omega⟩ _ _;unfold Nod.pk;rw[if_pos H.2.1,v.vo];exact t
def wh1:Wh:=⟨λ_ _=>False,False,False,False,False,False⟩
def wh0:Wh:=⟨λ_ _=>False,False,False,False,True,False⟩
theorem Stp.calm{c:Nat}(h:Stp wh1 c M N):Stp wh0 c M N:=by
 cases h with
 | take _ l hl hd hu ht=>exact .take M l hl hd hu trivial
 | br _ ls h hd=>exact False.elim hd
 | one _ i c hi hu hc he=>exact .one M i c hi hu hc he
 | ask _ i hi hu=>exact .ask M i hi hu
 | prop _ i hi hu=>exact .prop M i hi hu
 | rJ _ i hi hu h hT=>exact .rJ M i hi hu h hT
 | run _ i hi hu q l hp hs=>exact .run M i hi hu q l hp hs
 | rG _ i hi hu hL=>exact .rG M i hi hu hL
 | lead _ i hi hu hL=>exact False.elim hL
 | sub _ i d hi hu hD=>exact False.elim hD
 | mv _ i k hi hu hk hC=>exact False.elim hC
 | start _ i hi hu hs=>exact False.elim hs
theorem Kz{to:Nat}{e:Int}(a:q∈p.bw):q∈(p.fa to e).bw:=by
 unfold Nod.fa;split
 .exact mI _ a
 .exact a
theorem Hm{l:Let}(a:q∈p.bw):q∈(p.take l).bw:=by
 unfold Nod.take;split
 .split
  .exact Kz a
  .exact mI _ (by rw[FY];exact a)
 .simp only;split<;>exact a
 .exact a
 .split
  .exact Kz a
  .exact mI _ (by rw[Ho];exact a)
 .unfold Nod.count;split
  .exact a
  .split<;>exact a
 .split
  .exact mI _ a
  .exact a
 .simp only;unfold Nod.eb;split<;>split<;>first|exact a|exact mI _ a
 .exact a
theorem Pz(a:q∈p.bw):q∈p.cF.bw:=by
 unfold Nod.cF;split
 .exact a
 .split
  .exact a
  .split
   .exact a
   .exact mI _ (by rw[Ho];exact a)
theorem Jv(p:Nod)(i:Nat):(p.ln i).1.bw=p.bw/\(p.ln i).1.d=p.d/\(p.ln i).1.sy=p.sy:=by
 unfold Nod.ln;split
 .exact⟨rfl,rfl,rfl⟩
 .split
  .unfold Nod.eb;split<;>exact⟨rfl,rfl,rfl⟩
  .exact⟨rfl,rfl,rfl⟩
theorem GO(p:Nod)(c:Cmd):(p.gC c).bw=p.bw/\(p.gC c).d=p.d/\(p.gC c).sy=p.sy:=by unfold Nod.gC;split<;>exact⟨rfl,rfl,rfl⟩
theorem Yh(i:Nat)(l:List Cmd)(p:Nod)(a:List Tol):(rK i l p a).1.d=p.d/\(rK i l p a).1.sy=p.sy:=by
 induction l generalizing p a with
 | nil=>exact⟨rfl,rfl⟩
 | cons c l ih =>
  rw[rK];split
  .exact⟨rfl,rfl⟩
  .have h1:=ih (Nod.gC { p with nn:=doS p.nn c,done:=p.done+1 } c) (if(p.cl c).isSome=true then a++[⟨i,c.c,c.s,doC p.nn c,doA p.nn c⟩]else a);have b:=GO { p with nn:=doS p.nn c,done:=p.done+1 } c;exact⟨h1.1.trans b.2.1,h1.2.trans b.2.2⟩
theorem Si(i:Nat)(l:List Pend)(p:Nod)(a:List Let):(pf i l p a).1.bw=p.bw:=by
 induction l generalizing p a with
 | nil=>rfl
 | cons q l ih=>rw[pf,ih];exact(DJ p i q).1
theorem Ik(h:AT p.d p.sy)(i:Nat)(k:List Let)(l:List Tol):(p.piece i k l).1.bw=[]:=by
 unfold Nod.piece;simp only;have g:=Yh i (p.ae.drop p.done) p l;generalize rK i (p.ae.drop p.done) p l=a at g ⊢;have j:=Jv a.1 i;generalize a.1.ln i=b at j ⊢;have c:b.1.tp:=by show AT b.1.d b.1.sy;rw[j.2.1,j.2.2,g.1,g.2];exact h
 have m:b.1.cF.tp:=by
  unfold Nod.cF;split
  .exact c
  .split
   .exact c
   .split
    .exact c
    .exact PN c _
 generalize b.1.cF=r at m ⊢;have n:(r.ov i (k++b.2)).1.bw=[]:=by
  unfold Nod.ov;rw[if_neg (λe=>e.2 (if_pos m)),Si]
 generalize r.ov i (k++b.2)=f at n ⊢;unfold Nod.bN;split<;>exact n
theorem Am(M:Meet)(i:Nat)(p:Nod)(a:List Let)(b:List Tol)(j:Nat):(M.set i p a b).ab j=if j=i then p else M.ab j:=rfl
theorem O4{c:Nat}(s:Stp wh0 c M N){i:Nat}{q:Pend}(hq:q∈(M.ab i).bw):q∈(N.ab i).bw\/∃ l,(M.ab i).bw=q::l/\N=M.set i { (M.ab i).lp i q with bw:=l } (M.br++(M.ab i).rE i q) M.ew:=by
 have put:∀ {j:Nat} {p:Nod} {a:List Let} {b:List Tol},(j=i->q∈p.bw)->q∈((M.set j p a b).ab i).bw:=λ{j p a b} h=>by
  rw[Am];split
  .rename_i e;exact h e.symm
  .exact hq
 cases s with
 | take _ l hl hd hu ht=>exact .inl (put λe=>Hm (by rw[e];exact hq))
 | br _ a h hd=>exact False.elim hd
 | one _ j c hi hu hc he=>exact .inl (put λe=>by rw[(GO _ c).1,e];exact hq)
 | ask _ j hi hu=>exact .inl (put λe=>by rw[(Jv _ j).1,e];exact hq)
 | prop _ j hi hu=>exact .inl (put λe=>Pz (by rw[e];exact hq))
 | rJ _ j hi hu h hT=>exact .inl (put λe=>by subst e;exact hq)
 | run _ j hi hu x l hp hs =>
  by_cases e:j=i
  .subst e;rw[hp]at hq
   rcases mO.1 hq with rfl|hq
   .exact .inr ⟨l,hp,rfl⟩
   .exact .inl (by rw[Am,if_pos rfl];exact hq)
  .exact .inl (put λf=>absurd f e)
 | rG _ j hi hu hL=>exact .inl (put λe=>by subst e;exact hq)
 | lead _ j hi hu hL=>exact False.elim hL
 | sub _ j d hi hu hD=>exact False.elim hD
 | mv _ j k hi hu hk hC=>exact False.elim hC
 | start _ j hi hu hs=>exact False.elim hs
theorem Hl(a:(M.ab i).up=true):M.act (acN 3 (i:Int))=M.set i ((M.ab i).piece i M.br M.ew).1 ((M.ab i).piece i M.br M.ew).2.1 ((M.ab i).piece i M.br M.ew).2.2:=by
 unfold Meet.act;simp[acN,a]
theorem Gd(a:i<5):LacOk (acN 3 (i:Int)):=Fc ⟨.inr (.inl rfl),by omega,by omega⟩
theorem aO(i:Nat):wh1.may (acN 3 (i:Int)):=⟨λe=>absurd e (by show(3:Int)≠1;decide),λe=>absurd e (by show(3:Int)≠2;decide),λe=>absurd e (by show(3:Int)≠8;decide),λe=>absurd e (by show ¬ ((3:Int)=4\/(3:Int)=5\/(3:Int)=6\/(3:Int)=7);decide),λe=>absurd e (by show(3:Int)≠9;decide)⟩
end
section
variable{I J:Meet->Prop}
theorem CD(a:∀ c M N,Stp wh1 c M N->I M->I N){n:Nat}{M:Meet}(b:MOk n M){i:Nat}(d:i<5)(h:I M):I (M.act (acN 3 (i:Int))):=(OW (D:=wh1) b (Gd d) (aO i)).inv a h
theorem WR(a:∀ c M N,Stp wh1 c M N->I M->I N)(b:∀ c M N,Stp wh1 c M N->I M->J M->J N){n:Nat}{M:Meet}(e:MOk n M){i:Nat}(f:i<5)(p:(M.ab i).up=true)(o:AT (M.ab i).d (M.ab i).sy){q:Pend}(j:q∈(M.ab i).bw)(h:I M)
  (m:∀ N l,I N->(N.ab i).bw=q::l->J (N.set i { (N.ab i).lp i q with bw:=l } (N.br++(N.ab i).rE i q) N.ew)):J (M.act (acN 3 (i:Int))):=by
 have k:=CD (I:=λN=>I N/\(q∈(N.ab i).bw\/J N)) (λc A B s g=>⟨a c A B s g.1,by
  rcases g.2 with g2|g2
  .rcases O4 s.calm g2 with g3|⟨l,g3,rfl⟩
   .exact .inl g3
   .exact .inr (m A l g.1 g3)
  .exact .inr (b c A B s g.1 g2)⟩) e f ⟨h,.inl j⟩
 refine k.2.resolve_left λg=>?_;rw[Hl p,Am,if_pos rfl,Ik o]at g
 cases g
def TkS(M N:Meet):Prop:=∃ l,l∈M.br/\(l.src<5/\l.dst<5)/\(M.ab l.dst).up=true/\N=M.set l.dst ((M.ab l.dst).take l) M.br M.ew
theorem TkS.rV{M N:Meet}(h:TkS M N):Stp wh0 0 M N:=by obtain⟨l,a,b,c,rfl⟩:=h;exact .take M l a b c trivial
theorem J1(e:∀ M N,TkS M N->I M->I N)(l:List Let){M:Meet}(a:∀ m∈l,m∈M.br/\m.src<5/\m.dst<5)(h:I M):I (l.foldl (λM l=>M.pd l) M)/\(l.foldl (λM l=>M.pd l) M).br=M.br:=by
 induction l generalizing M with
 | nil=>exact⟨h,rfl⟩
 | cons x l ih =>
  obtain⟨b,c⟩:=a x O';have d:I (M.pd x):=by
   unfold Meet.pd;split
   .rename_i hu;exact e M _ ⟨x,b,c,hu,rfl⟩ h
   .exact h
  have:=ih (M:=M.pd x) (λm f=>by rw[Et];exact a m (I' _ f)) d;exact⟨this.1,this.2.trans (Et M x)⟩
theorem DT(f:∀ M N,TkS M N->I M->I N)(t:∀ M N,TkS M N->I M->J M->J N){n:Nat}{M:Meet}(o:MOk n M)(h:I M){l:Let}(k:l∈M.br)(q:∀ N,I N->(N.ab l.dst).up=true)
  (u:∀ N,I N->N.br=M.br->J (N.set l.dst ((N.ab l.dst).take l) N.br N.ew)):∃ N,M.act (acN 7 0)={ N with br:=[] }/\I N/\J N/\N.br=M.br:=by
 have j:∀ m∈M.br,m.src<5/\m.dst<5:=λm d=>⟨(o.br m d).src,(o.br m d).dst⟩;obtain⟨a,b,e⟩:=List.append_of_mem k;have r:M.act (acN 7 0)={ M.br.foldl (λM l=>M.pd l) M with br:=[] }:=by
  show M.rI=_;unfold Meet.rI;rw[H9]
 refine⟨_,r,?_⟩;have c:=J1 f a (M:=M) (λm d=>by have:m∈M.br:=(by rw[e];exact mI _ d);exact⟨this,j m this⟩) h;rw[show M.br.foldl (λM l=>M.pd l) M=b.foldl (λM l=>M.pd l) ((a.foldl (λM l=>M.pd l) M).pd l)by rw[e,o0];rfl];generalize a.foldl (λM l=>M.pd l) M=A at c ⊢;have p:A.pd l=A.set l.dst ((A.ab l.dst).take l) A.br A.ew:=by unfold Meet.pd;rw[if_pos (q A c.1)];rfl
 have s:TkS A (A.pd l):=⟨l,by rw[c.2];exact k,j l k,q A c.1,p⟩;have i:=J1 (I:=λN=>I N/\J N) (λA B s g=>⟨f A B s g.1,t A B s g.1 g.2⟩) b (M:=A.pd l) (λm d=>by
  have:m∈M.br:=by rw[e];exact mG _ (I' _ d)
  exact⟨by rw[Et,c.2];exact this,j m this⟩) ⟨f _ _ s c.1,by rw[p];exact u A c.1 c.2⟩
 exact⟨i.1.1,i.1.2,by rw[i.2,Et,c.2]⟩
end
theorem KbI.mono{K R a b:Int}{M:Meet}(h:KbI K R M)(d:K<=a)(e:R<=b):KbI a b M:=λj c=>⟨na (h j c).1 d,na (h j c).2 e⟩
theorem T2{D:Wh}(l:¬ D.ld){n:Nat}{M N:Meet}(s:Sts D n M N){σ:Gs}(h:AgI σ M){K R:Int}(a:K<=R)(f:KbI K R M):∃ (τ:Gs) (ex:List (Bal × Nat)),σ.le τ/\AgI τ N/\KbI K R N/\ex.length<=n/\∀ b s c,τ.W b s c->σ.W b s c\/(b,s)∈ex:=by
 induction s with
 | nil=>exact⟨σ,[],.refl σ,h,f,nm _,λ_ _ _ g=>.inl g⟩
 | snoc _ s hm ih =>
  obtain⟨τ,ex,i,d,j,r,k⟩:=ih h f;obtain⟨υ,e,m,o,p,q⟩:=d.step s;refine⟨υ,ex++e.toList,i.trans m,o,j.step l d s a,?_,λb s c g=>?_⟩
  .cases e with
   | none=>simp;omega
   | some x=>have:=(q x.1 x.2 rfl).1;simp;omega
  .rcases p b s c g with g|g
   .exact(k b s c g).imp id λg=>mI _ g
   .exact .inr (mG _ (by rw[g];exact D'.2 rfl))
theorem KbI.lead{σ:Gs}{M:Meet}(h:AgI σ M){R:Int}(l:KbI R R M){i:Nat}(m:i<5)(j:(M.ab i).up=true)(o:List Let)(q:List Tol):KbI (R+9) (R+9) (M.set i ((M.ab i).lead i) o q):=by
 obtain⟨t,k⟩:=(h.nd i m).up j;have f:=l i m;have c:=f.1;unfold Nod.pk at c;rw[if_pos j]at c
 have s:=YO (b:=(M.ab i).vo.p) (by rw[k.tp.vo];exact k.tp.ok.acc.1);refine(l.mono (by omega) (by omega)).set ?_ _ _;unfold Nod.lead;simp only;generalize n:(⟨max (M.ab i).dc (M.ab i).vo.p.r+1,(i:Int)⟩:Bal)=b;rcases k.tp.au b with⟨e,he⟩|⟨e,he,hvs,rs',hp,ht,hm,hpb,hpv,d,a,hq⟩
 .rw[if_pos e];exact⟨by have:=f.1;omega,by have:=f.2;omega⟩
 .rw[if_neg (λg=>g e)];refine⟨?_,?_⟩
  .show(if((M.ab i).au b).1.up=true then((M.ab i).au b).1.vo.p.key else(Er ((M.ab i).au b).1.d).2.p.key)<=_;rw[if_pos (by rw[hq];exact j),ht.vo,hpb,<- n];show 5*(max (M.ab i).dc (M.ab i).vo.p.r+1)+(i:Int)<=_;omega
  .show 5*((M.ab i).au b).1.dc<=_;rw[hq];show 5*(M.ab i).dc<=_;omega
def whL:Wh:=⟨λ_ _=>True,False,True,True,True,True⟩
def lds(L:List Lac):Nat:=L.countP λx=>decide (x.k=2)
theorem WG(L:List Lac){n:Nat}{M:Meet}(w:MOk n M)(B:n+L.length<=1000000)(v:∀ x∈L,LacOk x){σ:Gs}(h:AgI σ M){R:Int}(l:KbI R R M){cov:List (Bal × Nat)}(m:∀ b s c,σ.W b s c->(b,s)∈cov) :
  ∃ (τ:Gs) (cov':List (Bal × Nat)),σ.le τ/\AgI τ (M.dT L)/\KbI (R+9*(lds L:Int)) (R+9*(lds L:Int)) (M.dT L)/\cov'.length<=cov.length+L.length/\∀ b s c,τ.W b s c->(b,s)∈cov':=by
 induction L generalizing n M σ R cov with
 | nil=>exact⟨σ,cov,.refl σ,h,l.mono (by simp[lds]) (by simp[lds]),A' _,m⟩
 | cons x L ih =>
  rw[np]at B
  have t:=v x O';have r:lds (x::L)=lds L+if x.k=2 then 1 else 0:=by unfold lds;rw[pD];simp
  have one:∃ (τ:Gs) (cov':List (Bal × Nat)),σ.le τ/\AgI τ (M.act x)/\KbI (R+if x.k=2 then 9 else 0) (R+if x.k=2 then 9 else 0) (M.act x)/\cov'.length<=cov.length+1/\∀ b s c,τ.W b s c->(b,s)∈cov':=by
   by_cases d:x.k=2
   .rw[if_pos d];have z:x.n.toNat<5:=by have:=t.n (by rw[d];rfl);omega
    have e:M.act x=M.set x.n.toNat (if(M.ab x.n.toNat).up then(M.ab x.n.toNat).lead x.n.toNat else M.ab x.n.toNat) M.br M.ew:=by
     unfold Meet.act;simp only;rw[if_neg (by omega),if_pos d]
    by_cases o:(M.ab x.n.toNat).up=true
    .rw[if_pos o]at e
     obtain⟨τ,u,f,i,j,p⟩:=h.step (D:=whT) (.lead M _ z o trivial);refine⟨τ,cov,f,by rw[e];exact i,by rw[e];exact l.lead h z o _ _,by omega,λb s c g=>?_⟩;rcases j b s c g with g|g
     .exact m b s c g
     .exact absurd (p b s g).1 (by decide)
    .rw[if_neg o,EX]at e
     rw[e];exact⟨σ,cov,.refl σ,h,l.mono (by omega) (by omega),by omega,m⟩
   .rw[if_neg d,Int.add_zero];obtain⟨τ,u,f,i,j,p,q⟩:=T2 (D:=whL) (λe=>e) (OW w t ⟨λ_=>trivial,λe=>d e,λ_=>trivial,λ_=>⟨trivial,trivial⟩,λ_=>trivial⟩) h (mE R) l;refine⟨τ,cov++u,f,i,j,by rw[H'];omega,λb s c g=>?_⟩;exact(q b s c g).elim (λg=>mI _ (m b s c g)) λg=>mG _ g
  obtain⟨τ,cov',f,i,j,p,q⟩:=one;obtain⟨υ,a,E,F,A,H,G⟩:=ih (w.act (by omega) t) (by omega) (λy C=>v y (I' _ C)) i j q;have e:R+(if x.k=2 then 9 else 0)+9*(lds L:Int)=R+9*(lds (x::L):Int):=by
   rw[r];split<;>omega
  rw[e]at A
  exact⟨υ,a,f.trans E,F,A,by rw[np];omega,G⟩
theorem KbI.zero:KbI 0 0 As:=λj a=>⟨by show Dc.pk<=0;decide,by show 5*Dc.dc<=0;decide⟩
section
variable{S:Cmd->Prop}
section
def VsS(S:Cmd->Prop)(l:List Vt):Prop:=∀ v∈l,S v.w
def RsS(S:Cmd->Prop)(rs:List Rk):Prop:=∀ v,Rk.vt v∈rs->S v.w
def PnS(S:Cmd->Prop):Pend->Prop
 | .began _ vs=>VsS S vs
 | .prom _ _ vs=>VsS S vs
 | .voted _ v=>S v.w
 | .prop v=>S v.w
 | _=>True
structure NdS(S:Cmd->Prop)(p:Nod):Prop where
 up:p.up=true->∃ dr rs,TpU p dr rs/\RsS S rs
 dn:p.up=false->∃ dr,TpD p dr/\RsS S dr
 ag:∀ c∈p.ae,S c
 wa:∀ c∈p.bn,S c
 qu:∀ c∈p.av.fv,S c
 he:∀ j,j<5->VsS S (p.av.an j).vs
 pe:∀ q∈p.bw,PnS S q
structure LtS(S:Cmd->Prop)(l:Let):Prop where
 vs:VsS S l.ni
 wh:∀ c∈l.hZ,S c
 vt:l.kind=3\/l.kind=4->S l.cn.w
variable{M:Meet}{dr:List Rk}{i:Nat}{p q:Nod}{r:Rnd}
theorem NdS.tape(h:NdS S p){q:Nod}(i:q.up=p.up)(a:q.d=p.d)(f:q.sy=p.sy)(n:q.vo=p.vo)(l:∀ c∈q.ae,S c)(t:∀ c∈q.bn,S c)(r:∀ c∈q.av.fv,S c)(m:∀ j,j<5->VsS S (q.av.an j).vs)(o:∀ x∈q.bw,PnS S x):NdS S q :=
 ⟨λe=>by
  obtain⟨b,s,k,g⟩:=h.up (i▸e);exact⟨b,s,⟨k.ok,k.pre,a.trans k.d,f.trans k.sy,n.trans k.vo,by rw[a];exact k.len⟩,g⟩,λe=>by
  obtain⟨b,k,g⟩:=h.dn (i▸e);exact⟨b,⟨k.ok,by rw[a];exact k.sO,by rw[a];exact k.tk,by rw[f,a];exact k.sy,by rw[a];exact k.len⟩,g⟩,l,t,r,m,o⟩
theorem NdS.wait(h:NdS S p){x:Pend}(a:PnS S x):NdS S (p.wait x) :=
 h.tape rfl rfl rfl rfl h.ag h.wa h.qu h.he λy b=>(Q'.1 b).elim (h.pe y) λe=>by rw[D'.1 e];exact a
theorem NdS.fa(h:NdS S p)(to:Nat)(e:Int):NdS S (p.fa to e):=by
 unfold Nod.fa;split
 .exact h.wait trivial
 .exact h
theorem NdS.wrote(h:NdS S p){f b:List Rk}(j:TpU q f b)(i:RsS S b)(k:p.up=true){d:List Int}{a:Acc}(g:q=p.tv d p.sy a)(l:∀ c∈q.ae,S c):NdS S q:=by
 subst g;exact⟨λ_=>⟨f,b,j,i⟩,λe=>(by rw[show(p.tv d p.sy a).up=p.up from rfl,k]at e;cases e),h.ag,h.wa,h.qu,h.he,h.pe⟩
theorem gn(h:∀ j,j<5->VsS S (r.an j).vs){a:Acc}(b:a∈r.kc):VsS S a.vs:=by
 unfold Rnd.kc at b;simp only[mO,P',or_false]at b;rcases b with rfl|rfl|rfl|rfl|rfl
 .exact h 0 (by omega)
 .exact h 1 (by omega)
 .exact h 2 (by omega)
 .exact h 3 (by omega)
 .exact h 4 (by omega)
theorem Y0(h:∀ j,j<5->VsS S (r.an j).vs){s:Int}{v:Vt}(e:v∈Ae (r.kc.map (·.vs)).flatten s):S v.w:=by
 obtain⟨l,b,c⟩:=oJ.1 (AL.1 e).1;obtain⟨a,d,rfl⟩:=mY.1 b;exact gn h d v c
theorem gR(h:∀ j,j<5->VsS S (r.an j).vs){s:Int}(a:Db r.kc s=0):S (CT r.kc s):=by
 have c:CT r.kc s=((Hp (D6 r.kc s) r.kc.length).map (·.w)).getD ⟨0,0,0,0,0⟩:=if_pos a;unfold Db at a;split at a
 .cases a
 .split at a
  .cases a
  .split at a
   .rename_i hO
    obtain⟨v,b⟩:=nS.1 hO;rw[c,b];exact Y0 h (qz b)
   .cases a
theorem i8(h:∀ j,j<5->VsS S (r.an j).vs)(k:Nat){l:List Cmd}(a:∀ c∈l,S c):∀ c∈FP k r l,S c:=by
 induction k generalizing l with
 | zero=>exact a
 | succ k ih =>
  rw[FP];split
  .rename_i he;exact ih λc b=>(Q'.1 b).elim (a c) λe=>by rw[D'.1 e];exact gR h he
  .exact a
theorem NdS.rF(h:NdS S p):NdS S p.rF:=h.tape rfl rfl rfl rfl (i8 h.he 41 h.ag) h.wa h.qu h.he h.pe
theorem dp(a:Acc)(l:List Vt)(d:VsS S a.vs)(e:VsS S l):VsS S (Dj a l).vs:=by
 induction l generalizing a with
 | nil=>exact d
 | cons u l ih =>
  rw[Dj];refine ih _ ?_ λv b=>e v (I' _ b);by_cases c:Bb a u=0
  .rw[if_pos c];intro v b;have b:v∈Bv a u:=b;rw[(DN c).2]at b
   rcases(BC (Ap c).1.2.2).1 b with rfl|⟨b,_⟩
   .exact e v O'
   .exact d v b
  .rw[if_neg c];exact d
theorem YD(h:∀ j,j<5->VsS S (r.an j).vs)(j:Nat)(b:j<5){a:List Vt}(d:VsS S a):∀ k,k<5->VsS S ((r.rM j a).an k).vs:=λk c=>by
 show VsS S (upN r.an j _ k).vs;unfold upN;split
 .exact dp ⟨r.jv,a⟩ _ d (h j b)
 .exact h k c
theorem NdS.count(h:NdS S p){j:Nat}(c:j<5){v:Vt}(e:S v.w):NdS S (p.count j v):=by
 unfold Nod.count;split
 .exact h
 .split
  .exact h
  .rename_i b
   have b:=mF.1 b;refine NdS.rF (h.tape rfl rfl rfl rfl h.ag h.wa h.qu (λk d=>?_) h.pe);show VsS S (upN p.av.an j _ k).vs;unfold upN;split
   .intro u a;have a:u∈Bv (p.av.an j) v:=a;rw[(DN b).2]at a
    rcases(BC (Ap b).1.2.2).1 a with rfl|⟨a,_⟩
    .exact e
    .exact h.he j c u a
   .exact h.he k d
theorem ie(q l:List Cmd)(b:∀ c∈q,S c)(f:∀ c∈l,S c):∀ c∈Hq q l,S c:=by
 induction l generalizing q with
 | nil=>exact b
 | cons d l ih =>
  rw[Hq];refine ih _ ?_ λc a=>f c (I' _ a);split
  .exact λc a=>(Q'.1 a).elim (b c) λe=>by rw[D'.1 e];exact f d O'
  .exact b
theorem NdS.eb(h:NdS S p){l:List Cmd}(a:∀ c∈l,S c):NdS S (p.eb l):=by
 unfold Nod.eb;split
 .exact h.tape rfl rfl rfl rfl h.ag h.wa (ie _ _ h.qu a) h.he h.pe
 .exact h
theorem NdS.lr(h:NdS S p)(bu:Nat){l:List Cmd}(b:∀ c∈l,S c):NdS S (p.lr bu l) :=
 h.tape rfl rfl rfl rfl (λc a=>(Q'.1 a).elim (h.ag c) λg=>b c (nX g)) h.wa h.qu h.he h.pe
theorem TpU.ui{a:List Rk}(h:TpU p dr a)(b:RsS S a):VsS S p.vo.vs:=λv c=>b v (Jd h.ok v (by rw[<- h.vo];exact c))
theorem NdS.take(h:NdS S p)(f:p.up=true){l:Let}(b:LtS S l)(j:l.src<5):NdS S (p.take l):=by
 obtain⟨m,n,k,c⟩:=h.up f;unfold Nod.take;split
 .rcases k.au l.jv with⟨e,he⟩|⟨e,he,hvs,rs',hp,ht,hm,hpb,hpv,d,a,hq⟩
  .rw[if_pos e];exact h.fa _ _
  .rw[if_neg (λg=>g e)];exact(h.wrote ht (λv i=>c v ((hm v).1 i)) f hq (by rw[hq];exact h.ag)).wait (by show VsS S _;rw[hvs];exact k.ui c)
 .have hL:=h.lr 0 b.wh;generalize p.lr 0 l.hZ=K at hL ⊢;simp only;split
  .exact hL
  .exact NdS.rF (hL.tape rfl rfl rfl rfl hL.ag hL.wa hL.qu (YD hL.he _ j b.vs) hL.pe)
 .exact h.tape rfl rfl rfl rfl h.ag h.wa h.qu h.he h.pe
 .rename_i hk
  rcases k.cn l.cn with⟨e,he⟩|⟨e,he,rs',hp,ht,hm,hpb,d,a,hq⟩
  .rw[if_pos e];exact h.fa _ _
  .rw[if_neg (λg=>g e)];exact(h.wrote ht (λv i=>((hm v).1 i).elim (λe=>by rw[e];exact b.vt (.inl hk)) (c v)) f hq (by rw[hq];exact h.ag)).wait (b.vt (.inl hk))
 .rename_i hk;exact h.count j (b.vt (.inr hk))
 .split
  .exact h.wait trivial
  .exact h.lr _ b.wh
 .simp only;split
  .exact(h.eb b.wh).wait trivial
  .exact h.eb b.wh
 .exact h
theorem KZ(h:NdS S p){s:Nat}{c:Cmd}(b:p.ry s=some c):S c:=by
 unfold Nod.ry at b;split at b
 .cases b
 .rename_i a
  have a:=mF.1 a;split at b
  .rename_i hF
   have f:GD (p.av.kc.map (·.vs)) (s:Int)=((Eg (p.av.kc.map (·.vs)) (s:Int)).map (·.w)).getD ⟨0,0,0,0,0⟩:=if_pos a;have d:Ea (p.av.kc.map (·.vs)) (s:Int)=(Eg (p.av.kc.map (·.vs)) (s:Int)).isSome:=if_pos a;rw[hF]at d
   obtain⟨x,i⟩:=nS.1 d.symm;rw[i]at f
   rw[<- ny b,f];refine Y0 h.he (s:=(s:Int)) ?_;have:∀ (l:List Vt) (o:Option Vt) (x:Vt),BS l o=some x->x∈l\/o=some x:=by
    intro l;induction l with
    | nil=>intro o x e;exact .inr e
    | cons v l ih =>
     intro o x e;cases o with
     | none =>
      rw[BS]at e
      rcases ih _ _ e with g|g
      .exact .inl (I' _ g)
      .left;cases g;exact O'
     | some u =>
      rw[BS]at e
      split at e
      .rcases ih _ _ e with g|g
       .exact .inl (I' _ g)
       .left;cases g;exact O'
      .rcases ih _ _ e with g|g
       .exact .inl (I' _ g)
       .exact .inr g
   exact(this _ _ _ i).resolve_right λe=>by cases e
  .exact h.qu c (qz b)
theorem NdS.cF(h:NdS S p)(f:p.up=true):NdS S p.cF:=by
 obtain⟨l,m,k,i⟩:=h.up f;unfold Nod.cF;split
 .exact h
 .cases hn:p.ry p.ae.length with
  | none=>exact h
  | some c =>
   have b:=KZ h hn;simp only;rcases k.cn ⟨(p.ae.length:Int),p.av.jv,c⟩with⟨e,he⟩|⟨e,he,rs',hp,ht,hm,hpb,d,a,hq⟩
   .rw[if_pos e];exact h
   .rw[if_neg (λg=>g e)];have g:=h.wrote ht (λv j=>((hm v).1 j).elim (λe=>by rw[e];exact b) (i v)) f hq (by rw[hq];exact h.ag);exact NdS.wait (p:={ (p.cn ⟨(p.ae.length:Int),p.av.jv,c⟩).1 with av:={ p.av with next:=p.ae.length+1 } }) (g.tape rfl rfl rfl rfl g.ag g.wa h.qu h.he g.pe) b
theorem NdS.run(n:i<5){p:Nod}(h:NdS S p){q:Pend}{l:List Pend}(o:p.bw=q::l):NdS S { p.lp i q with bw:=l }/\∀ m∈p.rE i q,LtS S m:=by
 have f:=h.pe q (by rw[o];exact O');have j:∀ {p':Nod},NdS S p'->p'.bw=p.bw->NdS S { p' with bw:=l }:=λ{p'} g e=>g.tape rfl rfl rfl rfl g.ag g.wa g.qu g.he λx r=>g.pe x (by rw[e,o];exact I' _ r);have none:∀ c∈([]:List Cmd),S c:=λc k=>by cases k
 have a:VsS S []:=λc k=>by cases k
 cases q with
 | began b vs =>
  unfold Nod.lp Nod.rE;simp only;split
  .exact⟨j h rfl,λm d=>(by cases d)⟩
  .refine⟨j (p':={ p with av:=p.av.rM i vs }) (h.tape rfl rfl rfl rfl h.ag h.wa h.qu (YD h.he i n f) h.pe) rfl,λm d=>?_⟩;obtain⟨to,_,rfl⟩:=CJ d;exact⟨a,none,λe=>e.elim (λg=>by cases g) λg=>(by cases g)⟩
 | prom to b vs=>exact⟨j h rfl,λm d=>by rw[D'.1 d];exact⟨f,h.ag,λe=>e.elim (λg=>by cases g) λg=>(by cases g)⟩⟩
 | voted to v=>exact⟨j h rfl,λm d=>by rw[D'.1 d];exact⟨a,none,λ_=>f⟩⟩
 | fa to b=>exact⟨j h rfl,λm d=>by rw[D'.1 d];exact⟨a,none,λe=>e.elim (λg=>by cases g) λg=>(by cases g)⟩⟩
 | prop v =>
  refine⟨j (h.count n f) (DJ p i (.prop v)).1,λm d=>?_⟩;obtain⟨to,_,rfl⟩:=CJ d;exact⟨a,none,λ_=>f⟩
 | askNews to=>exact⟨j h rfl,λm d=>by rw[D'.1 d];exact⟨a,none,λe=>e.elim (λg=>by cases g) λg=>(by cases g)⟩⟩
 | start =>
  refine⟨j h rfl,λm d=>?_⟩;obtain⟨to,_,rfl⟩:=CJ d;exact⟨a,none,λe=>e.elim (λg=>by cases g) λg=>(by cases g)⟩
 | tell to bu=>exact⟨j h rfl,λm d=>by rw[D'.1 d];exact⟨a,λc k=>h.ag c (nX k),λe=>e.elim (λg=>by cases g) λg=>(by cases g)⟩⟩
theorem NdS.lead(h:NdS S p)(m:p.up=true):NdS S (p.lead i):=by
 obtain⟨o,q,k,l⟩:=h.up m;unfold Nod.lead;simp only;generalize (⟨max p.dc p.vo.p.r+1,(i:Int)⟩:Bal)=b;rcases k.au b with⟨e,he⟩|⟨e,he,hvs,rs',hp,ht,hm,hpb,hpv,d,a,hq⟩
 .rw[if_pos e];exact h
 .rw[if_neg (λg=>g e)];have g:=h.wrote ht (λv f=>l v ((hm v).1 f)) m hq (by rw[hq];exact h.ag);exact NdS.wait (p:={ (p.au b).1 with av:=⟨b,λ_=>false,λ_=>Ej,λ_=>p.ae.length,0,[]⟩ }) (x:=.began b (p.au b).2.1) (g.tape rfl rfl rfl rfl g.ag g.wa (λc n=>by cases n) (λj _ v f=>by cases f) g.pe) (by show VsS S _;rw[hvs];exact k.ui l)
theorem gG(b:Bal)(f:Cmd->Option Bal)(l:List Cmd)(h:∀ c∈l,S c):∀ c∈(Bd b f l).1,S c:=by
 induction l generalizing f with
 | nil=>intro c a;cases a
 | cons d l g =>
  have g:=λf=>g f λc a=>h c (I' _ a);rw[Bd];split
  .exact λc a=>(mO.1 a).elim (λe=>by rw[e];exact h d O') (g _ c)
  .exact g f
structure MtS(S:Cmd->Prop)(M:Meet):Prop where
 nd:∀ i,i<5->NdS S (M.ab i)
 lt:∀ l∈M.br,LtS S l
theorem MtS.set(h:MtS S M){i:Nat}{p:Nod}(d:NdS S p){ls:List Let}(b:∀ l∈ls,l∈M.br\/LtS S l)(ts:List Tol):MtS S (M.set i p ls ts) :=
 ⟨λj a=>by
  show NdS S (upN M.ab i p j);unfold upN;split
  .exact d
  .exact h.nd j a,λl c=>(b l c).elim (h.lt l) id⟩
theorem MtS.step{D:Wh}(x:∀ i d,D.d i d->∀ now:Nat,opE d (now:Int)=0->S (En d (now:Int))){n:Nat}{M N:Meet}(s:Stp D n M N)(h:MtS S M):MtS S N:=by
 have same:∀ l∈M.br,l∈M.br\/LtS S l:=λl o=>.inl o;have app:∀ {ms:List Let},(∀ m∈ms,LtS S m)->∀ l∈M.br++ms,l∈M.br\/LtS S l:=λg l o=>(Q'.1 o).imp id (g l);cases s with
 | take _ l o hd hu _=>exact h.set ((h.nd _ hd.2).take hu (h.lt l o) hd.1) same _
 | br _ ls o _=>exact⟨h.nd,λl g=>h.lt l (o l g)⟩
 | one _ i c hi hu a he =>
  refine h.set ?_ same _;have k:=h.nd i hi;unfold Nod.gC;split
  .exact k.tape rfl rfl rfl rfl k.ag (λc a=>k.wa c (List.mem_of_mem_erase a)) k.qu k.he k.pe
  .exact k.tape rfl rfl rfl rfl k.ag k.wa k.qu k.he k.pe
 | ask _ i hi hu =>
  have k:=h.nd i hi;have E:=gG (M.ab i).vo.p (M.ab i).cl ((M.ab i).bn.take 40) λc a=>k.wa c (mP a);have B:NdS S { M.ab i with cl:=(Bd (M.ab i).vo.p (M.ab i).cl ((M.ab i).bn.take 40)).2 }:=k.tape rfl rfl rfl rfl k.ag k.wa k.qu k.he k.pe;refine h.set ?_ (app ?_) _
  .unfold Nod.ln;split
   .exact B
   .split
    .exact B.eb E
    .exact B
  .intro m hm;unfold Nod.ln at hm;split at hm
   .cases hm
   .split at hm
    .cases hm
    .rw[D'.1 hm];exact⟨λv f=>(by cases f),E,λe=>e.elim (λg=>by cases g) λg=>(by cases g)⟩
 | prop _ i hi hu=>exact h.set ((h.nd i hi).cF hu) same _
 | rJ _ i hi hu hlt y =>
  have k:=h.nd i hi;obtain⟨u,C,g,r⟩:=k.up hu;exact h.set (p:={ M.ab i with sy:=((M.ab i).d.length:Int) }) ⟨λ_=>⟨C,C,g.rJ,r⟩,λe=>(by rw[show _=(M.ab i).up from rfl,hu]at e;cases e),k.ag,k.wa,k.qu,k.he,k.pe⟩ same _
 | run _ i hi hu q l hp hs =>
  have g:=(h.nd i hi).run hi hp;exact h.set g.1 (app g.2) _
 | rG _ i hi hu hL =>
  have k:=h.nd i hi;refine h.set (p:=EI (M.ab i) i 5) (k.tape rfl rfl rfl rfl k.ag k.wa k.qu k.he k.pe) (app ?_) _;have:∀ n,∀ m∈Dx (M.ab i) i n,LtS S m:=by
   intro n;induction n with
   | zero=>intro m hm;cases hm
   | succ n ih =>
    intro m hm;rw[Dx]at hm
    rcases Q'.1 hm with hm|hm
    .exact ih m hm
    .split at hm
     .rw[D'.1 hm];exact⟨λv f=>(by cases f),λc a=>k.ag c (nX a),λe=>e.elim (λg=>by cases g) λg=>(by cases g)⟩
     .cases hm
  exact this 5
 | lead _ i hi hu _=>exact h.set ((h.nd i hi).lead hu) same _
 | sub _ i d hi hu hd =>
  have k:=h.nd i hi;refine h.set ?_ same _;unfold Nod.rO Nod.rQ;split
  .exact k
  .split
   .exact k.tape rfl rfl rfl rfl k.ag k.wa k.qu k.he k.pe
   .rename_i he
    split
    .exact k
    .show NdS S (Nod.want _ _);unfold Nod.want;split
     .exact k
     .exact k.tape rfl rfl rfl rfl k.ag (λc a=>(Q'.1 a).elim (k.wa c) λe=>by rw[D'.1 e];exact x i d hd _ (mF.1 he)) k.qu k.he k.pe
 | mv _ i c hi hu a _ =>
  have k:=h.nd i hi;obtain⟨u,C,g,r⟩:=k.up hu;obtain⟨w,_,G,x⟩:=g.mv a;have z:Gx (M.ab i).d (M.ab i).sy c=0:=by unfold Gx;rw[if_neg (λe=>e g.sm),if_neg (by omega)]
  have A:=I7 (p:=M.ab i) g.sm a;refine h.set ⟨λe=>(by rw[A.2.1]at e;cases e),λ_=>⟨w,x,λv f=>r v (G.subset f)⟩,?_,?_,?_,?_,?_⟩ same _<;>(unfold Nod.mv;rw[if_neg (λe=>e z)])
  .exact λc a=>by cases a
  .exact λc a=>by cases a
  .exact λc a=>by cases a
  .exact λj _ v f=>by cases f
  .exact λc a=>by cases a
 | start _ i hi hu _ =>
  obtain⟨u,g,r⟩:=(h.nd i hi).dn hu;have y:AT (M.ab i).d (M.ab i).sy:=⟨g.len,by rw[g.sy];omega,by rw[g.sy];omega⟩;have t:=F8 (p:=M.ab i) y;have b:(M.ab i).start.av=eG/\(M.ab i).start.bw=[.start]/\(M.ab i).start.bn=[]:=by
   unfold Nod.start;rw[if_neg (λe=>e (if_pos y))];split<;>exact⟨rfl,rfl,rfl⟩
  refine h.set ⟨λ_=>⟨u,u,g.start,r⟩,λe=>(by rw[t.2.1]at e;cases e),?_,?_,?_,?_,?_⟩ same _
  .rw[t.2.2.2];exact λc a=>by cases a
  .rw[b.2.2];exact λc a=>by cases a
  .rw[b.1];exact λc a=>by cases a
  .rw[b.1];exact λj _ v f=>by cases f
  .rw[b.2.1];exact λq F=>by rw[D'.1 F];trivial
theorem MtS.zero:MtS S As:=⟨λi _=>⟨λ_=>⟨[],[],TpU.zero,λv b=>(by cases b)⟩,λe=>(by cases e),λc a=>(by cases a),λc a=>(by cases a),λc a=>(by cases a),λj _ v b=>(by cases b),λc a=>(by cases a)⟩,λl d=>(by cases d)⟩
theorem gu(L:List Lac)(f:∀ x∈L,LacOk x)(n:L.length<=100000)(j:∀ x∈L,x.k=1->∀ now:Nat,opE x.d (now:Int)=0->S (En x.d (now:Int))):MtS S (As.dT L):=by
 have s:Sts ⟨λ_ d=>∃ x∈L,x.k=1/\x.d=d,True,True,True,True,True⟩ L.length As (As.dT L):=I1 L MOk.zero (by omega) λx a=>⟨f x a,λe=>⟨x,a,e,rfl⟩,λ_=>trivial,λ_=>trivial,λ_=>⟨trivial,trivial⟩,λ_=>trivial⟩;exact s.inv (λ_ M N h g=>g.step (λi d l now m=>by obtain⟨x,b,c,rfl⟩:=l;exact j x b c now m) h) MtS.zero
end
end
structure Ev(p q:Nod):Prop where
 up:q.up=p.up
 jv:q.av.jv=p.av.jv
 vo:p.vo.p.key<=q.vo.p.key
 dc:p.dc<=q.dc
 ag:p.ae <+: q.ae
 rA:∀ j,p.av.rA j=true->q.av.rA j=true
 next:p.av.next<=q.av.next
 qu:p.av.fv <+: q.av.fv
 wa:∀ c∈q.bn,c∈p.bn
 dn:p.done<=q.done
theorem Ev.refl(p:Nod):Ev p p:=⟨rfl,rfl,mE _,mE _,mJ _,λ_ h=>h,A' _,mJ _,λ_ h=>h,A' _⟩
theorem Ev.trans{p q r:Nod}(h:Ev p q)(k:Ev q r):Ev p r:=⟨k.up.trans h.up,k.jv.trans h.jv,na h.vo k.vo,na h.dc k.dc,h.ag.trans k.ag,λj g=>k.rA j (h.rA j g),mH h.next k.next,h.qu.trans k.qu,λc g=>h.wa c (k.wa c g),mH h.dn k.dn⟩
theorem IL(k:Nat)(r:Rnd)(l:List Cmd):l <+: FP k r l:=by
 induction k generalizing l with
 | zero=>exact mJ _
 | succ k ih =>
  rw[FP];split
  .exact(nZ _ _).trans (ih _)
  .exact mJ _
theorem Qp(l q:List Cmd):q <+: Hq q l:=by
 induction l generalizing q with
 | nil=>exact mJ _
 | cons c l ih =>
  rw[Hq];split
  .exact(nZ _ _).trans (ih _)
  .exact ih _
theorem Ev.au(p:Nod)(b:Bal):Ev p (p.au b).1:=by
 unfold Nod.au;split
 .exact .refl p
 .rename_i h
  have a:=Cq (mF.1 h);have c:p.vo.p.key<=b.key:=Bq a.2.1.pr a.1.1 a.2.2;split
  .exact⟨rfl,rfl,c,mE _,mJ _,λ_ h=>h,A' _,mJ _,λ_ h=>h,A' _⟩
  .split
   .exact .refl p
   .exact⟨rfl,rfl,c,mE _,mJ _,λ_ h=>h,A' _,mJ _,λ_ h=>h,A' _⟩
theorem Ev.cn(p:Nod)(v:Vt):Ev p (p.cn v).1:=by
 unfold Nod.cn;split
 .exact .refl p
 .rename_i h
  have a:=Ap (mF.1 h);have c:p.vo.p.key<=v.b.key:=Bq a.2.1.2.1.pr a.1.1 a.2.2;split
  .exact⟨rfl,rfl,c,mE _,mJ _,λ_ h=>h,A' _,mJ _,λ_ h=>h,A' _⟩
  .split
   .exact .refl p
   .exact⟨rfl,rfl,c,mE _,mJ _,λ_ h=>h,A' _,mJ _,λ_ h=>h,A' _⟩
theorem Ev.bw{p q:Nod}(h:Ev p q)(x:List Pend):Ev p { q with bw:=x }:=⟨h.up,h.jv,h.vo,h.dc,h.ag,h.rA,h.next,h.qu,h.wa,h.dn⟩
theorem Ev.ue(p:Nod){l:List Cmd}(h:p.ae <+: l):Ev p { p with ae:=l }:=⟨rfl,rfl,mE _,mE _,h,λ_ h=>h,A' _,mJ _,λ_ h=>h,A' _⟩
theorem Ev.fa(p:Nod)(to:Nat)(e:Int):Ev p (p.fa to e):=by
 unfold Nod.fa;split
 .exact(Ev.refl p).bw _
 .exact .refl p
theorem Ev.count(p:Nod)(j:Nat)(v:Vt):Ev p (p.count j v):=by
 unfold Nod.count;split
 .exact .refl p
 .split
  .exact .refl p
  .exact⟨rfl,rfl,mE _,mE _,IL _ _ _,λ_ h=>h,A' _,mJ _,λ_ h=>h,A' _⟩
theorem Ev.tU(p:Nod)(l:List Cmd):Ev p (p.eb l):=by
 unfold Nod.eb;split
 .exact⟨rfl,rfl,mE _,mE _,mJ _,λ_ h=>h,A' _,Qp _ _,λ_ h=>h,A' _⟩
 .exact .refl p
theorem Vb{f:Nat->Bool}{i j:Nat}(h:f j=true):upN f i true j=true:=by unfold upN;split<;>first|rfl|exact h
theorem Ev.take(p:Nod)(l:Let):Ev p (p.take l):=by
 unfold Nod.take;split
 .split
  .exact .fa p _ _
  .exact(Ev.au p l.jv).bw _
 .simp only;have a:Ev p (p.lr 0 l.hZ):=.ue p (nZ _ _);split
  .exact a
  .exact⟨rfl,rfl,mE _,mE _,a.ag.trans (IL _ _ _),λ_ h=>Vb h,A' _,mJ _,λ_ h=>h,A' _⟩
 .exact⟨rfl,rfl,mE _,Int.le_max_left _ _,mJ _,λ_ h=>h,A' _,mJ _,λ_ h=>h,A' _⟩
 .split
  .exact .fa p _ _
  .exact(Ev.cn p l.cn).bw _
 .exact .count p _ _
 .split
  .exact(Ev.refl p).bw _
  .exact .ue p (nZ _ _)
 .simp only;split
  .exact(Ev.tU p l.hZ).bw _
  .exact .tU p l.hZ
 .exact .refl p
theorem Ev.cF(p:Nod):Ev p p.cF:=by
 unfold Nod.cF;split
 .exact .refl p
 .rename_i hc
  have a:p.av.next<=p.ae.length:=by omega
  split
  .exact .refl p
  .split
   .exact .refl p
   .have h1:=Ev.cn p ⟨(p.ae.length:Int),p.av.jv,‹Cmd›⟩;exact⟨h1.up,rfl,h1.vo,h1.dc,h1.ag,λ_ h=>h,mH a (nO _),mJ _,h1.wa,h1.dn⟩
theorem Ev.gC(p:Nod)(c:Cmd):Ev p (p.gC c):=by
 unfold Nod.gC;split
 .exact⟨rfl,rfl,mE _,mE _,mJ _,λ_ h=>h,A' _,mJ _,λ_ h=>List.mem_of_mem_erase h,A' _⟩
 .exact .refl p
theorem Ev.ln(p:Nod)(i:Nat):Ev p (p.ln i).1:=by
 have a:Ev p { p with cl:=(Bd p.vo.p p.cl (p.bn.take 40)).2 }:=⟨rfl,rfl,mE _,mE _,mJ _,λ_ h=>h,A' _,mJ _,λ_ h=>h,A' _⟩;unfold Nod.ln;split
 .exact a
 .split
  .exact a.trans (.tU _ _)
  .exact a
theorem Ev.lp(p:Nod)(i:Nat)(q:Pend):Ev p (p.lp i q):=by
 cases q with
 | began b vs =>
  simp only[Nod.lp];split
  .exact .refl p
  .exact⟨rfl,rfl,mE _,mE _,mJ _,λ_ h=>Vb h,A' _,mJ _,λ_ h=>h,A' _⟩
 | prop v=>exact .count p i v
 | _=>exact .refl p
theorem Stp.ev{c:Nat}{M N:Meet}(s:Stp wh0 c M N)(j:Nat):Ev (M.ab j) (N.ab j):=by
 have put:∀ {i:Nat} {p:Nod} {a:List Let} {b:List Tol},Ev (M.ab i) p->Ev (M.ab j) ((M.set i p a b).ab j):=λ{i p a b} h=>by
  rw[Am];split
  .rename_i e;rw[e];exact h
  .exact .refl _
 cases s with
 | take _ l hl hd hu ht=>exact put (.take _ l)
 | br _ a h hd=>exact False.elim hd
 | one _ i c hi hu hc he =>
  refine put (Ev.trans (q:={ M.ab i with nn:=doS (M.ab i).nn c,done:=(M.ab i).done+1 }) ?_ (.gC _ c));exact⟨rfl,rfl,mE _,mE _,mJ _,λ_ h=>h,A' _,mJ _,λ_ h=>h,nO _⟩
 | ask _ i hi hu=>exact put (.ln _ i)
 | prop _ i hi hu=>exact put (.cF _)
 | rJ _ i hi hu h hT=>exact put ⟨rfl,rfl,mE _,mE _,mJ _,λ_ h=>h,A' _,mJ _,λ_ h=>h,A' _⟩
 | run _ i hi hu q l hp hs=>exact put ((Ev.lp _ i q).bw l)
 | rG _ i hi hu hL=>exact put ⟨rfl,rfl,mE _,mE _,mJ _,λ_ h=>h,A' _,mJ _,λ_ h=>h,A' _⟩
 | lead _ i hi hu hL=>exact False.elim hL
 | sub _ i d hi hu hD=>exact False.elim hD
 | mv _ i k hi hu hk hC=>exact False.elim hC
 | start _ i hi hu hs=>exact False.elim hs
theorem Stp.rP{c:Nat}{M N:Meet}(s:Stp wh0 c M N){l:Let}(a:l∈M.br):l∈N.br:=by
 cases s with
 | br _ ls h hd=>exact False.elim hd
 | ask _ i hi hu=>exact mI _ a
 | run _ i hi hu q l hp hs=>exact mI _ a
 | rG _ i hi hu hL=>exact mI _ a
 | _=>exact a
structure Cm(S:Cmd->Prop)(K:Int)(B:Nat->Bal)(cov:List (Bal × Nat))(M:Meet):Prop where
 ex:∃ σ,AgI σ M/\∀ b s c,σ.W b s c->(b,s)∈cov
 kb:K<=3600/\KbI K 3600 M
 up:∀ j,j<5->(M.ab j).up=true
 jv:∀ j,j<5->(M.ab j).av.jv=B j
 s:MtS S M
section
variable{S:Cmd->Prop}{K:Int}{B:Nat->Bal}{cov:List (Bal × Nat)}
theorem Cm.step(n:∀ j,j<5->∀ s,s<40->(B j,s)∈cov){c:Nat}{M N:Meet}(s:Stp wh0 c M N)(h:Cm S K B cov M):Cm S K B cov N:=by
 obtain⟨σ,d,f⟩:=h.ex;obtain⟨τ,o,p,k,l,m⟩:=d.step s;refine⟨⟨τ,k,λb t c g=>?_⟩,⟨h.kb.1,h.kb.2.step (λe=>e) d s h.kb.1⟩,λj a=>(s.ev j).up.trans (h.up j a),λj a=>(s.ev j).jv.trans (h.jv j a),h.s.step (λ_ _ e=>False.elim e) s⟩;rcases l b t c g with g|g
 .exact f b t c g
 .obtain⟨_,h7,i,hi,e⟩:=m b t g;rw[e,h.jv i hi];exact n i hi t h7
theorem Cm.sm{M:Meet}(h:Cm S K B cov M){j:Nat}(a:j<5):AT (M.ab j).d (M.ab j).sy:=by
 obtain⟨σ,b,_⟩:=h.ex;obtain⟨c,k⟩:=(b.nd j a).up (h.up j a);exact k.tp.sm
theorem Cm.le{M:Meet}(h:Cm S K B cov M){j:Nat}(a:j<5):(M.ab j).vo.p.key<=K:=by
 have:=(h.kb.2 j a).1;unfold Nod.pk at this
 rwa [if_pos (h.up j a)]at this
theorem Cm.len{M:Meet}(h:Cm S K B cov M){j:Nat}(a:j<5):((M.ab j).d.length:Int)<=14*K+38*(cov.length:Int):=by
 obtain⟨σ,b,c⟩:=h.ex;have e:=bv b c a (h.up j a);have:=h.le a;omega
end
section
variable{S:Cmd->Prop}{K:Int}{B:Nat->Bal}{cov:List (Bal × Nat)}{M:Meet}
theorem Cm.acc(h:Cm S K B cov M){j:Nat}(a:j<5):Ag (M.ab j).vo:=by
 obtain⟨σ,b,_⟩:=h.ex;obtain⟨c,k⟩:=(b.nd j a).up (h.up j a);rw[k.tp.vo];exact k.tp.ok.acc
theorem Cm.prom(h:Cm S K B cov M)(k:14*K+38*(cov.length:Int)<=99000){j:Nat}(a:j<5){b:Bal}(c:Ab b)(i:¬ b.lt (M.ab j).vo.p):((M.ab j).au b).2.2=0/\((M.ab j).au b).1.vo.p=b:=by
 have e:Cl (M.ab j).vo b=0:=by unfold Cl;rw[if_neg (λg=>g (h.acc a)),if_neg (λg=>g c),if_neg i]
 have f:CK (M.ab j).d (M.ab j).sy (Ab b) (Bx b)=0:=by
  have:=h.len a;unfold CK;rw[US (h.sm a) (by rw[Kw];omega),if_neg (λg=>g rfl),if_pos c]
 unfold Nod.au;rw[if_neg (λg=>g e)];split
 .exact⟨rfl,rfl⟩
 .rw[if_neg (λg=>g f)];exact⟨rfl,rfl⟩
theorem Cm.ti(h:Cm S K B cov M)(k:14*K+38*(cov.length:Int)<=99000){j:Nat}(a:j<5){v:Vt}(c:Ah v)(i:¬ v.b.lt (M.ab j).vo.p):((M.ab j).cn v).2=0/\((M.ab j).cn v).1.vo.p=v.b:=by
 have e:Bb (M.ab j).vo v=0:=by unfold Bb;rw[if_neg (λg=>g (h.acc a)),if_neg (λg=>g c),if_neg i]
 have f:CK (M.ab j).d (M.ab j).sy (Ah v) (Bl v)=0:=by
  have:=h.len a;unfold CK;rw[US (h.sm a) (by rw[GR];omega),if_neg (λg=>g rfl),if_pos c]
 unfold Nod.cn;rw[if_neg (λg=>g e)];split
 .exact⟨rfl,rfl⟩
 .rw[if_neg (λg=>g f)];exact⟨rfl,rfl⟩
end
section
variable{I J:Meet->Prop}
theorem EF(M:Meet){i j:Nat}(h:j≠i):(M.act (acN 3 (i:Int))).ab j=M.ab j:=by
 unfold Meet.act;simp only[acN];rw[if_neg (by decide),if_neg (by decide),if_pos trivial,Am,if_neg (by rw[nt];exact h)]
theorem F9(i:∀ c M N,Stp wh1 c M N->I M->I N)(r:∀ c M N,Stp wh1 c M N->I M->J M->J N)(z:∀ M j,I M->j<5->(M.ab j).up=true/\AT (M.ab j).d (M.ab j).sy){n:Nat}{M:Meet}(v:MOk n M)(D:n+5<=1000000)(h:I M){j:Nat}(m:j<5){q:Pend}(w:q∈(M.ab j).bw)
  (x:∀ N l,I N->Ev (M.ab j) (N.ab j)->(N.ab j).bw=q::l->J (N.set j { (N.ab j).lp j q with bw:=l } (N.br++(N.ab j).rE j q) N.ew)):J (M.dT (AE 3 5)):=by
 have y:∀ k,k<=5->MOk (n+k) (M.dT (AE 3 k))/\I (M.dT (AE 3 k))/\(k<=j->(M.dT (AE 3 k)).ab j=M.ab j)/\(j<k->J (M.dT (AE 3 k))):=by
  intro k;induction k with
  | zero=>exact λ_=>⟨v,h,λ_=>rfl,λe=>absurd e (oL _)⟩
  | succ k ih =>
   intro C;obtain⟨b,f,p,u⟩:=ih (by omega);rw[BT,AJ];refine⟨b.act (by omega) (Gd (by omega)),CD i b (by omega) f,λe=>by rw[EF _ (by omega)];exact p (by omega),λe=>?_⟩;by_cases t:j<k
   .exact(CD (I:=λN=>I N/\J N) (λc A B s g=>⟨i c A B s g.1,r c A B s g.1 g.2⟩) b (by omega) ⟨f,u t⟩).2
   .obtain rfl:k=j:=by omega
    have o:=p (A' _);have a:=z _ k f m;exact WR (I:=λN=>I N/\Ev (M.ab k) (N.ab k)) (λc A B s g=>⟨i c A B s g.1,g.2.trans (s.calm.ev k)⟩) (λc A B s g=>r c A B s g.1) b m a.1 a.2 (by rw[o];exact w) ⟨f,by rw[o];exact .refl _⟩ λN l g=>x N l g.1 g.2
 exact(y 5 (A' _)).2.2.2 m
theorem Bn(d:∀ c M N,Stp wh1 c M N->I M->I N){n:Nat}{M:Meet}(e:MOk n M)(i:n+5<=1000000)(h:I M):MOk (n+5) (M.dT (AE 3 5))/\I (M.dT (AE 3 5)):=by
 have f:∀ k,k<=5->MOk (n+k) (M.dT (AE 3 k))/\I (M.dT (AE 3 k)):=by
  intro k;induction k with
  | zero=>exact λ_=>⟨e,h⟩
  | succ k ih =>
   intro g;obtain⟨a,b⟩:=ih (by omega);rw[BT,AJ];exact⟨a.act (by omega) (Gd (by omega)),CD d a (by omega) b⟩
 exact f 5 (A' _)
theorem Cw(d:∀ M N,TkS M N->I M->I N){n:Nat}{M:Meet}(b:MOk n M)(h:I M):∃ N,M.act (acN 7 0)={ N with br:=[] }/\I N/\N.br=M.br:=by
 have c:M.act (acN 7 0)={ M.br.foldl (λM l=>M.pd l) M with br:=[] }:=by
  show M.rI=_;unfold Meet.rI;rw[H9]
 have:=J1 d M.br (M:=M) (λm a=>⟨a,(b.br m a).src,(b.br m a).dst⟩) h;exact⟨_,c,this⟩
end
theorem Stp.tg{c:Nat}{M N:Meet}(s:Stp wh1 c M N)(j:Nat):(N.ab j).vo.p=(M.ab j).vo.p:=by
 have put:∀ {i:Nat} {p:Nod} {b:List Let} {f:List Tol},p.vo.p=(M.ab i).vo.p->((M.set i p b f).ab j).vo.p=(M.ab j).vo.p:=λ{i p b f} h=>by
  rw[Am];split
  .rename_i e;rw[e];exact h
  .rfl
 cases s with
 | take _ l a hd hu ht=>exact False.elim ht
 | br _ b h hd=>exact False.elim hd
 | one _ i c hi hu hc he=>exact put (by unfold Nod.gC;split<;>rfl)
 | ask _ i hi hu=>exact put (by
   unfold Nod.ln;split
   .rfl
   .split
    .unfold Nod.eb;split<;>rfl
    .rfl)
 | prop _ i hi hu=>exact put (by
   unfold Nod.cF;split
   .rfl
   .rename_i hc
    have a:(M.ab i).av.jv=(M.ab i).vo.p:=by
     have:(M.ab i).leads=true:=by cases hh:(M.ab i).leads with|true=>rfl|false=>exact absurd (.inl hh) hc
     exact(nr this).2
    split
    .rfl
    .split
     .rfl
     .show((M.ab i).cn _).1.vo.p=_;unfold Nod.cn;split
      .rfl
      .split
       .exact a
       .split
        .rfl
        .exact a)
 | rJ _ i hi hu h hT=>exact put rfl
 | run _ i hi hu q l hp hs=>exact put (by
   show((M.ab i).lp i q).vo.p=_;cases q<;>first|rfl|(simp only[Nod.lp];split<;>rfl)|(simp only[Nod.lp,Nod.count];split<;>first|rfl|(split<;>rfl)))
 | rG _ i hi hu hL=>exact put rfl
 | lead _ i hi hu hL=>exact False.elim hL
 | sub _ i d hi hu hD=>exact False.elim hD
 | mv _ i k hi hu hk hC=>exact False.elim hC
 | start _ i hi hu hs=>exact False.elim hs
theorem My{i:Nat}(l:Let){j k:Nat}(a:j<k)(h:j≠i):{ l with src:=i,dst:=j }∈BV i l k:=mY.2 ⟨j,pO.2 ⟨oQ.2 a,M' h⟩,rfl⟩
section
variable{S:Cmd->Prop}{K:Int}{B:Nat->Bal}{cov:List (Bal × Nat)}
theorem Cm.drop{M:Meet}(h:Cm S K B cov M):Cm S K B cov { M with br:=[] }:=by
 obtain⟨σ,b,c⟩:=h.ex;exact⟨⟨σ,⟨b.gs,b.nd,λl a=>by cases a⟩,c⟩,h.kb,h.up,h.jv,⟨h.s.nd,λl a=>by cases a⟩⟩
def Gr8(K:Int)(p:Nod):Prop:=K<=5*p.dc+4\/K<=p.vo.p.key
theorem Gr8.ev{p q:Nod}(h:Gr8 K p)(e:Ev p q):Gr8 K q:=by
 have:=e.dc;have:=e.vo;unfold Gr8 at *;omega
theorem iN(Q:∀ j,j<5->∀ s,s<40->(B j,s)∈cov){n:Nat}{M:Meet}(C:MOk n M)(hn:n+12<=1000000)(h:Cm S K B cov M){i:Nat}(R:i<5){j:Nat}(f:j<5)(O:(M.ab j).vo.p.key=K){b:Bal}{vs:List Vt}(P:(M.ab i).vo.p=b)(u:Ab b)(hq:.began b vs∈(M.ab i).bw) :
  Gr8 K ((M.dT (An++An)).ab i):=by
 have X:∀ A:Meet,A.dT (An++An)=(((A.dT (AE 3 5)).act (acN 7 0)).dT (AE 3 5)).act (acN 7 0):=λA=>by
  rw[AB,show An=AE 3 5++[acN 7 0]from rfl,AJ,AJ]
 have a:∀ c A N,Stp wh1 c A N->Cm S K B cov A->Cm S K B cov N:=λc A N s g=>g.step Q s.calm;have d:∀ A N,TkS A N->Cm S K B cov A->Cm S K B cov N:=λA N s g=>g.step Q s.rV;have m:LacOk (acN 7 0):=by rw[<- DP];decide
 rw[X];by_cases D:Gr8 K (M.ab i)
 .-- it knows already
  have z:=Bn (I:=λN=>Cm S K B cov N/\Gr8 K (N.ab i)) (λc A N s g=>⟨a c A N s g.1,g.2.ev (s.calm.ev i)⟩) C (by omega) ⟨h,D⟩;obtain⟨N,F,x,_⟩:=Cw (I:=λN=>Cm S K B cov N/\Gr8 K (N.ab i)) (λA N s g=>⟨d A N s g.1,g.2.ev (s.rV.ev i)⟩) z.1 z.2;have t:=z.1.act (by omega) m;rw[F]at t ⊢
  have L:=Bn (I:=λN=>Cm S K B cov N/\Gr8 K (N.ab i)) (λc A N s g=>⟨a c A N s g.1,g.2.ev (s.calm.ev i)⟩) t (by omega) ⟨x.1.drop,x.2⟩;obtain⟨U,G,T,_⟩:=Cw (I:=λN=>Cm S K B cov N/\Gr8 K (N.ab i)) (λA N s g=>⟨d A N s g.1,g.2.ev (s.rV.ev i)⟩) L.1 L.2;rw[G];exact T.2
 .have hij:i≠j:=λe=>D (.inr (by rw[e,O];exact mE _));have a0:b.key<K:=by rw[<- P];unfold Gr8 at D;omega
  obtain⟨b0,o⟩:∃ b0,(M.ab j).vo.p=b0:=⟨_,rfl⟩;rw[o]at O
  have w:Ao b0:=by rw[<- o];exact(h.acc f).1
  have E:∀ A N,TkS A N->Cm S K B cov A->(A.ab j).vo.p=b0->(N.ab j).vo.p=b0:=λA N s g e=>by
   have Y:=(s.rV.ev j).vo;have h2:=(d A N s g).le f;rw[e]at Y
   exact DO ((d A N s g).acc f).1 w (by omega)
  have y:=Bn (I:=λN=>Cm S K B cov N/\(N.ab j).vo.p=b0) (λc A N s g=>⟨a c A N s g.1,(s.tg j).trans g.2⟩) C (by omega) ⟨h,o⟩;have V:=F9 (I:=λN=>Cm S K B cov N/\(N.ab i).vo.p=b) (J:=λN=>({ BE 0 with jv:=b,src:=i,dst:=j }:Let)∈N.br) (λc A N s g=>⟨a c A N s g.1,(s.tg i).trans g.2⟩) (λc A N s _ g=>s.calm.rP g) (λA k g v=>⟨g.1.up k v,g.1.sm v⟩) C (by omega) ⟨h,P⟩ R hq (λN l g _ _=>by
   refine mG _ ?_;simp only[Nod.rE];rw[if_neg (λe=>e g.2)];exact My { BE 0 with jv:=b } f (Ne.symm hij))
  obtain⟨N,F,x,G,T⟩:=DT (I:=λN=>Cm S K B cov N/\(N.ab j).vo.p=b0) (J:=λN=>Pend.fa i b0∈(N.ab j).bw) (λA N s g=>⟨d A N s g.1,E A N s g.1 g.2⟩) (λA N s _ g=>by
   obtain⟨l,_,_,_,rfl⟩:=s;rw[Am];split
   .rename_i e;rw[<- e];exact Hm g
   .exact g) y.1 y.2 V (λN g=>g.1.up j f) (λN g _=>by
   rw[Am,if_pos rfl];have Z:Cl (N.ab j).vo b=7:=by
    unfold Cl;rw[if_neg (λe=>e (g.1.acc f)),if_neg (λe=>e u),if_pos (by rw[Fg u.pr (g.1.acc f).1,g.2];omega)]
   have h8:(N.ab j).au b=(N.ab j,[],7):=by unfold Nod.au;rw[Z,if_pos (by decide)]
   show Pend.fa i b0∈(if((N.ab j).au b).2.2≠0 then(N.ab j).fa i ((N.ab j).au b).2.2 else _).bw;rw[h8,if_pos (show(7:Int)≠0 by decide)];unfold Nod.fa;rw[if_pos rfl,<- g.2];exact mG _ (D'.2 rfl))
  have t:=y.1.act (by omega) m;rw[F]at t ⊢
  have H:=Bn (I:=Cm S K B cov) a t (by omega) x.1.drop;have W:=F9 (I:=Cm S K B cov) (J:=λN=>({ BE 2 with jv:=b0,src:=j,dst:=i }:Let)∈N.br) a (λc A N s _ g=>s.calm.rP g) (λA k g v=>⟨g.up k v,g.sm v⟩) t (by omega) x.1.drop f (q:=.fa i b0) G (λN l g _ _=>mG _ (D'.2 rfl));obtain⟨U,k5,k6,k7,_⟩:=DT (I:=Cm S K B cov) (J:=λN=>Gr8 K (N.ab i)) d (λA N s _ g=>g.ev (s.rV.ev i)) H.1 H.2 W (λN g=>g.up i R) (λN g _=>by
   rw[Am,if_pos rfl];refine .inl ?_;show K<=5*max (N.ab i).dc b0.r+4;have:b0.key<=5*b0.r+4:=by unfold Ao Ab at w;unfold Bal.key;omega
   omega)
  rw[k5];exact k7
end
def P1(i:Nat)(p:Nod):Prop:=p.av.next=0/\∀ j,j≠i->p.av.rA j=false
theorem P1.uk{i:Nat}{p:Nod}(h:P1 i p):p.av.rH=false:=by
 unfold Rnd.rH Jz;have k:=h.2;have g:∀ j,(p.av.rA j).toNat<=if j=i then 1 else 0:=λj=>by
  split
  .cases p.av.rA j<;>decide
  .rename_i e;rw[k j e];decide
 have a:=g 0;have b:=g 1;have c:=g 2;have d:=g 3;have f:=g 4;refine E' ?_;split at a<;>split at b<;>split at c<;>split at d<;>split at f<;>omega
theorem Stp.p1{c:Nat}{M N:Meet}(s:Stp wh1 c M N){i:Nat}(h:P1 i (M.ab i)):P1 i (N.ab i):=by
 have put:∀ {k:Nat} {p:Nod} {a:List Let} {m:List Tol},(i=k->P1 i p)->P1 i ((M.set k p a m).ab i):=λ{k p a m} g=>by
  rw[Am];split
  .rename_i e;exact g e
  .exact h
 cases s with
 | take _ l hl hd hu ht=>exact False.elim ht
 | br _ a h hd=>exact False.elim hd
 | one _ k c hi hu hc he=>exact put λe=>by subst e;unfold Nod.gC;split<;>exact h
 | ask _ k hi hu =>
  exact put λe=>by
   subst e;unfold Nod.ln;split
   .exact h
   .split
    .unfold Nod.eb;split<;>exact h
    .exact h
 | prop _ k hi hu =>
  exact put λe=>by
   subst e;unfold Nod.cF;rw[if_pos (.inr (.inl h.uk))];exact h
 | rJ _ k hi hu hs hT=>exact put λe=>by subst e;exact h
 | run _ k hi hu q l hp hs =>
  exact put λe=>by
   subst e;show P1 i ((M.ab i).lp i q);cases q with
   | began b vs =>
    simp only[Nod.lp];split
    .exact h
    .exact⟨h.1,λj f=>by show upN (M.ab i).av.rA i true j=false;rw[D3 _ _ f];exact h.2 j f⟩
   | prop v =>
    simp only[Nod.lp,Nod.count];split
    .exact h
    .split<;>exact h
   | _=>exact h
 | rG _ k hi hu hL=>exact put λe=>by subst e;exact h
 | lead _ k hi hu hL=>exact False.elim hL
 | sub _ k d hi hu hD=>exact False.elim hD
 | mv _ k x hi hu hk hC=>exact False.elim hC
 | start _ k hi hu hs=>exact False.elim hs
theorem fd{i:Nat}{p:Nod}(h:P1 i p){l:Let}(c:l.kind=1->l.src≠i->l.jv≠p.av.jv):P1 i (p.take l):=by
 have f:∀ v,P1 i (p.cn v).1:=λv=>by
  unfold Nod.cn;split
  .exact h
  .split
   .exact h
   .split<;>exact h
 unfold Nod.take;split
 .split
  .unfold Nod.fa;split<;>exact h
  .show P1 i (p.au l.jv).1;unfold Nod.au;split
   .exact h
   .split
    .exact h
    .split<;>exact h
 .rename_i hk
  simp only;split
  .exact h
  .rename_i hc
   have b:l.jv=p.av.jv:=nB λe=>hc (.inr (.inl e));have d:l.src=i:=nB λe=>c hk e b;exact⟨h.1,λj a=>by show upN p.av.rA l.src true j=false;rw[D3 _ _ (by rw[d];exact a)];exact h.2 j a⟩
 .exact h
 .split
  .unfold Nod.fa;split<;>exact h
  .exact f _
 .unfold Nod.count;split
  .exact h
  .split<;>exact h
 .split<;>exact h
 .simp only;unfold Nod.eb;split<;>split<;>exact h
 .exact h
section
variable{S:Cmd->Prop}{K:Int}{B:Nat->Bal}{cov:List (Bal × Nat)}
theorem Cm.top(a:∀ j,j<5->∀ s,s<40->(B j,s)∈cov){c:Nat}{A N:Meet}(s:Stp wh0 c A N)(g:Cm S K B cov A){b:Bal}(h:Ao b)(k:b.key=K){j:Nat}(d:j<5)(e:(A.ab j).vo.p=b):(N.ab j).vo.p=b:=by
 have f:=(s.ev j).vo;have i:=(g.step a s).le d;rw[e]at f
 exact DO ((g.step a s).acc d).1 h (by omega)
theorem eh(D:∀ j,j<5->∀ s,s<40->(B j,s)∈cov)(hQ:14*K+38*(cov.length:Int)<=99000){n:Nat}{M:Meet}(Y:MOk n M)(hn:n+12<=1000000)(h:Cm S K B cov M){i:Nat}(L:i<5){b:Bal}(o:Ab b)(X:b.key=K)(hB:B i=b)(hv:(M.ab i).vo.p=b)(R:∀ j,j<5->j≠i->(M.ab j).vo.p.key<K){d:List Vt}(hq:.began b d∈(M.ab i).bw)(T:P1 i (M.ab i)) :
  Cm S K B cov (M.dT An)/\(∀ j,j<5->((M.dT An).ab j).vo.p=b)/\((M.dT An).ab i).av.rA i=true/\(∀ j,j<5->j≠i->∃ d,Pend.prom i b d∈((M.dT An).ab j).bw)/\P1 i ((M.dT An).ab i)/\(M.dT An).br=[]/\MOk (n+6) (M.dT An):=by
 have v:LacOk (acN 7 0):=by rw[<- DP];decide
 have t:∀ c A N,Stp wh1 c A N->Cm S K B cov A->Cm S K B cov N:=λc A N s g=>g.step D s.calm;have u:∀ A N,TkS A N->Cm S K B cov A->Cm S K B cov N:=λA N s g=>g.step D s.rV;have U:=Bn (I:=λN=>Cm S K B cov N/\(∀ j,(N.ab j).vo.p=(M.ab j).vo.p)/\P1 i (N.ab i)) (λc A N s g=>⟨t c A N s g.1,λj=>(s.tg j).trans (g.2.1 j),s.p1 g.2.2⟩) Y (by omega) ⟨h,λ_=>rfl,T⟩;have F:=F9 (I:=λN=>Cm S K B cov N/\(N.ab i).vo.p=b) (J:=λN=>(∀ j,j<5->j≠i->({ BE 0 with jv:=b,src:=i,dst:=j }:Let)∈N.br)/\(N.ab i).av.rA i=true) (λc A N s g=>⟨t c A N s g.1,(s.tg i).trans g.2⟩) (λc A N s _ g=>⟨λj a e=>s.calm.rP (g.1 j a e),(s.calm.ev i).rA i g.2⟩) (λA k g E=>⟨g.1.up k E,g.1.sm E⟩) Y (by omega) ⟨h,hv⟩ L hq (λN l g _ _=>by
  refine⟨λj a e=>mG _ ?_,?_⟩
  .simp only[Nod.rE];rw[if_neg (λe=>e g.2)];exact My { BE 0 with jv:=b } a e
  .rw[Am,if_pos rfl];show((N.ab i).lp i (.began b d)).av.rA i=true;simp only[Nod.lp];rw[if_neg (λe=>e g.2)];exact Dg _ _ _)
 rw[show An=AE 3 5++[acN 7 0]from rfl,AJ];generalize M.dT (AE 3 5)=A at U F ⊢;obtain⟨z,f,r,H⟩:=U;have Q:∀ m∈A.br,m.kind=1->m.src≠i->m.jv≠b:=λm Z E hs e=>by
  obtain⟨σ,y,_⟩:=f.ex;have q:=(z.br m Z).src;have G:=((y.lt m Z).k1 E).1.le;have W:=(y.nd _ q).so;unfold Nod.pk at W;rw[if_pos (f.up _ q),r]at W
  have h4:=R _ q hs;have h6:m.jv.key<=σ.P m.src:=G;rw[e]at h6
  omega
 obtain⟨N,k1,⟨k2,k3,k4,k5,k6⟩,k7⟩:=Cw (I:=λN=>Cm S K B cov N/\(N.ab i).vo.p=b/\P1 i (N.ab i)/\(N.ab i).av.rA i=true/\N.br=A.br) (λC N s g=>by
  refine⟨u C N s g.1,g.1.top D s.rV o.pr X L g.2.1,?_,(s.rV.ev i).rA i g.2.2.2.1,?_⟩
  .obtain⟨l,hl,_,_,rfl⟩:=s;rw[Am];split
   .rename_i e
    rw[<- e];exact fd g.2.2.1 λy G=>by rw[g.1.jv i L,hB];exact Q l (by rw[<- g.2.2.2.2];exact hl) y G
   .exact g.2.2.1
  .obtain⟨l,hl,_,_,rfl⟩:=s;exact g.2.2.2.2) z ⟨f,(r i).trans hv,H,F.2,rfl⟩
 have a:∀ j,j<5->j≠i->((A.act (acN 7 0)).ab j).vo.p=b/\∃ d,Pend.prom i b d∈((A.act (acN 7 0)).ab j).bw:=λj a O=>by
  obtain⟨N',q1,q2,q3,_⟩:=DT (I:=Cm S K B cov) (J:=λN=>(N.ab j).vo.p=b/\∃ d,Pend.prom i b d∈(N.ab j).bw) u (λC N s g e=>⟨g.top D s.rV o.pr X a e.1,by
   obtain⟨d,V⟩:=e.2;refine⟨d,?_⟩;obtain⟨l,_,_,_,rfl⟩:=s;rw[Am];split
   .rename_i e3;rw[<- e3];exact Hm V
   .exact V⟩) z f (F.1 j a O) (λN g=>g.up j a) (λN g _=>by
   rw[Am,if_pos rfl];have a0:=g.le a;have x:=g.prom hQ a o (by rw[Fg o.pr (g.acc a).1];omega);have e:(N.ab j).take ({ BE 0 with jv:=b,src:=i,dst:=j }:Let)=((N.ab j).au b).1.wait (.prom i b ((N.ab j).au b).2.1):=by
    show(if((N.ab j).au b).2.2≠0 then _ else _)=_;rw[if_neg (λg=>g x.1)]
   rw[e];exact⟨x.2,_,mG _ (D'.2 rfl)⟩)
  rw[q1];exact q3
 have w:=z.act (by omega) v;rw[k1]at a w ⊢
 exact⟨k2.drop,λj q=>by
  by_cases e:j=i
  .rw[e];exact k3
  .exact(a j q e).1,k5,λj q e=>(a j q e).2,k4,rfl,w⟩
end
section
theorem fi(f:Cmd->Option Bal)(c:Cmd)(b:Option Bal):BW f c b c=b:=if_pos rfl
theorem Vd(f:Cmd->Option Bal){c d:Cmd}(b:Option Bal)(h:d≠c):BW f c b d=f d:=if_neg h
theorem Lm{b:Bal}(p:b≠Bf)(l:List Cmd)(f:Cmd->Option Bal):(∀ c,c∉l->(Bd b f l).2 c=f c)/\(∀ c∈l,(Bd b f l).2 c=some b)/\(∀ c∈l,f c=some b\/c∈(Bd b f l).1)/\∀ c∈(Bd b f l).1,c∈l:=by
 induction l generalizing f with
 | nil=>exact⟨λ_ _=>rfl,λ_ h=>(by cases h),λ_ h=>(by cases h),λ_ h=>(by cases h)⟩
 | cons c l ih =>
  rw[Bd];split
  .rename_i hc
   obtain⟨j,k,m,n⟩:=ih (BW f c (some b));refine⟨λd a=>?_,λd a=>?_,λd a=>?_,λd a=>?_⟩
   .show(Bd b (BW f c (some b)) l).2 d=f d;rw[j d λe=>a (I' _ e),Vd _ _ λe=>a (by rw[e];exact O')]
   .show(Bd b (BW f c (some b)) l).2 d=some b;by_cases i:d∈l
    .exact k d i
    .rcases mO.1 a with rfl|e
     .rw[j d i,fi]
     .exact absurd e i
   .rcases mO.1 a with rfl|e
    .exact .inr O'
    .by_cases e2:d=c
     .rw[e2];exact .inr O'
     .rcases m d e with g|g
      .rw[Vd _ _ e2]at g;exact .inl g
      .exact .inr (I' _ g)
   .rcases mO.1 a with rfl|e
    .exact O'
    .exact I' _ (n d e)
  .rename_i hc
   have o:f c=some b:=by
    have:=mF.1 hc;cases hh:f c with
    | none=>rw[hh]at this;exact absurd this.symm p
    | some x=>rw[hh]at this;exact congrArg some this
   obtain⟨j,k,m,n⟩:=ih f;refine⟨λd a=>j d λe=>a (I' _ e),λd a=>?_,λd a=>?_,λd a=>I' _ (n d a)⟩
   .by_cases i:d∈l
    .exact k d i
    .rcases mO.1 a with rfl|e
     .rw[j d i];exact o
     .exact absurd e i
   .rcases mO.1 a with rfl|e
    .exact .inl o
    .exact m d e
theorem Ib(l q:List Cmd)(h:q.Nodup):(Hq q l).Nodup:=by
 induction l generalizing q with
 | nil=>exact h
 | cons c l ih =>
  rw[Hq];refine ih _ ?_;split
  .rename_i hc
   exact oX.2 ⟨h,oY.2 ⟨P',oE⟩,λx a y b e=>hc.2 (by rw[<- D'.1 b,<- e];exact a)⟩
  .exact h
theorem Qo{C:List Cmd}(j:C.length<40)(l q:List Cmd)(g:q.Nodup)(a:∀ c∈q,c∈C)(b:∀ c∈l,c∈C):∀ c∈l,c∈Hq q l:=by
 induction l generalizing q with
 | nil=>exact λc hc=>by cases hc
 | cons d l ih =>
  have f:=KY g a;have i:=b d O';intro c hc;rw[Hq];have h:d∈(if q.length<40/\d∉q then q++[d]else q):=by
   by_cases e:d∈q
   .split
    .exact mI _ e
    .exact e
   .rw[if_pos ⟨by omega,e⟩];exact mG _ (D'.2 rfl)
  rcases mO.1 hc with rfl|hc
  .exact(Qp l _).subset h
  .refine ih _ ?_ (λx hx=>?_) (λx hx=>b x (I' _ hx)) c hc
   .exact Ib [d] q g
   .split at hx
    .rcases Q'.1 hx with hx|hx
     .exact a x hx
     .rw[D'.1 hx];exact i
    .exact a x hx
structure AskI(p:Nod):Prop where
 nd:p.bn.Nodup
 wa:∀ c,c∈p.bn↔(p.cl c).isSome=true
 le:∀ c x,p.cl c=some x->x.key<=p.vo.p.key
 un:∀ c∈p.bn,c∉p.ae.take p.done
 qn:p.av.fv.Nodup
 dn:p.done<=p.ae.length
theorem R3{α:Type}{l m:List α}{k:Nat}(h:l <+: m)(a:k<=l.length):m.take k=l.take k:=by obtain⟨x,rfl⟩:=h;exact mX a
variable{M N:Meet}{p:Nod}
theorem AskI.rk{q:Nod}(h:AskI p)(e:Ev p q)(i:q.bn=p.bn/\q.cl=p.cl/\q.done=p.done)(f:q.av.fv.Nodup):AskI q:=by
 obtain⟨a,b,d⟩:=i;refine⟨by rw[a];exact h.nd,by rw[a,b];exact h.wa,λc x g=>na (h.le c x (by rw[<- b];exact g)) e.vo,?_,f,by rw[d];exact mH h.dn e.ag.length_le⟩;rw[a,d,R3 e.ag h.dn];exact h.un
theorem AZ(p:Nod)(b:Bal):((p.au b).1.bn=p.bn/\(p.au b).1.cl=p.cl/\(p.au b).1.done=p.done)/\(p.au b).1.av=p.av:=by
 unfold Nod.au;split
 .exact⟨⟨rfl,rfl,rfl⟩,rfl⟩
 .split
  .exact⟨⟨rfl,rfl,rfl⟩,rfl⟩
  .split<;>exact⟨⟨rfl,rfl,rfl⟩,rfl⟩
theorem Co(p:Nod)(v:Vt):((p.cn v).1.bn=p.bn/\(p.cn v).1.cl=p.cl/\(p.cn v).1.done=p.done)/\(p.cn v).1.av=p.av:=by
 unfold Nod.cn;split
 .exact⟨⟨rfl,rfl,rfl⟩,rfl⟩
 .split
  .exact⟨⟨rfl,rfl,rfl⟩,rfl⟩
  .split<;>exact⟨⟨rfl,rfl,rfl⟩,rfl⟩
theorem MK(p:Nod)(l:Let)(a:p.av.fv.Nodup):((p.take l).bn=p.bn/\(p.take l).cl=p.cl/\(p.take l).done=p.done)/\(p.take l).av.fv.Nodup:=by
 unfold Nod.take;split
 .split
  .unfold Nod.fa;split<;>exact⟨⟨rfl,rfl,rfl⟩,a⟩
  .have:=AZ p l.jv;exact⟨this.1,by show(p.au l.jv).1.av.fv.Nodup;rw[this.2];exact a⟩
 .simp only;split<;>exact⟨⟨rfl,rfl,rfl⟩,a⟩
 .exact⟨⟨rfl,rfl,rfl⟩,a⟩
 .split
  .unfold Nod.fa;split<;>exact⟨⟨rfl,rfl,rfl⟩,a⟩
  .have:=Co p l.cn;exact⟨this.1,by show(p.cn l.cn).1.av.fv.Nodup;rw[this.2];exact a⟩
 .unfold Nod.count;split
  .exact⟨⟨rfl,rfl,rfl⟩,a⟩
  .split<;>exact⟨⟨rfl,rfl,rfl⟩,a⟩
 .split<;>exact⟨⟨rfl,rfl,rfl⟩,a⟩
 .simp only;unfold Nod.eb;split<;>split<;>first|exact⟨⟨rfl,rfl,rfl⟩,a⟩|exact⟨⟨rfl,rfl,rfl⟩,Ib _ _ a⟩
 .exact⟨⟨rfl,rfl,rfl⟩,a⟩
theorem AskI.ln(h:AskI p)(i:Nat)(q:0<=p.vo.p.key):AskI (p.ln i).1:=by
 have key:∀ (l:List Cmd) (f:Cmd->Option Bal),(∀ c,c∈l->(f c).isSome=true)->(∀ c,((Bd p.vo.p f l).2 c).isSome=(f c).isSome)/\∀ c x,(Bd p.vo.p f l).2 c=some x->f c=some x\/x=p.vo.p:=by
  intro l;induction l with
  | nil=>exact λf _=>⟨λ_=>rfl,λ_ _ g=>.inl g⟩
  | cons c l ih =>
   intro f j;rw[Bd];split
   .have hu:∀ d,(BW f c (some p.vo.p) d).isSome=(f d).isSome:=λd=>by
     unfold BW;split
     .rename_i e;rw[e,j c O'];rfl
     .rfl
    obtain⟨a,k⟩:=ih (BW f c (some p.vo.p)) λd b=>by rw[hu];exact j d (I' _ b)
    refine⟨λd=>(a d).trans (hu d),λd x g=>?_⟩;rcases k d x g with g|g
    .unfold BW at g;split at g
     .exact .inr (ny g).symm
     .exact .inl g
    .exact .inr g
   .exact ih f λd b=>j d (I' _ b)
 obtain⟨n,o⟩:=key (p.bn.take 40) p.cl λc m=>(h.wa c).1 (mP m);have a:AskI { p with cl:=(Bd p.vo.p p.cl (p.bn.take 40)).2 }:=⟨h.nd,λc=>by show _↔((Bd p.vo.p p.cl (p.bn.take 40)).2 c).isSome=true;rw[n];exact h.wa c,λc x g=>by
  rcases o c x g with g|g
  .exact h.le c x g
  .rw[g];exact mE _,h.un,h.qn,h.dn⟩
 unfold Nod.ln;split
 .exact a
 .split
  .refine a.rk (.tU _ _) ?_ ?_
   .unfold Nod.eb;split<;>exact⟨rfl,rfl,rfl⟩
   .unfold Nod.eb;split
    .exact Ib _ _ h.qn
    .exact h.qn
  .exact a
theorem AskI.one(h:AskI p){c:Cmd}(b:p.ae[p.done]?=some c)(s:Sto):AskI (Nod.gC { p with nn:=s,done:=p.done+1 } c):=by
 have f:=(U'.1 b).1;have i:p.ae.take (p.done+1)=p.ae.take p.done++[c]:=by rw[nR,b];rfl
 unfold Nod.gC;split
 .refine⟨h.nd.erase c,λd=>?_,λd x g=>?_,λd a=>?_,h.qn,f⟩
  .show d∈p.bn.erase c↔(BW p.cl c none d).isSome=true;rw[h.nd.mem_erase_iff];unfold BW;split
   .rename_i e;simp[e]
   .rename_i e;rw[h.wa d];simp[e]
  .have g:BW p.cl c none d=some x:=g;unfold BW at g;split at g
   .cases g
   .exact h.le d x g
  .have a:d∈p.bn.erase c:=a;rw[h.nd.mem_erase_iff]at a
   show d∉p.ae.take (p.done+1);rw[i];intro e;rcases Q'.1 e with e|e
   .exact h.un d a.2 e
   .exact a.1 (D'.1 e)
 .rename_i hn
  refine⟨h.nd,h.wa,h.le,λd a=>?_,h.qn,f⟩;show d∉p.ae.take (p.done+1);rw[i];intro e;rcases Q'.1 e with e|e
  .exact h.un d a e
  .rw[D'.1 e]at a
   exact hn ((h.wa c).1 a)
theorem AskI.want(h:AskI p){c:Cmd}(b:c∉p.ae.take p.done)(a:0<=p.vo.p.key):AskI (p.want c):=by
 unfold Nod.want;split
 .exact h
 .rename_i hn
  have f:c∉p.bn:=λe=>hn ((h.wa c).1 e);refine⟨oX.2 ⟨h.nd,oY.2 ⟨P',oE⟩,λx i y j e=>f (by rw[<- D'.1 j,<- e];exact i)⟩,λd=>?_,λd x g=>?_,λd hd=>?_,h.qn,h.dn⟩
  .show d∈p.bn++[c]↔(BW p.cl c (some Bf) d).isSome=true;unfold BW;split
   .rename_i e;simp[e]
   .rename_i e;rw[<- h.wa d];simp[e]
  .have g:BW p.cl c (some Bf) d=some x:=g;unfold BW at g;split at g
   .rw[<- ny g];exact a
   .exact h.le d x g
  .rcases Q'.1 hd with hd|hd
   .exact h.un d hd
   .rw[D'.1 hd];exact b
theorem AskI.bare(p:Nod)(u:Bool)(d:List Int)(s:Int)(a:Acc)(x:List Pend):AskI (p.bare u d s a x):=⟨oE,λc=>⟨λe=>(by cases e),λe=>(by cases e)⟩,λc x e=>(by cases e),λc e=>(by cases e),oE,A' _⟩
theorem AskI.step{D:Wh}{c:Nat}(s:Stp D c M N){σ:Gs}(g:AgI σ M)(h:∀ j,j<5->AskI (M.ab j)):∀ j,j<5->AskI (N.ab j):=by
 intro j i;have put:∀ {k:Nat} {p:Nod} {f:List Let} {o:List Tol},(k<5->AskI p)->AskI ((M.set k p f o).ab j):=λ{k p f o} e=>by
  rw[Am];split
  .rename_i e2;exact e (by omega)
  .exact h j i
 have pos:∀ {k:Nat},k<5->(M.ab k).up=true->0<=(M.ab k).vo.p.key:=λ{k} m a=>by
  obtain⟨t,q⟩:=(g.nd k m).up a;have n:=q.tp.ok.acc.1;rw[<- q.tp.vo]at n
  unfold Ao Ab at n;unfold Bal.key;omega
 cases s with
 | take _ l hl hd a ht =>
  have:=MK (M.ab l.dst) l (h _ hd.2).qn;exact put λ_=>(h _ hd.2).rk (.take _ l) this.1 this.2
 | br _ f hl hd=>exact h j i
 | one _ k c hi a hc he=>exact put λ_=>(h k hi).one hc _
 | ask _ k hi a=>exact put λ_=>(h k hi).ln k (pos hi a)
 | prop _ k hi a =>
  refine put λ_=>(h k hi).rk (.cF _) ?_ ?_
  .unfold Nod.cF;split
   .exact⟨rfl,rfl,rfl⟩
   .split
    .exact⟨rfl,rfl,rfl⟩
    .split
     .exact⟨rfl,rfl,rfl⟩
     .exact(Co (M.ab k) _).1
  .unfold Nod.cF;split
   .exact(h k hi).qn
   .split
    .exact(h k hi).qn
    .split<;>exact(h k hi).qn
 | rJ _ k hi a hs hT=>exact put λ_=>⟨(h k hi).nd,(h k hi).wa,(h k hi).le,(h k hi).un,(h k hi).qn,(h k hi).dn⟩
 | run _ k hi a q l hp hs =>
  refine put λ_=>(h k hi).rk ((Ev.lp _ k q).bw l) ?_ ?_
  .show((M.ab k).lp k q).bn=_/\((M.ab k).lp k q).cl=_/\((M.ab k).lp k q).done=_;cases q<;>first|exact⟨rfl,rfl,rfl⟩|(simp only[Nod.lp];split<;>exact⟨rfl,rfl,rfl⟩)|(simp only[Nod.lp,Nod.count];split<;>first|exact⟨rfl,rfl,rfl⟩|(split<;>exact⟨rfl,rfl,rfl⟩))
  .show((M.ab k).lp k q).av.fv.Nodup;have:=(h k hi).qn;cases q<;>first|exact this|(simp only[Nod.lp];split<;>exact this)|(simp only[Nod.lp,Nod.count];split<;>first|exact this|(split<;>exact this))
 | rG _ k hi a hL=>exact put λ_=>⟨(h k hi).nd,(h k hi).wa,(h k hi).le,(h k hi).un,(h k hi).qn,(h k hi).dn⟩
 | lead _ k hi a hL =>
  refine put λ_=>?_;unfold Nod.lead;simp only;split
  .exact h k hi
  .generalize (⟨max (M.ab k).dc (M.ab k).vo.p.r+1,(k:Int)⟩:Bal)=b;have e:=AZ (M.ab k) b;have q:=(h k hi).rk (.au _ b) e.1 (by rw[e.2];exact(h k hi).qn);exact⟨q.nd,q.wa,q.le,q.un,oE,q.dn⟩
 | sub _ k d hi a hD =>
  refine put λ_=>?_;unfold Nod.rO Nod.rQ;split
  .exact h k hi
  .split
   .exact⟨(h k hi).nd,(h k hi).wa,(h k hi).le,(h k hi).un,(h k hi).qn,(h k hi).dn⟩
   .split
    .exact h k hi
    .rename_i hc;exact(h k hi).want hc (pos hi a)
 | mv _ k x hi a m hC =>
  refine put λ_=>?_;unfold Nod.mv;split
  .exact h k hi
  .exact .bare _ _ _ _ _ _
 | start _ k hi a hs =>
  refine put λ_=>?_;unfold Nod.start;split
  .exact h k hi
  .split<;>exact .bare _ _ _ _ _ _
theorem AskI.zero:∀ j,j<5->AskI (As.ab j):=λj _=>AskI.bare Dc true [] 0 Ej []
theorem Stp.cl{n:Nat}(s:Stp wh0 n M N){j:Nat}{c:Cmd}{x:Bal}(h:(N.ab j).cl c=some x):(M.ab j).cl c=some x\/(j<5/\N=M.set j ((M.ab j).ln j).1 (M.br++((M.ab j).ln j).2) M.ew):=by
 have put:∀ {k:Nat} {p:Nod} {a:List Let} {b:List Tol},((M.set k p a b).ab j).cl c=some x->(p.cl c=some x->(M.ab k).cl c=some x)->(M.ab j).cl c=some x:=λ{k p a b} g e=>by
  rw[Am]at g
  split at g
  .rename_i e2;rw[e2];exact e g
  .exact g
 cases s with
 | take _ l hl hd hu ht =>
  refine .inl (put h λg=>?_);rw[show((M.ab l.dst).take l).cl=(M.ab l.dst).cl from ?_]at g
  .exact g
  .unfold Nod.take;split
   .split
    .unfold Nod.fa;split<;>rfl
    .exact(AZ _ _).1.2.1
   .simp only;split<;>rfl
   .rfl
   .split
    .unfold Nod.fa;split<;>rfl
    .exact(Co _ _).1.2.1
   .unfold Nod.count;split
    .rfl
    .split<;>rfl
   .split<;>rfl
   .simp only;unfold Nod.eb;split<;>split<;>rfl
   .rfl
 | br _ a hl hd=>exact False.elim hd
 | one _ k d hi hu hc he =>
  refine .inl (put h λg=>?_);unfold Nod.gC at g;split at g
  .have g:BW (M.ab k).cl d none c=some x:=g;unfold BW at g;split at g
   .cases g
   .exact g
  .exact g
 | ask _ k hi hu =>
  by_cases e:j=k
  .subst e;exact .inr ⟨hi,rfl⟩
  .rw[Am,if_neg e]at h;exact .inl h
 | prop _ k hi hu =>
  refine .inl (put h λg=>?_);unfold Nod.cF at g;split at g
  .exact g
  .split at g
   .exact g
   .split at g
    .exact g
    .have g:((M.ab k).cn _).1.cl c=some x:=g;rw[(Co _ _).1.2.1]at g;exact g
 | rJ _ k hi hu hs hT=>exact .inl (put h λg=>g)
 | run _ k hi hu q l hp hs =>
  refine .inl (put h λg=>?_);have g:((M.ab k).lp k q).cl c=some x:=g;rw[show((M.ab k).lp k q).cl=(M.ab k).cl from ?_]at g
  .exact g
  .cases q<;>first|rfl|(simp only[Nod.lp];split<;>rfl)|(simp only[Nod.lp,Nod.count];split<;>first|rfl|(split<;>rfl))
 | rG _ k hi hu hL=>exact .inl (put h λg=>g)
 | lead _ k hi hu hL=>exact False.elim hL
 | sub _ k d hi hu hD=>exact False.elim hD
 | mv _ k y hi hu hk hC=>exact False.elim hC
 | start _ k hi hu hs=>exact False.elim hs
end
section
variable{C:List Cmd}{K:Int}{B:Nat->Bal}{cov:List (Bal × Nat)}{i:Nat}{b:Bal}
structure PhB(C:List Cmd)(K:Int)(B:Nat->Bal)(cov:List (Bal × Nat))(i:Nat)(b:Bal)(M:Meet):Prop where
 cm:Cm (λc=>c∈C) K B cov M
 ak:∀ j,j<5->AskI (M.ab j)
 vi:(M.ab i).vo.p=b
structure PhC(C:List Cmd)(K:Int)(B:Nat->Bal)(cov:List (Bal × Nat))(i:Nat)(b:Bal):Prop where
 hc:∀ j,j<5->∀ s,s<40->(B j,s)∈cov
 hC:C.length<40
 hi:i<5
 hb:Ab b
 hn:b.n=(i:Int)
 hB:B i=b
 hK:b.key=K
theorem PhB.step(a:PhC C K B cov i b){n:Nat}{M N:Meet}(s:Stp wh0 n M N)(h:PhB C K B cov i b M):PhB C K B cov i b N:=by
 obtain⟨σ,g,_⟩:=h.cm.ex;exact⟨h.cm.step a.hc s,AskI.step s g h.ak,h.cm.top a.hc s a.hb.pr a.hK a.hi h.vi⟩
theorem PhB.leads(a:PhC C K B cov i b){M:Meet}(h:PhB C K B cov i b M):(M.ab i).leads=true:=by
 have c:=a.hb;unfold Nod.leads;refine M' ⟨?_,?_⟩
 .rw[h.cm.jv i a.hi,a.hB];intro e;rw[e]at c
  exact absurd c (by decide)
 .rw[h.cm.jv i a.hi,a.hB,h.vi]
def QA(i:Nat)(b:Bal)(M:Meet):Prop:=∀ j,j<5->∀ c,(M.ab j).cl c=some b->c∈(M.ab i).av.fv\/∃ m∈M.br,m.kind=6/\m.dst=i/\c∈m.hZ
theorem QA.step(t:PhC C K B cov i b){n:Nat}{M N:Meet}(s:Stp wh0 n M N)(h:PhB C K B cov i b M)(q:QA i b M):QA i b N:=by
 intro j x c a;have z:b≠Bf:=λe=>by have:=t.hb;rw[e]at this;exact absurd this (by decide)
 by_cases e:(M.ab j).cl c=some b
 .rcases q j x c e with g|⟨m,g1,g2⟩
  .exact .inl ((s.ev i).qu.subset g)
  .exact .inr ⟨m,s.rP g1,g2⟩
 .rcases s.cl a with g|⟨_,rfl⟩
  .exact absurd g e
  .rw[Am,if_pos rfl]at a
   have E:=h.ak j x;have y:(Bd (M.ab j).vo.p (M.ab j).cl ((M.ab j).bn.take 40)).2 c=some b:=by
    unfold Nod.ln at a;split at a
    .exact a
    .split at a
     .unfold Nod.eb at a;split at a<;>exact a
     .exact a
   have r:(M.ab j).vo.p=b/\c∈(M.ab j).bn.take 40:=by
    have key:∀ (l:List Cmd) (f:Cmd->Option Bal) (p:Bal),(Bd p f l).2 c=some b->f c=some b\/(p=b/\c∈l):=by
     intro l;induction l with
     | nil=>exact λf p g=>.inl g
     | cons d l ih =>
      intro f p g;rw[Bd]at g
      split at g
      .rcases ih _ p g with k|k
       .unfold BW at k;split at k
        .rename_i e;exact .inr ⟨ny k,by rw[e];exact O'⟩
        .exact .inl k
       .exact .inr ⟨k.1,I' _ k.2⟩
      .exact(ih f p g).imp id λk=>⟨k.1,I' _ k.2⟩
    exact(key _ _ _ y).resolve_left e
   obtain⟨r,H⟩:=r;have D:=Lm z ((M.ab j).bn.take 40) (M.ab j).cl;have o:c∈(Bd (M.ab j).vo.p (M.ab j).cl ((M.ab j).bn.take 40)).1:=by rw[r];exact(D.2.2.1 c H).resolve_left e
   have u:¬ (Bd (M.ab j).vo.p (M.ab j).cl ((M.ab j).bn.take 40)).1=[]:=λg=>by rw[g]at o;cases o
   have v:∀ d∈(Bd (M.ab j).vo.p (M.ab j).cl ((M.ab j).bn.take 40)).1,d∈C:=λd w=>by
    rw[r]at w
    exact(h.cm.s.nd j x).wa d (mP (D.2.2.2 d w))
   by_cases A:j=i
   .subst A;refine .inl ?_;rw[Am,if_pos rfl];unfold Nod.ln;rw[if_neg u,if_pos (by rw[r];exact t.hn)];have F:({ M.ab j with cl:=(Bd (M.ab j).vo.p (M.ab j).cl ((M.ab j).bn.take 40)).2 }:Nod).leads=true:=h.leads t;unfold Nod.eb;rw[if_pos F];exact Qo t.hC _ _ E.qn (λd w=>(h.cm.s.nd j x).qu d w) v c o
   .refine .inr ?_;have G:¬ (M.ab j).vo.p.n=(j:Int):=by rw[r,t.hn];omega
    unfold Nod.ln;rw[if_neg u,if_neg G];refine⟨_,mG _ (D'.2 rfl),rfl,?_,o⟩;show(M.ab j).vo.p.n.toNat=i;rw[r,t.hn];exact nt i
theorem QZ(a:PhC C K B cov i b){n:Nat}{M:Meet}(E:MOk n M)(L:n+6<=1000000)(h:PhB C K B cov i b M)(q:QA i b M):PhB C K B cov i b (M.dT An)/\(∀ j,j<5->∀ c,((M.dT An).ab j).cl c=some b->c∈((M.dT An).ab i).av.fv)/\(M.dT An).br=[]/\MOk (n+6) (M.dT An):=by
 have v:∀ A N,TkS A N->PhB C K B cov i b A->PhB C K B cov i b N:=λA N s g=>g.step a s.rV;have z:=Bn (I:=λN=>PhB C K B cov i b N/\QA i b N) (λc A N s g=>⟨g.1.step a s.calm,g.2.step a s.calm g.1⟩) E (by omega) ⟨h,q⟩;rw[show An=AE 3 5++[acN 7 0]from rfl,AJ];generalize M.dT (AE 3 5)=A at z ⊢;obtain⟨p,k,u⟩:=z;have y:=p.act (by omega) (x:=acN 7 0) (by rw[<- DP];decide);have t:∀ j,j<5->∀ c,((A.act (acN 7 0)).ab j).cl c=some b->c∈((A.act (acN 7 0)).ab i).av.fv:=λj G c r=>by
  obtain⟨N,f,o,_⟩:=Cw (I:=λN=>PhB C K B cov i b N/\(N.ab j).cl c=(A.ab j).cl c) (λD N s g=>⟨v D N s g.1,by
   obtain⟨l,_,w,_,rfl⟩:=s;rw[Am];split
   .rename_i e
    rw[(MK (D.ab l.dst) l (g.1.ak _ w.2).qn).1.2.1,<- e];exact g.2
   .exact g.2⟩) p ⟨k,rfl⟩
  rw[f]at r
  have r:(N.ab j).cl c=some b:=r;rw[o.2]at r
  rcases u j G c r with g|⟨m,g1,g2,g3,g4⟩
  .obtain⟨N,f,o,_⟩:=Cw (I:=λN=>c∈(N.ab i).av.fv) (λD N s g=>(s.rV.ev i).qu.subset g) p g;rw[f];exact o
  .obtain⟨N,f,_,k3,_⟩:=DT (I:=PhB C K B cov i b) (J:=λN=>c∈(N.ab i).av.fv) v (λD N s _ g=>(s.rV.ev i).qu.subset g) p k g1 (λN g=>g.cm.up _ (by rw[g3];exact a.hi)) (λN g e=>by
    have F:=(g.cm.s.lt m (by rw[e];exact g1)).wh;rw[g3,Am,if_pos rfl];have H:c∈((N.ab i).eb m.hZ).av.fv:=by
     unfold Nod.eb;rw[if_pos (g.leads a)];exact Qo a.hC _ _ (g.ak i a.hi).qn (λd w=>(g.cm.s.nd i a.hi).qu d w) F c g4
    unfold Nod.take;rw[g2];simp only;split<;>exact H)
   rw[f];exact k3
 obtain⟨N,f,o,_⟩:=Cw (I:=PhB C K B cov i b) v p k;refine⟨?_,t,by rw[f],y⟩;rw[f];exact⟨o.cm.drop,o.ak,o.vi⟩
theorem Wx(a:PhC C K B cov i b){n:Nat}{M:Meet}(t:MOk n M)(I:n+6<=1000000)(h:PhB C K B cov i b M){j:Nat}(y:j<5){H:List Vt}(E:Pend.prom i b H∈(M.ab j).bw):((M.dT An).ab i).av.rA j=true:=by
 have x:∀ A N,TkS A N->PhB C K B cov i b A->PhB C K B cov i b N:=λA N s g=>g.step a s.rV;have d:∀ c A N,Stp wh1 c A N->PhB C K B cov i b A->PhB C K B cov i b N:=λc A N s g=>g.step a s.calm;have f:=Bn d t (by omega) h;have q:=F9 (J:=λN=>∃ m∈N.br,m.kind=1/\m.src=j/\m.dst=i/\m.jv=b) d (λc A N s _ ⟨m,o,p⟩=>⟨m,s.calm.rP o,p⟩) (λA k g u=>⟨g.cm.up k u,g.cm.sm u⟩) t (by omega) h y E (λN l g _ _=>⟨_,mG _ (D'.2 rfl),rfl,rfl,rfl,rfl⟩);rw[show An=AE 3 5++[acN 7 0]from rfl,AJ];generalize M.dT (AE 3 5)=A at f q ⊢;obtain⟨m,o,p,v,r,w⟩:=q;obtain⟨N,F,_,G,_⟩:=DT (J:=λN=>(N.ab i).av.rA j=true) x (λD N s _ g=>(s.rV.ev i).rA j g) f.1 f.2 o (λN g=>g.cm.up _ (by rw[r];exact a.hi)) (λN g e=>by
  rw[r,Am,if_pos rfl];have z:((N.ab i).lr 0 m.hZ).leads=true:=g.leads a;unfold Nod.take;rw[p];simp only;rw[v,w];split
  .rename_i hc
   rcases hc with hc|hc|hc
   .rw[z]at hc;cases hc
   .exact absurd (show b=(N.ab i).av.jv by rw[g.cm.jv i a.hi,a.hB]) hc
   .exact hc
  .exact Dg _ _ _)
 rw[F];exact G
end
theorem Uq(i:Nat)(l:List Cmd)(p:Nod)(a:List Tol):(rK i l p a).1.av=p.av/\(rK i l p a).1.ae=p.ae:=by
 induction l generalizing p a with
 | nil=>exact⟨rfl,rfl⟩
 | cons c l ih =>
  rw[rK];split
  .exact⟨rfl,rfl⟩
  .have h1:=ih (Nod.gC { p with nn:=doS p.nn c,done:=p.done+1 } c) (if(p.cl c).isSome=true then a++[⟨i,c.c,c.s,doC p.nn c,doA p.nn c⟩]else a);have b:(Nod.gC { p with nn:=doS p.nn c,done:=p.done+1 } c).av=p.av/\(Nod.gC { p with nn:=doS p.nn c,done:=p.done+1 } c).ae=p.ae:=by unfold Nod.gC;split<;>exact⟨rfl,rfl⟩
   exact⟨h1.1.trans b.1,h1.2.trans b.2⟩
theorem Io{D:Wh}{i:Nat}(c:i<5){M:Meet}(t:(M.ab i).up=true):∃ M0,Sts D 0 M M0/\(M0.ab i).up=true/\(M0.ab i).av=(M.ab i).av/\(M0.ab i).ae=(M.ab i).ae /\
  ∃ M1,M1=M0.set i ((M0.ab i).ln i).1 (M0.br++((M0.ab i).ln i).2) M0.ew/\(M1.ab i).up=true/\Sts D 0 M0 M1/\Sts D 0 (M1.set i (M1.ab i).cF M1.br M1.ew) (M.act (acN 3 (i:Int))):=by
 rw[Hl t];have w:Sts D 0 M (M.set i (M.ab i) M.br M.ew):=by rw[EX];exact .nil 0 M
 obtain⟨p,h⟩:=Sts.rK c _ (M.ab i) w t rfl;have q:=Uq i ((M.ab i).ae.drop (M.ab i).done) (M.ab i) M.ew;unfold Nod.piece;simp only;generalize Go.Proofs.YtdnmoonbpfmijaaGreatDoor.rK i ((M.ab i).ae.drop (M.ab i).done) (M.ab i) M.ew=a at p h q ⊢;refine⟨_,p,by rw[Bj];exact h,by rw[Bj];exact q.1,by rw[Bj];exact q.2,?_⟩;have e:=Bj M i a.1 M.br a.2;have s:=Stp.ask (D:=D) (M.set i a.1 M.br a.2) i c (by rw[e];exact h);have l:=(I2 a.1 i).trans h;rw[e,Ci]at s
 refine⟨M.set i (a.1.ln i).1 (M.br++(a.1.ln i).2) a.2,by rw[e,Ci];rfl,by rw[Bj];exact l,s.s,?_⟩;show Sts D 0 ((M.set i (a.1.ln i).1 (M.br++(a.1.ln i).2) a.2).set i ((M.set i (a.1.ln i).1 (M.br++(a.1.ln i).2) a.2).ab i).cF (M.br++(a.1.ln i).2) a.2) _;clear e s p;generalize (a.1.ln i)=b at l ⊢;rw[Bj,Ci];have g:=(ED b.1).trans l;show Sts D 0 (M.set i b.1.cF (M.br++b.2) a.2) _;generalize b.1.cF=r at g ⊢;generalize M.br++b.2=k at ⊢;have j:Sts D 0 (M.set i r k a.2) (M.set i (r.ov i k).1 (r.ov i k).2 a.2)/\(r.ov i k).1.up=true:=by
  unfold Nod.ov;split
  .exact⟨.nil 0 _,g⟩
  .rename_i hn
   have e:=Bj M i r k a.2;unfold Nod.rJ;split
   .rename_i h1
    have m:De r.d r.sy=0:=mF.1 λe=>hn ⟨h1,e⟩;have o:AT r.d r.sy:=by
     unfold De at m;split at m
     .assumption
     .cases m
    have s:=Stp.rJ (D:=D) (M.set i r k a.2) i c (by rw[e];exact g) (by rw[e];exact h1) (by rw[e];exact o);rw[e,Ci]at s
    have u:Hr r.d r.sy=r.d:=if_pos o;have v:Ir r.d r.sy=(r.d.length:Int):=if_pos o;rw[u,v];have:=Sts.pf (D:=D) (n:=0) (M:=M.set i r k a.2) (ls:=k) (ts:=a.2) c r.bw { r with sy:=(r.d.length:Int),bw:=[] } (by rw[Ci];exact(Sts.nil 0 _).s0 s) g rfl (qJ _);rw[Ci]at this
    exact this
   .rename_i h1
    have:=Sts.pf (D:=D) (n:=0) (M:=M.set i r k a.2) (ls:=k) (ts:=a.2) c r.bw { r with bw:=[] } (by rw[Ci];exact .nil 0 _) g rfl h1;rw[Ci]at this
    exact this
 generalize r.ov i k=f at j ⊢;unfold Nod.bN;split
 .rename_i hL
  have e:=Bj M i f.1 f.2 a.2;have s:=Stp.rG (D:=D) (M.set i f.1 f.2 a.2) i c (by rw[e];exact j.2) (by rw[e];exact hL);rw[e,Ci]at s
  exact j.1.s0 s
 .exact j.1
section
variable{C:List Cmd}{K:Int}{B:Nat->Bal}{cov:List (Bal × Nat)}{i:Nat}{b:Bal}
theorem eq(a:PhC C K B cov i b)(d:14*K+38*(cov.length:Int)<=99000){M:Meet}(h:PhB C K B cov i b M)(j:(M.ab i).av.rH=true)(n:(M.ab i).av.next<=(M.ab i).ae.length){c:Cmd}(f:(M.ab i).ry (M.ab i).ae.length=some c)(l:Ah ⟨((M.ab i).ae.length:Int),b,c⟩) :
  (M.ab i).cF.av.next=(M.ab i).ae.length+1/\Pend.prop ⟨((M.ab i).ae.length:Int),b,c⟩∈(M.ab i).cF.bw:=by
 have e:(M.ab i).av.jv=b:=(h.cm.jv i a.hi).trans a.hB;have k:=h.leads a;have m:=h.cm.ti d a.hi l (λg=>by
  have:b.lt (M.ab i).vo.p:=g;rw[h.vi]at this
  unfold Bal.lt at this;omega)
 unfold Nod.cF;rw[if_neg (λg=>by
  rcases g with g|g|g
  .rw[k]at g;cases g
  .rw[j]at g;cases g
  .omega),f]
 simp only;rw[e,if_neg (λg=>g m.1)];exact⟨rfl,mG _ (D'.2 rfl)⟩
theorem Xp(f:PhC C K B cov i b)(e:14*K+38*(cov.length:Int)<=99000){M:Meet}(h:PhB C K B cov i b M){j:Nat}(a:j<5){v:Vt}(c:Ah v)(o:v.b=b){l:Let}(k:l.kind=3)(m:l.cn=v):Pend.voted l.src v∈((M.ab j).take l).bw:=by
 have n:=h.cm.le a;have d:=h.cm.ti e a c (by rw[Fg c.2.1.pr (h.cm.acc a).1,o,f.hK];omega);unfold Nod.take;rw[k];simp only;rw[m,if_neg (λg=>g d.1)];exact mG _ (D'.2 rfl)
end
end Go.Proofs.YtdnmoonbpfmijaaGreatDoor
