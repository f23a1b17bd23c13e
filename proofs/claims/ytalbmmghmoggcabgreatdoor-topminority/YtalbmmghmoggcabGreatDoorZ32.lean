/- Part 32 of the walk. -/
import Derived.Test.YtalbmmghmoggcabGreatDoorZ31
set_option maxRecDepth 100000
set_option maxHeartbeats 4000000
open Go.Proofs.Tryz
set_option linter.unusedVariables false
namespace Go.Proofs.YtalbmmghmoggcabGreatDoor
section
structure Alw where
 ca:Bool
 ld:Bool
 cr:Bool
 st:Bool
structure NInv(A:Alw)(i:Nat)(D:List Int->Prop)(Q:Let->Prop)(P:Nod->Prop):Prop where
 take:A.ca=true->∀ p l,P p->Q l->l.dst=i->p.up=true->P (p.take l)
 one:∀ p c,P p->p.up=true->p.agreed[p.done]?=some c->doE p.sto c=0->P (Nod.unwant { p with sto:=doS p.sto c,done:=p.done+1 } c)
 ask:∀ p,P p->p.up=true->P (p.askd i).1/\∀ l∈(p.askd i).2,Q l
 prop:∀ p,P p->p.up=true->P p.propose
 syn:∀ p,P p->p.up=true->P p.syn
 run:∀ p q l,P p->p.up=true->p.pend=q::l->¬ p.sy<(p.d.length:Int)->P { p.runP i q with pend:=l }/\∀ m∈p.sentP i q,Q m
 teach:∀ p,P p->p.up=true->p.leads=true->P (Iq p i 5)/\∀ l∈D3 p i 5,Q l
 lead:A.ld=true->∀ p,P p->p.up=true->P (p.lead i)
 sub:∀ p d ts,P p->D d->p.up=true->P (p.subm i d ts).1
 crash:A.cr=true->∀ p k,P p->0<=k->p.up=true->P (p.crash k)
 start:A.st=true->∀ p,P p->p.up=false->P p.start
theorem Tu(p:Nod)(i:Nat)(q:Pend)(x:List Pend):({ p with pend:=x }:Nod).runP i q={ p.runP i q with pend:=x }:=by
 cases q with
 | began b vs=>unfold Nod.runP;simp only;split<;>rfl
 | prop v =>
  unfold Nod.runP Nod.count;simp only;split
  .rfl
  .split<;>rfl
 | _=>rfl
theorem Tt(p:Nod)(i:Nat)(q:Pend):(p.runP i q).pend=p.pend/\(p.runP i q).up=p.up/\(p.runP i q).d=p.d/\(p.runP i q).sy=p.sy:=by
 cases q with
 | began b vs=>unfold Nod.runP;simp only;split<;>exact⟨rfl,rfl,rfl,rfl⟩
 | prop v =>
  unfold Nod.runP Nod.count;simp only;split
  .exact⟨rfl,rfl,rfl,rfl⟩
  .split<;>exact⟨rfl,rfl,rfl,rfl⟩
 | _=>exact⟨rfl,rfl,rfl,rfl⟩
theorem QH(p:Nod)(i:Nat)(q:Pend)(x:List Pend):({ p with pend:=x }:Nod).sentP i q=p.sentP i q:=by cases q<;>rfl
theorem IQ(p:Nod)(c:Cmd):(p.unwant c).up=p.up/\(p.unwant c).agreed=p.agreed/\(p.unwant c).done=p.done/\(p.unwant c).sto=p.sto:=by unfold Nod.unwant;split<;>exact⟨rfl,rfl,rfl,rfl⟩
theorem PD(p:Nod)(l:List Cmd):(p.enqueue l).up=p.up:=by unfold Nod.enqueue;split<;>rfl
theorem Xq(p:Nod)(i:Nat):(p.askd i).1.up=p.up:=by
 unfold Nod.askd;split
 .rfl
 .split
  .exact PD _ _
  .rfl
theorem Zg(p:Nod)(v:Vt):(p.vote v).1.up=p.up:=by
 unfold Nod.vote;split
 .rfl
 .split
  .rfl
  .split<;>rfl
theorem Q9(p:Nod):p.propose.up=p.up:=by
 unfold Nod.propose;split
 .rfl
 .split
  .rfl
  .split
   .rfl
   .exact Zg p _
theorem cz(p:Nod):p.syn.up=p.up:=by unfold Nod.syn;split<;>rfl
section
variable{A:Alw}{i:Nat}{D:List Int->Prop}{Q:Let->Prop}{P:Nod->Prop}
theorem NInv.doP(h:NInv A i D Q P)(l:List Cmd)(p:Nod)(ts:List Tol)(hp:P p)(hu:p.up=true)(hl:p.agreed.drop p.done=l):P (doP i l p ts).1/\(Go.Proofs.YtalbmmghmoggcabGreatDoor.doP i l p ts).1.up=true:=by
 induction l generalizing p ts with
 | nil=>exact⟨hp,hu⟩
 | cons c l ih =>
  rw[Go.Proofs.YtalbmmghmoggcabGreatDoor.doP];split
  .exact⟨hp,hu⟩
  .rename_i he
   have hc:p.agreed[p.done]?=some c:=by
    have:=congrArg (·[0]?) hl;simpa using this
   have hk:=IQ { p with sto:=doS p.sto c,done:=p.done+1 } c;refine ih _ _ (h.one p c hp hu hc (gi.1 he)) (hk.1.trans hu) ?_;rw[hk.2.1,hk.2.2.1];show p.agreed.drop (p.done+1)=l;rw[<- iC,hl];rfl
theorem NInv.doneP(h:NInv A i D Q P)(l:List Pend)(p:Nod)(ls:List Let)(hp:P { p with pend:=l })(hu:p.up=true)(h0:p.pend=[])(hs:¬ p.sy<(p.d.length:Int))(hl:∀ m∈ls,Q m):P (doneP i l p ls).1/\(∀ m∈(Go.Proofs.YtalbmmghmoggcabGreatDoor.doneP i l p ls).2,Q m)/\(Go.Proofs.YtalbmmghmoggcabGreatDoor.doneP i l p ls).1.up=true:=by
 induction l generalizing p ls with
 | nil =>
  refine⟨?_,hl,hu⟩;have:({ p with pend:=[] }:Nod)=p:=by cases p;simp_all
  rw[this]at hp;exact hp
 | cons q l ih =>
  have hk:=Tt p i q;obtain⟨h1,h2⟩:=h.run { p with pend:=q::l } q l hp hu rfl hs;rw[Tu]at h1
  rw[QH]at h2
  exact ih (p.runP i q) (ls++p.sentP i q) h1 (hk.2.1.trans hu) (hk.1.trans h0) (by rw[hk.2.2.1,hk.2.2.2];exact hs) λm hm=>(Y'.1 hm).elim (hl m) (h2 m)
theorem NInv.piece(h:NInv A i D Q P)(p:Nod)(ls:List Let)(ts:List Tol)(hp:P p)(hu:p.up=true)(hl:∀ m∈ls,Q m):P (p.piece i ls ts).1/\∀ m∈(p.piece i ls ts).2.1,Q m:=by
 obtain⟨a1,a2⟩:=h.doP _ p ts hp hu rfl;unfold Nod.piece;simp only;obtain⟨b1,b2⟩:=h.ask _ a1 a2;have bu:=(Xq (Go.Proofs.YtalbmmghmoggcabGreatDoor.doP i (p.agreed.drop p.done) p ts).1 i).trans a2;have c1:=h.prop _ b1 bu;have cu:=(Q9 ((Go.Proofs.YtalbmmghmoggcabGreatDoor.doP i (p.agreed.drop p.done) p ts).1.askd i).1).trans bu;have hls:∀ m∈ls++((Go.Proofs.YtalbmmghmoggcabGreatDoor.doP i (p.agreed.drop p.done) p ts).1.askd i).2,Q m:=λm hm=>(Y'.1 hm).elim (hl m) (b2 m);generalize ls++((Go.Proofs.YtalbmmghmoggcabGreatDoor.doP i (p.agreed.drop p.done) p ts).1.askd i).2=k at hls ⊢;generalize ((Go.Proofs.YtalbmmghmoggcabGreatDoor.doP i (p.agreed.drop p.done) p ts).1.askd i).1.propose=r at c1 cu ⊢;have hd:P (r.syncd i k).1/\(∀ m∈(r.syncd i k).2,Q m)/\(r.syncd i k).1.up=true:=by
  unfold Nod.syncd;split
  .exact⟨c1,hls,cu⟩
  .rename_i hn
   have hp2:=h.syn r c1 cu;have hpd:r.syn.pend=r.pend:=by unfold Nod.syn;split<;>rfl
   refine h.doneP r.pend { r.syn with pend:=[] } k (by rw[<- hpd];exact hp2) ((cz r).trans cu) rfl ?_ hls;show ¬ r.syn.sy<(r.syn.d.length:Int);unfold Nod.syn;split
   .rename_i h1
    have:CY r.d r.sy=0:=gi.1 λe=>hn ⟨h1,e⟩;have hT:CR r.d r.sy:=by
     unfold CY at this;split at this
     .assumption
     .cases this
    show ¬ K5 r.d r.sy<((Jh r.d r.sy).length:Int);unfold K5 Jh;rw[if_pos hT,if_pos hT];exact Int.lt_irrefl _
   .rename_i h1;exact h1
 unfold Nod.taught;split
 .rename_i hL
  obtain⟨e1,e2⟩:=h.teach _ hd.1 hd.2.2 hL;exact⟨e1,λm hm=>(Y'.1 hm).elim (hd.2.1 m) (e2 m)⟩
 .exact⟨hd.1,hd.2.1⟩
end
section
structure GInv(Q:Let->Prop)(P:Nat->Nod->Prop)(M:Meet):Prop where
 node:∀ i,i<5->P i (M.node i)
 lets:∀ l∈M.lets,Q l
variable{A:Alw}{D:Nat->List Int->Prop}{M:Meet}{P:Nat->Nod->Prop}{Q:Let->Prop}{R:List Tol->Prop}{i j n y:Nat}{p:Nod}{x:Lac}
theorem GInv.set(h:GInv Q P M){ls:List Let}{ts:List Tol}(hp:P i p)(hl:∀ l∈ls,Q l):GInv Q P (M.set i p ls ts) :=
 ⟨λj hj=>by
  show P j (upN M.node i p j);unfold upN;split
  .rename_i e;rw[e];exact hp
  .exact h.node j hj,hl⟩
theorem GInv.come(hI:∀ i,i<5->NInv A i (D i) Q (P i))(hc:A.ca=true)(h:GInv Q P M){l:Let}(hl:Q l)(hd:l.dst<5):GInv Q P (M.come l):=by
 unfold Meet.come;split
 .rename_i hu
  exact h.set (ls:=M.lets) (ts:=M.told) ((hI _ hd).take hc _ l (h.node _ hd) hl rfl hu) h.lets
 .exact h
theorem GInv.comes(hI:∀ i,i<5->NInv A i (D i) Q (P i))(hc:A.ca=true)(l:List Let)(h:GInv Q P M)(hl:∀ m∈l,Q m/\m.dst<5):GInv Q P (l.foldl (λM l=>M.come l) M):=by
 induction l generalizing M with
 | nil=>exact h
 | cons x l ih=>exact ih (h.come hI hc (hl x V').1 (hl x V').2) λm hm=>hl m (Q' _ hm)
structure Alw.Ok(A:Alw)(x:Lac):Prop where
 ca:x.k=4\/x.k=6\/x.k=7->A.ca=true
 ld:x.k=2->A.ld=true
 cr:x.k=8->A.cr=true
 st:x.k=9->A.st=true
theorem GInv.act(hI:∀ i,i<5->NInv A i (D i) Q (P i))(h:GInv Q P M)(hM:MOk n M)(hx:LacOk x)(hA:A.Ok x)(hD:x.k=1->D x.n.toNat x.d):GInv Q P (M.act x):=by
 have hnode:∀ {k:Int},x.k=k->EF k=true->x.n.toNat<5:=λ{k} e e2=>by have:=hx.n (by rw[e];exact e2);omega
 unfold Meet.act;simp only;by_cases h1:x.k=1
 .rw[if_pos h1];have hi:=hnode h1 rfl;refine h.set ?_ h.lets;unfold Nod.subm;by_cases hu:(M.node x.n.toNat).up=true
  .exact(hI _ hi).sub _ x.d M.told (h.node _ hi) (hD h1) hu
  .unfold Nod.sub0;rw[if_pos (by simpa using hu)];exact h.node _ hi
 .rw[if_neg h1];by_cases h2:x.k=2
  .rw[if_pos h2];have hi:=hnode h2 rfl;refine h.set ?_ h.lets;split
   .rename_i hu;exact(hI _ hi).lead (hA.ld h2) _ (h.node _ hi) hu
   .exact h.node _ hi
  .rw[if_neg h2];by_cases h3:x.k=3
   .rw[if_pos h3];have hi:=hnode h3 rfl;by_cases hu:(M.node x.n.toNat).up=true
    .have:=(hI _ hi).piece _ M.lets M.told (h.node _ hi) hu h.lets;rw[if_pos hu,if_pos hu,if_pos hu];exact h.set this.1 this.2
    .rw[if_neg hu,if_neg hu,if_neg hu];exact h.set (h.node _ hi) h.lets
   .rw[if_neg h3];by_cases h4:x.k=4\/x.k=5\/x.k=6
    .rw[if_pos h4];unfold Meet.move;split
     .exact h
     .rename_i l hl
      have hm:=fQ hl;have hB:GInv Q P (if x.k≠6 then{ M with lets:=M.lets.eraseIdx (x.a.toNat%M.lets.length) }else M):=by
       split
       .exact⟨h.node,λm hm=>h.lets m (List.mem_of_mem_eraseIdx hm)⟩
       .exact h
      simp only;split
      .rename_i h5
       exact hB.come hI (hA.ca (by omega)) (h.lets l hm) (hM.lets l hm).dst
      .exact hB
    .rw[if_neg h4];by_cases h7:x.k=7
     .rw[if_pos h7];unfold Meet.comeAll;exact GInv.comes hI (hA.ca (by omega)) _ ⟨h.node,λl hl=>by cases hl⟩ λm hm=>⟨h.lets m hm,(hM.lets m hm).dst⟩
     .rw[if_neg h7];by_cases h8:x.k=8
      .rw[if_pos h8];have hi:=hnode h8 rfl;refine h.set ?_ h.lets;split
       .rename_i hu;exact(hI _ hi).crash (hA.cr h8) _ x.p (h.node _ hi) (hx.p (by rw[h8];rfl)).1 hu
       .exact h.node _ hi
      .rw[if_neg h8];by_cases h9:x.k=9
       .rw[if_pos h9];have hi:=hnode h9 rfl;refine h.set ?_ h.lets;split
        .exact h.node _ hi
        .rename_i hu;exact(hI _ hi).start (hA.st h9) _ (h.node _ hi) (by simpa using hu)
       .rw[if_neg h9];exact h
structure TInv(i:Nat)(D:List Int->Prop)(P:Nod->Prop)(R:List Tol->Prop):Prop where
 one:∀ p c ts,P p->p.up=true->p.agreed[p.done]?=some c->doE p.sto c=0->(p.asked c).isSome=true->R ts->R (ts++[⟨i,c.c,c.s,doC p.sto c,doA p.sto c⟩])
 sub:∀ p d ts,P p->D d->p.up=true->opE d (p.done:Int)=0->Kj d (p.done:Int)∈p.agreed.take p.done->R ts->R (ts++[⟨i,(Kj d (p.done:Int)).c,(Kj d (p.done:Int)).s,doC p.sto (Kj d (p.done:Int)),doA p.sto (Kj d (p.done:Int))⟩])
theorem TInv.doP{D:List Int->Prop}{P:Nod->Prop}(h:NInv A i D Q P)(t:TInv i D P R)(l:List Cmd)(p:Nod)(ts:List Tol)(hp:P p)(hu:p.up=true)(hl:p.agreed.drop p.done=l)(hr:R ts):R (doP i l p ts).2:=by
 induction l generalizing p ts with
 | nil=>exact hr
 | cons c l ih =>
  rw[Go.Proofs.YtalbmmghmoggcabGreatDoor.doP];split
  .exact hr
  .rename_i he
   have hc:p.agreed[p.done]?=some c:=by
    have:=congrArg (·[0]?) hl;simpa using this
   have hk:=IQ { p with sto:=doS p.sto c,done:=p.done+1 } c;refine ih _ _ (h.one p c hp hu hc (gi.1 he)) (hk.1.trans hu) ?_ ?_
   .rw[hk.2.1,hk.2.2.1];show p.agreed.drop (p.done+1)=l;rw[<- iC,hl];rfl
   .split
    .rename_i ha;exact t.one p c ts hp hu hc (gi.1 he) ha hr
    .exact hr
theorem Lu(M:Meet)(l:Let):(M.come l).told=M.told:=by unfold Meet.come;split<;>rfl
theorem P4(l:List Let)(M:Meet):(l.foldl (λM l=>M.come l) M).told=M.told:=by
 induction l generalizing M with
 | nil=>rfl
 | cons x l ih=>exact(ih _).trans (Lu M x)
theorem SW(M:Meet)(k:Int)(a:Nat):(M.move k a).told=M.told:=by
 unfold Meet.move;split
 .rfl
 .simp only;split
  .rw[Lu];split<;>rfl
  .split<;>rfl
theorem Ub(M:Meet)(h1:x.k≠1)(h3:x.k≠3):(M.act x).told=M.told:=by
 unfold Meet.act;simp only;rw[if_neg h1];split
 .rfl
 .split
  .exact SW _ _ _
  .split
   .exact P4 _ _
   .split
    .rfl
    .split<;>rfl
theorem GInv.told(hI:∀ i,i<5->NInv A i (D i) Q (P i))(hT:∀ i,i<5->TInv i (D i) (P i) R)(h:GInv Q P M)(hr:R M.told)(hx:LacOk x)(hD:x.k=1->D x.n.toNat x.d):R (M.act x).told:=by
 by_cases h1:x.k=1
 .have hi:x.n.toNat<5:=by have:=hx.n (by rw[h1];rfl);omega
  unfold Meet.act;simp only;rw[if_pos h1];show R (Nod.subm _ _ _ _).2;unfold Nod.subm Nod.sub0;split
  .exact hr
  .rename_i hu
   split
   .exact hr
   .rename_i he
    split
    .rename_i hm
     exact(hT _ hi).sub _ _ _ (h.node _ hi) (hD h1) (by simpa using hu) (gi.1 he) hm hr
    .exact hr
 .by_cases h3:x.k=3
  .have hi:x.n.toNat<5:=by have:=hx.n (by rw[h3];rfl);omega
   unfold Meet.act;simp only;rw[if_neg h1,if_neg (by omega),if_pos h3];show R (if _ then _ else _);split
   .rename_i hu
    exact TInv.doP (hI _ hi) (hT _ hi) _ _ _ (h.node _ hi) hu rfl hr
   .exact hr
  .rw[Ub M h1 h3];exact hr
theorem GInv.acts(hI:∀ i,i<5->NInv A i (D i) Q (P i))(hT:∀ i,i<5->TInv i (D i) (P i) R)(L:List Lac)(hM:MOk n M)(hn:n+L.length<=1000000)(h:GInv Q P M)(hr:R M.told)(hx:∀ x∈L,LacOk x/\A.Ok x/\(x.k=1->D x.n.toNat x.d)):GInv Q P (M.acts L)/\R (M.acts L).told/\MOk (n+L.length) (M.acts L):=by
 induction L generalizing n M with
 | nil=>exact⟨h,hr,hM⟩
 | cons x L ih =>
  have h1:=hx x V';rw[fR]at hn
  have:=ih (hM.act (by omega) h1.1) (by omega) (h.act hI hM h1.1 h1.2.1 h1.2.2) (h.told hI hT hr h1.1 h1.2.2) λy hy=>hx y (Q' _ hy);rw[fR,show n+(L.length+1)=n+1+L.length by omega];exact this
def Nod.ub(p:Nod):Bool × Nat:=(p.up,p.bad)
theorem Kp(p:Nod)(b:Bal):(p.promise b).1.ub=p.ub:=by
 unfold Nod.promise;split
 .rfl
 .split
  .rfl
  .split<;>rfl
theorem RS(p:Nod)(v:Vt):(p.vote v).1.ub=p.ub:=by
 unfold Nod.vote;split
 .rfl
 .split
  .rfl
  .split<;>rfl
theorem Nu(p:Nod)(j:Nat)(v:Vt):(p.count j v).ub=p.ub:=by
 unfold Nod.count;split
 .rfl
 .split<;>rfl
theorem LS(p:Nod)(to:Nat)(e:Int):(p.refuse to e).ub=p.ub:=by unfold Nod.refuse;split<;>rfl
theorem JK(p:Nod)(l:List Cmd):(p.enqueue l).ub=p.ub:=by unfold Nod.enqueue;split<;>rfl
theorem YR(p:Nod)(l:Let):(p.take l).ub=p.ub:=by
 unfold Nod.take;split
 .split
  .exact LS _ _ _
  .exact Kp p l.bal
 .simp only;split<;>rfl
 .rfl
 .split
  .exact LS _ _ _
  .exact RS p l.vote
 .exact Nu p _ _
 .split<;>rfl
 .simp only;split<;>exact JK p l.what
 .rfl
theorem YC(p:Nod)(i:Nat)(q:Pend):(p.runP i q).ub=p.ub:=by
 cases q with
 | began b vs=>unfold Nod.runP;simp only;split<;>rfl
 | prop v=>exact Nu p i v
 | _=>rfl
theorem UH(i:Nat)(l:List Pend)(p:Nod)(ls:List Let):(doneP i l p ls).1.ub=p.ub:=by
 induction l generalizing p ls with
 | nil=>rfl
 | cons q l ih=>exact(ih _ _).trans (YC p i q)
theorem TK(p:Nod)(c:Cmd):(p.unwant c).ub=p.ub:=by unfold Nod.unwant;split<;>rfl
theorem aA(i:Nat)(l:List Cmd)(p:Nod)(ts:List Tol):(doP i l p ts).1.ub=p.ub:=by
 induction l generalizing p ts with
 | nil=>rfl
 | cons c l ih =>
  rw[doP];split
  .rfl
  .exact(ih _ _).trans (TK _ _)
theorem Xp(p:Nod)(i:Nat):(p.askd i).1.ub=p.ub:=by
 unfold Nod.askd;split
 .rfl
 .split
  .exact JK _ _
  .rfl
theorem Q8(p:Nod):p.propose.ub=p.ub:=by
 unfold Nod.propose;split
 .rfl
 .split
  .rfl
  .split
   .rfl
   .exact RS p _
theorem WE(p:Nod)(i:Nat)(ls:List Let):(p.syncd i ls).1.ub=p.ub:=by
 unfold Nod.syncd;split
 .rfl
 .rw[UH];unfold Nod.syn;split<;>rfl
theorem TF(p:Nod)(i:Nat)(ls:List Let):(p.taught i ls).1.ub=p.ub:=by unfold Nod.taught;split<;>rfl
theorem VQ(p:Nod)(i:Nat)(ls:List Let)(ts:List Tol):(p.piece i ls ts).1.ub=p.ub:=by
 unfold Nod.piece;simp only;rw[TF,WE,Q8,Xp,aA]
theorem Yb(p:Nod)(i:Nat):(p.lead i).ub=p.ub:=by
 unfold Nod.lead;simp only;split
 .rfl
 .exact Kp p _
theorem Ri(M:Meet)(l:Let)(j:Nat):((M.come l).node j).ub=(M.node j).ub:=by
 unfold Meet.come;split
 .show(upN M.node l.dst _ j).ub=_;unfold upN;split
  .rename_i h;rw[h];exact YR _ _
  .rfl
 .rfl
theorem U5(l:List Let)(M:Meet)(j:Nat):((l.foldl (λM l=>M.come l) M).node j).ub=(M.node j).ub:=by
 induction l generalizing M with
 | nil=>rfl
 | cons x l ih=>exact(ih _).trans (Ri M x j)
theorem Yi(M:Meet)(k:Int)(a:Nat)(j:Nat):((M.move k a).node j).ub=(M.node j).ub:=by
 unfold Meet.move;split
 .rfl
 .simp only;split
  .rw[Ri];split<;>rfl
  .split<;>rfl
theorem Hd(M:Meet)(i:Nat)(p:Nod)(ls:List Let)(ts:List Tol)(j:Nat):(M.set i p ls ts).node j=if j=i then p else M.node j:=rfl
theorem ZM(M:Meet)(h1:x.k≠1)(h8:x.k≠8)(h9:x.k≠9)(j:Nat):((M.act x).node j).ub=(M.node j).ub:=by
 unfold Meet.act;simp only;rw[if_neg h1];by_cases h2:x.k=2
 .rw[if_pos h2,Hd];split
  .rename_i e
   rw[e];split
   .exact Yb _ _
   .rfl
  .rfl
 .rw[if_neg h2];by_cases h3:x.k=3
  .rw[if_pos h3,Hd];split
   .rename_i e
    rw[e];split
    .exact VQ _ _ _ _
    .rfl
   .rfl
  .rw[if_neg h3];by_cases h4:x.k=4\/x.k=5\/x.k=6
   .rw[if_pos h4];exact Yi _ _ _ _
   .rw[if_neg h4];by_cases h7:x.k=7
    .rw[if_pos h7];exact U5 _ _ _
    .rw[if_neg h7,if_neg h8,if_neg h9]
theorem cm(M:Meet)(h1:x.k=1)(j:Nat):((M.act x).node j).ub=if j=x.n.toNat/\(M.node j).up=true/\opE x.d ((M.node j).done:Int)≠0 then((M.node j).up,(M.node j).bad+1)else(M.node j).ub:=by
 unfold Meet.act;simp only;rw[if_pos h1,Hd];by_cases hj:j=x.n.toNat
 .subst hj;rw[if_pos rfl];unfold Nod.subm Nod.sub0;by_cases hu:(M.node x.n.toNat).up=false
  .rw[if_pos hu,if_neg (by rw[hu];simp)]
  .rw[if_neg hu];have hu':(M.node x.n.toNat).up=true:=by simpa using hu
   by_cases he:opE x.d ((M.node x.n.toNat).done:Int)≠0
   .rw[if_pos he,if_pos ⟨rfl,hu',he⟩];rfl
   .rw[if_neg he,if_neg (c:=_/\_) (λe=>he e.2.2)];split
    .rfl
    .show(Nod.want _ _).ub=_;unfold Nod.want;split<;>rfl
 .rw[if_neg hj,if_neg (λe=>hj e.1)]
theorem RY(M:Meet)(L:List Lac)(x:Lac):M.acts (L++[x])=(M.acts L).act x:=by unfold Meet.acts;rw[List.foldl_append];rfl
theorem RZ{L:List Lac}(h:L[i]?=some x):M.acts (L.take (i+1))=(M.acts (L.take i)).act x:=by rw[List.take_add_one,h];exact RY M (L.take i) x
theorem Uc(L:List Lac)(h:∀ x∈L,LacOk x)(hl:L.length<=100000):MOk L.length (Cb.acts L):=by
 suffices ∀ i,i<=L.length->MOk i (Cb.acts (L.take i))by have h1:=this L.length (A' _);rwa [js]at h1
 intro i;induction i with
 | zero=>intro _;exact MOk.zero
 | succ i ih =>
  intro hi;have hx:L[i]?=some L[i]:=E' (by omega);rw[RZ hx];exact(ih (by omega)).act (by omega) (h _ (fU _))
theorem XI(g:Gr)(cr:Bool):LacOk (Mq g cr):=by
 have h1:=AO g.a 5 (by omega);have h2:=AO g.c 20 (by omega);have h3:=AO g.c 90 (by omega);have hl:(pkB g).length<=63:=by
  have:(pkP g).length=63:=Kl (VR g);unfold pkB;split
  .rw[fx];omega
  .omega
 rw[<- FB];unfold Mq acN
 repeat' split
 all_goals simp[SM,EF,Fu,Fv];try omega
theorem OH{P:Lac->Prop}(h7:P (acN 7 0)){cr:Bool}(hg:∀ g,P (Mq g cr))(s:Nat)(l:List Gr):∀ x∈MI cr s l,P x:=by
 induction l generalizing s with
 | nil=>intro x hx;cases hx
 | cons g l ih =>
  intro x hx;rcases fD.1 hx with rfl|hx
  .unfold Wl;split
   .exact h7
   .exact hg g
  .exact ih _ x hx
theorem bS(l:List Gr)(m:Nat)(cr:Bool):∀ x∈scr l m cr,LacOk x:=OH (by rw[<- FB];decide) (λg=>XI g cr) _ _
theorem Wm(cr:Bool)(s:Nat)(l:List Gr):(MI cr s l).length=l.length:=by
 induction l generalizing s with
 | nil=>rfl
 | cons g l ih=>rw[MI,fR,ih,fR]
theorem YG(l:List Gr)(m:Nat)(cr:Bool):(scr l m cr).length<=m:=by unfold scr;rw[Wm,fx];omega
theorem Wn(l:List Gr)(m:Nat):∀ x∈scr l m false,x.k≠8/\x.k≠9:=OH (P:=λx=>x.k≠8/\x.k≠9) (by decide) (λg=>by
 unfold Mq acN
 repeat' split
 all_goals simp_all) _ _
theorem ZN(M:Meet)(h8:x.k≠8)(hu:(M.node j).up=true):((M.act x).node j).up=true:=by
 by_cases h1:x.k=1
 .have:=congrArg Prod.fst (cm M h1 j);split at this
  .exact this.trans hu
  .exact this.trans hu
 .by_cases h9:x.k=9
  .unfold Meet.act;simp only;rw[if_neg h1,if_neg (by omega),if_neg (by omega),if_neg (by omega),if_neg (by omega),if_neg (by omega),if_pos h9,Hd];split
   .rename_i e;rw[<- e,if_pos hu];exact hu
   .exact hu
  .exact(congrArg Prod.fst (ZM M h1 h8 h9 j)).trans hu
theorem QZ(L:List Lac)(h8:∀ x∈L,x.k≠8)(M:Meet)(hu:(M.node j).up=true):((M.acts L).node j).up=true:=by
 induction L generalizing M with
 | nil=>exact hu
 | cons x L ih=>exact ih (λy hy=>h8 y (Q' _ hy)) _ (ZN M (h8 x V') hu)
theorem MZ(M:Meet)(L K:List Lac):M.acts (L++K)=(M.acts L).acts K:=List.foldl_append
theorem Pi{k n:Int}(h:(k=2\/k=3\/k=9)/\0<=n/\n<=4):LacOk (acN k n):=by
 rw[<- FB];rcases h with⟨rfl|rfl|rfl,h1,h2⟩<;>simp[SM,acN,EF,Fu,Fv]<;>omega
theorem GV(p:Nod)(b:Bal):(p.promise b).1.agreed=p.agreed/\(p.promise b).1.done=p.done/\(p.promise b).1.pend=p.pend/\(p.promise b).1.rnd=p.rnd:=by
 unfold Nod.promise;split
 .exact⟨rfl,rfl,rfl,rfl⟩
 .split
  .exact⟨rfl,rfl,rfl,rfl⟩
  .split<;>exact⟨rfl,rfl,rfl,rfl⟩
theorem Uu{ac:List Acc}(h:∀ a∈ac,a.vs=[])(s:Int):CD ac s≠0:=by
 have hf:(ac.map (·.vs)).flatten=[]:=by
  rw[List.flatten_eq_nil_iff];intro l hl;obtain⟨a,ha,rfl⟩:=fS.1 hl;exact h a ha
 have hl:Ep ac s=[]:=by unfold Ep;rw[hf];rfl
 unfold CD;rw[hl];split
 .decide
 .split
  .decide
  .simp[G7]
theorem Yf{r:Rnd}(h:∀ j,(r.heard j).vs=[])(k:Nat)(l:List Cmd):Ja k r l=l:=by
 cases k with
 | zero=>rfl
 | succ k =>
  rw[Ja,if_neg];exact Uu (λa ha=>by simp[Rnd.accs]at ha;rcases ha with rfl|rfl|rfl|rfl|rfl<;>exact h _) _
structure Duo(x y i:Nat)(p:Nod):Prop where
 dw:i≠x->i≠y->p.up=false
 ag:p.agreed=[]
 dn:p.done=0
 vs:p.vo.vs=[]
 pr:∀ j,j≠x->j≠y->p.rnd.pro j=false
 he:∀ j,(p.rnd.heard j).vs=[]
 pe:∀ q∈p.pend,(∃ b,q=.began b [])\/(∃ to b,q=.prom to b [])\/∃ to b,q=.refuse to b
structure DuoL(x y:Nat)(l:Let):Prop where
 kd:l.kind=0\/l.kind=1\/l.kind=2\/l.kind=6
 src:l.src=x\/l.src=y
 vs:l.kind=1->l.votes=[]/\l.what=[]
theorem Duo.enough{x:Nat}(h:Duo x y i p):p.rnd.enough=false:=by
 refine D' ?_;have hb:∀ j,p.rnd.pro j=true->j=x\/j=y:=λj hj=>by
  by_cases h1:j=x
  .exact .inl h1
  .by_cases h2:j=y
   .exact .inr h2
   .rw[h.pr j h1 h2]at hj;cases hj
 unfold Xy;cases h0:p.rnd.pro 0<;>cases h1:p.rnd.pro 1<;>cases h2:p.rnd.pro 2<;>cases h3:p.rnd.pro 3<;>cases h4:p.rnd.pro 4<;>first
  | decide
  | (exfalso;have e0:=hb 0;have e1:=hb 1;have e2:=hb 2;have e3:=hb 3;have e4:=hb 4;simp only[h0,h1,h2,h3,h4,forall_const,io,false_implies]at e0 e1 e2 e3 e4;omega)
theorem FU(h:p.vo.vs=[])(b:Bal):(p.promise b).1.vo.vs=[]/\(p.promise b).2.1=[]:=by
 unfold Nod.promise;split
 .exact⟨h,rfl⟩
 .split
  .exact⟨h,h⟩
  .split<;>first|exact⟨h,rfl⟩|exact⟨h,h⟩
theorem Duo.of{x:Nat}{q:Nod}(h:Duo x y i p)(hu:p.up=true)(ag:q.agreed=[])(dn:q.done=0)(vs:q.vo.vs=[])(pr:∀ j,j≠x->j≠y->q.rnd.pro j=false)(he:∀ j,(q.rnd.heard j).vs=[])(pe:∀ r∈q.pend,(∃ b,r=.began b [])\/(∃ to b,r=.prom to b [])\/∃ to b,r=.refuse to b):Duo x y i q :=
 ⟨λh1 h2=>absurd hu (by rw[h.dw h1 h2];decide),ag,dn,vs,pr,he,pe⟩
theorem Duo.xy{x:Nat}(h:Duo x y i p)(hu:p.up=true):i=x\/i=y:=by
 by_cases h1:i=x
 .exact .inl h1
 .by_cases h2:i=y
  .exact .inr h2
  .rw[h.dw h1 h2]at hu;cases hu
theorem X9(x y i:Nat):NInv ⟨true,true,false,false⟩ i (λ_=>True) (DuoL x y) (Duo x y i) where
 take:=λ_ p l h hl _ hu=>by
  unfold Nod.take;rcases hl.kd with k|k|k|k<;>rw[k]<;>simp only
  .split
   .unfold Nod.refuse;split
    .exact h.of hu h.ag h.dn h.vs h.pr h.he λq hq=>(Y'.1 hq).elim (h.pe q) λe=>.inr (.inr ⟨_,_,O'.1 e⟩)
    .exact h
   .have hk:=GV p l.bal;have hv:=FU h.vs l.bal;refine h.of hu (hk.1.trans h.ag) (hk.2.1.trans h.dn) hv.1 (λj h1 h2=>?_) (λj=>?_) λq hq=>?_
    .show(p.promise l.bal).1.rnd.pro j=false;rw[hk.2.2.2];exact h.pr j h1 h2
    .show((p.promise l.bal).1.rnd.heard j).vs=[];rw[hk.2.2.2];exact h.he j
    .rcases Y'.1 hq with e|e
     .exact h.pe q (hk.2.2.1▸e)
     .rw[hv.2]at e;exact .inr (.inl ⟨_,_,O'.1 e⟩)
  .obtain⟨h1,h2⟩:=hl.vs k;have hL:p.learn 0 l.what=p:=by unfold Nod.learn;rw[h2,List.drop_nil,fZ]
   rw[hL,h1];split
   .exact h
   .have hh:∀ j,(upN p.rnd.heard l.src (FQ ⟨p.rnd.bal,[]⟩ (p.rnd.heard l.src).vs) j).vs=[]:=λj=>by
     unfold upN;split
     .rw[h.he l.src];rfl
     .exact h.he j
    refine h.of hu ?_ h.dn h.vs (λj g1 g2=>?_) hh h.pe
    .show Ja 41 _ p.agreed=[];rw[Yf hh];exact h.ag
    .show upN p.rnd.pro l.src true j=false;unfold upN;split
     .rename_i e;rcases hl.src with e2|e2<;>omega
     .exact h.pr j g1 g2
  .exact h.of hu h.ag h.dn h.vs h.pr h.he h.pe
  .have he:∀ q:Nod,q=p.enqueue l.what->Duo x y i q:=λq e=>by
    rw[e];unfold Nod.enqueue;split
    .exact h.of hu h.ag h.dn h.vs h.pr h.he h.pe
    .exact h
   have:=he _ rfl;rw[if_neg (by rw[this.ag];simp)];exact this
 one:=λp c h _ hc _=>by rw[h.ag]at hc;simp at hc
 ask:=λp h hu=>by
  have h2:Duo x y i { p with asked:=(CS p.vo.p p.asked (p.wants.take 40)).2 }:=h.of hu h.ag h.dn h.vs h.pr h.he h.pe;unfold Nod.askd;split
  .exact⟨h2,λ_ hm=>by cases hm⟩
  .split
   .refine⟨?_,λ_ hm=>by cases hm⟩;unfold Nod.enqueue;split
    .exact h.of hu h.ag h.dn h.vs h.pr h.he h.pe
    .exact h2
   .refine⟨h2,λm hm=>?_⟩;rw[O'.1 hm];exact⟨.inr (.inr (.inr rfl)),h.xy hu,λe=>by cases e⟩
 prop:=λp h _=>by unfold Nod.propose;rw[if_pos (.inr (.inl h.enough))];exact h
 syn:=λp h hu=>by
  unfold Nod.syn;split
  .exact h.of hu h.ag h.dn h.vs h.pr h.he h.pe
  .exact h
 run:=λp q l h hu he _=>by
  have hl:=λq hq=>h.pe q (by rw[he];exact Q' _ hq);have hxy:=h.xy hu;have h0:Duo x y i { p with pend:=l }:=h.of hu h.ag h.dn h.vs h.pr h.he hl;rcases h.pe q (by rw[he];exact V')with⟨b,rfl⟩|⟨to,b,rfl⟩|⟨to,b,rfl⟩
  .unfold Nod.runP Nod.sentP;simp only;split
   .exact⟨h0,λ_ hm=>by cases hm⟩
   .refine⟨h.of hu h.ag h.dn h.vs (λj g1 g2=>?_) (λj=>?_) hl,λm hm=>?_⟩
    .show upN p.rnd.pro i true j=false;unfold upN;split
     .rename_i e;rcases hxy with e2|e2<;>omega
     .exact h.pr j g1 g2
    .show(upN p.rnd.heard i (FQ ⟨p.rnd.bal,[]⟩ (p.rnd.heard i).vs) j).vs=[];unfold upN;split
     .rw[h.he i];rfl
     .exact h.he j
    .obtain⟨j,_,rfl⟩:=fS.1 hm;exact⟨.inl rfl,hxy,λe=>by cases e⟩
  .refine⟨h0,λm hm=>?_⟩;rw[O'.1 hm];exact⟨.inr (.inl rfl),hxy,λ_=>⟨rfl,h.ag⟩⟩
  .refine⟨h0,λm hm=>?_⟩;rw[O'.1 hm];exact⟨.inr (.inr (.inl rfl)),hxy,λe=>by cases e⟩
 teach:=λp h hu _=>by
  refine⟨h.of hu h.ag h.dn h.vs h.pr h.he h.pe,λm hm=>?_⟩;have:∀ k,D3 p i k=[]:=λk=>by
   induction k with
   | zero=>rfl
   | succ k ih=>rw[D3,ih,if_neg];rfl;unfold OW;rw[h.ag];simp
  rw[this]at hm;cases hm
 lead:=λ_ p h hu=>by
  unfold Nod.lead;simp only;split
  .exact h
  .have hk:=GV p ⟨max p.rounds p.vo.p.r+1,(i:Int)⟩;have hv:=FU h.vs ⟨max p.rounds p.vo.p.r+1,(i:Int)⟩;refine h.of hu (hk.1.trans h.ag) (hk.2.1.trans h.dn) hv.1 (λ_ _ _=>rfl) (λ_=>rfl) λq hq=>?_;rcases Y'.1 hq with hq|hq
   .exact h.pe q (hk.2.2.1▸hq)
   .rw[hv.2]at hq;exact .inl ⟨_,O'.1 hq⟩
 sub:=λp d ts h _ hu=>by
  unfold Nod.subm Nod.sub0;split
  .exact h
  .split
   .exact h.of hu h.ag h.dn h.vs h.pr h.he h.pe
   .split
    .exact h
    .show Duo x y i (Nod.want _ _);unfold Nod.want;split
     .exact h
     .exact h.of hu h.ag h.dn h.vs h.pr h.he h.pe
 crash:=λe=>by cases e
 start:=λe=>by cases e
theorem UL(x y i:Nat):TInv i (λ_=>True) (Duo x y i) (λts=>ts=[]) where
 one:=λp c ts h _ hc _ _ _=>by rw[h.ag]at hc;simp at hc
 sub:=λp d ts h _ _ _ hm _=>by rw[h.ag]at hm;simp at hm
def CI(x y k:Nat):List Lac:=((List.range k).filter λn=>decide (n≠x/\n≠y)).map λn:Nat=>acN 8 (n:Int)
theorem GQ(x y k:Nat):CI x y (k+1)=CI x y k++if k≠x/\k≠y then[acN 8 (k:Int)]else[]:=by
 unfold CI;rw[ia,iq,fG];by_cases h:k≠x/\k≠y
 .rw[if_pos h];simp[h]
 .rw[if_neg h];simp[h]
theorem VI(x y k:Nat):Cb.acts (CI x y k)=⟨λj=>if j<k/\j≠x/\j≠y then Bg.crash 0 else Bg,[],[]⟩:=by
 induction k with
 | zero=>simp[CI,Cb,Meet.acts]
 | succ k ih =>
  rw[GQ,MZ,ih];have hf:∀ (c:Prop) [Decidable c],(k≠x/\k≠y↔c)->(λj=>if j<k+1/\j≠x/\j≠y then Bg.crash 0 else Bg)=λj=>if j=k/\c then Bg.crash 0 else if j<k/\j≠x/\j≠y then Bg.crash 0 else Bg:=λc _ hc=>by
   funext j
   by_cases h1:j=k
   .subst h1;by_cases h2:j≠x/\j≠y
    .rw[if_pos ⟨by omega,h2⟩,if_pos ⟨rfl,hc.1 h2⟩]
    .rw[if_neg (λe=>h2 e.2),if_neg (λe=>h2 (hc.2 e.2)),if_neg (λe=>h2 e.2)]
   .rw[if_neg (λ(e:j=k/\c)=>h1 e.1)];by_cases h3:j<k/\j≠x/\j≠y
    .rw[if_pos ⟨by omega,h3.2⟩,if_pos h3]
    .rw[if_neg (λe=>h3 ⟨by omega,e.2⟩),if_neg h3]
  by_cases h:k≠x/\k≠y
  .rw[if_pos h,hf True (by simp[h])];show Meet.act _ (acN 8 (k:Int))=_;unfold Meet.act;simp only;rw[if_neg (by simp[acN]),if_neg (by simp[acN]),if_neg (by simp[acN]),if_neg (by simp[acN]),if_neg (by simp[acN]),if_pos (show(acN 8 (k:Int)).k=8 from rfl)];unfold Meet.set
   congr 1
   funext j
   unfold upN;rw[show(acN 8 (k:Int)).n.toNat=k from ib k];by_cases h1:j=k
   .rw[if_pos h1,if_pos (show j=k/\True from⟨h1,trivial⟩),if_neg (show ¬ (k<k/\k≠x/\k≠y)by omega)];rfl
   .rw[if_neg h1,if_neg (show ¬ (j=k/\True)from λe=>h1 e.1)]
  .rw[if_neg h,hf False ⟨h,False.elim⟩];simp[Meet.acts]
theorem duo{x:Nat}(L:List Lac)(h:∀ a∈L,LacOk a/\a.k≠8/\a.k≠9)(hl:L.length<=100000)(hx:x<5)(hy:y<5):(∀ i,i<5->(Cb.acts (CI x y 5++L)).log i=[])/\(Cb.acts (CI x y 5++L)).told=[]/\((Cb.acts (CI x y 5++L)).node x).up=true/\((Cb.acts (CI x y 5++L)).node y).up=true:=by
 have hoo:∀ k,k<=5->∀ a∈CI x y k,LacOk a:=λk hk a ha=>by
  obtain⟨n,hn,rfl⟩:=fS.1 ha;have:=gV.1 (je.1 hn).1;rw[<- FB];simp[SM,acN,EF,Fu,Fv];omega
 have hol:(CI x y 5).length<=5:=by unfold CI;rw[fM];exact fy (i7 _ _) (by rw[iA];omega)
 have hm:=Uc (CI x y 5) (hoo 5 (A' _)) (by omega);rw[MZ];rw[VI]at hm ⊢
 have hc:Bg.crash 0=Bg.bare false [] 0 DL []:=by
  unfold Nod.crash;rw[if_neg (by decide)];rfl
 have hI:GInv (DuoL x y) (Duo x y) ⟨λj=>if j<5/\j≠x/\j≠y then Bg.crash 0 else Bg,[],[]⟩:=⟨λi hi=>by
  show Duo x y i (if i<5/\i≠x/\i≠y then Bg.crash 0 else Bg);split
  .rw[hc];exact⟨λ_ _=>rfl,rfl,rfl,rfl,λ_ _ _=>rfl,λ_=>rfl,λq hq=>by cases hq⟩
  .rename_i hn;exact⟨λe1 e2=>absurd ⟨hi,e1,e2⟩ hn,rfl,rfl,rfl,λ_ _ _=>rfl,λ_=>rfl,λq hq=>by cases hq⟩,λl hl=>by cases hl⟩
 obtain⟨h1,h2,_⟩:=GInv.acts (D:=λ_ _=>True) (P:=Duo x y) (λi _=>X9 x y i) (λi _=>UL x y i) L hm (by omega) hI rfl λa ha=>⟨(h a ha).1,⟨λ_=>rfl,λ_=>rfl,λe=>absurd e (h a ha).2.1,λe=>absurd e (h a ha).2.2⟩,λ_=>trivial⟩;refine⟨λi hi=>?_,h2,QZ L (λa ha=>(h a ha).2.1) _ ?_,QZ L (λa ha=>(h a ha).2.1) _ ?_⟩
 .unfold Meet.log;rw[(h1.node i hi).ag,List.take_nil]
 .show(if x<5/\x≠x/\x≠y then Bg.crash 0 else Bg).up=true;rw[if_neg (λe=>e.2.1 rfl)];rfl
 .show(if y<5/\y≠x/\y≠y then Bg.crash 0 else Bg).up=true;rw[if_neg (λe=>e.2.2 rfl)];rfl
end
end
section
open Go.RowKit
theorem MY{n many c:Int}{w:World}(h:I64 n)(hc:pick n many=c)(hm:0<many:=by decide)(hm2:many<=9223372036854775807:=by decide) :
  Calls prog 4 #[iv n,iv many] w λe w'=>e=.returned (iv c)/\Bw w w':=by subst hc;exact BB h many hm hm2
def Ho(x y:Nat):Nat->List Lac
 | 0=>[]
 | k+1=>Ho x y k++[acN 3 (x:Int),acN 3 (y:Int),acN 7 0]
theorem YU(x y k:Nat):(Ho x y k).length=3*k:=by
 induction k with
 | zero=>rfl
 | succ k ih=>rw[Ho,N',ih];show 3*k+3=_;omega
theorem R7(x y k:Nat):(CI x y k).length<=k:=by unfold CI;rw[fM];exact fy (i7 _ _) (by rw[iA];omega)
theorem bp(x y:Nat):∀ a∈CI x y 5,LacOk a:=λa ha=>by
 obtain⟨n,hn,rfl⟩:=fS.1 ha;have:=gV.1 (je.1 hn).1;rw[<- FB];simp[SM,acN,EF,Fu,Fv];omega
theorem cD{x y:Nat}(hx:x<5)(hy:y<5)(k:Nat):∀ a∈Ho x y k,LacOk a/\a.k≠8/\a.k≠9:=by
 induction k with
 | zero=>intro a ha;cases ha
 | succ k ih =>
  intro a ha;rcases Y'.1 ha with ha|ha
  .exact ih a ha
  .simp only[fD,H',or_false]at ha;rcases ha with rfl|rfl|rfl
   .exact⟨Pi ⟨.inr (.inl rfl),by omega,by omega⟩,by show(3:Int)≠8;decide,by show(3:Int)≠9;decide⟩
   .exact⟨Pi ⟨.inr (.inl rfl),by omega,by omega⟩,by show(3:Int)≠8;decide,by show(3:Int)≠9;decide⟩
   .exact⟨by rw[<- FB];decide,by decide,by decide⟩
theorem It{l:S3}{G:List Gr}{wa wb:Int}{w:World}(h:RdV w l 5 (grL G))(hG:∀ g∈G,GrOk g)(hwa:I64 wa)(hwb:I64 wb)(hT:TW w) :
  Calls prog 3 #[l.v,iv wa,iv wb] w λe w'=>e=.returned (.bool true)/\Bw w w':=by
 obtain⟨L,hL⟩:∃ L,scr G 80 false=L:=⟨_,rfl⟩;have hok:=bS G 80 false;have hln:=YG G 80 false;have hkn:=Wn G 80;rw[hL]at hok hln hkn
 have hr:=AO wa 5 (by omega);have hr2:=AO wb 4 (by omega);obtain⟨x,hx,hx5⟩:∃ n:Nat,pick wa 5=(n:Int)/\n<5:=⟨(pick wa 5).toNat,by omega,by omega⟩;obtain⟨q,hq,hq4⟩:∃ n:Nat,pick wb 4=(n:Int)/\n<4:=⟨(pick wb 4).toNat,by omega,by omega⟩;obtain⟨y,hy,hy5⟩:∃ n:Nat,((x:Int)+1+(q:Int))%5=(n:Int)/\n<5:=⟨((x:Int)+1+(q:Int)).toNat%5,by omega,by omega⟩;refine tIn [] func3 trivial ?_;refine tR 7 [] λσ1 _ _=>?_;refine tC 1 (λF C=>MY hwa hx) λNz=>?_;rintro _ _ ⟨rfl,b2⟩;refine⟨_,_,rfl,b2,id,?_⟩;refine tR 5 [] λσ3 _ _=>?_;refine tV 1 (iv ((x:Int)+1)) (λF C=>(AK (x:=(.tmp 18)) (y:=(.const (iv 1))) (x:Int) 1 underlying3 (by omega))) ?_;refine tR 1 [] λσ4 _ _=>?_;refine tC 3 (λF C=>MY hwb hq) λNz=>?_;rintro _ _ ⟨rfl,b5⟩;refine⟨_,_,rfl,b5,id,?_⟩;refine tV 4 (iv ((x:Int)+1+(q:Int))) (λF C=>(AK (x:=(.tmp 19)) (y:=(.tmp 21)) ((x:Int)+1) (q:Int) underlying3 (by omega))) ?_;refine tV 5 (iv (y:Int)) (λF C=>(hy▸RC (x:=(.tmp 22)) (y:=(.const (iv 5))) ((x:Int)+1+(q:Int)) 5 underlying3 (by omega) (by omega) (by decide) (by decide))) ?_;refine tR 12 [] λσ8 _ _=>?_;refine IN 103 [(0,S3.v l),(7,iv (x:Int)),(8,iv (y:Int)),(9,sn),(10,iv 0)] [] [] [Fa.oa 0 s30 (rnP (CI x y 0))] (λkk ee LL ΦΦ=>∃ (n:Nat) (z:S3),kk=5-n/\ee=[(0,S3.v l),(7,iv (x:Int)),(8,iv (y:Int)),(9,S3.v z),(10,iv (n:Int))]/\LL=[]/\ΦΦ=[Fa.oa 0 z (rnP (CI x y n))]/\n<=5/\z.n=(CI x y n).length) (5) ⟨0,s30,rfl,rfl,rfl,rfl,by omega,rfl⟩ (λF=>⟨⟨OwnS.nil _ _ _ _ _ _,(λp hp=>by cases hp)⟩,trivial⟩) ?_;rintro k _ _ _ ⟨n,z,rfl,rfl,rfl,rfl,hn,hzn⟩ _ _ _ J hJ;refine tR 6 [] λσ9 _ _=>?_;by_cases h1:n<5
 .refine tI ((decide ((n:Int)<5))) true (I' (by omega)) ?_;have hol:=R7 x y n;refine tR 7 [] λσ10 _ _=>?_;by_cases h2:n≠x
  .refine tV 2 (.bool true) (λF C=>(E7 (t:=3) (m:=(n:Int)) (n:=(x:Int)) (x:=(.tmp 28)) (y:=(.tmp 29)) (by simp;omega))) ?_;refine tR 3 [] λσ11 _ _=>?_;by_cases h3:n≠y
   .refine tV 6 (.bool true) (λF C=>(E7 (t:=3) (m:=(n:Int)) (n:=(y:Int)) (x:=(.tmp 32)) (y:=(.tmp 33)) (by simp;omega))) ?_;refine tR 8 [0,0] λσ12 _ _=>?_;refine OQ 4 0 (x:=z) 24 24 27 5 56 zLa ⟨(σ12 0),0,none⟩ 1 1 [iv 8,iv (n:Int),iv 0,iv 0,sn] (λF=>F.1.1) [Fa.dt ((rnP (CI x y n))++[(acN 8 (n:Int),s30)])] (λF=>⟨Dat.snoc F.1.2 (XH _ _),trivial⟩) rfl (by simp[TQ]) rfl (by simp[Value.oneCell']) (λF K=>BL K 0 (σ12 0) [iv 8,iv (n:Int),iv 0,iv 0,sn] 27 .z true (by kernel_rfl)) (by unfold maxLen;omega) (by omega) λy13 _ _ n13=>?_;refine tR 5 [] λσ14 _ _=>?_;refine tV 1 (iv ((n:Int)+1)) (λF C=>(AK (x:=(.tmp 26)) (y:=(.const (iv 1))) (n:Int) 1 underlying3 (by omega))) ?_;refine tR 2 [] λσ15 _ _=>?_;have hos:CI x y (n+1)=CI x y n++[acN 8 (n:Int)]:=by rw[GQ,if_pos (by omega)]
    exact tB hJ (5-(n+1)) (by omega) [false] ⟨n+1,y13,rfl,rfl,rfl,rfl,by omega,(by rw[hos,N',gT];omega)⟩ (λF=>by rw[hos,Wf];exact⟨⟨(by rw[DW];exact F.1),F.2.1⟩,trivial⟩)
   .refine tV 6 (.bool false) (λF C=>(E7 (t:=3) (m:=(n:Int)) (n:=(y:Int)) (x:=(.tmp 32)) (y:=(.tmp 33)) (by simp;omega))) ?_;refine tR 7 [] λσ16 _ _=>?_;refine tV 1 (iv ((n:Int)+1)) (λF C=>(AK (x:=(.tmp 26)) (y:=(.const (iv 1))) (n:Int) 1 underlying3 (by omega))) ?_;refine tR 2 [] λσ17 _ _=>?_;have hos:CI x y (n+1)=CI x y n:=by rw[GQ,if_neg (by omega),fZ]
    exact tB hJ (5-(n+1)) (by omega) [] ⟨n+1,z,rfl,rfl,rfl,rfl,by omega,(by rw[hos];exact hzn)⟩ (λF=>by rw[hos];exact F)
  .refine tV 2 (.bool false) (λF C=>(E7 (t:=3) (m:=(n:Int)) (n:=(x:Int)) (x:=(.tmp 28)) (y:=(.tmp 29)) (by simp;omega))) ?_;refine tR 11 [] λσ18 _ _=>?_;refine tV 1 (iv ((n:Int)+1)) (λF C=>(AK (x:=(.tmp 26)) (y:=(.const (iv 1))) (n:Int) 1 underlying3 (by omega))) ?_;refine tR 2 [] λσ19 _ _=>?_;have hos:CI x y (n+1)=CI x y n:=by rw[GQ,if_neg (by omega),fZ]
   exact tB hJ (5-(n+1)) (by omega) [] ⟨n+1,z,rfl,rfl,rfl,rfl,by omega,(by rw[hos];exact hzn)⟩ (λF=>by rw[hos];exact F)
 .refine tI ((decide ((n:Int)<5))) false (D' (by omega)) ?_;obtain rfl:n=5:=by omega
  have hol:=R7 x y 5;generalize hO:CI x y 5=O at hol hzn ⊢;refine tR 4 [] λσ20 _ _=>?_;refine tC 1 (λF C=>Tw (most:=80) (cr:=false) (h.below (CgQ.below C)) hG (by decide) (tbA hT.1 C)) λNz=>?_;rintro _ _ ⟨s,P,rfl,hP,hN,b21⟩;refine⟨_,Fa.ac s P::_,rfl,b21,λF=>⟨hN.ac Nz,F⟩,?_⟩;rw[hL]at hP
  have hPl:P.length=L.length:=by rw[<- hP,fM]
  refine tF λF _=>?_;have hsn:=(AcR.of F.1 hP).n;refine tR 8 [] λσ22 _ _=>?_;refine IN 103 [(7,iv (x:Int)),(8,iv (y:Int)),(9,S3.v z),(11,S3.v s),(12,iv 0)] [] [] [Fa.ac s P,Fa.oa 0 z (rnP O++P.take 0)] (λkk ee LL ΦΦ=>∃ (i:Nat) (z2:S3),kk=P.length-i/\ee=[(7,iv (x:Int)),(8,iv (y:Int)),(9,S3.v z2),(11,S3.v s),(12,iv (i:Int))]/\LL=[]/\ΦΦ=[Fa.ac s P,Fa.oa 0 z2 (rnP O++P.take i)]/\i<=P.length/\z2.n=O.length+i) (P.length) ⟨0,z,rfl,rfl,rfl,rfl,by omega,by omega⟩ (λF=>⟨F.1,(by rw[gD,fZ];exact F.2.1),trivial⟩) ?_;rintro k _ _ _ ⟨i,z2,rfl,rfl,rfl,rfl,hi,hz2⟩ _ _ _ J hJ;refine tR 8 [] λσ23 _ _=>?_;by_cases h1:i<P.length
  .refine tI ((decide ((i:Int)<(s.n:Int)))) true (I' (by omega)) ?_;obtain⟨⟨a,yd⟩,ha⟩:∃ a,P[i]?=some a:=⟨_,E' (by omega)⟩;refine tF λF _=>?_;obtain⟨b,off,hxa,_,hin⟩:=Zp F.1 ha;have htk:rnP O++P.take (i+1)=rnP O++P.take i++[(a,yd)]:=by rw[List.take_add_one,ha,fF];rfl
   refine tR 7 [] λσ24 _ _=>?_;refine tV 3 (pt b (off+5*i)) (λF C=>(VZ (c:=s.c) hxa i hin)) ?_;refine tF λF _=>?_;refine tV 4 (.agg #[iv a.k,iv a.n,iv a.a,iv a.p,S3.v yd]) (λF C=>(bG (acS F.1 hxa ha))) ?_;refine tR 1 [0,0] λσ26 _ _=>?_;refine OQ 6 0 (x:=z2) 24 24 27 5 56 zLa ⟨(σ26 0),0,none⟩ 1 1 [iv a.k,iv a.n,iv a.a,iv a.p,S3.v yd] (λF=>F.2.1.1) [Fa.ac s P,Fa.dt (rnP O++P.take i++[(a,yd)])] (λF=>⟨F.1,Dat.snoc F.2.1.2 (F.1.2 _ (fQ ha)),trivial⟩) rfl (by simp[TQ]) rfl (by simp[Value.oneCell']) (λF K=>BL K 0 (σ26 0) [iv a.k,iv a.n,iv a.a,iv a.p,S3.v yd] 27 .z true (by kernel_rfl)) (by unfold maxLen;omega) (by omega) λy27 _ _ n27=>?_;refine tR 5 [] λσ28 _ _=>?_;refine tV 1 (iv ((i:Int)+1)) (λF C=>(AK (x:=(.tmp 47)) (y:=(.const (iv 1))) (i:Int) 1 underlying3 (by omega))) ?_;refine tR 2 [] λσ29 _ _=>?_;exact tB hJ (P.length-(i+1)) (by omega) [false] ⟨i+1,y27,rfl,rfl,rfl,rfl,by omega,by omega⟩ (λF=>by rw[htk];exact⟨F.2.1,⟨(by rw[DW];exact F.1),F.2.2.1⟩,trivial⟩)
  .refine tI ((decide ((i:Int)<(s.n:Int)))) false (D' (by omega)) ?_;obtain rfl:i=P.length:=by omega
   rw[js];refine tR 7 [0,0] λσ30 _ _=>?_;refine OQ 4 0 (x:=z2) 24 24 27 5 56 zLa ⟨(σ30 0),0,none⟩ 1 1 [iv 2,iv (x:Int),iv 0,iv 0,sn] (λF=>F.2.1.1) [Fa.dt ((rnP O++P)++[(acN 2 (x:Int),s30)])] (λF=>⟨Dat.snoc F.2.1.2 (XH _ _),trivial⟩) rfl (by simp[TQ]) rfl (by simp[Value.oneCell']) (λF K=>BL K 0 (σ30 0) [iv 2,iv (x:Int),iv 0,iv 0,sn] 27 .z true (by kernel_rfl)) (by unfold maxLen;omega) (by omega) λy31 _ _ n31=>?_;obtain⟨B,hB⟩:∃ B,rnP O++P++[(acN 2 (x:Int),s30)]=B:=⟨_,rfl⟩;have hBl:B.length=O.length+L.length+1:=by rw[<- hB,N',N',Y9,gT];omega
   have hBm:B.map (·.1)=O++L++[acN 2 (x:Int)]:=by rw[<- hB,fG,fG,RF,hP];rfl
   refine tCv [Fa.oa 0 y31 (B++rnP (Ho x y 0))] (λF=>⟨(by rw[show rnP (Ho x y 0)=[]from rfl,fZ,<- hB];exact⟨(by rw[DW];exact F.1),F.2.1⟩),trivial⟩) ?_;refine tR 8 [] λσ32 _ _=>?_;refine IN 103 [(7,iv (x:Int)),(8,iv (y:Int)),(9,S3.v y31),(13,iv 0)] [false] [] [Fa.oa 0 y31 (B++rnP (Ho x y 0))] (λkk ee LL ΦΦ=>∃ (i:Nat) (z3:S3),kk=60-i/\ee=[(7,iv (x:Int)),(8,iv (y:Int)),(9,S3.v z3),(13,iv (i:Int))]/\LL=[]/\ΦΦ=[Fa.oa 0 z3 (B++rnP (Ho x y i))]/\i<=60/\z3.n=B.length+3*i) (60) ⟨0,y31,rfl,rfl,rfl,rfl,by omega,by omega⟩ (λF=>⟨F.1,trivial⟩) ?_;rintro k _ _ _ ⟨i,z3,rfl,rfl,rfl,rfl,hi,hz3⟩ _ _ _ J hJ;refine tR 6 [] λσ33 _ _=>?_;by_cases h1:i<60
   .refine tI ((decide ((i:Int)<60))) true (I' (by omega)) ?_;refine tR 11 [0,0] λσ34 _ _=>?_;refine OQ 7 0 (x:=z3) 24 24 27 5 56 zLa ⟨(σ34 0),0,none⟩ 3 3 [iv 3,iv (x:Int),iv 0,iv 0,sn,iv 3,iv (y:Int),iv 0,iv 0,sn,iv 7,iv 0,iv 0,iv 0,sn] (λF=>F.1.1) [Fa.dt (B++rnP (Ho x y i)++rnP [acN 3 (x:Int),acN 3 (y:Int),acN 7 0])] (λF=>⟨Dat.app F.1.2 (Y8 _ _ (by simp[acN])),trivial⟩) rfl (by simp[TQ]) rfl (by simp[Value.oneCell']) (λF K=>BL K 0 (σ34 0) [iv 3,iv (x:Int),iv 0,iv 0,sn,iv 3,iv (y:Int),iv 0,iv 0,sn,iv 7,iv 0,iv 0,iv 0,sn] 27 .z true (by kernel_rfl)) (by unfold maxLen;omega) (by omega) λy35 _ _ n35=>?_;refine tR 5 [] λσ36 _ _=>?_;refine tV 1 (iv ((i:Int)+1)) (λF C=>(AK (x:=(.tmp 63)) (y:=(.const (iv 1))) (i:Int) 1 underlying3 (by omega))) ?_;refine tR 2 [] λσ37 _ _=>?_;have htr:B++rnP (Ho x y (i+1))=B++rnP (Ho x y i)++rnP [acN 3 (x:Int),acN 3 (y:Int),acN 7 0]:=by rw[Ho,Y7,fF]
    exact tB hJ (60-(i+1)) (by omega) [false] ⟨i+1,y35,rfl,rfl,rfl,rfl,by omega,by omega⟩ (λF=>by rw[htr];exact⟨⟨(by rw[Xi];exact F.1),F.2.1⟩,trivial⟩)
   .refine tI ((decide ((i:Int)<60))) false (D' (by omega)) ?_;obtain rfl:i=60:=by omega
    have htl:=YU x y 60;generalize hQ:Ho x y 60=T at htl ⊢;have hLm:(B++rnP T).map (·.1)=O++(L++([acN 2 (x:Int)]++T)):=by rw[fG,hBm,RF];simp only[fF]
    have hTk:∀ k,∀ a∈Ho x y k,LacOk a/\a.k≠8/\a.k≠9:=cD hx5 hy5;have hLk:∀ a∈L++([acN 2 (x:Int)]++T),LacOk a/\a.k≠8/\a.k≠9:=λa ha=>by
     rcases Y'.1 ha with ha|ha
     .exact⟨hok a ha,hkn a ha⟩
     .rcases Y'.1 ha with ha|ha
      .rw[O'.1 ha];exact⟨Pi ⟨.inl rfl,by omega,by omega⟩,by show(2:Int)≠8;decide,by show(2:Int)≠9;decide⟩
      .exact hTk 60 a (hQ▸ha)
    have hll:(L++([acN 2 (x:Int)]++T)).length<=300:=by rw[N',N',gT];omega
    obtain⟨d1,d2,d3,d4⟩:=duo (x:=x) (y:=y) _ hLk (by omega) hx5 hy5;rw[hO]at d1 d2 d3 d4
    have hOk:∀ a∈O++(L++([acN 2 (x:Int)]++T)),LacOk a:=λa ha=>(Y'.1 ha).elim (λe=>bp x y a (hO▸e)) λe=>(hLk a e).1;have hlo:(O++(L++([acN 2 (x:Int)]++T))).length<=400:=by rw[N'];omega
    obtain⟨M,hM⟩:∃ M,Cb.acts (O++(L++([acN 2 (x:Int)]++T)))=M:=⟨_,rfl⟩;rw[hM]at d1 d2 d3 d4
    refine tR 4 [] λσ38 _ _=>?_;refine tC 1 (λF C=>bL (AcR.oo F.1 hLm) hOk (by omega) (tb5 hT C) hM) λNz=>?_;rintro _ _ ⟨ly,tv,ys,rfl,hW,hO2,b39⟩;refine⟨_,Fa.ot ly tv ys M::_,rfl,b39,λF=>⟨R8 hW hO2 Nz,F⟩,?_⟩;refine tF λF _=>?_;have htn:=et F.1.told.rd;rw[d2]at htn
    have hlg:=Yc d1 (A' 5);refine tR 13 [1,0,0,0] λσ40 _ _=>?_;refine tV 4 (pt (σ40 0) (1+x)) (λF C=>(VY hx5)) ?_;refine tW 5 (.bool true) (λF K=>CJ underlying4 rfl (eg K 0 (σ40 0) (GR M ly tv).toList 34 .l true (by kernel_rfl) (Zw hx5 d3))) ?_;refine tR 4 [] λσ42 _ _=>?_;refine tV 10 (pt (σ40 0) (1+y)) (λF C=>(VY hy5)) ?_;refine tW 11 (.bool true) (λF K=>CJ underlying4 rfl (eg K 0 (σ40 0) (GR M ly tv).toList 34 .l false (by kernel_rfl) (Zw hy5 d4))) ?_;refine tR 3 [0] λσ44 _ _=>?_;refine tC 15 (λF C=>Qc (R9 F.1)) λNz=>?_;rintro _ _ ⟨rfl,b45⟩;refine⟨_,_,rfl,b45,id,?_⟩;refine tR 1 [] λσ46 _ _=>?_;refine tV 17 (.bool true) (λF C=>(Eg (t:=3) (m:=((lgY ys (lgN M 5)).n:Int)) (n:=0) (x:=(.tmp 94)) (y:=(.const (iv 0))) (by rw[hlg];rfl))) ?_;refine tR 5 [0] λσ47 _ _=>?_;refine tV 23 (.bool true) (λF C=>(Eg (t:=3) (m:=((tv).n:Int)) (n:=0) (x:=(.tmp 100)) (y:=(.const (iv 0))) (by rw[htn];rfl))) ?_;refine tR 3 [] λσ48 _ _=>?_;exact tE (.bool true) λ_ B=>⟨rfl,B⟩
end
end Go.Proofs.YtalbmmghmoggcabGreatDoor
