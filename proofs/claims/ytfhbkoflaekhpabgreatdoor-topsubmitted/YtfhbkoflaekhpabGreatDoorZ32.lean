/- Part 32 of the walk. -/
import Derived.Test.YtfhbkoflaekhpabGreatDoorZ21
set_option maxRecDepth 100000
set_option maxHeartbeats 4000000
set_option linter.unusedVariables false
namespace Go.Proofs.YtfhbkoflaekhpabGreatDoor
structure Alw where
 ca:Bool
 ld:Bool
 cr:Bool
 st:Bool
structure NInv(A:Alw)(i:Nat)(D:List Int→Prop)(Q:Let→Prop)(P:Nod→Prop):Prop where
 take:A.ca=true→∀ p l,P p→Q l→l.dst=i→p.up=true→P (p.take l)
 one:∀ p c,P p→p.up=true→p.agreed[p.done]?=some c→doE p.sto c=0→P (Nod.unwant { p with sto:=doS p.sto c,done:=p.done+1 } c)
 ask:∀ p,P p→p.up=true→P (p.askd i).1∧∀ l∈(p.askd i).2,Q l
 prop:∀ p,P p→p.up=true→P p.propose
 syn:∀ p,P p→p.up=true→P p.syn
 run:∀ p q l,P p→p.up=true→p.pend=q::l→¬ p.sy<(p.d.length:Int)→P { p.runP i q with pend:=l }∧∀ m∈p.sentP i q,Q m
 teach:∀ p,P p→p.up=true→p.leads=true→P (GW p i 5)∧∀ l∈Dt p i 5,Q l
 lead:A.ld=true→∀ p,P p→p.up=true→P (p.lead i)
 sub:∀ p d ts,P p→D d→p.up=true→P (p.subm i d ts).1
 crash:A.cr=true→∀ p k,P p→0≤k→p.up=true→P (p.crash k)
 start:A.st=true→∀ p,P p→p.up=false→P p.start
theorem MK(p:Nod)(i:Nat)(q:Pend)(x:List Pend):({ p with pend:=x }:Nod).runP i q={ p.runP i q with pend:=x }:=by
 cases q with
 | began b vs=>unfold Nod.runP;simp only;split<;>rfl
 | prop v =>
  unfold Nod.runP Nod.count;simp only;split
  ·rfl
  ·split<;>rfl
 | _=>rfl
theorem Ga(p:Nod)(i:Nat)(q:Pend):(p.runP i q).pend=p.pend∧(p.runP i q).up=p.up∧(p.runP i q).d=p.d∧(p.runP i q).sy=p.sy:=by
 cases q with
 | began b vs=>unfold Nod.runP;simp only;split<;>exact⟨rfl,rfl,rfl,rfl⟩
 | prop v =>
  unfold Nod.runP Nod.count;simp only;split
  ·exact⟨rfl,rfl,rfl,rfl⟩
  ·split<;>exact⟨rfl,rfl,rfl,rfl⟩
 | _=>exact⟨rfl,rfl,rfl,rfl⟩
theorem Lc(p:Nod)(i:Nat)(q:Pend)(x:List Pend):({ p with pend:=x }:Nod).sentP i q=p.sentP i q:=by cases q<;>rfl
theorem FI(p:Nod)(c:Cmd):(p.unwant c).up=p.up∧(p.unwant c).agreed=p.agreed∧(p.unwant c).done=p.done∧(p.unwant c).sto=p.sto:=by unfold Nod.unwant;split<;>exact⟨rfl,rfl,rfl,rfl⟩
theorem Qv(p:Nod)(l:List Cmd):(p.enqueue l).up=p.up:=by unfold Nod.enqueue;split<;>rfl
theorem RQ(p:Nod)(i:Nat):(p.askd i).1.up=p.up:=by
 unfold Nod.askd;split
 ·rfl
 ·split
  ·exact Qv _ _
  ·rfl
theorem aV(p:Nod)(v:Vt):(p.vote v).1.up=p.up:=by
 unfold Nod.vote;split
 ·rfl
 ·split
  ·rfl
  ·split<;>rfl
theorem KR(p:Nod):p.propose.up=p.up:=by
 unfold Nod.propose;split
 ·rfl
 ·split
  ·rfl
  ·split
   ·rfl
   ·exact aV p _
theorem er(p:Nod):p.syn.up=p.up:=by unfold Nod.syn;split<;>rfl
section
variable{A:Alw}{i:Nat}{D:List Int→Prop}{Q:Let→Prop}{P:Nod→Prop}
theorem NInv.doP(h:NInv A i D Q P)(l:List Cmd)(p:Nod)(ts:List Tol)(hp:P p)(hu:p.up=true)(hl:p.agreed.drop p.done=l):P (doP i l p ts).1∧(Go.Proofs.YtfhbkoflaekhpabGreatDoor.doP i l p ts).1.up=true:=by
 induction l generalizing p ts with
 | nil=>exact⟨hp,hu⟩
 | cons c l ih =>
  rw[Go.Proofs.YtfhbkoflaekhpabGreatDoor.doP];split
  ·exact⟨hp,hu⟩
  ·rename_i he
   have hc:p.agreed[p.done]?=some c:=by
    have:=congrArg (·[0]?) hl;simpa using this
   have hk:=FI { p with sto:=doS p.sto c,done:=p.done+1 } c;refine ih _ _ (h.one p c hp hu hc (Decidable.not_not.1 he)) (hk.1.trans hu) ?_;rw[hk.2.1,hk.2.2.1];show p.agreed.drop (p.done+1)=l;rw[← List.drop_drop,hl];rfl
theorem NInv.doneP(h:NInv A i D Q P)(l:List Pend)(p:Nod)(ls:List Let)(hp:P { p with pend:=l })(hu:p.up=true)(h0:p.pend=[])(hs:¬ p.sy<(p.d.length:Int))(hl:∀ m∈ls,Q m):P (doneP i l p ls).1∧(∀ m∈(Go.Proofs.YtfhbkoflaekhpabGreatDoor.doneP i l p ls).2,Q m)∧(Go.Proofs.YtfhbkoflaekhpabGreatDoor.doneP i l p ls).1.up=true:=by
 induction l generalizing p ls with
 | nil =>
  refine⟨?_,hl,hu⟩;have:({ p with pend:=[] }:Nod)=p:=by cases p;simp_all
  rw[this]at hp;exact hp
 | cons q l ih =>
  have hk:=Ga p i q;obtain⟨h1,h2⟩:=h.run { p with pend:=q::l } q l hp hu rfl hs;rw[MK]at h1
  rw[Lc]at h2
  exact ih (p.runP i q) (ls++p.sentP i q) h1 (hk.2.1.trans hu) (hk.1.trans h0) (by rw[hk.2.2.1,hk.2.2.2];exact hs) fun m hm=>(List.mem_append.1 hm).elim (hl m) (h2 m)
theorem NInv.piece(h:NInv A i D Q P)(p:Nod)(ls:List Let)(ts:List Tol)(hp:P p)(hu:p.up=true)(hl:∀ m∈ls,Q m):P (p.piece i ls ts).1∧∀ m∈(p.piece i ls ts).2.1,Q m:=by
 obtain⟨a1,a2⟩:=h.doP _ p ts hp hu rfl;unfold Nod.piece;simp only;obtain⟨b1,b2⟩:=h.ask _ a1 a2;have bu:=(RQ (Go.Proofs.YtfhbkoflaekhpabGreatDoor.doP i (p.agreed.drop p.done) p ts).1 i).trans a2;have c1:=h.prop _ b1 bu;have cu:=(KR ((Go.Proofs.YtfhbkoflaekhpabGreatDoor.doP i (p.agreed.drop p.done) p ts).1.askd i).1).trans bu;have hls:∀ m∈ls++((Go.Proofs.YtfhbkoflaekhpabGreatDoor.doP i (p.agreed.drop p.done) p ts).1.askd i).2,Q m:=fun m hm=>(List.mem_append.1 hm).elim (hl m) (b2 m);generalize ls++((Go.Proofs.YtfhbkoflaekhpabGreatDoor.doP i (p.agreed.drop p.done) p ts).1.askd i).2=k at hls ⊢;generalize ((Go.Proofs.YtfhbkoflaekhpabGreatDoor.doP i (p.agreed.drop p.done) p ts).1.askd i).1.propose=r at c1 cu ⊢;have hd:P (r.syncd i k).1∧(∀ m∈(r.syncd i k).2,Q m)∧(r.syncd i k).1.up=true:=by
  unfold Nod.syncd;split
  ·exact⟨c1,hls,cu⟩
  ·rename_i hn
   have hp2:=h.syn r c1 cu;have hpd:r.syn.pend=r.pend:=by unfold Nod.syn;split<;>rfl
   refine h.doneP r.pend { r.syn with pend:=[] } k (by rw[← hpd];exact hp2) ((er r).trans cu) rfl ?_ hls;show ¬ r.syn.sy<(r.syn.d.length:Int);unfold Nod.syn;split
   ·rename_i h1
    have:CK r.d r.sy=0:=Decidable.not_not.1 fun e=>hn ⟨h1,e⟩;have hT:AX r.d r.sy:=by
     unfold CK at this;split at this
     ·assumption
     ·cases this
    show ¬ Ic r.d r.sy<((GU r.d r.sy).length:Int);unfold Ic GU;rw[if_pos hT,if_pos hT];exact Int.lt_irrefl _
   ·rename_i h1;exact h1
 unfold Nod.taught;split
 ·rename_i hL
  obtain⟨e1,e2⟩:=h.teach _ hd.1 hd.2.2 hL;exact⟨e1,fun m hm=>(List.mem_append.1 hm).elim (hd.2.1 m) (e2 m)⟩
 ·exact⟨hd.1,hd.2.1⟩
end
structure GInv(Q:Let→Prop)(P:Nat→Nod→Prop)(M:Meet):Prop where
 node:∀ i,i<5→P i (M.node i)
 lets:∀ l∈M.lets,Q l
theorem GInv.set{Q:Let→Prop}{P:Nat→Nod→Prop}{M:Meet}(h:GInv Q P M){i:Nat}{p:Nod}{ls:List Let}{ts:List Tol}(hp:P i p)(hl:∀ l∈ls,Q l):GInv Q P (M.set i p ls ts) :=
 ⟨fun j hj=>by
  show P j (upN M.node i p j);unfold upN;split
  ·rename_i e;rw[e];exact hp
  ·exact h.node j hj,hl⟩
theorem GInv.come{A:Alw}{D:Nat→List Int→Prop}{Q:Let→Prop}{P:Nat→Nod→Prop}(hI:∀ i,i<5→NInv A i (D i) Q (P i))(hc:A.ca=true){M:Meet}(h:GInv Q P M){l:Let}(hl:Q l)(hd:l.dst<5):GInv Q P (M.come l):=by
 unfold Meet.come;split
 ·rename_i hu
  exact h.set (ls:=M.lets) (ts:=M.told) ((hI _ hd).take hc _ l (h.node _ hd) hl rfl hu) h.lets
 ·exact h
theorem GInv.comes{A:Alw}{D:Nat→List Int→Prop}{Q:Let→Prop}{P:Nat→Nod→Prop}(hI:∀ i,i<5→NInv A i (D i) Q (P i))(hc:A.ca=true)(l:List Let){M:Meet}(h:GInv Q P M)(hl:∀ m∈l,Q m∧m.dst<5):GInv Q P (l.foldl (fun M l=>M.come l) M):=by
 induction l generalizing M with
 | nil=>exact h
 | cons x l ih=>exact ih (h.come hI hc (hl x List.mem_cons_self).1 (hl x List.mem_cons_self).2) fun m hm=>hl m (List.mem_cons_of_mem _ hm)
structure Alw.Ok(A:Alw)(x:Lac):Prop where
 ca:x.k=4∨x.k=6∨x.k=7→A.ca=true
 ld:x.k=2→A.ld=true
 cr:x.k=8→A.cr=true
 st:x.k=9→A.st=true
theorem GInv.act{A:Alw}{D:Nat→List Int→Prop}{Q:Let→Prop}{P:Nat→Nod→Prop}(hI:∀ i,i<5→NInv A i (D i) Q (P i)){n:Nat}{M:Meet}(h:GInv Q P M)(hM:MOk n M){x:Lac}(hx:LacOk x)(hA:A.Ok x)(hD:x.k=1→D x.n.toNat x.d):GInv Q P (M.act x):=by
 have hnode:∀ {k:Int},x.k=k→Fi k=true→x.n.toNat<5:=fun{k} e e2=>by have:=hx.n (by rw[e];exact e2);omega
 unfold Meet.act;simp only;by_cases h1:x.k=1
 ·rw[if_pos h1];have hi:=hnode h1 rfl;refine h.set ?_ h.lets;unfold Nod.subm;by_cases hu:(M.node x.n.toNat).up=true
  ·exact(hI _ hi).sub _ x.d M.told (h.node _ hi) (hD h1) hu
  ·unfold Nod.sub0;rw[if_pos (by simpa using hu)];exact h.node _ hi
 ·rw[if_neg h1];by_cases h2:x.k=2
  ·rw[if_pos h2];have hi:=hnode h2 rfl;refine h.set ?_ h.lets;split
   ·rename_i hu;exact(hI _ hi).lead (hA.ld h2) _ (h.node _ hi) hu
   ·exact h.node _ hi
  ·rw[if_neg h2];by_cases h3:x.k=3
   ·rw[if_pos h3];have hi:=hnode h3 rfl;by_cases hu:(M.node x.n.toNat).up=true
    ·have:=(hI _ hi).piece _ M.lets M.told (h.node _ hi) hu h.lets;rw[if_pos hu,if_pos hu,if_pos hu];exact h.set this.1 this.2
    ·rw[if_neg hu,if_neg hu,if_neg hu];exact h.set (h.node _ hi) h.lets
   ·rw[if_neg h3];by_cases h4:x.k=4∨x.k=5∨x.k=6
    ·rw[if_pos h4];unfold Meet.move;split
     ·exact h
     ·rename_i l hl
      have hm:=List.mem_of_getElem? hl;have hB:GInv Q P (if x.k≠6 then{ M with lets:=M.lets.eraseIdx (x.a.toNat%M.lets.length) }else M):=by
       split
       ·exact⟨h.node,fun m hm=>h.lets m (List.mem_of_mem_eraseIdx hm)⟩
       ·exact h
      simp only;split
      ·rename_i h5
       exact hB.come hI (hA.ca (by omega)) (h.lets l hm) (hM.lets l hm).dst
      ·exact hB
    ·rw[if_neg h4];by_cases h7:x.k=7
     ·rw[if_pos h7];unfold Meet.comeAll;exact GInv.comes hI (hA.ca (by omega)) _ ⟨h.node,fun l hl=>by cases hl⟩ fun m hm=>⟨h.lets m hm,(hM.lets m hm).dst⟩
     ·rw[if_neg h7];by_cases h8:x.k=8
      ·rw[if_pos h8];have hi:=hnode h8 rfl;refine h.set ?_ h.lets;split
       ·rename_i hu;exact(hI _ hi).crash (hA.cr h8) _ x.p (h.node _ hi) (hx.p (by rw[h8];rfl)).1 hu
       ·exact h.node _ hi
      ·rw[if_neg h8];by_cases h9:x.k=9
       ·rw[if_pos h9];have hi:=hnode h9 rfl;refine h.set ?_ h.lets;split
        ·exact h.node _ hi
        ·rename_i hu;exact(hI _ hi).start (hA.st h9) _ (h.node _ hi) (by simpa using hu)
       ·rw[if_neg h9];exact h
structure TInv(i:Nat)(D:List Int→Prop)(P:Nod→Prop)(R:List Tol→Prop):Prop where
 one:∀ p c ts,P p→p.up=true→p.agreed[p.done]?=some c→doE p.sto c=0→(p.asked c).isSome=true→R ts→R (ts++[⟨i,c.c,c.s,doC p.sto c,doA p.sto c⟩])
 sub:∀ p d ts,P p→D d→p.up=true→opE d (p.done:Int)=0→Ew d (p.done:Int)∈p.agreed.take p.done→R ts→R (ts++[⟨i,(Ew d (p.done:Int)).c,(Ew d (p.done:Int)).s,doC p.sto (Ew d (p.done:Int)),doA p.sto (Ew d (p.done:Int))⟩])
theorem TInv.doP{A:Alw}{i:Nat}{D:List Int→Prop}{Q:Let→Prop}{P:Nod→Prop}{R:List Tol→Prop}(h:NInv A i D Q P)(t:TInv i D P R)(l:List Cmd)(p:Nod)(ts:List Tol)(hp:P p)(hu:p.up=true)(hl:p.agreed.drop p.done=l)(hr:R ts):R (doP i l p ts).2:=by
 induction l generalizing p ts with
 | nil=>exact hr
 | cons c l ih =>
  rw[Go.Proofs.YtfhbkoflaekhpabGreatDoor.doP];split
  ·exact hr
  ·rename_i he
   have hc:p.agreed[p.done]?=some c:=by
    have:=congrArg (·[0]?) hl;simpa using this
   have hk:=FI { p with sto:=doS p.sto c,done:=p.done+1 } c;refine ih _ _ (h.one p c hp hu hc (Decidable.not_not.1 he)) (hk.1.trans hu) ?_ ?_
   ·rw[hk.2.1,hk.2.2.1];show p.agreed.drop (p.done+1)=l;rw[← List.drop_drop,hl];rfl
   ·split
    ·rename_i ha;exact t.one p c ts hp hu hc (Decidable.not_not.1 he) ha hr
    ·exact hr
theorem Mk(M:Meet)(l:Let):(M.come l).told=M.told:=by unfold Meet.come;split<;>rfl
theorem Qk(l:List Let)(M:Meet):(l.foldl (fun M l=>M.come l) M).told=M.told:=by
 induction l generalizing M with
 | nil=>rfl
 | cons x l ih=>exact(ih _).trans (Mk M x)
theorem TP(M:Meet)(k:Int)(a:Nat):(M.move k a).told=M.told:=by
 unfold Meet.move;split
 ·rfl
 ·simp only;split
  ·rw[Mk];split<;>rfl
  ·split<;>rfl
theorem UU(M:Meet){x:Lac}(h1:x.k≠1)(h3:x.k≠3):(M.act x).told=M.told:=by
 unfold Meet.act;simp only;rw[if_neg h1];split
 ·rfl
 ·split
  ·exact TP _ _ _
  ·split
   ·exact Qk _ _
   ·split
    ·rfl
    ·split<;>rfl
theorem GInv.told{A:Alw}{D:Nat→List Int→Prop}{Q:Let→Prop}{P:Nat→Nod→Prop}{R:List Tol→Prop}(hI:∀ i,i<5→NInv A i (D i) Q (P i))(hT:∀ i,i<5→TInv i (D i) (P i) R){M:Meet}(h:GInv Q P M)(hr:R M.told){x:Lac}(hx:LacOk x)(hD:x.k=1→D x.n.toNat x.d):R (M.act x).told:=by
 by_cases h1:x.k=1
 ·have hi:x.n.toNat<5:=by have:=hx.n (by rw[h1];rfl);omega
  unfold Meet.act;simp only;rw[if_pos h1];show R (Nod.subm _ _ _ _).2;unfold Nod.subm Nod.sub0;split
  ·exact hr
  ·rename_i hu
   split
   ·exact hr
   ·rename_i he
    split
    ·rename_i hm
     exact(hT _ hi).sub _ _ _ (h.node _ hi) (hD h1) (by simpa using hu) (Decidable.not_not.1 he) hm hr
    ·exact hr
 ·by_cases h3:x.k=3
  ·have hi:x.n.toNat<5:=by have:=hx.n (by rw[h3];rfl);omega
   unfold Meet.act;simp only;rw[if_neg h1,if_neg (by omega),if_pos h3];show R (if _ then _ else _);split
   ·rename_i hu
    exact TInv.doP (hI _ hi) (hT _ hi) _ _ _ (h.node _ hi) hu rfl hr
   ·exact hr
  ·rw[UU M h1 h3];exact hr
theorem GInv.acts{A:Alw}{D:Nat→List Int→Prop}{Q:Let→Prop}{P:Nat→Nod→Prop}{R:List Tol→Prop}(hI:∀ i,i<5→NInv A i (D i) Q (P i))(hT:∀ i,i<5→TInv i (D i) (P i) R)(L:List Lac){n:Nat}{M:Meet}(hM:MOk n M)(hn:n+L.length≤1000000)(h:GInv Q P M)(hr:R M.told)(hx:∀ x∈L,LacOk x∧A.Ok x∧(x.k=1→D x.n.toNat x.d)):GInv Q P (M.acts L)∧R (M.acts L).told∧MOk (n+L.length) (M.acts L):=by
 induction L generalizing n M with
 | nil=>exact⟨h,hr,hM⟩
 | cons x L ih =>
  have h1:=hx x List.mem_cons_self;rw[List.length_cons]at hn
  have:=ih (hM.act (by omega) h1.1) (by omega) (h.act hI hM h1.1 h1.2.1 h1.2.2) (h.told hI hT hr h1.1 h1.2.2) fun y hy=>hx y (List.mem_cons_of_mem _ hy);rw[List.length_cons,show n+(L.length+1)=n+1+L.length by omega];exact this
theorem TInv.all(i:Nat)(D:List Int→Prop)(P:Nod→Prop):TInv i D P fun _=>True:=⟨fun _ _ _ _ _ _ _ _ _=>trivial,fun _ _ _ _ _ _ _ _ _=>trivial⟩
structure Wh where
 d:Nat→List Int→Prop
 ld:Prop
 cr:Prop
 dr:Prop
 tk:Prop
 st:Prop
def Wh.may(D:Wh)(x:Lac):Prop:=(x.k=1→D.d x.n.toNat x.d)∧(x.k=2→D.ld)∧(x.k=8→D.cr)∧(x.k=4∨x.k=5∨x.k=6∨x.k=7→D.dr∧D.tk)∧(x.k=9→D.st)
inductive Stp (D:Wh):Nat→Meet→Meet→Prop
 | take (M:Meet) (l:Let) (hl:l∈M.lets) (hd:l.src<5∧l.dst<5) (hu:(M.node l.dst).up=true) (ht:D.tk):Stp D 0 M (M.set l.dst ((M.node l.dst).take l) M.lets M.told)
 | lets (M:Meet) (ls:List Let) (h:∀ l∈ls,l∈M.lets) (hd:D.dr):Stp D 0 M { M with lets:=ls }
 | one (M:Meet) (i:Nat) (c:Cmd) (hi:i<5) (hu:(M.node i).up=true) (hc:(M.node i).agreed[(M.node i).done]?=some c) (he:doE (M.node i).sto c=0) :
   Stp D 0 M (M.set i (Nod.unwant { M.node i with sto:=doS (M.node i).sto c,done:=(M.node i).done+1 } c) M.lets (if((M.node i).asked c).isSome=true then M.told++[⟨i,c.c,c.s,doC (M.node i).sto c,doA (M.node i).sto c⟩]else M.told))
 | ask (M:Meet) (i:Nat) (hi:i<5) (hu:(M.node i).up=true):Stp D 0 M (M.set i ((M.node i).askd i).1 (M.lets++((M.node i).askd i).2) M.told)
 | prop (M:Meet) (i:Nat) (hi:i<5) (hu:(M.node i).up=true):Stp D 1 M (M.set i (M.node i).propose M.lets M.told)
 | syn (M:Meet) (i:Nat) (hi:i<5) (hu:(M.node i).up=true) (h:(M.node i).sy<((M.node i).d.length:Int)) (hT:AX (M.node i).d (M.node i).sy):Stp D 0 M (M.set i { M.node i with sy:=((M.node i).d.length:Int) } M.lets M.told)
 | run (M:Meet) (i:Nat) (hi:i<5) (hu:(M.node i).up=true) (q:Pend) (l:List Pend) (hp:(M.node i).pend=q::l) (hs:¬ (M.node i).sy<((M.node i).d.length:Int)):Stp D 0 M (M.set i { (M.node i).runP i q with pend:=l } (M.lets++(M.node i).sentP i q) M.told)
 | teach (M:Meet) (i:Nat) (hi:i<5) (hu:(M.node i).up=true) (hL:(M.node i).leads=true):Stp D 0 M (M.set i (GW (M.node i) i 5) (M.lets++Dt (M.node i) i 5) M.told)
 | lead (M:Meet) (i:Nat) (hi:i<5) (hu:(M.node i).up=true) (hL:D.ld):Stp D 0 M (M.set i ((M.node i).lead i) M.lets M.told)
 | sub (M:Meet) (i:Nat) (d:List Int) (hi:i<5) (hu:(M.node i).up=true) (hD:D.d i d):Stp D 0 M (M.set i ((M.node i).subm i d M.told).1 M.lets ((M.node i).subm i d M.told).2)
 | crash (M:Meet) (i:Nat) (k:Int) (hi:i<5) (hu:(M.node i).up=true) (hk:0≤k) (hC:D.cr):Stp D 0 M (M.set i ((M.node i).crash k) M.lets M.told)
 | start (M:Meet) (i:Nat) (hi:i<5) (hu:(M.node i).up=false) (hs:D.st):Stp D 0 M (M.set i (M.node i).start M.lets M.told)
inductive Sts (D:Wh):Nat→Meet→Meet→Prop
 | nil (n:Nat) (M:Meet):Sts D n M M
 | snoc {n c m:Nat} {M N K:Meet} (h:Sts D n M N) (s:Stp D c N K) (hm:n+c≤m):Sts D m M K
section
variable{D:Wh}
theorem Sts.mono{n m:Nat}{M N:Meet}(h:Sts D n M N)(hn:n≤m):Sts D m M N:=by
 cases h with
 | nil=>exact .nil m M
 | snoc h s hm=>exact .snoc h s (by omega)
theorem Sts.trans{n m:Nat}{M N K:Meet}(h:Sts D n M N)(k:Sts D m N K):Sts D (n+m) M K:=by
 induction k with
 | nil=>exact h.mono (by omega)
 | snoc _ s hm ih=>exact(ih h).snoc s (by omega)
theorem Sts.s0{n:Nat}{M N K:Meet}(h:Sts D n M N)(s:Stp D 0 N K):Sts D n M K:=h.snoc s (Nat.le_refl _)
theorem Stp.s{n:Nat}{M N:Meet}(h:Stp D 0 M N):Sts D n M N:=(Sts.nil n M).s0 h
theorem Sts.inv{I:Meet→Prop}(hI:∀ c M N,Stp D c M N→I M→I N){n:Nat}{M N:Meet}(h:Sts D n M N)(hM:I M):I N:=by
 induction h with
 | nil=>exact hM
 | snoc _ s _ ih=>exact hI _ _ _ s (ih hM)
theorem PJ{α:Type}(f:Nat→α)(i:Nat):upN f i (f i)=f:=by funext j;unfold upN;split<;>simp_all
theorem aL{α:Type}(f:Nat→α)(i:Nat)(x y:α):upN (upN f i x) i y=upN f i y:=by funext j;unfold upN;split<;>rfl
theorem Gb(M:Meet)(i:Nat)(p q:Nod)(ls ms:List Let)(ts us:List Tol):(M.set i p ls ts).set i q ms us=M.set i q ms us:=by unfold Meet.set;simp only[aL]
theorem I9(M:Meet)(i:Nat)(p:Nod)(ls:List Let)(ts:List Tol):(M.set i p ls ts).node i=p:=Yb M.node i p
theorem Mj(M:Meet)(l:Let):(M.come l).lets=M.lets:=by unfold Meet.come;split<;>rfl
theorem Ml(M:Meet)(l:Let)(ls:List Let):({ M with lets:=ls }:Meet).come l={ M.come l with lets:=ls }:=by
 unfold Meet.come;show(if(M.node l.dst).up=true then _ else _)=_;split<;>rfl
theorem Ql(l:List Let)(M:Meet)(ls:List Let):l.foldl (fun M l=>M.come l) ({ M with lets:=ls }:Meet)={ l.foldl (fun M l=>M.come l) M with lets:=ls }:=by
 induction l generalizing M with
 | nil=>rfl
 | cons x l ih=>rw[List.foldl_cons,Ml,ih];rfl
theorem Sts.come(ht:D.tk){n:Nat}{M N:Meet}(h:Sts D n M N){l:Let}(hl:l∈N.lets)(hd:l.src<5∧l.dst<5):Sts D n M (N.come l):=by
 unfold Meet.come;split
 ·rename_i hu;exact h.s0 (.take N l hl hd hu ht)
 ·exact h
theorem Sts.comes(ht:D.tk)(l:List Let){n:Nat}{M N:Meet}(h:Sts D n M N)(hl:∀ m∈l,m∈N.lets∧m.src<5∧m.dst<5):Sts D n M (l.foldl (fun M l=>M.come l) N):=by
 induction l generalizing N with
 | nil=>exact h
 | cons x l ih=>exact ih (h.come ht (hl x List.mem_cons_self).1 (hl x List.mem_cons_self).2) fun m hm=>by rw[Mj];exact hl m (List.mem_cons_of_mem _ hm)
theorem Sts.doP{n i:Nat}(hi:i<5)(l:List Cmd)(p:Nod){M:Meet}{ls:List Let}{ts:List Tol}(h:Sts D n M (M.set i p ls ts))(hu:p.up=true)(hl:p.agreed.drop p.done=l) :
  Sts D n M (M.set i (doP i l p ts).1 ls (Go.Proofs.YtfhbkoflaekhpabGreatDoor.doP i l p ts).2)∧(Go.Proofs.YtfhbkoflaekhpabGreatDoor.doP i l p ts).1.up=true:=by
 induction l generalizing p ts with
 | nil=>exact⟨h,hu⟩
 | cons c l ih =>
  rw[Go.Proofs.YtfhbkoflaekhpabGreatDoor.doP];split
  ·exact⟨h,hu⟩
  ·rename_i he
   have hc:p.agreed[p.done]?=some c:=by have:=congrArg (·[0]?) hl;simpa using this
   have hk:=FI { p with sto:=doS p.sto c,done:=p.done+1 } c;have e:=I9 M i p ls ts;have s:=Stp.one (D:=D) (M.set i p ls ts) i c hi (by rw[e];exact hu) (by rw[e];exact hc) (by rw[e];exact Decidable.not_not.1 he);rw[e,Gb]at s
   refine ih _ (h.s0 s) (hk.1.trans hu) ?_;rw[hk.2.1,hk.2.2.1];show p.agreed.drop (p.done+1)=l;rw[← List.drop_drop,hl];rfl
theorem Sts.doneP{n i:Nat}(hi:i<5)(l:List Pend)(p:Nod){M:Meet}{ls:List Let}{ts:List Tol}(h:Sts D n M (M.set i { p with pend:=l } ls ts))(hu:p.up=true)(h0:p.pend=[])(hs:¬ p.sy<(p.d.length:Int)) :
  Sts D n M (M.set i (doneP i l p ls).1 (Go.Proofs.YtfhbkoflaekhpabGreatDoor.doneP i l p ls).2 ts)∧(Go.Proofs.YtfhbkoflaekhpabGreatDoor.doneP i l p ls).1.up=true:=by
 induction l generalizing p ls with
 | nil =>
  have:({ p with pend:=[] }:Nod)=p:=by cases p;simp_all
  rw[this]at h;exact⟨h,hu⟩
 | cons q l ih =>
  have hk:=Ga p i q;have e:=I9 M i { p with pend:=q::l } ls ts;have s:=Stp.run (D:=D) (M.set i { p with pend:=q::l } ls ts) i hi (by rw[e];exact hu) q l (by rw[e]) (by rw[e];exact hs);rw[e,Gb,MK,Lc]at s
  exact ih (p.runP i q) (h.s0 s) (hk.2.1.trans hu) (hk.1.trans h0) (by rw[hk.2.2.1,hk.2.2.2];exact hs)
theorem Sts.piece{i:Nat}(hi:i<5)(M:Meet)(hu:(M.node i).up=true):Sts D 1 M (M.set i ((M.node i).piece i M.lets M.told).1 ((M.node i).piece i M.lets M.told).2.1 ((M.node i).piece i M.lets M.told).2.2):=by
 have h0:Sts D 0 M (M.set i (M.node i) M.lets M.told):=by rw[show M.set i (M.node i) M.lets M.told=M by unfold Meet.set;rw[PJ]];exact .nil 0 M
 obtain⟨ha,au⟩:=Sts.doP hi _ (M.node i) h0 hu rfl;unfold Nod.piece;simp only;generalize Go.Proofs.YtfhbkoflaekhpabGreatDoor.doP i ((M.node i).agreed.drop (M.node i).done) (M.node i) M.told=a at ha au ⊢;have e:=I9 M i a.1 M.lets a.2;have s:=Stp.ask (D:=D) (M.set i a.1 M.lets a.2) i hi (by rw[e];exact au);rw[e,Gb]at s
 have hb:=ha.s0 s;have bu:=(RQ a.1 i).trans au;clear e s ha;generalize (a.1.askd i)=b at hb bu ⊢;have e:=I9 M i b.1 (M.lets++b.2) a.2;have s:=Stp.prop (D:=D) (M.set i b.1 (M.lets++b.2) a.2) i hi (by rw[e];exact bu);rw[e,Gb]at s
 have hc:=hb.snoc s (m:=1) (by omega);have cu:=(KR b.1).trans bu;clear e s hb;change Sts D 1 M (M.set i b.1.propose (M.lets++b.2) a.2)at hc;generalize b.1.propose=r at hc cu ⊢;generalize M.lets++b.2=k at hc ⊢;have hd:Sts D 1 M (M.set i (r.syncd i k).1 (r.syncd i k).2 a.2)∧(r.syncd i k).1.up=true:=by
  unfold Nod.syncd;split
  ·exact⟨hc,cu⟩
  ·rename_i hn
   have e:=I9 M i r k a.2;unfold Nod.syn;split
   ·rename_i h1
    have h2:CK r.d r.sy=0:=Decidable.not_not.1 fun e=>hn ⟨h1,e⟩;have hT:AX r.d r.sy:=by
     unfold CK at h2;split at h2
     ·assumption
     ·cases h2
    have s:=Stp.syn (D:=D) (M.set i r k a.2) i hi (by rw[e];exact cu) (by rw[e];exact h1) (by rw[e];exact hT);rw[e,Gb]at s
    have e1:GU r.d r.sy=r.d:=if_pos hT;have e2:Ic r.d r.sy=(r.d.length:Int):=if_pos hT;rw[e1,e2];exact Sts.doneP hi r.pend { r with sy:=(r.d.length:Int),pend:=[] } (hc.s0 s) cu rfl (Int.lt_irrefl _)
   ·rename_i h1
    exact Sts.doneP hi r.pend { r with pend:=[] } hc cu rfl h1
 generalize r.syncd i k=f at hd ⊢;unfold Nod.taught;split
 ·rename_i hL
  have e:=I9 M i f.1 f.2 a.2;have s:=Stp.teach (D:=D) (M.set i f.1 f.2 a.2) i hi (by rw[e];exact hd.2) (by rw[e];exact hL);rw[e,Gb]at s
  exact hd.1.s0 s
 ·exact hd.1
theorem H9(M:Meet)(i:Nat):M.set i (M.node i) M.lets M.told=M:=by unfold Meet.set;rw[PJ]
theorem Yu{n:Nat}{M:Meet}(hM:MOk n M){x:Lac}(hx:LacOk x)(hD:D.may x):Sts D 1 M (M.act x):=by
 obtain⟨hD,h2,h8,h4,hS⟩:=hD;have hnode:∀ {k:Int},x.k=k→Fi k=true→x.n.toNat<5:=fun{k} e e2=>by have:=hx.n (by rw[e];exact e2);omega
 unfold Meet.act;simp only;split
 ·rename_i h1
  by_cases hu:(M.node x.n.toNat).up=true
  ·exact(Stp.sub M _ x.d (hnode h1 rfl) hu (hD h1)).s
  ·unfold Nod.subm Nod.sub0;rw[if_pos (by simpa using hu)];rw[H9];exact .nil 1 M
 ·split
  ·rename_i hk
   split
   ·rename_i hu;exact(Stp.lead M _ (hnode hk rfl) hu (h2 hk)).s
   ·rw[H9];exact .nil 1 M
  ·split
   ·rename_i h3
    by_cases hu:(M.node x.n.toNat).up=true
    ·rw[if_pos hu,if_pos hu,if_pos hu];exact Sts.piece (hnode h3 rfl) M hu
    ·rw[if_neg hu,if_neg hu,if_neg hu,H9];exact .nil 1 M
   ·split
    ·rename_i hk4
     obtain⟨hdr,htk⟩:=h4 (by omega);unfold Meet.move;split
     ·exact .nil 1 M
     ·rename_i l hl
      have hm:=List.mem_of_getElem? hl;have hd:=And.intro (hM.lets l hm).src (hM.lets l hm).dst;have hA:∀ N:Meet,Sts D 1 M N→N.lets=M.lets→Sts D 1 M (if x.k≠6 then{ N with lets:=M.lets.eraseIdx (x.a.toNat%M.lets.length) }else N):=fun N h e=>by
       split
       ·exact h.s0 (.lets N _ (fun m hm=>by rw[e];exact List.mem_of_mem_eraseIdx hm) hdr)
       ·exact h
      simp only;split
      ·have:=hA (M.come l) ((Sts.nil 1 M).come htk hm hd) (Mj M l);by_cases h6:x.k≠6
       ·rw[if_pos h6]at this ⊢;rw[Ml];exact this
       ·rw[if_neg h6]at this ⊢;exact this
      ·exact hA M (.nil 1 M) rfl
    ·split
     ·rename_i hk7
      unfold Meet.comeAll;rw[Ql];exact(Sts.comes (h4 (by omega)).2 M.lets (.nil 1 M) fun m hm=>⟨hm,(hM.lets m hm).src,(hM.lets m hm).dst⟩).s0 (.lets _ [] (fun l hl=>by cases hl) (h4 (by omega)).1)
     ·split
      ·rename_i hk
       split
       ·rename_i hu;exact(Stp.crash M _ x.p (hnode hk rfl) hu (hx.p (by rw[hk];rfl)).1 (h8 hk)).s
       ·rw[H9];exact .nil 1 M
      ·split
       ·rename_i h9
        split
        ·rw[H9];exact .nil 1 M
        ·rename_i hu;exact(Stp.start M _ (hnode h9 rfl) (by simpa using hu) (hS h9)).s
       ·exact .nil 1 M
theorem UX(L:List Lac){n:Nat}{M:Meet}(hM:MOk n M)(hn:n+L.length≤1000000)(hx:∀ x∈L,LacOk x∧D.may x):Sts D L.length M (M.acts L):=by
 induction L generalizing n M with
 | nil=>exact .nil _ M
 | cons x L ih =>
  have h1:=hx x List.mem_cons_self;rw[List.length_cons]at hn
  rw[List.length_cons,Nat.add_comm];exact(Yu hM h1.1 h1.2).trans (ih (hM.act (by omega) h1.1) (by omega) fun y hy=>hx y (List.mem_cons_of_mem _ hy))
end
inductive Rk where
 | pr (b:Bal)
 | vt (v:Vt)
def Rk.body:Rk→List Int
 | .pr b=>Bk b
 | .vt v=>AZ v
def Rk.ap(a:Acc):Rk→Acc
 | .pr b=>⟨b,a.vs⟩
 | .vt v=>⟨v.b,Be a.vs v⟩
def Rk.err(a:Acc):Rk→Int
 | .pr b=>BG a b
 | .vt v=>AT a v
def Rk.ok(a:Acc):Rk→Prop
 | .pr b=>BG a b=0∧a.p≠b
 | .vt v=>AT a v=0∧v∉a.vs
theorem Rk.ok.err{a:Acc}{r:Rk}(h:Rk.ok a r):Rk.err a r=0:=by cases r<;>exact h.1
def E2(rs:List Rk):Acc:=rs.foldl Rk.ap a0
theorem CW(rs:List Rk)(r:Rk):E2 (rs++[r])=Rk.ap (E2 rs) r:=by unfold E2;rw[List.foldl_append];rfl
def Ca(rs:List Rk):Prop:=∀ i r,rs[i]?=some r→Rk.ok (E2 (rs.take i)) r
theorem Ca.nil:Ca []:=fun i r h=>by simp at h
theorem Ca.left{rs qs:List Rk}(h:Ca (rs++qs)):Ca rs:=fun i r e=>by
 have hi:=(List.getElem?_eq_some_iff.1 e).1;have:=h i r (by rw[List.getElem?_append_left hi];exact e)
 rwa [List.take_append_of_le_length (by omega)]at this
theorem Ca.pre{rs qs:List Rk}(h:Ca qs)(hp:rs <+: qs):Ca rs:=by obtain⟨x,rfl⟩:=hp;exact h.left
theorem Ca.snoc{rs:List Rk}{r:Rk}(h:Ca rs)(he:Rk.ok (E2 rs) r):Ca (rs++[r]):=fun i q e=>by
 rcases Nat.lt_or_ge i rs.length with hi|hi
 ·rw[List.getElem?_append_left hi]at e
  rw[List.take_append_of_le_length (by omega)];exact h i q e
 ·have:=(List.getElem?_eq_some_iff.1 e).1;rw[List.length_append,List.length_singleton]at this
  obtain rfl:i=rs.length:=by omega
  rw[List.getElem?_append_right (Nat.le_refl _)]at e
  simp at e;subst e;rw[List.take_append_of_le_length (Nat.le_refl _),List.take_length];exact he
theorem Ca.ind{P:List Rk→Prop}(h0:P [])(hs:∀ rs r,Ca rs→Rk.ok (E2 rs) r→P rs→P (rs++[r])){rs:List Rk}(h:Ca rs):P rs:=by
 have:∀ k,k≤rs.length→P (rs.take k):=by
  intro k;induction k with
  | zero=>intro _;exact h0
  | succ k ih =>
   intro hk;have e:rs.take (k+1)=rs.take k++[rs[k]]:=by rw[List.take_succ_eq_append_getElem (by omega)]
   rw[e];exact hs _ _ (h.pre (List.take_prefix _ _)) (h k _ (List.getElem?_eq_getElem (by omega))) (ih (by omega))
 have:=this rs.length (Nat.le_refl _)
 rwa [List.take_length]at this
theorem Ao.prm{a:Acc}{b:Bal}(h:Ao a)(hb:Ad b)(hl:¬ b.lt a.p):Ao ⟨b,a.vs⟩:=by
 refine⟨.inl hb,fun v hv=>⟨(h.2.1 v hv).1,fun g=>?_⟩,h.2.2⟩;have h1:=(h.2.1 v hv).1.2.1;have h2:=(h.2.1 v hv).2;rw[Ns hb.pr h1.pr]at g
 rw[Ns h.1 h1.pr]at h2
 rw[Ns hb.pr h.1]at hl
 omega
theorem Ao.vot{a:Acc}{v:Vt}(h:Ao a)(hv:Aj v)(hl:¬ v.b.lt a.p):Ao ⟨v.b,Be a.vs v⟩:=by
 refine⟨.inl hv.2.1,fun u hu=>?_,Iz v h.2.2⟩;rcases(D7 h.2.2).1 hu with rfl|⟨hu,_⟩
 ·refine⟨hv,fun g=>?_⟩;change u.b.lt u.b at g;unfold Bal.lt at g;omega
 ·exact(h.prm hv.2.1 hl).2.1 u hu
theorem Ys:Ao a0:=⟨.inr ⟨rfl,rfl⟩,fun v hv=>(List.not_mem_nil hv).elim,trivial⟩
theorem Rk.may{a:Acc}(h:Ao a){r:Rk}(he:Rk.err a r=0):Ao (Rk.ap a r):=by
 cases r with
 | pr b=>have:=FZ he;exact h.prm this.2.1 this.2.2
 | vt v=>have:=BJ he;exact h.vot this.2.1 this.2.2
theorem Ca.acc{rs:List Rk}(h:Ca rs):Ao (E2 rs):=h.ind (P:=fun rs=>Ao (E2 rs)) Ys fun rs r _ he ih=>by rw[CW];exact Rk.may ih he.err
theorem KH{a b:Bal}(ha:AQ a)(hb:AQ b)(h:¬ a.lt b):b.key≤a.key:=by rw[Ns ha hb]at h;omega
theorem Pv{rs:List Rk}(h:Ca rs):∀ v∈(E2 rs).vs,Rk.vt v∈rs:=h.ind (P:=fun rs=>∀ v∈(E2 rs).vs,Rk.vt v∈rs) (fun v hv=>by cases hv) fun rs r hk he ih v hv=>by
 rw[CW]at hv
 cases r with
 | pr b=>exact List.mem_append_left _ (ih v hv)
 | vt u =>
  rcases(D7 hk.acc.2.2).1 hv with rfl|⟨hv,_⟩
  ·exact List.mem_append_right _ List.mem_cons_self
  ·exact List.mem_append_left _ (ih v hv)
theorem Ao.le{a:Acc}(h:Ao a){v:Vt}(hv:v∈a.vs):v.b.key≤a.p.key:=KH h.1 (h.2.1 v hv).1.2.1.pr (h.2.1 v hv).2
def fl(rs:List Rk):List Int:=Ay (rs.map Rk.body)
theorem YQ(rs:List Rk)(r:Rk):fl (rs++[r])=fl rs++AF r.body:=by unfold fl;rw[List.map_append,BX];simp[Ay]
theorem VP(rs qs:List Rk):fl (rs++qs)=fl rs++fl qs:=by unfold fl;rw[List.map_append,BX]
theorem VQ{rs qs:List Rk}(h:rs <+: qs):(fl rs).length≤(fl qs).length:=by obtain⟨x,rfl⟩:=h;rw[VP,List.length_append];omega
theorem Ca.chn{rs:List Rk}(h:Ca rs):Chn ((List.range (rs.length+1)).map fun j=>E2 (rs.take j)) (rs.map Rk.body):=by
 refine⟨by simp,by simp[E2],fun i b a c hb ha hc=>?_⟩;simp only[List.getElem?_map,Option.map_eq_some_iff]at hb ha hc;obtain⟨r,hr,rfl⟩:=hb;obtain⟨j,hj,rfl⟩:=ha;obtain⟨k,hk,rfl⟩:=hc;have hi:=(List.getElem?_eq_some_iff.1 hr).1;rw[List.getElem?_range (by omega)]at hj hk
 cases hj;cases hk;have he:=(h i r hr).err;have hq:rs[i]=r:=by rw[List.getElem?_eq_getElem hi]at hr;exact Option.some.inj hr
 rw[List.take_succ_eq_append_getElem hi,CW,hq];generalize E2 (rs.take i)=a at he ⊢;cases r with
 | pr b=>show Dg a (Bk b)=_;rw[VC a (FZ he).2.1];exact if_pos he
 | vt v=>show Dg a (AZ v)=_;rw[VD a (BJ he).2.1];exact if_pos he
structure TpU(p:Nod)(dr rs:List Rk):Prop where
 ok:Ca rs
 pre:dr <+: rs
 d:p.d=fl rs
 sy:p.sy=((fl dr).length:Int)
 vo:p.vo=E2 rs
 len:p.d.length≤100000
structure TpD(p:Nod)(dr:List Rk):Prop where
 ok:Ca dr
 rcv:DM p.d=((fl dr).length,E2 dr)
 tk:p.d.take (fl dr).length=fl dr
 sy:p.sy=(p.d.length:Int)
 len:p.d.length≤100000
theorem TpU.tap{p:Nod}{dr rs:List Rk}(h:TpU p dr rs):AX p.d p.sy:=by
 have:=VQ h.pre;have:=h.d;refine⟨h.len,by rw[h.sy];omega,?_⟩;rw[h.sy,h.d];omega
theorem TpU.zero:TpU CO [] []:=⟨Ca.nil,List.prefix_refl _,rfl,rfl,rfl,by decide⟩
theorem TpU.crash{p:Nod}{dr rs:List Rk}(h:TpU p dr rs){k:Int}(hk:0≤k):∃ dr',dr <+: dr'∧dr' <+: rs∧TpD (p.crash k) dr':=by
 have hT:=h.tap;have hc:Ge p.d p.sy k=0:=by unfold Ge;rw[if_neg (fun e=>e hT),if_neg (by omega)]
 have hT':=hT;unfold AX at hT';have hN:p.sy≤Fr p.d p.sy k∧Fr p.d p.sy k≤(p.d.length:Int):=by unfold Fr;split<;>omega
 obtain⟨j,a,h1,h2,h3,h4,h5⟩:=h.ok.chn.torn (Fr p.d p.sy k).toNat;rw[List.length_map]at h1 h5
 rw[List.getElem?_map,List.getElem?_range (by omega)]at h2
 obtain rfl:E2 (rs.take j)=a:=by simpa using h2
 have hfj:Ay ((rs.map Rk.body).take j)=fl (rs.take j):=by unfold fl;rw[List.map_take]
 rw[hfj]at h3 h4
 have hd:(p.crash k).d=(fl rs).take (Fr p.d p.sy k).toNat:=by
  unfold Nod.crash;rw[if_neg (fun e=>e hc)];show Jx p.d p.sy k=_;unfold Jx;rw[if_pos hc,h.d]
 have hs:(p.crash k).sy=Fr p.d p.sy k:=by
  unfold Nod.crash;rw[if_neg (fun e=>e hc)];show Jy p.d p.sy k=_;unfold Jy;rw[if_pos hc]
 have hl:((fl rs).take (Fr p.d p.sy k).toNat).length=(Fr p.d p.sy k).toNat:=by rw[List.length_take,← h.d];omega
 refine⟨rs.take j,?_,List.take_prefix _ _,h.ok.pre (List.take_prefix _ _),by rw[hd];exact h3,?_,?_,?_⟩
 ·obtain⟨x,hx⟩:=h.pre;rcases Nat.lt_or_ge j dr.length with g|g
  ·exfalso;rcases h5 with h5|h5
   ·rw[← hx,List.length_append]at h5;omega
   ·have hp:rs.take (j+1) <+: dr:=by rw[← hx,List.take_append_of_le_length (by omega)];exact List.take_prefix _ _
    have:=VQ hp;rw[show Ay ((rs.map Rk.body).take (j+1))=fl (rs.take (j+1))by unfold fl;rw[List.map_take]]at h5
    have:=h.sy;omega
  ·rw[← hx,List.take_append];rw[List.take_of_length_le g];exact List.prefix_append _ _
 ·rw[hd,List.take_take,Nat.min_eq_left h4];have e:fl rs=fl (rs.take j)++fl (rs.drop j):=by rw[← VP,List.take_append_drop]
  rw[show(fl rs).take (fl (rs.take j)).length=(fl (rs.take j)++fl (rs.drop j)).take (fl (rs.take j)).length by rw[← e],List.take_append_of_le_length (Nat.le_refl _),List.take_length]
 ·rw[hs,hd,hl];omega
 ·rw[hd,hl];have:=h.len;omega
theorem TpD.start{p:Nod}{dr:List Rk}(h:TpD p dr):TpU p.start dr dr:=by
 have hT:AX p.d p.sy:=⟨h.len,by rw[h.sy];omega,by rw[h.sy];omega⟩;have e0:CK p.d p.sy=0:=if_pos hT;have e1:LT p.d p.sy=((fl dr).length:Int):=by unfold LT;rw[if_pos hT,h.rcv]
 have e2:F9 p.d p.sy=E2 dr:=by unfold F9;rw[if_pos hT,h.rcv]
 have hle:=SA p.d;rw[h.rcv]at hle
 have hle:(fl dr).length≤p.d.length:=hle;have hlen:=h.len;unfold Nod.start;rw[if_neg (fun e=>e e0),e1,e2];split
 ·rename_i hlt
  have e3:I7 p.d p.sy=fl dr:=by unfold I7;rw[if_pos hT,h.rcv];exact h.tk
  have e4:KY p.d p.sy=((fl dr).length:Int):=by unfold KY;rw[if_pos hT,h.rcv];exact if_pos (by rw[h.sy];exact hlt)
  exact⟨h.ok,List.prefix_refl _,e3,e4,rfl,by show(I7 p.d p.sy).length≤_;rw[e3];omega⟩
 ·rename_i hge
  have e3:p.d=fl dr:=by have:=h.tk;rwa [List.take_of_length_le (by omega)]at this
  exact⟨h.ok,List.prefix_refl _,e3,by show p.sy=_;rw[h.sy,← e3],rfl,hlen⟩
theorem TpU.syn{p:Nod}{dr rs:List Rk}(h:TpU p dr rs):TpU { p with sy:=(p.d.length:Int) } rs rs:=⟨h.ok,List.prefix_refl _,h.d,by show(p.d.length:Int)=_;rw[h.d],h.vo,h.len⟩
def Nod.tv(p:Nod)(d:List Int)(s:Int)(a:Acc):Nod:={ p with d:=d,sy:=s,vo:=a }
theorem TpU.write{p:Nod}{dr rs:List Rk}(h:TpU p dr rs){r:Rk}(he:Rk.ok p.vo r)(hl:p.d.length+(r.body.length+5)≤100000):TpU (p.tv (p.d++AF r.body) p.sy (Rk.ap p.vo r)) dr (rs++[r]):=by
 rw[h.vo]at he
 refine⟨h.ok.snoc he,h.pre.trans (List.prefix_append _ _),?_,h.sy,?_,?_⟩
 ·show p.d++_=_;rw[h.d,YQ]
 ·show Rk.ap p.vo r=_;rw[h.vo,CW]
 ·show(p.d++AF r.body).length≤_;rw[List.length_append,Ba];omega
theorem TpU.promise{p:Nod}{dr rs:List Rk}(h:TpU p dr rs)(b:Bal):((p.promise b).2.2≠0∧(p.promise b).1=p) ∨
  ((p.promise b).2.2=0∧BG p.vo b=0∧(p.promise b).2.1=p.vo.vs∧∃ rs',rs <+: rs'∧TpU (p.promise b).1 dr rs'∧(∀ v,Rk.vt v∈rs'↔Rk.vt v∈rs)∧(E2 rs').p=b∧(E2 rs').vs=p.vo.vs∧∃ d a,(p.promise b).1=p.tv d p.sy a):=by
 unfold Nod.promise;split
 ·rename_i h1;exact .inl ⟨h1,rfl⟩
 ·rename_i h1
  have h1:=Decidable.not_not.1 h1;split
  ·rename_i h2
   refine .inr ⟨rfl,h1,rfl,rs,List.prefix_refl _,?_,fun _=>Iff.rfl,?_,?_,p.d,p.vo,?_⟩
   ·rw[h2];exact h
   ·rw[← h.vo];exact h2.symm
   ·rw[← h.vo]
   ·rw[h2];rfl
  ·rename_i h2
   split
   ·rename_i h3;exact .inl ⟨h3,rfl⟩
   ·rename_i h3
    have h3:=Decidable.not_not.1 h3;have hw:=IM h3;have e1:EX p.d p.sy (Ad b) (Bk b)=p.d++AF (Bk b):=if_pos h3;have e2:FN p.d p.sy (Ad b) (Bk b)=p.sy:=if_pos h3;rw[e1,e2];refine .inr ⟨rfl,h1,rfl,rs++[Rk.pr b],List.prefix_append _ _,(h.write (r:=.pr b) ⟨h1,fun e=>h2 e.symm⟩ hw.2.1),fun v=>by simp,?_,?_,_,_,rfl⟩
    ·rw[CW];rfl
    ·rw[CW,h.vo];rfl
theorem T8{l:List Vt}(h:BA l){v:Vt}(hv:v∈l):Be l v=l:=by
 induction l with
 | nil=>cases hv
 | cons u us ih =>
  rw[Be];rcases List.mem_cons.1 hv with rfl|hv
  ·rw[if_neg (Int.lt_irrefl _),if_pos rfl]
  ·rw[if_pos (h.1 v hv),ih h.2 hv]
theorem TpU.vote{p:Nod}{dr rs:List Rk}(h:TpU p dr rs)(v:Vt):((p.vote v).2≠0∧(p.vote v).1=p) ∨
  ((p.vote v).2=0∧AT p.vo v=0∧∃ rs',rs <+: rs'∧TpU (p.vote v).1 dr rs'∧(∀ u,Rk.vt u∈rs'↔u=v∨Rk.vt u∈rs)∧(E2 rs').p=v.b∧∃ d a,(p.vote v).1=p.tv d p.sy a):=by
 unfold Nod.vote;split
 ·rename_i h1;exact .inl ⟨h1,rfl⟩
 ·rename_i h1
  have h1:=Decidable.not_not.1 h1;have hz:=BJ h1;split
  ·rename_i h2
   have hle:=hz.1.le h2;have hge:=KH hz.2.1.2.1.pr hz.1.1 hz.2.2;have e:v.b=p.vo.p:=Zh hz.2.1.2.1.pr hz.1.1 (by omega);have e2:(⟨v.b,Be p.vo.vs v⟩:Acc)=p.vo:=by rw[T8 hz.1.2.2 h2,e]
   rw[e2];refine .inr ⟨rfl,h1,rs,List.prefix_refl _,h,fun u=>⟨.inr,fun hu=>?_⟩,by rw[← h.vo];exact e.symm,p.d,p.vo,rfl⟩;rcases hu with rfl|hu
   ·exact Pv h.ok u (by rw[← h.vo];exact h2)
   ·exact hu
  ·rename_i h2
   split
   ·rename_i h3;exact .inl ⟨h3,rfl⟩
   ·rename_i h3
    have h3:=Decidable.not_not.1 h3;have hw:=IM h3;have e1:EX p.d p.sy (Aj v) (AZ v)=p.d++AF (AZ v):=if_pos h3;have e2:FN p.d p.sy (Aj v) (AZ v)=p.sy:=if_pos h3;rw[e1,e2];refine .inr ⟨rfl,h1,rs++[Rk.vt v],List.prefix_append _ _,h.write (r:=.vt v) ⟨h1,h2⟩ hw.2.1,fun u=>?_,by rw[CW];rfl,_,_,rfl⟩;rw[List.mem_append,List.mem_singleton];exact⟨fun g=>g.elim .inr fun e=>.inl (Rk.vt.inj e),fun g=>g.elim (fun e=>.inr (by rw[e])) .inl⟩
end Go.Proofs.YtfhbkoflaekhpabGreatDoor
