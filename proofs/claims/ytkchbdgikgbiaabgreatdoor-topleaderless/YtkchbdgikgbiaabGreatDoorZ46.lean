/- Part 46 of the walk. -/
import Derived.Test.YtkchbdgikgbiaabGreatDoorZ44
import Derived.Test.YtkchbdgikgbiaabGreatDoorZ45
set_option maxRecDepth 100000
set_option maxHeartbeats 4000000
open Go.Proofs.Tryz
set_option linter.unusedVariables false
namespace Go.Proofs.YtkchbdgikgbiaabGreatDoor
section
structure Alw where
 ca:Bool
 ld:Bool
 cr:Bool
 st:Bool
structure NInv(A:Alw)(i:Nat)(D:List Int→Prop)(Q:Let→Prop)(P:Nod→Prop):Prop where
 take:A.ca=true→∀ p l,P p→Q l→l.dst=i→p.up=true→P (p.take l)
 one:∀ p c,P p→p.up=true→p.agreed[p.done]?=some c→doE p.sto c=0→P (Nod.unwant { p with sto:=doS p.sto c,done:=p.done+1 } c)
 ask:∀ p,P p→p.up=true→P (p.askd i).1∧∀ l∈(p.askd i).2,Q l
 prop:∀ p,P p→p.up=true→P p.propose
 syn:∀ p,P p→p.up=true→P p.syn
 run:∀ p q l,P p→p.up=true→p.pend=q::l→¬ p.sy<(p.d.length:Int)→P { p.runP i q with pend:=l }∧∀ m∈p.sentP i q,Q m
 teach:∀ p,P p→p.up=true→p.leads=true→P (Ix p i 5)∧∀ l∈D9 p i 5,Q l
 lead:A.ld=true→∀ p,P p→p.up=true→P (p.lead i)
 sub:∀ p d ts,P p→D d→p.up=true→P (p.subm i d ts).1
 crash:A.cr=true→∀ p k,P p→0≤k→p.up=true→P (p.crash k)
 start:A.st=true→∀ p,P p→p.up=false→P p.start
theorem T8(p:Nod)(i:Nat)(q:Pend)(x:List Pend):({ p with pend:=x }:Nod).runP i q={ p.runP i q with pend:=x }:=by
 cases q with
 | began b vs=>unfold Nod.runP;simp only;split<;>rfl
 | prop v =>
  unfold Nod.runP Nod.count;simp only;split
  ·rfl
  ·split<;>rfl
 | _=>rfl
theorem Mc(p:Nod)(i:Nat)(q:Pend):(p.runP i q).pend=p.pend∧(p.runP i q).up=p.up∧(p.runP i q).d=p.d∧(p.runP i q).sy=p.sy:=by
 cases q with
 | began b vs=>unfold Nod.runP;simp only;split<;>exact⟨rfl,rfl,rfl,rfl⟩
 | prop v =>
  unfold Nod.runP Nod.count;simp only;split
  ·exact⟨rfl,rfl,rfl,rfl⟩
  ·split<;>exact⟨rfl,rfl,rfl,rfl⟩
 | _=>exact⟨rfl,rfl,rfl,rfl⟩
theorem QS(p:Nod)(i:Nat)(q:Pend)(x:List Pend):({ p with pend:=x }:Nod).sentP i q=p.sentP i q:=by cases q<;>rfl
theorem IV(p:Nod)(c:Cmd):(p.unwant c).up=p.up∧(p.unwant c).agreed=p.agreed∧(p.unwant c).done=p.done∧(p.unwant c).sto=p.sto:=by unfold Nod.unwant;split<;>exact⟨rfl,rfl,rfl,rfl⟩
theorem PN(p:Nod)(l:List Cmd):(p.enqueue l).up=p.up:=by unfold Nod.enqueue;split<;>rfl
theorem XC(p:Nod)(i:Nat):(p.askd i).1.up=p.up:=by
 unfold Nod.askd;split
 ·rfl
 ·split
  ·exact PN _ _
  ·rfl
theorem Zy(p:Nod)(v:Vt):(p.vote v).1.up=p.up:=by
 unfold Nod.vote;split
 ·rfl
 ·split
  ·rfl
  ·split<;>rfl
theorem QL(p:Nod):p.propose.up=p.up:=by
 unfold Nod.propose;split
 ·rfl
 ·split
  ·rfl
  ·split
   ·rfl
   ·exact Zy p _
theorem cV(p:Nod):p.syn.up=p.up:=by unfold Nod.syn;split<;>rfl
section
variable{A:Alw}{i:Nat}{D:List Int→Prop}{Q:Let→Prop}{P:Nod→Prop}
theorem NInv.doP(h:NInv A i D Q P)(l:List Cmd)(p:Nod)(ts:List Tol)(hp:P p)(hu:p.up=true)(hl:p.agreed.drop p.done=l):P (doP i l p ts).1∧(Go.Proofs.YtkchbdgikgbiaabGreatDoor.doP i l p ts).1.up=true:=by
 induction l generalizing p ts with
 | nil=>exact⟨hp,hu⟩
 | cons c l ih =>
  rw[Go.Proofs.YtkchbdgikgbiaabGreatDoor.doP];split
  ·exact⟨hp,hu⟩
  ·rename_i he
   have hc:p.agreed[p.done]?=some c:=by
    have:=congrArg (·[0]?) hl;simpa using this
   have hk:=IV { p with sto:=doS p.sto c,done:=p.done+1 } c;refine ih _ _ (h.one p c hp hu hc (Decidable.not_not.1 he)) (hk.1.trans hu) ?_;rw[hk.2.1,hk.2.2.1];show p.agreed.drop (p.done+1)=l;rw[← List.drop_drop,hl];rfl
theorem NInv.doneP(h:NInv A i D Q P)(l:List Pend)(p:Nod)(ls:List Let)(hp:P { p with pend:=l })(hu:p.up=true)(h0:p.pend=[])(hs:¬ p.sy<(p.d.length:Int))(hl:∀ m∈ls,Q m):P (doneP i l p ls).1∧(∀ m∈(Go.Proofs.YtkchbdgikgbiaabGreatDoor.doneP i l p ls).2,Q m)∧(Go.Proofs.YtkchbdgikgbiaabGreatDoor.doneP i l p ls).1.up=true:=by
 induction l generalizing p ls with
 | nil =>
  refine⟨?_,hl,hu⟩;have:({ p with pend:=[] }:Nod)=p:=by cases p;simp_all
  rw[this]at hp;exact hp
 | cons q l ih =>
  have hk:=Mc p i q;obtain⟨h1,h2⟩:=h.run { p with pend:=q::l } q l hp hu rfl hs;rw[T8]at h1
  rw[QS]at h2
  exact ih (p.runP i q) (ls++p.sentP i q) h1 (hk.2.1.trans hu) (hk.1.trans h0) (by rw[hk.2.2.1,hk.2.2.2];exact hs) fun m hm=>(List.mem_append.1 hm).elim (hl m) (h2 m)
theorem NInv.piece(h:NInv A i D Q P)(p:Nod)(ls:List Let)(ts:List Tol)(hp:P p)(hu:p.up=true)(hl:∀ m∈ls,Q m):P (p.piece i ls ts).1∧∀ m∈(p.piece i ls ts).2.1,Q m:=by
 obtain⟨a1,a2⟩:=h.doP _ p ts hp hu rfl;unfold Nod.piece;simp only;obtain⟨b1,b2⟩:=h.ask _ a1 a2;have bu:=(XC (Go.Proofs.YtkchbdgikgbiaabGreatDoor.doP i (p.agreed.drop p.done) p ts).1 i).trans a2;have c1:=h.prop _ b1 bu;have cu:=(QL ((Go.Proofs.YtkchbdgikgbiaabGreatDoor.doP i (p.agreed.drop p.done) p ts).1.askd i).1).trans bu;have hls:∀ m∈ls++((Go.Proofs.YtkchbdgikgbiaabGreatDoor.doP i (p.agreed.drop p.done) p ts).1.askd i).2,Q m:=fun m hm=>(List.mem_append.1 hm).elim (hl m) (b2 m);generalize ls++((Go.Proofs.YtkchbdgikgbiaabGreatDoor.doP i (p.agreed.drop p.done) p ts).1.askd i).2=k at hls ⊢;generalize ((Go.Proofs.YtkchbdgikgbiaabGreatDoor.doP i (p.agreed.drop p.done) p ts).1.askd i).1.propose=r at c1 cu ⊢;have hd:P (r.syncd i k).1∧(∀ m∈(r.syncd i k).2,Q m)∧(r.syncd i k).1.up=true:=by
  unfold Nod.syncd;split
  ·exact⟨c1,hls,cu⟩
  ·rename_i hn
   have hp2:=h.syn r c1 cu;have hpd:r.syn.pend=r.pend:=by unfold Nod.syn;split<;>rfl
   refine h.doneP r.pend { r.syn with pend:=[] } k (by rw[← hpd];exact hp2) ((cV r).trans cu) rfl ?_ hls;show ¬ r.syn.sy<(r.syn.d.length:Int);unfold Nod.syn;split
   ·rename_i h1
    have:CW r.d r.sy=0:=Decidable.not_not.1 fun e=>hn ⟨h1,e⟩;have hT:Be r.d r.sy:=by
     unfold CW at this;split at this
     ·assumption
     ·cases this
    show ¬ It r.d r.sy<((Hj r.d r.sy).length:Int);unfold It Hj;rw[if_pos hT,if_pos hT];exact Int.lt_irrefl _
   ·rename_i h1;exact h1
 unfold Nod.taught;split
 ·rename_i hL
  obtain⟨e1,e2⟩:=h.teach _ hd.1 hd.2.2 hL;exact⟨e1,fun m hm=>(List.mem_append.1 hm).elim (hd.2.1 m) (e2 m)⟩
 ·exact⟨hd.1,hd.2.1⟩
end
structure GInv(Q:Let→Prop)(P:Nat→Nod→Prop)(M:Meet):Prop where
 node:∀ i,i<5→P i (M.node i)
 lets:∀ l∈M.lets,Q l
theorem GInv.set{Q:Let→Prop}{P:Nat→Nod→Prop}{M:Meet}(h:GInv Q P M){i:Nat}{p:Nod}{ls:List Let}{ts:List Tol}(hp:P i p)(hl:∀ l∈ls,Q l):GInv Q P (M.set i p ls ts) :=
 ⟨fun j hj=>by
  show P j (upN M.node i p j);unfold upN;split
  ·rename_i e;rw[e];exact hp
  ·exact h.node j hj,hl⟩
theorem GInv.come{A:Alw}{D:Nat→List Int→Prop}{Q:Let→Prop}{P:Nat→Nod→Prop}(hI:∀ i,i<5→NInv A i (D i) Q (P i))(hc:A.ca=true){M:Meet}(h:GInv Q P M){l:Let}(hl:Q l)(hd:l.dst<5):GInv Q P (M.come l):=by
 unfold Meet.come;split
 ·rename_i hu
  exact h.set (ls:=M.lets) (ts:=M.told) ((hI _ hd).take hc _ l (h.node _ hd) hl rfl hu) h.lets
 ·exact h
theorem GInv.comes{A:Alw}{D:Nat→List Int→Prop}{Q:Let→Prop}{P:Nat→Nod→Prop}(hI:∀ i,i<5→NInv A i (D i) Q (P i))(hc:A.ca=true)(l:List Let){M:Meet}(h:GInv Q P M)(hl:∀ m∈l,Q m∧m.dst<5):GInv Q P (l.foldl (fun M l=>M.come l) M):=by
 induction l generalizing M with
 | nil=>exact h
 | cons x l ih=>exact ih (h.come hI hc (hl x List.mem_cons_self).1 (hl x List.mem_cons_self).2) fun m hm=>hl m (List.mem_cons_of_mem _ hm)
structure Alw.Ok(A:Alw)(x:Lac):Prop where
 ca:x.k=4∨x.k=6∨x.k=7→A.ca=true
 ld:x.k=2→A.ld=true
 cr:x.k=8→A.cr=true
 st:x.k=9→A.st=true
theorem GInv.act{A:Alw}{D:Nat→List Int→Prop}{Q:Let→Prop}{P:Nat→Nod→Prop}(hI:∀ i,i<5→NInv A i (D i) Q (P i)){n:Nat}{M:Meet}(h:GInv Q P M)(hM:MOk n M){x:Lac}(hx:LacOk x)(hA:A.Ok x)(hD:x.k=1→D x.n.toNat x.d):GInv Q P (M.act x):=by
 have hnode:∀ {k:Int},x.k=k→Fx k=true→x.n.toNat<5:=fun{k} e e2=>by have:=hx.n (by rw[e];exact e2);omega
 unfold Meet.act;simp only;by_cases h1:x.k=1
 ·rw[if_pos h1];have hi:=hnode h1 rfl;refine h.set ?_ h.lets;unfold Nod.subm;by_cases hu:(M.node x.n.toNat).up=true
  ·exact(hI _ hi).sub _ x.d M.told (h.node _ hi) (hD h1) hu
  ·unfold Nod.sub0;rw[if_pos (by simpa using hu)];exact h.node _ hi
 ·rw[if_neg h1];by_cases h2:x.k=2
  ·rw[if_pos h2];have hi:=hnode h2 rfl;refine h.set ?_ h.lets;split
   ·rename_i hu;exact(hI _ hi).lead (hA.ld h2) _ (h.node _ hi) hu
   ·exact h.node _ hi
  ·rw[if_neg h2];by_cases h3:x.k=3
   ·rw[if_pos h3];have hi:=hnode h3 rfl;by_cases hu:(M.node x.n.toNat).up=true
    ·have:=(hI _ hi).piece _ M.lets M.told (h.node _ hi) hu h.lets;rw[if_pos hu,if_pos hu,if_pos hu];exact h.set this.1 this.2
    ·rw[if_neg hu,if_neg hu,if_neg hu];exact h.set (h.node _ hi) h.lets
   ·rw[if_neg h3];by_cases h4:x.k=4∨x.k=5∨x.k=6
    ·rw[if_pos h4];unfold Meet.move;split
     ·exact h
     ·rename_i l hl
      have hm:=List.mem_of_getElem? hl;have hB:GInv Q P (if x.k≠6 then{ M with lets:=M.lets.eraseIdx (x.a.toNat%M.lets.length) }else M):=by
       split
       ·exact⟨h.node,fun m hm=>h.lets m (List.mem_of_mem_eraseIdx hm)⟩
       ·exact h
      simp only;split
      ·rename_i h5
       exact hB.come hI (hA.ca (by omega)) (h.lets l hm) (hM.lets l hm).dst
      ·exact hB
    ·rw[if_neg h4];by_cases h7:x.k=7
     ·rw[if_pos h7];unfold Meet.comeAll;exact GInv.comes hI (hA.ca (by omega)) _ ⟨h.node,fun l hl=>by cases hl⟩ fun m hm=>⟨h.lets m hm,(hM.lets m hm).dst⟩
     ·rw[if_neg h7];by_cases h8:x.k=8
      ·rw[if_pos h8];have hi:=hnode h8 rfl;refine h.set ?_ h.lets;split
       ·rename_i hu;exact(hI _ hi).crash (hA.cr h8) _ x.p (h.node _ hi) (hx.p (by rw[h8];rfl)).1 hu
       ·exact h.node _ hi
      ·rw[if_neg h8];by_cases h9:x.k=9
       ·rw[if_pos h9];have hi:=hnode h9 rfl;refine h.set ?_ h.lets;split
        ·exact h.node _ hi
        ·rename_i hu;exact(hI _ hi).start (hA.st h9) _ (h.node _ hi) (by simpa using hu)
       ·rw[if_neg h9];exact h
structure TInv(i:Nat)(D:List Int→Prop)(P:Nod→Prop)(R:List Tol→Prop):Prop where
 one:∀ p c ts,P p→p.up=true→p.agreed[p.done]?=some c→doE p.sto c=0→(p.asked c).isSome=true→R ts→R (ts++[⟨i,c.c,c.s,doC p.sto c,doA p.sto c⟩])
 sub:∀ p d ts,P p→D d→p.up=true→opE d (p.done:Int)=0→Kr d (p.done:Int)∈p.agreed.take p.done→R ts→R (ts++[⟨i,(Kr d (p.done:Int)).c,(Kr d (p.done:Int)).s,doC p.sto (Kr d (p.done:Int)),doA p.sto (Kr d (p.done:Int))⟩])
theorem TInv.doP{A:Alw}{i:Nat}{D:List Int→Prop}{Q:Let→Prop}{P:Nod→Prop}{R:List Tol→Prop}(h:NInv A i D Q P)(t:TInv i D P R)(l:List Cmd)(p:Nod)(ts:List Tol)(hp:P p)(hu:p.up=true)(hl:p.agreed.drop p.done=l)(hr:R ts):R (doP i l p ts).2:=by
 induction l generalizing p ts with
 | nil=>exact hr
 | cons c l ih =>
  rw[Go.Proofs.YtkchbdgikgbiaabGreatDoor.doP];split
  ·exact hr
  ·rename_i he
   have hc:p.agreed[p.done]?=some c:=by
    have:=congrArg (·[0]?) hl;simpa using this
   have hk:=IV { p with sto:=doS p.sto c,done:=p.done+1 } c;refine ih _ _ (h.one p c hp hu hc (Decidable.not_not.1 he)) (hk.1.trans hu) ?_ ?_
   ·rw[hk.2.1,hk.2.2.1];show p.agreed.drop (p.done+1)=l;rw[← List.drop_drop,hl];rfl
   ·split
    ·rename_i ha;exact t.one p c ts hp hu hc (Decidable.not_not.1 he) ha hr
    ·exact hr
theorem L3(M:Meet)(l:Let):(M.come l).told=M.told:=by unfold Meet.come;split<;>rfl
theorem PD(l:List Let)(M:Meet):(l.foldl (fun M l=>M.come l) M).told=M.told:=by
 induction l generalizing M with
 | nil=>rfl
 | cons x l ih=>exact(ih _).trans (L3 M x)
theorem Tk(M:Meet)(k:Int)(a:Nat):(M.move k a).told=M.told:=by
 unfold Meet.move;split
 ·rfl
 ·simp only;split
  ·rw[L3];split<;>rfl
  ·split<;>rfl
theorem Up(M:Meet){x:Lac}(h1:x.k≠1)(h3:x.k≠3):(M.act x).told=M.told:=by
 unfold Meet.act;simp only;rw[if_neg h1];split
 ·rfl
 ·split
  ·exact Tk _ _ _
  ·split
   ·exact PD _ _
   ·split
    ·rfl
    ·split<;>rfl
theorem GInv.told{A:Alw}{D:Nat→List Int→Prop}{Q:Let→Prop}{P:Nat→Nod→Prop}{R:List Tol→Prop}(hI:∀ i,i<5→NInv A i (D i) Q (P i))(hT:∀ i,i<5→TInv i (D i) (P i) R){M:Meet}(h:GInv Q P M)(hr:R M.told){x:Lac}(hx:LacOk x)(hD:x.k=1→D x.n.toNat x.d):R (M.act x).told:=by
 by_cases h1:x.k=1
 ·have hi:x.n.toNat<5:=by have:=hx.n (by rw[h1];rfl);omega
  unfold Meet.act;simp only;rw[if_pos h1];show R (Nod.subm _ _ _ _).2;unfold Nod.subm Nod.sub0;split
  ·exact hr
  ·rename_i hu
   split
   ·exact hr
   ·rename_i he
    split
    ·rename_i hm
     exact(hT _ hi).sub _ _ _ (h.node _ hi) (hD h1) (by simpa using hu) (Decidable.not_not.1 he) hm hr
    ·exact hr
 ·by_cases h3:x.k=3
  ·have hi:x.n.toNat<5:=by have:=hx.n (by rw[h3];rfl);omega
   unfold Meet.act;simp only;rw[if_neg h1,if_neg (by omega),if_pos h3];show R (if _ then _ else _);split
   ·rename_i hu
    exact TInv.doP (hI _ hi) (hT _ hi) _ _ _ (h.node _ hi) hu rfl hr
   ·exact hr
  ·rw[Up M h1 h3];exact hr
theorem GInv.acts{A:Alw}{D:Nat→List Int→Prop}{Q:Let→Prop}{P:Nat→Nod→Prop}{R:List Tol→Prop}(hI:∀ i,i<5→NInv A i (D i) Q (P i))(hT:∀ i,i<5→TInv i (D i) (P i) R)(L:List Lac){n:Nat}{M:Meet}(hM:MOk n M)(hn:n+L.length≤1000000)(h:GInv Q P M)(hr:R M.told)(hx:∀ x∈L,LacOk x∧A.Ok x∧(x.k=1→D x.n.toNat x.d)):GInv Q P (M.acts L)∧R (M.acts L).told∧MOk (n+L.length) (M.acts L):=by
 induction L generalizing n M with
 | nil=>exact⟨h,hr,hM⟩
 | cons x L ih =>
  have h1:=hx x List.mem_cons_self;rw[List.length_cons]at hn
  have:=ih (hM.act (by omega) h1.1) (by omega) (h.act hI hM h1.1 h1.2.1 h1.2.2) (h.told hI hT hr h1.1 h1.2.2) fun y hy=>hx y (List.mem_cons_of_mem _ hy);rw[List.length_cons,show n+(L.length+1)=n+1+L.length by omega];exact this
theorem TInv.all(i:Nat)(D:List Int→Prop)(P:Nod→Prop):TInv i D P fun _=>True:=⟨fun _ _ _ _ _ _ _ _ _=>trivial,fun _ _ _ _ _ _ _ _ _=>trivial⟩
def Nod.ub(p:Nod):Bool × Nat:=(p.up,p.bad)
theorem Ky(p:Nod)(b:Bal):(p.promise b).1.ub=p.ub:=by
 unfold Nod.promise;split
 ·rfl
 ·split
  ·rfl
  ·split<;>rfl
theorem Sg(p:Nod)(v:Vt):(p.vote v).1.ub=p.ub:=by
 unfold Nod.vote;split
 ·rfl
 ·split
  ·rfl
  ·split<;>rfl
theorem NG(p:Nod)(j:Nat)(v:Vt):(p.count j v).ub=p.ub:=by
 unfold Nod.count;split
 ·rfl
 ·split<;>rfl
theorem Ma(p:Nod)(to:Nat)(e:Int):(p.refuse to e).ub=p.ub:=by unfold Nod.refuse;split<;>rfl
theorem JO(p:Nod)(l:List Cmd):(p.enqueue l).ub=p.ub:=by unfold Nod.enqueue;split<;>rfl
theorem Zk(p:Nod)(l:Let):(p.take l).ub=p.ub:=by
 unfold Nod.take;split
 ·split
  ·exact Ma _ _ _
  ·exact Ky p l.bal
 ·simp only;split<;>rfl
 ·rfl
 ·split
  ·exact Ma _ _ _
  ·exact Sg p l.vote
 ·exact NG p _ _
 ·split<;>rfl
 ·simp only;split<;>exact JO p l.what
 ·rfl
theorem YV(p:Nod)(i:Nat)(q:Pend):(p.runP i q).ub=p.ub:=by
 cases q with
 | began b vs=>unfold Nod.runP;simp only;split<;>rfl
 | prop v=>exact NG p i v
 | _=>rfl
theorem UW(i:Nat)(l:List Pend)(p:Nod)(ls:List Let):(doneP i l p ls).1.ub=p.ub:=by
 induction l generalizing p ls with
 | nil=>rfl
 | cons q l ih=>exact(ih _ _).trans (YV p i q)
theorem Ud(p:Nod)(c:Cmd):(p.unwant c).ub=p.ub:=by unfold Nod.unwant;split<;>rfl
theorem aS(i:Nat)(l:List Cmd)(p:Nod)(ts:List Tol):(doP i l p ts).1.ub=p.ub:=by
 induction l generalizing p ts with
 | nil=>rfl
 | cons c l ih =>
  rw[doP];split
  ·rfl
  ·exact(ih _ _).trans (Ud _ _)
theorem XB(p:Nod)(i:Nat):(p.askd i).1.ub=p.ub:=by
 unfold Nod.askd;split
 ·rfl
 ·split
  ·exact JO _ _
  ·rfl
theorem QK(p:Nod):p.propose.ub=p.ub:=by
 unfold Nod.propose;split
 ·rfl
 ·split
  ·rfl
  ·split
   ·rfl
   ·exact Sg p _
theorem WX(p:Nod)(i:Nat)(ls:List Let):(p.syncd i ls).1.ub=p.ub:=by
 unfold Nod.syncd;split
 ·rfl
 ·rw[UW];unfold Nod.syn;split<;>rfl
theorem TY(p:Nod)(i:Nat)(ls:List Let):(p.taught i ls).1.ub=p.ub:=by unfold Nod.taught;split<;>rfl
theorem Wj(p:Nod)(i:Nat)(ls:List Let)(ts:List Tol):(p.piece i ls ts).1.ub=p.ub:=by
 unfold Nod.piece;simp only;rw[TY,WX,QK,XB,aS]
theorem Yt(p:Nod)(i:Nat):(p.lead i).ub=p.ub:=by
 unfold Nod.lead;simp only;split
 ·rfl
 ·exact Ky p _
theorem Rw(M:Meet)(l:Let)(j:Nat):((M.come l).node j).ub=(M.node j).ub:=by
 unfold Meet.come;split
 ·show(upN M.node l.dst _ j).ub=_;unfold upN;split
  ·rename_i h;rw[h];exact Zk _ _
  ·rfl
 ·rfl
theorem UI(l:List Let)(M:Meet)(j:Nat):((l.foldl (fun M l=>M.come l) M).node j).ub=(M.node j).ub:=by
 induction l generalizing M with
 | nil=>rfl
 | cons x l ih=>exact(ih _).trans (Rw M x j)
theorem Yz(M:Meet)(k:Int)(a:Nat)(j:Nat):((M.move k a).node j).ub=(M.node j).ub:=by
 unfold Meet.move;split
 ·rfl
 ·simp only;split
  ·rw[Rw];split<;>rfl
  ·split<;>rfl
theorem Hg(M:Meet)(i:Nat)(p:Nod)(ls:List Let)(ts:List Tol)(j:Nat):(M.set i p ls ts).node j=if j=i then p else M.node j:=rfl
theorem ao(M:Meet){x:Lac}(h1:x.k≠1)(h8:x.k≠8)(h9:x.k≠9)(j:Nat):((M.act x).node j).ub=(M.node j).ub:=by
 unfold Meet.act;simp only;rw[if_neg h1];by_cases h2:x.k=2
 ·rw[if_pos h2,Hg];split
  ·rename_i e
   rw[e];split
   ·exact Yt _ _
   ·rfl
  ·rfl
 ·rw[if_neg h2];by_cases h3:x.k=3
  ·rw[if_pos h3,Hg];split
   ·rename_i e
    rw[e];split
    ·exact Wj _ _ _ _
    ·rfl
   ·rfl
  ·rw[if_neg h3];by_cases h4:x.k=4∨x.k=5∨x.k=6
   ·rw[if_pos h4];exact Yz _ _ _ _
   ·rw[if_neg h4];by_cases h7:x.k=7
    ·rw[if_pos h7];exact UI _ _ _
    ·rw[if_neg h7,if_neg h8,if_neg h9]
theorem cS(M:Meet){x:Lac}(h1:x.k=1)(j:Nat):((M.act x).node j).ub=if j=x.n.toNat∧(M.node j).up=true∧opE x.d ((M.node j).done:Int)≠0 then((M.node j).up,(M.node j).bad+1)else(M.node j).ub:=by
 unfold Meet.act;simp only;rw[if_pos h1,Hg];by_cases hj:j=x.n.toNat
 ·subst hj;rw[if_pos rfl];unfold Nod.subm Nod.sub0;by_cases hu:(M.node x.n.toNat).up=false
  ·rw[if_pos hu,if_neg (by rw[hu];simp)]
  ·rw[if_neg hu];have hu':(M.node x.n.toNat).up=true:=by simpa using hu
   by_cases he:opE x.d ((M.node x.n.toNat).done:Int)≠0
   ·rw[if_pos he,if_pos ⟨rfl,hu',he⟩];rfl
   ·rw[if_neg he,if_neg (c:=_∧_) (fun e=>he e.2.2)];split
    ·rfl
    ·show(Nod.want _ _).ub=_;unfold Nod.want;split<;>rfl
 ·rw[if_neg hj,if_neg (fun e=>hj e.1)]
theorem Ss(M:Meet)(L:List Lac)(x:Lac):M.acts (L++[x])=(M.acts L).act x:=by unfold Meet.acts;rw[List.foldl_append];rfl
theorem XZ(g:Gr)(cr:Bool):LacOk (NV g cr):=by
 have h1:=Ba g.a 5 (by omega);have h2:=Ba g.c 20 (by omega);have h3:=Ba g.c 90 (by omega);have hl:(pkB g).length≤63:=by
  have:(pkP g).length=63:=Ku (Wk g);unfold pkB;split
  ·rw[List.length_take];omega
  ·omega
 rw[← Jx];unfold NV acN
 repeat' split
 all_goals simp[Yr,Fx,G7,G8];try omega
theorem WC{P:Lac→Prop}(h7:P (acN 7 0)){cr:Bool}(hg:∀ g,P (NV g cr))(s:Nat)(l:List Gr):∀ x∈MW cr s l,P x:=by
 induction l generalizing s with
 | nil=>intro x hx;cases hx
 | cons g l ih =>
  intro x hx;rcases List.mem_cons.1 hx with rfl|hx
  ·unfold WB;split
   ·exact h7
   ·exact hg g
  ·exact ih _ x hx
theorem cK(l:List Gr)(m:Nat)(cr:Bool):∀ x∈scr l m cr,LacOk x:=WC (by rw[← Jx];decide) (fun g=>XZ g cr) _ _
theorem WD(cr:Bool)(s:Nat)(l:List Gr):(MW cr s l).length=l.length:=by
 induction l generalizing s with
 | nil=>rfl
 | cons g l ih=>rw[MW,List.length_cons,ih,List.length_cons]
theorem YZ(l:List Gr)(m:Nat)(cr:Bool):(scr l m cr).length≤m:=by unfold scr;rw[WD,List.length_take];omega
def Nod.tp(p:Nod):Prop:=Be p.d p.sy
theorem So{d:List Int}{s:Int}{may:Prop}[Decidable may] {b:List Int} (h:Cu d s may b=0):Be (F1 d s may b) (G9 d s may b):=by
 obtain⟨h1,h2,_⟩:=Uj h;unfold F1 G9;rw[if_pos h,if_pos h];unfold Be at *;rw[List.length_append,EA];omega
theorem Kx{p:Nod}(h:p.tp)(b:Bal):(p.promise b).1.tp:=by
 unfold Nod.promise;split
 ·exact h
 ·split
  ·exact h
  ·split
   ·exact h
   ·rename_i hw;exact So (Decidable.not_not.1 hw)
theorem Sf{p:Nod}(h:p.tp)(v:Vt):(p.vote v).1.tp:=by
 unfold Nod.vote;split
 ·exact h
 ·split
  ·exact h
  ·split
   ·exact h
   ·rename_i hw;exact So (Decidable.not_not.1 hw)
theorem LZ{p:Nod}(h:p.tp)(to:Nat)(e:Int):(p.refuse to e).tp:=by unfold Nod.refuse;split<;>exact h
theorem UJ{p:Nod}(h:p.tp)(j:Nat)(v:Vt):(p.count j v).tp:=by
 unfold Nod.count;split
 ·exact h
 ·split<;>exact h
theorem PM{p:Nod}(h:p.tp)(l:List Cmd):(p.enqueue l).tp:=by unfold Nod.enqueue;split<;>exact h
theorem UM{p:Nod}(h:p.tp){k:Int}(hk:0≤k):(p.crash k).tp∧(p.crash k).up=false∧(p.crash k).done=0∧(p.crash k).agreed=[]:=by
 have he:Jd p.d p.sy k=0:=by unfold Jd;rw[if_neg (fun e=>e h),if_neg (by omega)]
 unfold Nod.crash;rw[if_neg (fun e=>e he)];refine⟨?_,rfl,rfl,rfl⟩;show Be (KZ p.d p.sy k) (La p.d p.sy k);unfold KZ La;rw[if_pos he,if_pos he];unfold Nod.tp Be at h;have hc:0≤Mw p.d p.sy k∧Mw p.d p.sy k≤(p.d.length:Int):=by unfold Mw;split<;>omega
 unfold Be;rw[List.length_take];omega
theorem OW{p:Nod}(h:p.tp):p.start.tp∧p.start.up=true∧p.start.done=0∧p.start.agreed=[]:=by
 have he:CW p.d p.sy=0:=if_pos h;have hl:=V2 p.d p.d.length;unfold Nod.start;rw[if_neg (fun e=>e he)];split
 ·refine⟨?_,rfl,rfl,rfl⟩;show Be (Lo p.d p.sy) (MR p.d p.sy);unfold Lo MR;have h':Be p.d p.sy:=h;rw[if_pos h',if_pos h'];unfold Nod.tp Be at h;unfold Be;rw[List.length_take];unfold Ek;split<;>omega
 ·exact⟨h,rfl,rfl,rfl⟩
theorem cZ(A:Alw)(i:Nat):NInv A i (fun _=>True) (fun _=>True) Nod.tp where
 take:=fun _ p l h _ _ _=>by
  unfold Nod.take;split
  ·split
   ·exact LZ h _ _
   ·exact Kx h l.bal
  ·simp only;split<;>exact h
  ·exact h
  ·split
   ·exact LZ h _ _
   ·exact Sf h l.vote
  ·exact UJ h _ _
  ·split<;>exact h
  ·simp only;split<;>exact PM h l.what
  ·exact h
 one:=fun p c h _ _ _=>by unfold Nod.unwant;split<;>exact h
 ask:=fun p h _=>⟨by
  unfold Nod.askd;split
  ·exact h
  ·split
   ·unfold Nod.enqueue;split<;>exact h
   ·exact h,fun _ _=>trivial⟩
 prop:=fun p h _=>by
  unfold Nod.propose;split
  ·exact h
  ·split
   ·exact h
   ·split
    ·exact h
    ·exact Sf h _
 syn:=fun p h _=>by
  unfold Nod.syn;split
  ·show Be (Hj p.d p.sy) (It p.d p.sy);unfold Hj It;have h':Be p.d p.sy:=h;rw[if_pos h',if_pos h'];unfold Nod.tp Be at h;unfold Be;omega
  ·exact h
 run:=fun p q l h _ _ _=>⟨by
  have hk:=Mc p i q;show Be (p.runP i q).d (p.runP i q).sy;rw[hk.2.2.1,hk.2.2.2];exact h,fun _ _=>trivial⟩
 teach:=fun p h _ _=>⟨h,fun _ _=>trivial⟩
 lead:=fun _ p h _=>by
  unfold Nod.lead;simp only;split
  ·exact h
  ·exact Kx h _
 sub:=fun p d ts h _ _=>by
  unfold Nod.subm Nod.sub0;split
  ·exact h
  ·split
   ·exact h
   ·split
    ·exact h
    ·show(Nod.want _ _).tp;unfold Nod.want;split<;>exact h
 crash:=fun _ p k h hk _=>(UM h hk).1
 start:=fun _ p h _=>(OW h).1
def dw:Alw:=⟨true,true,true,true⟩
theorem X7(x:Lac):dw.Ok x:=⟨fun _=>rfl,fun _=>rfl,fun _=>rfl,fun _=>rfl⟩
theorem X3(L:List Lac)(h:∀ x∈L,LacOk x)(hl:L.length≤100000){i:Nat}(hi:i<5):((Cx.acts L).node i).tp :=
 (GInv.acts (R:=fun _=>True) (D:=fun _ _=>True) (Q:=fun _=>True) (P:=fun _=>Nod.tp) (fun i _=>cZ dw i) (fun i _=>TInv.all i _ _) L MOk.zero (by omega) ⟨fun _ _=>(by show Be [] 0;decide),fun _ _=>trivial⟩ trivial fun x hx=>⟨h x hx,X7 x,fun _=>trivial⟩).1.node i hi
theorem Sr(M:Meet){i:Nat}(hi:i<5)(ht:(M.node i).tp)(j:Nat):((M.act (acN 9 (i:Int))).node j).up=if j=i then true else(M.node j).up:=by
 show(upN M.node (i:Int).toNat _ j).up=_;unfold upN;rw[Int.toNat_natCast];split
 ·split
  ·assumption
  ·exact(OW ht).2.1
 ·rfl
theorem aq(M:Meet){x:Lac}(h8:x.k≠8){j:Nat}(hu:(M.node j).up=true):((M.act x).node j).up=true:=by
 by_cases h1:x.k=1
 ·have:=congrArg Prod.fst (cS M h1 j);split at this
  ·exact this.trans hu
  ·exact this.trans hu
 ·by_cases h9:x.k=9
  ·unfold Meet.act;simp only;rw[if_neg h1,if_neg (by omega),if_neg (by omega),if_neg (by omega),if_neg (by omega),if_neg (by omega),if_pos h9,Hg];split
   ·rename_i e;rw[← e,if_pos hu];exact hu
   ·exact hu
  ·exact(congrArg Prod.fst (ao M h1 h8 h9 j)).trans hu
theorem X4(L:List Lac)(h8:∀ x∈L,x.k≠8)(M:Meet){j:Nat}(hu:(M.node j).up=true):((M.acts L).node j).up=true:=by
 induction L generalizing M with
 | nil=>exact hu
 | cons x L ih=>exact ih (fun y hy=>h8 y (List.mem_cons_of_mem _ hy)) _ (aq M (h8 x List.mem_cons_self) hu)
theorem Uq(M:Meet)(L K:List Lac):M.acts (L++K)=(M.acts L).acts K:=List.foldl_append
theorem Ps{k n:Int}(h:(k=2∨k=3∨k=9)∧0≤n∧n≤4):LacOk (acN k n):=by
 rw[← Jx];rcases h with⟨rfl|rfl|rfl,h1,h2⟩<;>simp[Yr,acN,Fx,G7,G8]<;>omega
theorem Kd{P:Lac→Prop}{k:Int}(h:∀ n:Nat,n<5→P (acN k (n:Int))){j:Nat}(hj:j≤5):∀ x∈DS k j,P x:=by
 intro x hx;obtain⟨n,hn,rfl⟩:=List.mem_map.1 hx;exact h n (by have:=List.mem_range.1 hn;omega)
theorem JP{P:Lac→Prop}(h3:∀ n:Nat,n<5→P (acN 3 (n:Int)))(h7:P (acN 7 0))(m:Nat):∀ x∈BV m,P x:=by
 induction m with
 | zero=>intro x hx;cases hx
 | succ m ih =>
  intro x hx;rcases List.mem_append.1 hx with h|h
  ·exact ih x h
  ·rcases List.mem_append.1 h with h|h
   ·exact Kd h3 (Nat.le_refl _) x h
   ·rw[List.mem_singleton.1 h];exact h7
theorem OO{P:Lac→Prop}(h9:∀ n:Nat,n<5→P (acN 9 (n:Int)))(h3:∀ n:Nat,n<5→P (acN 3 (n:Int)))(h7:P (acN 7 0))(m:Nat):∀ x∈Gv m,P x:=by
 intro x hx;rcases List.mem_append.1 hx with h|h
 ·exact Kd h9 (Nat.le_refl _) x h
 ·exact JP h3 h7 m x h
theorem YS(m:Nat):∀ x∈Gv m,LacOk x:=OO (fun n hn=>Ps ⟨.inr (.inr rfl),by omega,by omega⟩) (fun n hn=>Ps ⟨.inr (.inl rfl),by omega,by omega⟩) (by rw[← Jx];decide) m
theorem cE(L:List Lac)(h:∀ x∈L,LacOk x)(m:Nat)(hl:L.length+6*m+5≤100000){j:Nat}(hj:j<5):((Cx.acts (L++Gv m)).node j).up=true:=by
 unfold Gv;rw[← List.append_assoc,Uq];refine X4 _ (JP (fun _ _=>by show(3:Int)≠8;decide) (by decide) m) _ ?_;have hs:∀ k,k≤5→j<k→((Cx.acts (L++DS 9 k)).node j).up=true:=by
  intro k;induction k with
  | zero=>intro _ h;omega
  | succ k ih =>
   intro hk hjk;have hok:∀ x∈L++DS 9 k,LacOk x:=fun x hx=>(List.mem_append.1 hx).elim (h x) fun e=>Kd (fun n hn=>Ps ⟨.inr (.inr rfl),by omega,by omega⟩) (by omega) x e;have ht:=X3 (L++DS 9 k) hok (by rw[List.length_append,V6];omega) (i:=k) (by omega);rw[Ig,← List.append_assoc,Ss,Sr _ (by omega) ht];split
   ·rfl
   ·exact ih (by omega) (by omega)
 exact hs 5 (Nat.le_refl _) hj
structure NoL(p:Nod):Prop where
 ag:p.agreed=[]
 dn:p.done=0
 rb:p.rnd.bal=Ch
 pe:∀ q∈p.pend,q=.start
theorem NoL.leads{p:Nod}(h:NoL p):p.leads=false:=decide_eq_false fun e=>e.1 h.rb
theorem NoL.enq{p:Nod}(h:NoL p)(l:List Cmd):p.enqueue l=p:=by unfold Nod.enqueue;rw[h.leads];rfl
theorem TB{i:Nat}{l:Let}{n:Nat}:∀ m∈BA i l n,m.kind=l.kind:=by
 intro m hm;obtain⟨j,_,rfl⟩:=List.mem_map.1 hm;rfl
theorem Y4(i:Nat):NInv ⟨true,false,true,true⟩ i (fun _=>True) (fun l=>l.kind=6) NoL where
 take:=fun _ p l h hl _ _=>by
  unfold Nod.take;rw[hl];simp only[h.enq,h.ag];rw[if_neg (by simp)];exact h
 one:=fun p c h _ hc _=>by rw[h.ag]at hc;simp at hc
 ask:=fun p h _=>by
  have h2:NoL { p with asked:=(CQ p.vo.p p.asked (p.wants.take 40)).2 }:=⟨h.ag,h.dn,h.rb,h.pe⟩;unfold Nod.askd;split
  ·exact⟨h2,fun _ hm=>by cases hm⟩
  ·split
   ·rw[h2.enq];exact⟨h2,fun _ hm=>by cases hm⟩
   ·exact⟨h2,fun m hm=>by rw[List.mem_singleton.1 hm];rfl⟩
 prop:=fun p h _=>by unfold Nod.propose;rw[if_pos (.inl h.leads)];exact h
 syn:=fun p h _=>by
  unfold Nod.syn;split
  ·exact⟨h.ag,h.dn,h.rb,h.pe⟩
  ·exact h
 run:=fun p q l h _ he _=>by
  obtain rfl:q=.start:=h.pe q (by rw[he];exact List.mem_cons_self);exact⟨⟨h.ag,h.dn,h.rb,fun q hq=>h.pe q (by rw[he];exact List.mem_cons_of_mem _ hq)⟩,fun m hm=>TB m hm⟩
 teach:=fun p h _ hl=>by rw[h.leads]at hl;cases hl
 lead:=fun e=>by cases e
 sub:=fun p d ts h _ _=>by
  unfold Nod.subm Nod.sub0;split
  ·exact h
  ·split
   ·exact⟨h.ag,h.dn,h.rb,h.pe⟩
   ·split
    ·exact h
    ·show NoL (Nod.want _ _);unfold Nod.want;split
     ·exact h
     ·exact⟨h.ag,h.dn,h.rb,h.pe⟩
 crash:=fun _ p k h _ _=>by
  unfold Nod.crash;split
  ·exact h
  ·exact⟨rfl,rfl,rfl,fun q hq=>by cases hq⟩
 start:=fun _ p h _=>by
  unfold Nod.start;split
  ·exact h
  ·split<;>exact⟨rfl,rfl,rfl,fun q hq=>List.mem_singleton.1 hq⟩
theorem VT(i:Nat):TInv i (fun _=>True) NoL (fun ts=>ts=[]) where
 one:=fun p c ts h _ hc _ _ _=>by rw[h.ag]at hc;simp at hc
 sub:=fun p d ts h _ _ _ hm _=>by rw[h.ag]at hm;simp at hm
theorem bO(L:List Lac)(h:∀ x∈L,LacOk x∧x.k≠2)(hl:L.length≤100000):(∀ i,i<5→(Cx.acts L).log i=[])∧(Cx.acts L).told=[]:=by
 obtain⟨h1,h2,_⟩:=GInv.acts (D:=fun _ _=>True) (P:=fun _=>NoL) (fun i _=>Y4 i) (fun i _=>VT i) L MOk.zero (by omega) ⟨fun _ _=>⟨rfl,rfl,rfl,fun q hq=>by cases hq⟩,fun _ hm=>by cases hm⟩ rfl fun x hx=>⟨(h x hx).1,⟨fun _=>rfl,fun e=>absurd e (h x hx).2,fun _=>rfl,fun _=>rfl⟩,fun _=>trivial⟩;refine⟨fun i hi=>?_,h2⟩;unfold Meet.log;rw[(h1.node i hi).ag,List.take_nil]
end
section
open Go.RowKit
theorem G4{l:S3}{G:List Gr}{w:World}(h:RdV w l 5 (grL G))(hG:∀ g∈G,GrOk g)(hT:Sq w) :
  Calls prog 5 #[l.v] w fun e w'=>e=.returned (.bool true)∧Bw w w':=by
 obtain⟨L,hL⟩:∃ L,scr G 80 true=L:=⟨_,rfl⟩;have hok:=cK G 80 true;have hln:=YZ G 80 true;rw[hL]at hok hln
 refine tIn [] func5 trivial ?_;refine tR 7 [] fun σ1 _ _=>?_;refine tC 1 (fun F C=>TA (most:=80) (cr:=true) (h.below (CgQ.below C)) hG (by decide) (tbA hT.1 C)) fun Nz=>?_;rintro _ _ ⟨s,P,rfl,hP,hN,b2⟩;refine⟨_,Fa.ac s P::_,rfl,b2,fun F=>⟨hN.ac Nz,F⟩,?_⟩;rw[hL]at hP
 have hPl:P.length=L.length:=by rw[← hP,List.length_map]
 refine tF fun F _=>?_;have hsn:=(AcR.of F.1 hP).n;refine tR 12 [] fun σ3 _ _=>?_;refine Hk 53 [(3,S3.v s),(4,sn),(5,iv 0)] [] [] [Fa.ac s P,Fa.oa 0 s30 (([]:List (Lac × S3)).filter (fun p=>p.1.k != 2))] (fun kk ee LL ΦΦ=>∃ (i:Nat) (y:S3),kk=P.length-i∧ee=[(3,S3.v s),(4,S3.v y),(5,iv (i:Int))]∧LL=[]∧ΦΦ=[Fa.ac s P,Fa.oa 0 y ((P.take i).filter (fun p=>p.1.k != 2))]∧i≤P.length∧y.n=((P.take i).filter (fun p=>p.1.k != 2)).length) (P.length) ⟨0,s30,rfl,rfl,rfl,rfl,by omega,rfl⟩ (fun F=>⟨F.1,⟨OwnS.nil _ _ _ _ _ _,(fun p hp=>by cases hp)⟩,trivial⟩) ?_;rintro k _ _ _ ⟨i,y,rfl,rfl,rfl,rfl,hi,hyn⟩ _ _ _ J hJ;refine tR 8 [] fun σ4 _ _=>?_;by_cases h1:i<P.length
 ·refine tI ((decide ((i:Int)<(s.n:Int)))) true (decide_eq_true (by omega)) ?_;obtain⟨⟨a,yd⟩,ha⟩:∃ a,P[i]?=some a:=⟨_,List.getElem?_eq_getElem (by omega)⟩;refine tF fun F _=>?_;obtain⟨b,off,hxa,_,hin⟩:=ZH F.1 ha;have htk:P.take (i+1)=P.take i++[(a,yd)]:=by rw[List.take_add_one,ha];rfl
  have hyl:=List.length_filter_le (fun p=>p.1.k != 2) (P.take i);rw[List.length_take]at hyl
  refine tR 7 [] fun σ5 _ _=>?_;refine tV 2 (pt b (off+5*i)) (fun F C=>(RP (c:=s.c) hxa i hin)) ?_;refine tR 1 [] fun σ6 _ _=>?_;refine tF fun F _=>?_;refine tV 4 (iv a.k) (fun F C=>(CV underlying3 rfl (acK F.1 hxa ha))) ?_;refine tR 2 [] fun σ7 _ _=>?_;by_cases h2:a.k≠2
  ·refine tI ((a.k != 2)) true (by simpa using h2) ?_;refine tR 4 [] fun σ8 _ _=>?_;refine tV 3 (pt b (off+5*i)) (fun F C=>(RP (c:=s.c) hxa i hin)) ?_;refine tF fun F _=>?_;refine tV 4 (.agg #[iv a.k,iv a.n,iv a.a,iv a.p,S3.v yd]) (fun F C=>(ce (acS F.1 hxa ha))) ?_;refine tR 1 [0,0] fun σ10 _ _=>?_;refine Na 6 0 (x:=y) 24 24 34 5 56 zLa ⟨(σ10 0),0,none⟩ 1 1 [iv a.k,iv a.n,iv a.a,iv a.p,S3.v yd] (fun F=>F.2.1.1) [Fa.ac s P,Fa.dt ((P.take i).filter (fun p=>p.1.k != 2)++[(a,yd)])] (fun F=>⟨F.1,Dat.snoc F.2.1.2 (F.1.2 _ (List.mem_of_getElem? ha)),trivial⟩) rfl (by simp[TQ]) rfl (by simp[Value.oneCell']) (fun F K=>BW K 0 (σ10 0) [iv a.k,iv a.n,iv a.a,iv a.p,S3.v yd] 34 .z true (by kernel_rfl)) (by unfold maxLen;omega) (by omega) fun y11 _ _ n11=>?_;refine tR 5 [] fun σ12 _ _=>?_;refine tV 1 (iv ((i:Int)+1)) (fun F C=>(AM (x:=(.tmp 14)) (y:=(.const (iv 1))) (i:Int) 1 underlying3 (by omega))) ?_;refine tR 2 [] fun σ13 _ _=>?_;have hfl:(P.take (i+1)).filter (fun p=>p.1.k != 2)=(P.take i).filter (fun p=>p.1.k != 2)++[(a,yd)]:=by rw[htk,List.filter_append];simp[h2]
   exact tB hJ (P.length-(i+1)) (by omega) [false] ⟨i+1,y11,rfl,rfl,rfl,rfl,by omega,(by rw[hfl,List.length_append,List.length_singleton];omega)⟩ (fun F=>by rw[hfl];exact⟨F.2.1,⟨(by rw[Dn];exact F.1),F.2.2.1⟩,trivial⟩)
  ·refine tI ((a.k != 2)) false (by simpa using h2) ?_;refine tR 4 [] fun σ14 _ _=>?_;refine tV 1 (iv ((i:Int)+1)) (fun F C=>(AM (x:=(.tmp 14)) (y:=(.const (iv 1))) (i:Int) 1 underlying3 (by omega))) ?_;refine tR 2 [] fun σ15 _ _=>?_;have hfl:(P.take (i+1)).filter (fun p=>p.1.k != 2)=(P.take i).filter (fun p=>p.1.k != 2):=by rw[htk,List.filter_append];simp[show a.k=2 from by simpa using h2]
   exact tB hJ (P.length-(i+1)) (by omega) [] ⟨i+1,y,rfl,rfl,rfl,rfl,by omega,(by rw[hfl];exact hyn)⟩ (fun F=>by rw[hfl];exact⟨F.1,F.2.1,trivial⟩)
 ·refine tI ((decide ((i:Int)<(s.n:Int)))) false (decide_eq_false (by omega)) ?_;obtain rfl:i=P.length:=by omega
  rw[List.take_length]at hyn ⊢
  refine tR 4 [] fun σ16 _ _=>?_;have hfl:=List.length_filter_le (fun p=>p.1.k != 2) P;refine tC 1 (fun F C=>T5 (many:=40) (AcR.oo F.2.1 rfl).r (AcR.oo F.2.1 rfl).d (by omega)) fun Nz=>?_;rintro _ _ ⟨z,rfl,hz,b17⟩;refine⟨_,Fa.ac z (P.filter (fun p=>p.1.k != 2)++rnP (Gv 40))::_,rfl,b17,fun F=>⟨⟨hz.fz Nz,Dat.app F.2.1.2 (YQ _ _ (cD _))⟩,F⟩,?_⟩;obtain⟨Q,hQ⟩:∃ Q,(P.filter (fun p=>p.1.k != 2)).map (·.1)=Q:=⟨_,rfl⟩;have hQm:∀ x∈Q,LacOk x∧x.k≠2:=by
   intro x hx;rw[← hQ]at hx
   obtain⟨p,hp,rfl⟩:=List.mem_map.1 hx;obtain⟨hp1,hp2⟩:=List.mem_filter.1 hp;exact⟨hok _ (by rw[← hP];exact List.mem_map.2 ⟨p,hp1,rfl⟩),by simpa using hp2⟩
  have hQl:Q.length≤80:=by rw[← hQ,List.length_map];omega
  have hQa:∀ x∈Q++Gv 40,LacOk x∧x.k≠2:=fun x hx=>(List.mem_append.1 hx).elim (hQm x) fun e=>⟨YS 40 x e,OO (P:=fun x=>x.k≠2) (fun _ _=>by show(9:Int)≠2;decide) (fun _ _=>by show(3:Int)≠2;decide) (by decide) 40 x e⟩;have hQe:(P.filter (fun p=>p.1.k != 2)++rnP (Gv 40)).map (·.1)=Q++Gv 40:=by rw[List.map_append,hQ,YR]
  have hlq:(Q++Gv 40).length≤1000:=by rw[List.length_append,Wx];omega
  obtain⟨M,hM⟩:∃ M,Cx.acts (Q++Gv 40)=M:=⟨_,rfl⟩;have hu:(M.node 0).up=true:=by rw[← hM];exact cE Q (fun x hx=>(hQm x hx).1) 40 (by omega) (by decide)
  have hno:=bO (Q++Gv 40) hQa (by omega);rw[hM]at hno
  refine tC 2 (fun F C=>cB (AcR.of F.1 hQe) (fun x hx=>(hQa x hx).1) (by omega) (tb5 hT C) hM hu) fun Nz=>?_;rintro _ _ ⟨ly,tv,ys,rfl,hW,hO,b19⟩;refine⟨_,Fa.ot ly tv ys M::_,rfl,b19,fun F=>⟨RK hW hO Nz,F⟩,?_⟩;refine tF fun F _=>?_;have htn:=eT F.1.told.rd;rw[hno.2]at htn
  have hlg:=Yu hno.1 (Nat.le_refl 5);refine tR 17 [1,0,0,0,0,0] fun σ20 _ _=>?_;refine tC 8 (fun F C=>Qo (RM F.1) hu) fun Nz=>?_;rintro _ _ ⟨rfl,b21⟩;refine⟨_,_,rfl,b21,id,?_⟩;refine tR 1 [] fun σ22 _ _=>?_;refine tV 10 (.bool true) (fun F C=>(Ej (t:=3) (m:=((lgY ys (lgN M 5)).n:Int)) (n:=0) (x:=(.tmp 44)) (y:=(.const (iv 0))) (by rw[hlg];rfl))) ?_;refine tR 5 [0] fun σ23 _ _=>?_;refine tV 16 (.bool true) (fun F C=>(Ej (t:=3) (m:=((tv).n:Int)) (n:=0) (x:=(.tmp 50)) (y:=(.const (iv 0))) (by rw[htn];rfl))) ?_;refine tR 3 [] fun σ24 _ _=>?_;exact tE (.bool true) fun _ B=>⟨rfl,B⟩
end
end Go.Proofs.YtkchbdgikgbiaabGreatDoor
