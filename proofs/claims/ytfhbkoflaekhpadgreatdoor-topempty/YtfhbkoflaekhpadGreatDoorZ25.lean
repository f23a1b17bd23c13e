/- Part 25 of the walk. -/
import Derived.Test.YtfhbkoflaekhpadGreatDoorZ24
set_option maxRecDepth 100000
set_option maxHeartbeats 4000000
open Go.Proofs.Tryz
set_option linter.unusedVariables false
namespace Go.Proofs.YtfhbkoflaekhpadGreatDoor
section
structure Alw where
 ca:Bool
 ld:Bool
 cr:Bool
 st:Bool
structure NInv(A:Alw)(i:Nat)(D:List Int→Prop)(Q:Let→Prop)(P:Nod→Prop):Prop where
 take:A.ca=true→∀ p l,P p→Q l→l.dst=i→p.up=true→P (p.take l)
 one:∀ p c,P p→p.up=true→p.agreed[p.done]?=some c→doE p.sto c=0→P (Nod.unwant { p with sto:=doS p.sto c,done:=p.done+1 } c)
 ask:∀ p,P p→p.up=true→P (p.askd i).1∧∀ l∈(p.askd i).2,Q l
 prop:∀ p,P p→p.up=true→P p.propose
 syn:∀ p,P p→p.up=true→P p.syn
 run:∀ p q l,P p→p.up=true→p.pend=q::l→¬ p.sy<(p.d.length:Int)→P { p.runP i q with pend:=l }∧∀ m∈p.sentP i q,Q m
 teach:∀ p,P p→p.up=true→p.leads=true→P (GZ p i 5)∧∀ l∈Dw p i 5,Q l
 lead:A.ld=true→∀ p,P p→p.up=true→P (p.lead i)
 sub:∀ p d ts,P p→D d→p.up=true→P (p.subm i d ts).1
 crash:A.cr=true→∀ p k,P p→0≤k→p.up=true→P (p.crash k)
 start:A.st=true→∀ p,P p→p.up=false→P p.start
theorem MQ(p:Nod)(i:Nat)(q:Pend)(x:List Pend):({ p with pend:=x }:Nod).runP i q={ p.runP i q with pend:=x }:=by
 cases q with
 | began b vs=>unfold Nod.runP;simp only;split<;>rfl
 | prop v =>
  unfold Nod.runP Nod.count;simp only;split
  ·rfl
  ·split<;>rfl
 | _=>rfl
theorem Gf(p:Nod)(i:Nat)(q:Pend):(p.runP i q).pend=p.pend∧(p.runP i q).up=p.up∧(p.runP i q).d=p.d∧(p.runP i q).sy=p.sy:=by
 cases q with
 | began b vs=>unfold Nod.runP;simp only;split<;>exact⟨rfl,rfl,rfl,rfl⟩
 | prop v =>
  unfold Nod.runP Nod.count;simp only;split
  ·exact⟨rfl,rfl,rfl,rfl⟩
  ·split<;>exact⟨rfl,rfl,rfl,rfl⟩
 | _=>exact⟨rfl,rfl,rfl,rfl⟩
theorem Lf(p:Nod)(i:Nat)(q:Pend)(x:List Pend):({ p with pend:=x }:Nod).sentP i q=p.sentP i q:=by cases q<;>rfl
theorem FN(p:Nod)(c:Cmd):(p.unwant c).up=p.up∧(p.unwant c).agreed=p.agreed∧(p.unwant c).done=p.done∧(p.unwant c).sto=p.sto:=by unfold Nod.unwant;split<;>exact⟨rfl,rfl,rfl,rfl⟩
theorem Q6(p:Nod)(l:List Cmd):(p.enqueue l).up=p.up:=by unfold Nod.enqueue;split<;>rfl
theorem RX(p:Nod)(i:Nat):(p.askd i).1.up=p.up:=by
 unfold Nod.askd;split
 ·rfl
 ·split
  ·exact Q6 _ _
  ·rfl
theorem aY(p:Nod)(v:Vt):(p.vote v).1.up=p.up:=by
 unfold Nod.vote;split
 ·rfl
 ·split
  ·rfl
  ·split<;>rfl
theorem KV(p:Nod):p.propose.up=p.up:=by
 unfold Nod.propose;split
 ·rfl
 ·split
  ·rfl
  ·split
   ·rfl
   ·exact aY p _
theorem eA(p:Nod):p.syn.up=p.up:=by unfold Nod.syn;split<;>rfl
section
variable{A:Alw}{i:Nat}{D:List Int→Prop}{Q:Let→Prop}{P:Nod→Prop}
theorem NInv.doP(h:NInv A i D Q P)(l:List Cmd)(p:Nod)(ts:List Tol)(hp:P p)(hu:p.up=true)(hl:p.agreed.drop p.done=l):P (doP i l p ts).1∧(Go.Proofs.YtfhbkoflaekhpadGreatDoor.doP i l p ts).1.up=true:=by
 induction l generalizing p ts with
 | nil=>exact⟨hp,hu⟩
 | cons c l ih =>
  rw[Go.Proofs.YtfhbkoflaekhpadGreatDoor.doP];split
  ·exact⟨hp,hu⟩
  ·rename_i he
   have hc:p.agreed[p.done]?=some c:=by
    have:=congrArg (·[0]?) hl;simpa using this
   have hk:=FN { p with sto:=doS p.sto c,done:=p.done+1 } c;refine ih _ _ (h.one p c hp hu hc (Decidable.not_not.1 he)) (hk.1.trans hu) ?_;rw[hk.2.1,hk.2.2.1];show p.agreed.drop (p.done+1)=l;rw[← List.drop_drop,hl];rfl
theorem NInv.doneP(h:NInv A i D Q P)(l:List Pend)(p:Nod)(ls:List Let)(hp:P { p with pend:=l })(hu:p.up=true)(h0:p.pend=[])(hs:¬ p.sy<(p.d.length:Int))(hl:∀ m∈ls,Q m):P (doneP i l p ls).1∧(∀ m∈(Go.Proofs.YtfhbkoflaekhpadGreatDoor.doneP i l p ls).2,Q m)∧(Go.Proofs.YtfhbkoflaekhpadGreatDoor.doneP i l p ls).1.up=true:=by
 induction l generalizing p ls with
 | nil =>
  refine⟨?_,hl,hu⟩;have:({ p with pend:=[] }:Nod)=p:=by cases p;simp_all
  rw[this]at hp;exact hp
 | cons q l ih =>
  have hk:=Gf p i q;obtain⟨h1,h2⟩:=h.run { p with pend:=q::l } q l hp hu rfl hs;rw[MQ]at h1
  rw[Lf]at h2
  exact ih (p.runP i q) (ls++p.sentP i q) h1 (hk.2.1.trans hu) (hk.1.trans h0) (by rw[hk.2.2.1,hk.2.2.2];exact hs) fun m hm=>(List.mem_append.1 hm).elim (hl m) (h2 m)
theorem NInv.piece(h:NInv A i D Q P)(p:Nod)(ls:List Let)(ts:List Tol)(hp:P p)(hu:p.up=true)(hl:∀ m∈ls,Q m):P (p.piece i ls ts).1∧∀ m∈(p.piece i ls ts).2.1,Q m:=by
 obtain⟨a1,a2⟩:=h.doP _ p ts hp hu rfl;unfold Nod.piece;simp only;obtain⟨b1,b2⟩:=h.ask _ a1 a2;have bu:=(RX (Go.Proofs.YtfhbkoflaekhpadGreatDoor.doP i (p.agreed.drop p.done) p ts).1 i).trans a2;have c1:=h.prop _ b1 bu;have cu:=(KV ((Go.Proofs.YtfhbkoflaekhpadGreatDoor.doP i (p.agreed.drop p.done) p ts).1.askd i).1).trans bu;have hls:∀ m∈ls++((Go.Proofs.YtfhbkoflaekhpadGreatDoor.doP i (p.agreed.drop p.done) p ts).1.askd i).2,Q m:=fun m hm=>(List.mem_append.1 hm).elim (hl m) (b2 m);generalize ls++((Go.Proofs.YtfhbkoflaekhpadGreatDoor.doP i (p.agreed.drop p.done) p ts).1.askd i).2=k at hls ⊢;generalize ((Go.Proofs.YtfhbkoflaekhpadGreatDoor.doP i (p.agreed.drop p.done) p ts).1.askd i).1.propose=r at c1 cu ⊢;have hd:P (r.syncd i k).1∧(∀ m∈(r.syncd i k).2,Q m)∧(r.syncd i k).1.up=true:=by
  unfold Nod.syncd;split
  ·exact⟨c1,hls,cu⟩
  ·rename_i hn
   have hp2:=h.syn r c1 cu;have hpd:r.syn.pend=r.pend:=by unfold Nod.syn;split<;>rfl
   refine h.doneP r.pend { r.syn with pend:=[] } k (by rw[← hpd];exact hp2) ((eA r).trans cu) rfl ?_ hls;show ¬ r.syn.sy<(r.syn.d.length:Int);unfold Nod.syn;split
   ·rename_i h1
    have:CN r.d r.sy=0:=Decidable.not_not.1 fun e=>hn ⟨h1,e⟩;have hT:AY r.d r.sy:=by
     unfold CN at this;split at this
     ·assumption
     ·cases this
    show ¬ Ig r.d r.sy<((GX r.d r.sy).length:Int);unfold Ig GX;rw[if_pos hT,if_pos hT];exact Int.lt_irrefl _
   ·rename_i h1;exact h1
 unfold Nod.taught;split
 ·rename_i hL
  obtain⟨e1,e2⟩:=h.teach _ hd.1 hd.2.2 hL;exact⟨e1,fun m hm=>(List.mem_append.1 hm).elim (hd.2.1 m) (e2 m)⟩
 ·exact⟨hd.1,hd.2.1⟩
end
structure GInv(Q:Let→Prop)(P:Nat→Nod→Prop)(M:Meet):Prop where
 node:∀ i,i<5→P i (M.node i)
 lets:∀ l∈M.lets,Q l
theorem GInv.set{Q:Let→Prop}{P:Nat→Nod→Prop}{M:Meet}(h:GInv Q P M){i:Nat}{p:Nod}{ls:List Let}{ts:List Tol}(hp:P i p)(hl:∀ l∈ls,Q l):GInv Q P (M.set i p ls ts) :=
 ⟨fun j hj=>by
  show P j (upN M.node i p j);unfold upN;split
  ·rename_i e;rw[e];exact hp
  ·exact h.node j hj,hl⟩
theorem GInv.come{A:Alw}{D:Nat→List Int→Prop}{Q:Let→Prop}{P:Nat→Nod→Prop}(hI:∀ i,i<5→NInv A i (D i) Q (P i))(hc:A.ca=true){M:Meet}(h:GInv Q P M){l:Let}(hl:Q l)(hd:l.dst<5):GInv Q P (M.come l):=by
 unfold Meet.come;split
 ·rename_i hu
  exact h.set (ls:=M.lets) (ts:=M.told) ((hI _ hd).take hc _ l (h.node _ hd) hl rfl hu) h.lets
 ·exact h
theorem GInv.comes{A:Alw}{D:Nat→List Int→Prop}{Q:Let→Prop}{P:Nat→Nod→Prop}(hI:∀ i,i<5→NInv A i (D i) Q (P i))(hc:A.ca=true)(l:List Let){M:Meet}(h:GInv Q P M)(hl:∀ m∈l,Q m∧m.dst<5):GInv Q P (l.foldl (fun M l=>M.come l) M):=by
 induction l generalizing M with
 | nil=>exact h
 | cons x l ih=>exact ih (h.come hI hc (hl x List.mem_cons_self).1 (hl x List.mem_cons_self).2) fun m hm=>hl m (List.mem_cons_of_mem _ hm)
structure Alw.Ok(A:Alw)(x:Lac):Prop where
 ca:x.k=4∨x.k=6∨x.k=7→A.ca=true
 ld:x.k=2→A.ld=true
 cr:x.k=8→A.cr=true
 st:x.k=9→A.st=true
theorem GInv.act{A:Alw}{D:Nat→List Int→Prop}{Q:Let→Prop}{P:Nat→Nod→Prop}(hI:∀ i,i<5→NInv A i (D i) Q (P i)){n:Nat}{M:Meet}(h:GInv Q P M)(hM:MOk n M){x:Lac}(hx:LacOk x)(hA:A.Ok x)(hD:x.k=1→D x.n.toNat x.d):GInv Q P (M.act x):=by
 have hnode:∀ {k:Int},x.k=k→Fp k=true→x.n.toNat<5:=fun{k} e e2=>by have:=hx.n (by rw[e];exact e2);omega
 unfold Meet.act;simp only;by_cases h1:x.k=1
 ·rw[if_pos h1];have hi:=hnode h1 rfl;refine h.set ?_ h.lets;unfold Nod.subm;by_cases hu:(M.node x.n.toNat).up=true
  ·exact(hI _ hi).sub _ x.d M.told (h.node _ hi) (hD h1) hu
  ·unfold Nod.sub0;rw[if_pos (by simpa using hu)];exact h.node _ hi
 ·rw[if_neg h1];by_cases h2:x.k=2
  ·rw[if_pos h2];have hi:=hnode h2 rfl;refine h.set ?_ h.lets;split
   ·rename_i hu;exact(hI _ hi).lead (hA.ld h2) _ (h.node _ hi) hu
   ·exact h.node _ hi
  ·rw[if_neg h2];by_cases h3:x.k=3
   ·rw[if_pos h3];have hi:=hnode h3 rfl;by_cases hu:(M.node x.n.toNat).up=true
    ·have:=(hI _ hi).piece _ M.lets M.told (h.node _ hi) hu h.lets;rw[if_pos hu,if_pos hu,if_pos hu];exact h.set this.1 this.2
    ·rw[if_neg hu,if_neg hu,if_neg hu];exact h.set (h.node _ hi) h.lets
   ·rw[if_neg h3];by_cases h4:x.k=4∨x.k=5∨x.k=6
    ·rw[if_pos h4];unfold Meet.move;split
     ·exact h
     ·rename_i l hl
      have hm:=List.mem_of_getElem? hl;have hB:GInv Q P (if x.k≠6 then{ M with lets:=M.lets.eraseIdx (x.a.toNat%M.lets.length) }else M):=by
       split
       ·exact⟨h.node,fun m hm=>h.lets m (List.mem_of_mem_eraseIdx hm)⟩
       ·exact h
      simp only;split
      ·rename_i h5
       exact hB.come hI (hA.ca (by omega)) (h.lets l hm) (hM.lets l hm).dst
      ·exact hB
    ·rw[if_neg h4];by_cases h7:x.k=7
     ·rw[if_pos h7];unfold Meet.comeAll;exact GInv.comes hI (hA.ca (by omega)) _ ⟨h.node,fun l hl=>by cases hl⟩ fun m hm=>⟨h.lets m hm,(hM.lets m hm).dst⟩
     ·rw[if_neg h7];by_cases h8:x.k=8
      ·rw[if_pos h8];have hi:=hnode h8 rfl;refine h.set ?_ h.lets;split
       ·rename_i hu;exact(hI _ hi).crash (hA.cr h8) _ x.p (h.node _ hi) (hx.p (by rw[h8];rfl)).1 hu
       ·exact h.node _ hi
      ·rw[if_neg h8];by_cases h9:x.k=9
       ·rw[if_pos h9];have hi:=hnode h9 rfl;refine h.set ?_ h.lets;split
        ·exact h.node _ hi
        ·rename_i hu;exact(hI _ hi).start (hA.st h9) _ (h.node _ hi) (by simpa using hu)
       ·rw[if_neg h9];exact h
structure TInv(i:Nat)(D:List Int→Prop)(P:Nod→Prop)(R:List Tol→Prop):Prop where
 one:∀ p c ts,P p→p.up=true→p.agreed[p.done]?=some c→doE p.sto c=0→(p.asked c).isSome=true→R ts→R (ts++[⟨i,c.c,c.s,doC p.sto c,doA p.sto c⟩])
 sub:∀ p d ts,P p→D d→p.up=true→opE d (p.done:Int)=0→J9 d (p.done:Int)∈p.agreed.take p.done→R ts→R (ts++[⟨i,(J9 d (p.done:Int)).c,(J9 d (p.done:Int)).s,doC p.sto (J9 d (p.done:Int)),doA p.sto (J9 d (p.done:Int))⟩])
theorem TInv.doP{A:Alw}{i:Nat}{D:List Int→Prop}{Q:Let→Prop}{P:Nod→Prop}{R:List Tol→Prop}(h:NInv A i D Q P)(t:TInv i D P R)(l:List Cmd)(p:Nod)(ts:List Tol)(hp:P p)(hu:p.up=true)(hl:p.agreed.drop p.done=l)(hr:R ts):R (doP i l p ts).2:=by
 induction l generalizing p ts with
 | nil=>exact hr
 | cons c l ih =>
  rw[Go.Proofs.YtfhbkoflaekhpadGreatDoor.doP];split
  ·exact hr
  ·rename_i he
   have hc:p.agreed[p.done]?=some c:=by
    have:=congrArg (·[0]?) hl;simpa using this
   have hk:=FN { p with sto:=doS p.sto c,done:=p.done+1 } c;refine ih _ _ (h.one p c hp hu hc (Decidable.not_not.1 he)) (hk.1.trans hu) ?_ ?_
   ·rw[hk.2.1,hk.2.2.1];show p.agreed.drop (p.done+1)=l;rw[← List.drop_drop,hl];rfl
   ·split
    ·rename_i ha;exact t.one p c ts hp hu hc (Decidable.not_not.1 he) ha hr
    ·exact hr
theorem Mp(M:Meet)(l:Let):(M.come l).told=M.told:=by unfold Meet.come;split<;>rfl
theorem Qt(l:List Let)(M:Meet):(l.foldl (fun M l=>M.come l) M).told=M.told:=by
 induction l generalizing M with
 | nil=>rfl
 | cons x l ih=>exact(ih _).trans (Mp M x)
theorem Uc(M:Meet)(k:Int)(a:Nat):(M.move k a).told=M.told:=by
 unfold Meet.move;split
 ·rfl
 ·simp only;split
  ·rw[Mp];split<;>rfl
  ·split<;>rfl
theorem Ve(M:Meet){x:Lac}(h1:x.k≠1)(h3:x.k≠3):(M.act x).told=M.told:=by
 unfold Meet.act;simp only;rw[if_neg h1];split
 ·rfl
 ·split
  ·exact Uc _ _ _
  ·split
   ·exact Qt _ _
   ·split
    ·rfl
    ·split<;>rfl
theorem GInv.told{A:Alw}{D:Nat→List Int→Prop}{Q:Let→Prop}{P:Nat→Nod→Prop}{R:List Tol→Prop}(hI:∀ i,i<5→NInv A i (D i) Q (P i))(hT:∀ i,i<5→TInv i (D i) (P i) R){M:Meet}(h:GInv Q P M)(hr:R M.told){x:Lac}(hx:LacOk x)(hD:x.k=1→D x.n.toNat x.d):R (M.act x).told:=by
 by_cases h1:x.k=1
 ·have hi:x.n.toNat<5:=by have:=hx.n (by rw[h1];rfl);omega
  unfold Meet.act;simp only;rw[if_pos h1];show R (Nod.subm _ _ _ _).2;unfold Nod.subm Nod.sub0;split
  ·exact hr
  ·rename_i hu
   split
   ·exact hr
   ·rename_i he
    split
    ·rename_i hm
     exact(hT _ hi).sub _ _ _ (h.node _ hi) (hD h1) (by simpa using hu) (Decidable.not_not.1 he) hm hr
    ·exact hr
 ·by_cases h3:x.k=3
  ·have hi:x.n.toNat<5:=by have:=hx.n (by rw[h3];rfl);omega
   unfold Meet.act;simp only;rw[if_neg h1,if_neg (by omega),if_pos h3];show R (if _ then _ else _);split
   ·rename_i hu
    exact TInv.doP (hI _ hi) (hT _ hi) _ _ _ (h.node _ hi) hu rfl hr
   ·exact hr
  ·rw[Ve M h1 h3];exact hr
theorem GInv.acts{A:Alw}{D:Nat→List Int→Prop}{Q:Let→Prop}{P:Nat→Nod→Prop}{R:List Tol→Prop}(hI:∀ i,i<5→NInv A i (D i) Q (P i))(hT:∀ i,i<5→TInv i (D i) (P i) R)(L:List Lac){n:Nat}{M:Meet}(hM:MOk n M)(hn:n+L.length≤1000000)(h:GInv Q P M)(hr:R M.told)(hx:∀ x∈L,LacOk x∧A.Ok x∧(x.k=1→D x.n.toNat x.d)):GInv Q P (M.acts L)∧R (M.acts L).told∧MOk (n+L.length) (M.acts L):=by
 induction L generalizing n M with
 | nil=>exact⟨h,hr,hM⟩
 | cons x L ih =>
  have h1:=hx x List.mem_cons_self;rw[List.length_cons]at hn
  have:=ih (hM.act (by omega) h1.1) (by omega) (h.act hI hM h1.1 h1.2.1 h1.2.2) (h.told hI hT hr h1.1 h1.2.2) fun y hy=>hx y (List.mem_cons_of_mem _ hy);rw[List.length_cons,show n+(L.length+1)=n+1+L.length by omega];exact this
theorem TInv.all(i:Nat)(D:List Int→Prop)(P:Nod→Prop):TInv i D P fun _=>True:=⟨fun _ _ _ _ _ _ _ _ _=>trivial,fun _ _ _ _ _ _ _ _ _=>trivial⟩
structure Wh where
 d:Nat→List Int→Prop
 ld:Prop
 cr:Prop
 dr:Prop
 tk:Prop
 st:Prop
def Wh.may(D:Wh)(x:Lac):Prop:=(x.k=1→D.d x.n.toNat x.d)∧(x.k=2→D.ld)∧(x.k=8→D.cr)∧(x.k=4∨x.k=5∨x.k=6∨x.k=7→D.dr∧D.tk)∧(x.k=9→D.st)
inductive Stp (D:Wh):Nat→Meet→Meet→Prop
 | take (M:Meet) (l:Let) (hl:l∈M.lets) (hd:l.src<5∧l.dst<5) (hu:(M.node l.dst).up=true) (ht:D.tk):Stp D 0 M (M.set l.dst ((M.node l.dst).take l) M.lets M.told)
 | lets (M:Meet) (ls:List Let) (h:∀ l∈ls,l∈M.lets) (hd:D.dr):Stp D 0 M { M with lets:=ls }
 | one (M:Meet) (i:Nat) (c:Cmd) (hi:i<5) (hu:(M.node i).up=true) (hc:(M.node i).agreed[(M.node i).done]?=some c) (he:doE (M.node i).sto c=0) :
   Stp D 0 M (M.set i (Nod.unwant { M.node i with sto:=doS (M.node i).sto c,done:=(M.node i).done+1 } c) M.lets (if((M.node i).asked c).isSome=true then M.told++[⟨i,c.c,c.s,doC (M.node i).sto c,doA (M.node i).sto c⟩]else M.told))
 | ask (M:Meet) (i:Nat) (hi:i<5) (hu:(M.node i).up=true):Stp D 0 M (M.set i ((M.node i).askd i).1 (M.lets++((M.node i).askd i).2) M.told)
 | prop (M:Meet) (i:Nat) (hi:i<5) (hu:(M.node i).up=true):Stp D 1 M (M.set i (M.node i).propose M.lets M.told)
 | syn (M:Meet) (i:Nat) (hi:i<5) (hu:(M.node i).up=true) (h:(M.node i).sy<((M.node i).d.length:Int)) (hT:AY (M.node i).d (M.node i).sy):Stp D 0 M (M.set i { M.node i with sy:=((M.node i).d.length:Int) } M.lets M.told)
 | run (M:Meet) (i:Nat) (hi:i<5) (hu:(M.node i).up=true) (q:Pend) (l:List Pend) (hp:(M.node i).pend=q::l) (hs:¬ (M.node i).sy<((M.node i).d.length:Int)):Stp D 0 M (M.set i { (M.node i).runP i q with pend:=l } (M.lets++(M.node i).sentP i q) M.told)
 | teach (M:Meet) (i:Nat) (hi:i<5) (hu:(M.node i).up=true) (hL:(M.node i).leads=true):Stp D 0 M (M.set i (GZ (M.node i) i 5) (M.lets++Dw (M.node i) i 5) M.told)
 | lead (M:Meet) (i:Nat) (hi:i<5) (hu:(M.node i).up=true) (hL:D.ld):Stp D 0 M (M.set i ((M.node i).lead i) M.lets M.told)
 | sub (M:Meet) (i:Nat) (d:List Int) (hi:i<5) (hu:(M.node i).up=true) (hD:D.d i d):Stp D 0 M (M.set i ((M.node i).subm i d M.told).1 M.lets ((M.node i).subm i d M.told).2)
 | crash (M:Meet) (i:Nat) (k:Int) (hi:i<5) (hu:(M.node i).up=true) (hk:0≤k) (hC:D.cr):Stp D 0 M (M.set i ((M.node i).crash k) M.lets M.told)
 | start (M:Meet) (i:Nat) (hi:i<5) (hu:(M.node i).up=false) (hs:D.st):Stp D 0 M (M.set i (M.node i).start M.lets M.told)
inductive Sts (D:Wh):Nat→Meet→Meet→Prop
 | nil (n:Nat) (M:Meet):Sts D n M M
 | snoc {n c m:Nat} {M N K:Meet} (h:Sts D n M N) (s:Stp D c N K) (hm:n+c≤m):Sts D m M K
section
variable{D:Wh}
theorem Sts.mono{n m:Nat}{M N:Meet}(h:Sts D n M N)(hn:n≤m):Sts D m M N:=by
 cases h with
 | nil=>exact .nil m M
 | snoc h s hm=>exact .snoc h s (by omega)
theorem Sts.trans{n m:Nat}{M N K:Meet}(h:Sts D n M N)(k:Sts D m N K):Sts D (n+m) M K:=by
 induction k with
 | nil=>exact h.mono (by omega)
 | snoc _ s hm ih=>exact(ih h).snoc s (by omega)
theorem Sts.s0{n:Nat}{M N K:Meet}(h:Sts D n M N)(s:Stp D 0 N K):Sts D n M K:=h.snoc s (Nat.le_refl _)
theorem Stp.s{n:Nat}{M N:Meet}(h:Stp D 0 M N):Sts D n M N:=(Sts.nil n M).s0 h
theorem Sts.inv{I:Meet→Prop}(hI:∀ c M N,Stp D c M N→I M→I N){n:Nat}{M N:Meet}(h:Sts D n M N)(hM:I M):I N:=by
 induction h with
 | nil=>exact hM
 | snoc _ s _ ih=>exact hI _ _ _ s (ih hM)
theorem PS{α:Type}(f:Nat→α)(i:Nat):upN f i (f i)=f:=by funext j;unfold upN;split<;>simp_all
theorem aO{α:Type}(f:Nat→α)(i:Nat)(x y:α):upN (upN f i x) i y=upN f i y:=by funext j;unfold upN;split<;>rfl
theorem Gg(M:Meet)(i:Nat)(p q:Nod)(ls ms:List Let)(ts us:List Tol):(M.set i p ls ts).set i q ms us=M.set i q ms us:=by unfold Meet.set;simp only[aO]
theorem IC(M:Meet)(i:Nat)(p:Nod)(ls:List Let)(ts:List Tol):(M.set i p ls ts).node i=p:=Yi M.node i p
theorem Mo(M:Meet)(l:Let):(M.come l).lets=M.lets:=by unfold Meet.come;split<;>rfl
theorem Mq(M:Meet)(l:Let)(ls:List Let):({ M with lets:=ls }:Meet).come l={ M.come l with lets:=ls }:=by
 unfold Meet.come;show(if(M.node l.dst).up=true then _ else _)=_;split<;>rfl
theorem Qu(l:List Let)(M:Meet)(ls:List Let):l.foldl (fun M l=>M.come l) ({ M with lets:=ls }:Meet)={ l.foldl (fun M l=>M.come l) M with lets:=ls }:=by
 induction l generalizing M with
 | nil=>rfl
 | cons x l ih=>rw[List.foldl_cons,Mq,ih];rfl
theorem Sts.come(ht:D.tk){n:Nat}{M N:Meet}(h:Sts D n M N){l:Let}(hl:l∈N.lets)(hd:l.src<5∧l.dst<5):Sts D n M (N.come l):=by
 unfold Meet.come;split
 ·rename_i hu;exact h.s0 (.take N l hl hd hu ht)
 ·exact h
theorem Sts.comes(ht:D.tk)(l:List Let){n:Nat}{M N:Meet}(h:Sts D n M N)(hl:∀ m∈l,m∈N.lets∧m.src<5∧m.dst<5):Sts D n M (l.foldl (fun M l=>M.come l) N):=by
 induction l generalizing N with
 | nil=>exact h
 | cons x l ih=>exact ih (h.come ht (hl x List.mem_cons_self).1 (hl x List.mem_cons_self).2) fun m hm=>by rw[Mo];exact hl m (List.mem_cons_of_mem _ hm)
theorem Sts.doP{n i:Nat}(hi:i<5)(l:List Cmd)(p:Nod){M:Meet}{ls:List Let}{ts:List Tol}(h:Sts D n M (M.set i p ls ts))(hu:p.up=true)(hl:p.agreed.drop p.done=l) :
  Sts D n M (M.set i (doP i l p ts).1 ls (Go.Proofs.YtfhbkoflaekhpadGreatDoor.doP i l p ts).2)∧(Go.Proofs.YtfhbkoflaekhpadGreatDoor.doP i l p ts).1.up=true:=by
 induction l generalizing p ts with
 | nil=>exact⟨h,hu⟩
 | cons c l ih =>
  rw[Go.Proofs.YtfhbkoflaekhpadGreatDoor.doP];split
  ·exact⟨h,hu⟩
  ·rename_i he
   have hc:p.agreed[p.done]?=some c:=by have:=congrArg (·[0]?) hl;simpa using this
   have hk:=FN { p with sto:=doS p.sto c,done:=p.done+1 } c;have e:=IC M i p ls ts;have s:=Stp.one (D:=D) (M.set i p ls ts) i c hi (by rw[e];exact hu) (by rw[e];exact hc) (by rw[e];exact Decidable.not_not.1 he);rw[e,Gg]at s
   refine ih _ (h.s0 s) (hk.1.trans hu) ?_;rw[hk.2.1,hk.2.2.1];show p.agreed.drop (p.done+1)=l;rw[← List.drop_drop,hl];rfl
theorem Sts.doneP{n i:Nat}(hi:i<5)(l:List Pend)(p:Nod){M:Meet}{ls:List Let}{ts:List Tol}(h:Sts D n M (M.set i { p with pend:=l } ls ts))(hu:p.up=true)(h0:p.pend=[])(hs:¬ p.sy<(p.d.length:Int)) :
  Sts D n M (M.set i (doneP i l p ls).1 (Go.Proofs.YtfhbkoflaekhpadGreatDoor.doneP i l p ls).2 ts)∧(Go.Proofs.YtfhbkoflaekhpadGreatDoor.doneP i l p ls).1.up=true:=by
 induction l generalizing p ls with
 | nil =>
  have:({ p with pend:=[] }:Nod)=p:=by cases p;simp_all
  rw[this]at h;exact⟨h,hu⟩
 | cons q l ih =>
  have hk:=Gf p i q;have e:=IC M i { p with pend:=q::l } ls ts;have s:=Stp.run (D:=D) (M.set i { p with pend:=q::l } ls ts) i hi (by rw[e];exact hu) q l (by rw[e]) (by rw[e];exact hs);rw[e,Gg,MQ,Lf]at s
  exact ih (p.runP i q) (h.s0 s) (hk.2.1.trans hu) (hk.1.trans h0) (by rw[hk.2.2.1,hk.2.2.2];exact hs)
theorem Sts.piece{i:Nat}(hi:i<5)(M:Meet)(hu:(M.node i).up=true):Sts D 1 M (M.set i ((M.node i).piece i M.lets M.told).1 ((M.node i).piece i M.lets M.told).2.1 ((M.node i).piece i M.lets M.told).2.2):=by
 have h0:Sts D 0 M (M.set i (M.node i) M.lets M.told):=by rw[show M.set i (M.node i) M.lets M.told=M by unfold Meet.set;rw[PS]];exact .nil 0 M
 obtain⟨ha,au⟩:=Sts.doP hi _ (M.node i) h0 hu rfl;unfold Nod.piece;simp only;generalize Go.Proofs.YtfhbkoflaekhpadGreatDoor.doP i ((M.node i).agreed.drop (M.node i).done) (M.node i) M.told=a at ha au ⊢;have e:=IC M i a.1 M.lets a.2;have s:=Stp.ask (D:=D) (M.set i a.1 M.lets a.2) i hi (by rw[e];exact au);rw[e,Gg]at s
 have hb:=ha.s0 s;have bu:=(RX a.1 i).trans au;clear e s ha;generalize (a.1.askd i)=b at hb bu ⊢;have e:=IC M i b.1 (M.lets++b.2) a.2;have s:=Stp.prop (D:=D) (M.set i b.1 (M.lets++b.2) a.2) i hi (by rw[e];exact bu);rw[e,Gg]at s
 have hc:=hb.snoc s (m:=1) (by omega);have cu:=(KV b.1).trans bu;clear e s hb;change Sts D 1 M (M.set i b.1.propose (M.lets++b.2) a.2)at hc;generalize b.1.propose=r at hc cu ⊢;generalize M.lets++b.2=k at hc ⊢;have hd:Sts D 1 M (M.set i (r.syncd i k).1 (r.syncd i k).2 a.2)∧(r.syncd i k).1.up=true:=by
  unfold Nod.syncd;split
  ·exact⟨hc,cu⟩
  ·rename_i hn
   have e:=IC M i r k a.2;unfold Nod.syn;split
   ·rename_i h1
    have h2:CN r.d r.sy=0:=Decidable.not_not.1 fun e=>hn ⟨h1,e⟩;have hT:AY r.d r.sy:=by
     unfold CN at h2;split at h2
     ·assumption
     ·cases h2
    have s:=Stp.syn (D:=D) (M.set i r k a.2) i hi (by rw[e];exact cu) (by rw[e];exact h1) (by rw[e];exact hT);rw[e,Gg]at s
    have e1:GX r.d r.sy=r.d:=if_pos hT;have e2:Ig r.d r.sy=(r.d.length:Int):=if_pos hT;rw[e1,e2];exact Sts.doneP hi r.pend { r with sy:=(r.d.length:Int),pend:=[] } (hc.s0 s) cu rfl (Int.lt_irrefl _)
   ·rename_i h1
    exact Sts.doneP hi r.pend { r with pend:=[] } hc cu rfl h1
 generalize r.syncd i k=f at hd ⊢;unfold Nod.taught;split
 ·rename_i hL
  have e:=IC M i f.1 f.2 a.2;have s:=Stp.teach (D:=D) (M.set i f.1 f.2 a.2) i hi (by rw[e];exact hd.2) (by rw[e];exact hL);rw[e,Gg]at s
  exact hd.1.s0 s
 ·exact hd.1
theorem Id(M:Meet)(i:Nat):M.set i (M.node i) M.lets M.told=M:=by unfold Meet.set;rw[PS]
theorem Y0{n:Nat}{M:Meet}(hM:MOk n M){x:Lac}(hx:LacOk x)(hD:D.may x):Sts D 1 M (M.act x):=by
 obtain⟨hD,h2,h8,h4,hS⟩:=hD;have hnode:∀ {k:Int},x.k=k→Fp k=true→x.n.toNat<5:=fun{k} e e2=>by have:=hx.n (by rw[e];exact e2);omega
 unfold Meet.act;simp only;split
 ·rename_i h1
  by_cases hu:(M.node x.n.toNat).up=true
  ·exact(Stp.sub M _ x.d (hnode h1 rfl) hu (hD h1)).s
  ·unfold Nod.subm Nod.sub0;rw[if_pos (by simpa using hu)];rw[Id];exact .nil 1 M
 ·split
  ·rename_i hk
   split
   ·rename_i hu;exact(Stp.lead M _ (hnode hk rfl) hu (h2 hk)).s
   ·rw[Id];exact .nil 1 M
  ·split
   ·rename_i h3
    by_cases hu:(M.node x.n.toNat).up=true
    ·rw[if_pos hu,if_pos hu,if_pos hu];exact Sts.piece (hnode h3 rfl) M hu
    ·rw[if_neg hu,if_neg hu,if_neg hu,Id];exact .nil 1 M
   ·split
    ·rename_i hk4
     obtain⟨hdr,htk⟩:=h4 (by omega);unfold Meet.move;split
     ·exact .nil 1 M
     ·rename_i l hl
      have hm:=List.mem_of_getElem? hl;have hd:=And.intro (hM.lets l hm).src (hM.lets l hm).dst;have hA:∀ N:Meet,Sts D 1 M N→N.lets=M.lets→Sts D 1 M (if x.k≠6 then{ N with lets:=M.lets.eraseIdx (x.a.toNat%M.lets.length) }else N):=fun N h e=>by
       split
       ·exact h.s0 (.lets N _ (fun m hm=>by rw[e];exact List.mem_of_mem_eraseIdx hm) hdr)
       ·exact h
      simp only;split
      ·have:=hA (M.come l) ((Sts.nil 1 M).come htk hm hd) (Mo M l);by_cases h6:x.k≠6
       ·rw[if_pos h6]at this ⊢;rw[Mq];exact this
       ·rw[if_neg h6]at this ⊢;exact this
      ·exact hA M (.nil 1 M) rfl
    ·split
     ·rename_i hk7
      unfold Meet.comeAll;rw[Qu];exact(Sts.comes (h4 (by omega)).2 M.lets (.nil 1 M) fun m hm=>⟨hm,(hM.lets m hm).src,(hM.lets m hm).dst⟩).s0 (.lets _ [] (fun l hl=>by cases hl) (h4 (by omega)).1)
     ·split
      ·rename_i hk
       split
       ·rename_i hu;exact(Stp.crash M _ x.p (hnode hk rfl) hu (hx.p (by rw[hk];rfl)).1 (h8 hk)).s
       ·rw[Id];exact .nil 1 M
      ·split
       ·rename_i h9
        split
        ·rw[Id];exact .nil 1 M
        ·rename_i hu;exact(Stp.start M _ (hnode h9 rfl) (by simpa using hu) (hS h9)).s
       ·exact .nil 1 M
theorem Vg(L:List Lac){n:Nat}{M:Meet}(hM:MOk n M)(hn:n+L.length≤1000000)(hx:∀ x∈L,LacOk x∧D.may x):Sts D L.length M (M.acts L):=by
 induction L generalizing n M with
 | nil=>exact .nil _ M
 | cons x L ih =>
  have h1:=hx x List.mem_cons_self;rw[List.length_cons]at hn
  rw[List.length_cons,Nat.add_comm];exact(Y0 hM h1.1 h1.2).trans (ih (hM.act (by omega) h1.1) (by omega) fun y hy=>hx y (List.mem_cons_of_mem _ hy))
end
inductive Rk where
 | pr (b:Bal)
 | vt (v:Vt)
def Rk.body:Rk→List Int
 | .pr b=>Bk b
 | .vt v=>Ba v
def Rk.ap(a:Acc):Rk→Acc
 | .pr b=>⟨b,a.vs⟩
 | .vt v=>⟨v.b,Bf a.vs v⟩
def Rk.err(a:Acc):Rk→Int
 | .pr b=>BG a b
 | .vt v=>AT a v
def Rk.ok(a:Acc):Rk→Prop
 | .pr b=>BG a b=0∧a.p≠b
 | .vt v=>AT a v=0∧v∉a.vs
theorem Rk.ok.err{a:Acc}{r:Rk}(h:Rk.ok a r):Rk.err a r=0:=by cases r<;>exact h.1
def E4(rs:List Rk):Acc:=rs.foldl Rk.ap a0
theorem CY(rs:List Rk)(r:Rk):E4 (rs++[r])=Rk.ap (E4 rs) r:=by unfold E4;rw[List.foldl_append];rfl
def Cb(rs:List Rk):Prop:=∀ i r,rs[i]?=some r→Rk.ok (E4 (rs.take i)) r
theorem Cb.nil:Cb []:=fun i r h=>by simp at h
theorem Cb.left{rs qs:List Rk}(h:Cb (rs++qs)):Cb rs:=fun i r e=>by
 have hi:=(List.getElem?_eq_some_iff.1 e).1;have:=h i r (by rw[List.getElem?_append_left hi];exact e)
 rwa [List.take_append_of_le_length (by omega)]at this
theorem Cb.pre{rs qs:List Rk}(h:Cb qs)(hp:rs <+: qs):Cb rs:=by obtain⟨x,rfl⟩:=hp;exact h.left
theorem Cb.snoc{rs:List Rk}{r:Rk}(h:Cb rs)(he:Rk.ok (E4 rs) r):Cb (rs++[r]):=fun i q e=>by
 rcases Nat.lt_or_ge i rs.length with hi|hi
 ·rw[List.getElem?_append_left hi]at e
  rw[List.take_append_of_le_length (by omega)];exact h i q e
 ·have:=(List.getElem?_eq_some_iff.1 e).1;rw[List.length_append,List.length_singleton]at this
  obtain rfl:i=rs.length:=by omega
  rw[List.getElem?_append_right (Nat.le_refl _)]at e
  simp at e;subst e;rw[List.take_append_of_le_length (Nat.le_refl _),List.take_length];exact he
theorem Cb.ind{P:List Rk→Prop}(h0:P [])(hs:∀ rs r,Cb rs→Rk.ok (E4 rs) r→P rs→P (rs++[r])){rs:List Rk}(h:Cb rs):P rs:=by
 have:∀ k,k≤rs.length→P (rs.take k):=by
  intro k;induction k with
  | zero=>intro _;exact h0
  | succ k ih =>
   intro hk;have e:rs.take (k+1)=rs.take k++[rs[k]]:=by rw[List.take_succ_eq_append_getElem (by omega)]
   rw[e];exact hs _ _ (h.pre (List.take_prefix _ _)) (h k _ (List.getElem?_eq_getElem (by omega))) (ih (by omega))
 have:=this rs.length (Nat.le_refl _)
 rwa [List.take_length]at this
theorem Ao.prm{a:Acc}{b:Bal}(h:Ao a)(hb:Ad b)(hl:¬ b.lt a.p):Ao ⟨b,a.vs⟩:=by
 refine⟨.inl hb,fun v hv=>⟨(h.2.1 v hv).1,fun g=>?_⟩,h.2.2⟩;have h1:=(h.2.1 v hv).1.2.1;have h2:=(h.2.1 v hv).2;rw[Ny hb.pr h1.pr]at g
 rw[Ny h.1 h1.pr]at h2
 rw[Ny hb.pr h.1]at hl
 omega
theorem Ao.vot{a:Acc}{v:Vt}(h:Ao a)(hv:Aj v)(hl:¬ v.b.lt a.p):Ao ⟨v.b,Bf a.vs v⟩:=by
 refine⟨.inl hv.2.1,fun u hu=>?_,I2 v h.2.2⟩;rcases(D9 h.2.2).1 hu with rfl|⟨hu,_⟩
 ·refine⟨hv,fun g=>?_⟩;change u.b.lt u.b at g;unfold Bal.lt at g;omega
 ·exact(h.prm hv.2.1 hl).2.1 u hu
theorem Yy:Ao a0:=⟨.inr ⟨rfl,rfl⟩,fun v hv=>(List.not_mem_nil hv).elim,trivial⟩
theorem Rk.may{a:Acc}(h:Ao a){r:Rk}(he:Rk.err a r=0):Ao (Rk.ap a r):=by
 cases r with
 | pr b=>have:=Ge he;exact h.prm this.2.1 this.2.2
 | vt v=>have:=BK he;exact h.vot this.2.1 this.2.2
theorem Cb.acc{rs:List Rk}(h:Cb rs):Ao (E4 rs):=h.ind (P:=fun rs=>Ao (E4 rs)) Yy fun rs r _ he ih=>by rw[CY];exact Rk.may ih he.err
theorem KL{a b:Bal}(ha:AQ a)(hb:AQ b)(h:¬ a.lt b):b.key≤a.key:=by rw[Ny ha hb]at h;omega
theorem P6{rs:List Rk}(h:Cb rs):∀ v∈(E4 rs).vs,Rk.vt v∈rs:=h.ind (P:=fun rs=>∀ v∈(E4 rs).vs,Rk.vt v∈rs) (fun v hv=>by cases hv) fun rs r hk he ih v hv=>by
 rw[CY]at hv
 cases r with
 | pr b=>exact List.mem_append_left _ (ih v hv)
 | vt u =>
  rcases(D9 hk.acc.2.2).1 hv with rfl|⟨hv,_⟩
  ·exact List.mem_append_right _ List.mem_cons_self
  ·exact List.mem_append_left _ (ih v hv)
theorem Ao.le{a:Acc}(h:Ao a){v:Vt}(hv:v∈a.vs):v.b.key≤a.p.key:=KL h.1 (h.2.1 v hv).1.2.1.pr (h.2.1 v hv).2
def fl(rs:List Rk):List Int:=Ay (rs.map Rk.body)
theorem YW(rs:List Rk)(r:Rk):fl (rs++[r])=fl rs++AG r.body:=by unfold fl;rw[List.map_append,BY];simp[Ay]
theorem VY(rs qs:List Rk):fl (rs++qs)=fl rs++fl qs:=by unfold fl;rw[List.map_append,BY]
theorem VZ{rs qs:List Rk}(h:rs <+: qs):(fl rs).length≤(fl qs).length:=by obtain⟨x,rfl⟩:=h;rw[VY,List.length_append];omega
theorem Cb.chn{rs:List Rk}(h:Cb rs):Chn ((List.range (rs.length+1)).map fun j=>E4 (rs.take j)) (rs.map Rk.body):=by
 refine⟨by simp,by simp[E4],fun i b a c hb ha hc=>?_⟩;simp only[List.getElem?_map,Option.map_eq_some_iff]at hb ha hc;obtain⟨r,hr,rfl⟩:=hb;obtain⟨j,hj,rfl⟩:=ha;obtain⟨k,hk,rfl⟩:=hc;have hi:=(List.getElem?_eq_some_iff.1 hr).1;rw[List.getElem?_range (by omega)]at hj hk
 cases hj;cases hk;have he:=(h i r hr).err;have hq:rs[i]=r:=by rw[List.getElem?_eq_getElem hi]at hr;exact Option.some.inj hr
 rw[List.take_succ_eq_append_getElem hi,CY,hq];generalize E4 (rs.take i)=a at he ⊢;cases r with
 | pr b=>show Dj a (Bk b)=_;rw[VL a (Ge he).2.1];exact if_pos he
 | vt v=>show Dj a (Ba v)=_;rw[VM a (BK he).2.1];exact if_pos he
structure TpU(p:Nod)(dr rs:List Rk):Prop where
 ok:Cb rs
 pre:dr <+: rs
 d:p.d=fl rs
 sy:p.sy=((fl dr).length:Int)
 vo:p.vo=E4 rs
 len:p.d.length≤100000
structure TpD(p:Nod)(dr:List Rk):Prop where
 ok:Cb dr
 rcv:DO p.d=((fl dr).length,E4 dr)
 tk:p.d.take (fl dr).length=fl dr
 sy:p.sy=(p.d.length:Int)
 len:p.d.length≤100000
theorem TpU.tap{p:Nod}{dr rs:List Rk}(h:TpU p dr rs):AY p.d p.sy:=by
 have:=VZ h.pre;have:=h.d;refine⟨h.len,by rw[h.sy];omega,?_⟩;rw[h.sy,h.d];omega
theorem TpU.zero:TpU CR [] []:=⟨Cb.nil,List.prefix_refl _,rfl,rfl,rfl,by decide⟩
theorem TpU.crash{p:Nod}{dr rs:List Rk}(h:TpU p dr rs){k:Int}(hk:0≤k):∃ dr',dr <+: dr'∧dr' <+: rs∧TpD (p.crash k) dr':=by
 have hT:=h.tap;have hc:Gk p.d p.sy k=0:=by unfold Gk;rw[if_neg (fun e=>e hT),if_neg (by omega)]
 have hT':=hT;unfold AY at hT';have hN:p.sy≤Fw p.d p.sy k∧Fw p.d p.sy k≤(p.d.length:Int):=by unfold Fw;split<;>omega
 obtain⟨j,a,h1,h2,h3,h4,h5⟩:=h.ok.chn.torn (Fw p.d p.sy k).toNat;rw[List.length_map]at h1 h5
 rw[List.getElem?_map,List.getElem?_range (by omega)]at h2
 obtain rfl:E4 (rs.take j)=a:=by simpa using h2
 have hfj:Ay ((rs.map Rk.body).take j)=fl (rs.take j):=by unfold fl;rw[List.map_take]
 rw[hfj]at h3 h4
 have hd:(p.crash k).d=(fl rs).take (Fw p.d p.sy k).toNat:=by
  unfold Nod.crash;rw[if_neg (fun e=>e hc)];show Jz p.d p.sy k=_;unfold Jz;rw[if_pos hc,h.d]
 have hs:(p.crash k).sy=Fw p.d p.sy k:=by
  unfold Nod.crash;rw[if_neg (fun e=>e hc)];show J0 p.d p.sy k=_;unfold J0;rw[if_pos hc]
 have hl:((fl rs).take (Fw p.d p.sy k).toNat).length=(Fw p.d p.sy k).toNat:=by rw[List.length_take,← h.d];omega
 refine⟨rs.take j,?_,List.take_prefix _ _,h.ok.pre (List.take_prefix _ _),by rw[hd];exact h3,?_,?_,?_⟩
 ·obtain⟨x,hx⟩:=h.pre;rcases Nat.lt_or_ge j dr.length with g|g
  ·exfalso;rcases h5 with h5|h5
   ·rw[← hx,List.length_append]at h5;omega
   ·have hp:rs.take (j+1) <+: dr:=by rw[← hx,List.take_append_of_le_length (by omega)];exact List.take_prefix _ _
    have:=VZ hp;rw[show Ay ((rs.map Rk.body).take (j+1))=fl (rs.take (j+1))by unfold fl;rw[List.map_take]]at h5
    have:=h.sy;omega
  ·rw[← hx,List.take_append];rw[List.take_of_length_le g];exact List.prefix_append _ _
 ·rw[hd,List.take_take,Nat.min_eq_left h4];have e:fl rs=fl (rs.take j)++fl (rs.drop j):=by rw[← VY,List.take_append_drop]
  rw[show(fl rs).take (fl (rs.take j)).length=(fl (rs.take j)++fl (rs.drop j)).take (fl (rs.take j)).length by rw[← e],List.take_append_of_le_length (Nat.le_refl _),List.take_length]
 ·rw[hs,hd,hl];omega
 ·rw[hd,hl];have:=h.len;omega
theorem TpD.start{p:Nod}{dr:List Rk}(h:TpD p dr):TpU p.start dr dr:=by
 have hT:AY p.d p.sy:=⟨h.len,by rw[h.sy];omega,by rw[h.sy];omega⟩;have e0:CN p.d p.sy=0:=if_pos hT;have e1:LW p.d p.sy=((fl dr).length:Int):=by unfold LW;rw[if_pos hT,h.rcv]
 have e2:FE p.d p.sy=E4 dr:=by unfold FE;rw[if_pos hT,h.rcv]
 have hle:=SJ p.d;rw[h.rcv]at hle
 have hle:(fl dr).length≤p.d.length:=hle;have hlen:=h.len;unfold Nod.start;rw[if_neg (fun e=>e e0),e1,e2];split
 ·rename_i hlt
  have e3:IA p.d p.sy=fl dr:=by unfold IA;rw[if_pos hT,h.rcv];exact h.tk
  have e4:Lb p.d p.sy=((fl dr).length:Int):=by unfold Lb;rw[if_pos hT,h.rcv];exact if_pos (by rw[h.sy];exact hlt)
  exact⟨h.ok,List.prefix_refl _,e3,e4,rfl,by show(IA p.d p.sy).length≤_;rw[e3];omega⟩
 ·rename_i hge
  have e3:p.d=fl dr:=by have:=h.tk;rwa [List.take_of_length_le (by omega)]at this
  exact⟨h.ok,List.prefix_refl _,e3,by show p.sy=_;rw[h.sy,← e3],rfl,hlen⟩
theorem TpU.syn{p:Nod}{dr rs:List Rk}(h:TpU p dr rs):TpU { p with sy:=(p.d.length:Int) } rs rs:=⟨h.ok,List.prefix_refl _,h.d,by show(p.d.length:Int)=_;rw[h.d],h.vo,h.len⟩
def Nod.tv(p:Nod)(d:List Int)(s:Int)(a:Acc):Nod:={ p with d:=d,sy:=s,vo:=a }
theorem TpU.write{p:Nod}{dr rs:List Rk}(h:TpU p dr rs){r:Rk}(he:Rk.ok p.vo r)(hl:p.d.length+(r.body.length+5)≤100000):TpU (p.tv (p.d++AG r.body) p.sy (Rk.ap p.vo r)) dr (rs++[r]):=by
 rw[h.vo]at he
 refine⟨h.ok.snoc he,h.pre.trans (List.prefix_append _ _),?_,h.sy,?_,?_⟩
 ·show p.d++_=_;rw[h.d,YW]
 ·show Rk.ap p.vo r=_;rw[h.vo,CY]
 ·show(p.d++AG r.body).length≤_;rw[List.length_append,Bb];omega
theorem TpU.promise{p:Nod}{dr rs:List Rk}(h:TpU p dr rs)(b:Bal):((p.promise b).2.2≠0∧(p.promise b).1=p) ∨
  ((p.promise b).2.2=0∧BG p.vo b=0∧(p.promise b).2.1=p.vo.vs∧∃ rs',rs <+: rs'∧TpU (p.promise b).1 dr rs'∧(∀ v,Rk.vt v∈rs'↔Rk.vt v∈rs)∧(E4 rs').p=b∧(E4 rs').vs=p.vo.vs∧∃ d a,(p.promise b).1=p.tv d p.sy a):=by
 unfold Nod.promise;split
 ·rename_i h1;exact .inl ⟨h1,rfl⟩
 ·rename_i h1
  have h1:=Decidable.not_not.1 h1;split
  ·rename_i h2
   refine .inr ⟨rfl,h1,rfl,rs,List.prefix_refl _,?_,fun _=>Iff.rfl,?_,?_,p.d,p.vo,?_⟩
   ·rw[h2];exact h
   ·rw[← h.vo];exact h2.symm
   ·rw[← h.vo]
   ·rw[h2];rfl
  ·rename_i h2
   split
   ·rename_i h3;exact .inl ⟨h3,rfl⟩
   ·rename_i h3
    have h3:=Decidable.not_not.1 h3;have hw:=IP h3;have e1:Fd p.d p.sy (Ad b) (Bk b)=p.d++AG (Bk b):=if_pos h3;have e2:FS p.d p.sy (Ad b) (Bk b)=p.sy:=if_pos h3;rw[e1,e2];refine .inr ⟨rfl,h1,rfl,rs++[Rk.pr b],List.prefix_append _ _,(h.write (r:=.pr b) ⟨h1,fun e=>h2 e.symm⟩ hw.2.1),fun v=>by simp,?_,?_,_,_,rfl⟩
    ·rw[CY];rfl
    ·rw[CY,h.vo];rfl
theorem TH{l:List Vt}(h:BA l){v:Vt}(hv:v∈l):Bf l v=l:=by
 induction l with
 | nil=>cases hv
 | cons u us ih =>
  rw[Bf];rcases List.mem_cons.1 hv with rfl|hv
  ·rw[if_neg (Int.lt_irrefl _),if_pos rfl]
  ·rw[if_pos (h.1 v hv),ih h.2 hv]
theorem TpU.vote{p:Nod}{dr rs:List Rk}(h:TpU p dr rs)(v:Vt):((p.vote v).2≠0∧(p.vote v).1=p) ∨
  ((p.vote v).2=0∧AT p.vo v=0∧∃ rs',rs <+: rs'∧TpU (p.vote v).1 dr rs'∧(∀ u,Rk.vt u∈rs'↔u=v∨Rk.vt u∈rs)∧(E4 rs').p=v.b∧∃ d a,(p.vote v).1=p.tv d p.sy a):=by
 unfold Nod.vote;split
 ·rename_i h1;exact .inl ⟨h1,rfl⟩
 ·rename_i h1
  have h1:=Decidable.not_not.1 h1;have hz:=BK h1;split
  ·rename_i h2
   have hle:=hz.1.le h2;have hge:=KL hz.2.1.2.1.pr hz.1.1 hz.2.2;have e:v.b=p.vo.p:=Zn hz.2.1.2.1.pr hz.1.1 (by omega);have e2:(⟨v.b,Bf p.vo.vs v⟩:Acc)=p.vo:=by rw[TH hz.1.2.2 h2,e]
   rw[e2];refine .inr ⟨rfl,h1,rs,List.prefix_refl _,h,fun u=>⟨.inr,fun hu=>?_⟩,by rw[← h.vo];exact e.symm,p.d,p.vo,rfl⟩;rcases hu with rfl|hu
   ·exact P6 h.ok u (by rw[← h.vo];exact h2)
   ·exact hu
  ·rename_i h2
   split
   ·rename_i h3;exact .inl ⟨h3,rfl⟩
   ·rename_i h3
    have h3:=Decidable.not_not.1 h3;have hw:=IP h3;have e1:Fd p.d p.sy (Aj v) (Ba v)=p.d++AG (Ba v):=if_pos h3;have e2:FS p.d p.sy (Aj v) (Ba v)=p.sy:=if_pos h3;rw[e1,e2];refine .inr ⟨rfl,h1,rs++[Rk.vt v],List.prefix_append _ _,h.write (r:=.vt v) ⟨h1,h2⟩ hw.2.1,fun u=>?_,by rw[CY];rfl,_,_,rfl⟩;rw[List.mem_append,List.mem_singleton];exact⟨fun g=>g.elim .inr fun e=>.inl (Rk.vt.inj e),fun g=>g.elim (fun e=>.inr (by rw[e])) .inl⟩
def Nod.ub(p:Nod):Bool × Nat:=(p.up,p.bad)
theorem KU(p:Nod)(b:Bal):(p.promise b).1.ub=p.ub:=by
 unfold Nod.promise;split
 ·rfl
 ·split
  ·rfl
  ·split<;>rfl
theorem Ta(p:Nod)(v:Vt):(p.vote v).1.ub=p.ub:=by
 unfold Nod.vote;split
 ·rfl
 ·split
  ·rfl
  ·split<;>rfl
theorem O7(p:Nod)(j:Nat)(v:Vt):(p.count j v).ub=p.ub:=by
 unfold Nod.count;split
 ·rfl
 ·split<;>rfl
theorem MM(p:Nod)(to:Nat)(e:Int):(p.refuse to e).ub=p.ub:=by unfold Nod.refuse;split<;>rfl
theorem Ks(p:Nod)(l:List Cmd):(p.enqueue l).ub=p.ub:=by unfold Nod.enqueue;split<;>rfl
theorem aJ(p:Nod)(l:Let):(p.take l).ub=p.ub:=by
 unfold Nod.take;split
 ·split
  ·exact MM _ _ _
  ·exact KU p l.bal
 ·simp only;split<;>rfl
 ·rfl
 ·split
  ·exact MM _ _ _
  ·exact Ta p l.vote
 ·exact O7 p _ _
 ·split<;>rfl
 ·simp only;split<;>exact Ks p l.what
 ·rfl
theorem al(p:Nod)(i:Nat)(q:Pend):(p.runP i q).ub=p.ub:=by
 cases q with
 | began b vs=>unfold Nod.runP;simp only;split<;>rfl
 | prop v=>exact O7 p i v
 | _=>rfl
theorem VJ(i:Nat)(l:List Pend)(p:Nod)(ls:List Let):(doneP i l p ls).1.ub=p.ub:=by
 induction l generalizing p ls with
 | nil=>rfl
 | cons q l ih=>exact(ih _ _).trans (al p i q)
theorem US(p:Nod)(c:Cmd):(p.unwant c).ub=p.ub:=by unfold Nod.unwant;split<;>rfl
theorem cW(i:Nat)(l:List Cmd)(p:Nod)(ts:List Tol):(doP i l p ts).1.ub=p.ub:=by
 induction l generalizing p ts with
 | nil=>rfl
 | cons c l ih =>
  rw[doP];split
  ·rfl
  ·exact(ih _ _).trans (US _ _)
theorem Y8(p:Nod)(i:Nat):(p.askd i).1.ub=p.ub:=by
 unfold Nod.askd;split
 ·rfl
 ·split
  ·exact Ks _ _
  ·rfl
theorem R4(p:Nod):p.propose.ub=p.ub:=by
 unfold Nod.propose;split
 ·rfl
 ·split
  ·rfl
  ·split
   ·rfl
   ·exact Ta p _
theorem XU(p:Nod)(i:Nat)(ls:List Let):(p.syncd i ls).1.ub=p.ub:=by
 unfold Nod.syncd;split
 ·rfl
 ·rw[VJ];unfold Nod.syn;split<;>rfl
theorem UN(p:Nod)(i:Nat)(ls:List Let):(p.taught i ls).1.ub=p.ub:=by unfold Nod.taught;split<;>rfl
theorem Xo(p:Nod)(i:Nat)(ls:List Let)(ts:List Tol):(p.piece i ls ts).1.ub=p.ub:=by
 unfold Nod.piece;simp only;rw[UN,XU,R4,Y8,cW]
theorem Zt(p:Nod)(i:Nat):(p.lead i).ub=p.ub:=by
 unfold Nod.lead;simp only;split
 ·rfl
 ·exact KU p _
theorem Sg(M:Meet)(l:Let)(j:Nat):((M.come l).node j).ub=(M.node j).ub:=by
 unfold Meet.come;split
 ·show(upN M.node l.dst _ j).ub=_;unfold upN;split
  ·rename_i h;rw[h];exact aJ _ _
  ·rfl
 ·rfl
theorem V5(l:List Let)(M:Meet)(j:Nat):((l.foldl (fun M l=>M.come l) M).node j).ub=(M.node j).ub:=by
 induction l generalizing M with
 | nil=>rfl
 | cons x l ih=>exact(ih _).trans (Sg M x j)
theorem Zz(M:Meet)(k:Int)(a:Nat)(j:Nat):((M.move k a).node j).ub=(M.node j).ub:=by
 unfold Meet.move;split
 ·rfl
 ·simp only;split
  ·rw[Sg];split<;>rfl
  ·split<;>rfl
theorem Ic(M:Meet)(i:Nat)(p:Nod)(ls:List Let)(ts:List Tol)(j:Nat):(M.set i p ls ts).node j=if j=i then p else M.node j:=rfl
theorem cm(M:Meet){x:Lac}(h1:x.k≠1)(h8:x.k≠8)(h9:x.k≠9)(j:Nat):((M.act x).node j).ub=(M.node j).ub:=by
 unfold Meet.act;simp only;rw[if_neg h1];by_cases h2:x.k=2
 ·rw[if_pos h2,Ic];split
  ·rename_i e
   rw[e];split
   ·exact Zt _ _
   ·rfl
  ·rfl
 ·rw[if_neg h2];by_cases h3:x.k=3
  ·rw[if_pos h3,Ic];split
   ·rename_i e
    rw[e];split
    ·exact Xo _ _ _ _
    ·rfl
   ·rfl
  ·rw[if_neg h3];by_cases h4:x.k=4∨x.k=5∨x.k=6
   ·rw[if_pos h4];exact Zz _ _ _ _
   ·rw[if_neg h4];by_cases h7:x.k=7
    ·rw[if_pos h7];exact V5 _ _ _
    ·rw[if_neg h7,if_neg h8,if_neg h9]
theorem ew(M:Meet){x:Lac}(h1:x.k=1)(j:Nat):((M.act x).node j).ub=if j=x.n.toNat∧(M.node j).up=true∧opE x.d ((M.node j).done:Int)≠0 then((M.node j).up,(M.node j).bad+1)else(M.node j).ub:=by
 unfold Meet.act;simp only;rw[if_pos h1,Ic];by_cases hj:j=x.n.toNat
 ·subst hj;rw[if_pos rfl];unfold Nod.subm Nod.sub0;by_cases hu:(M.node x.n.toNat).up=false
  ·rw[if_pos hu,if_neg (by rw[hu];simp)]
  ·rw[if_neg hu];have hu':(M.node x.n.toNat).up=true:=by simpa using hu
   by_cases he:opE x.d ((M.node x.n.toNat).done:Int)≠0
   ·rw[if_pos he,if_pos ⟨rfl,hu',he⟩];rfl
   ·rw[if_neg he,if_neg (c:=_∧_) (fun e=>he e.2.2)];split
    ·rfl
    ·show(Nod.want _ _).ub=_;unfold Nod.want;split<;>rfl
 ·rw[if_neg hj,if_neg (fun e=>hj e.1)]
theorem Tk(M:Meet)(L:List Lac)(x:Lac):M.acts (L++[x])=(M.acts L).act x:=by unfold Meet.acts;rw[List.foldl_append];rfl
theorem YX(g:Gr)(cr:Bool):LacOk (OI g cr):=by
 have h1:=AW g.a 5 (by omega);have h2:=AW g.c 20 (by omega);have h3:=AW g.c 90 (by omega);have hl:(pkB g).length≤63:=by
  have:(pkP g).length=63:=KP (Xp g);unfold pkB;split
  ·rw[List.length_take];omega
  ·omega
 rw[← Hq];unfold OI acN
 repeat' split
 all_goals simp[Zr,Fp,Ha,Hb];try omega
theorem XB{P:Lac→Prop}(h7:P (acN 7 0)){cr:Bool}(hg:∀ g,P (OI g cr))(s:Nat)(l:List Gr):∀ x∈NR cr s l,P x:=by
 induction l generalizing s with
 | nil=>intro x hx;cases hx
 | cons g l ih =>
  intro x hx;rcases List.mem_cons.1 hx with rfl|hx
  ·unfold XA;split
   ·exact h7
   ·exact hg g
  ·exact ih _ x hx
theorem ei(l:List Gr)(m:Nat)(cr:Bool):∀ x∈scr l m cr,LacOk x:=XB (by rw[← Hq];decide) (fun g=>YX g cr) _ _
theorem XC(cr:Bool)(s:Nat)(l:List Gr):(NR cr s l).length=l.length:=by
 induction l generalizing s with
 | nil=>rfl
 | cons g l ih=>rw[NR,List.length_cons,ih,List.length_cons]
theorem aw(l:List Gr)(m:Nat)(cr:Bool):(scr l m cr).length≤m:=by unfold scr;rw[XC,List.length_take];omega
def Nod.tp(p:Nod):Prop:=AY p.d p.sy
theorem Tf{d:List Int}{s:Int}{may:Prop}[Decidable may] {b:List Int} (h:CD d s may b=0):AY (Fd d s may b) (FS d s may b):=by
 obtain⟨h1,h2,_⟩:=IP h;unfold Fd FS;rw[if_pos h,if_pos h];unfold AY at *;rw[List.length_append,Bb];omega
theorem KT{p:Nod}(h:p.tp)(b:Bal):(p.promise b).1.tp:=by
 unfold Nod.promise;split
 ·exact h
 ·split
  ·exact h
  ·split
   ·exact h
   ·rename_i hw;exact Tf (Decidable.not_not.1 hw)
theorem SZ{p:Nod}(h:p.tp)(v:Vt):(p.vote v).1.tp:=by
 unfold Nod.vote;split
 ·exact h
 ·split
  ·exact h
  ·split
   ·exact h
   ·rename_i hw;exact Tf (Decidable.not_not.1 hw)
theorem ML{p:Nod}(h:p.tp)(to:Nat)(e:Int):(p.refuse to e).tp:=by unfold Nod.refuse;split<;>exact h
theorem V6{p:Nod}(h:p.tp)(j:Nat)(v:Vt):(p.count j v).tp:=by
 unfold Nod.count;split
 ·exact h
 ·split<;>exact h
theorem Q5{p:Nod}(h:p.tp)(l:List Cmd):(p.enqueue l).tp:=by unfold Nod.enqueue;split<;>exact h
theorem O8{p:Nod}(h:p.tp){k:Int}(hk:0≤k):(p.crash k).tp∧(p.crash k).up=false∧(p.crash k).done=0∧(p.crash k).agreed=[]:=by
 have he:Gk p.d p.sy k=0:=by unfold Gk;rw[if_neg (fun e=>e h),if_neg (by omega)]
 unfold Nod.crash;rw[if_neg (fun e=>e he)];refine⟨?_,rfl,rfl,rfl⟩;show AY (Jz p.d p.sy k) (J0 p.d p.sy k);unfold Jz J0;rw[if_pos he,if_pos he];unfold Nod.tp AY at h;have hc:0≤Fw p.d p.sy k∧Fw p.d p.sy k≤(p.d.length:Int):=by unfold Fw;split<;>omega
 unfold AY;rw[List.length_take];omega
theorem Lj{p:Nod}(h:p.tp):p.start.tp∧p.start.up=true∧p.start.done=0∧p.start.agreed=[]:=by
 have he:CN p.d p.sy=0:=if_pos h;have hl:=Ww p.d p.d.length;unfold Nod.start;rw[if_neg (fun e=>e he)];split
 ·refine⟨?_,rfl,rfl,rfl⟩;show AY (IA p.d p.sy) (Lb p.d p.sy);unfold IA Lb;have h':AY p.d p.sy:=h;rw[if_pos h',if_pos h'];unfold Nod.tp AY at h;unfold AY;rw[List.length_take];unfold DO;split<;>omega
 ·exact⟨h,rfl,rfl,rfl⟩
theorem eE(A:Alw)(i:Nat):NInv A i (fun _=>True) (fun _=>True) Nod.tp where
 take:=fun _ p l h _ _ _=>by
  unfold Nod.take;split
  ·split
   ·exact ML h _ _
   ·exact KT h l.bal
  ·simp only;split<;>exact h
  ·exact h
  ·split
   ·exact ML h _ _
   ·exact SZ h l.vote
  ·exact V6 h _ _
  ·split<;>exact h
  ·simp only;split<;>exact Q5 h l.what
  ·exact h
 one:=fun p c h _ _ _=>by unfold Nod.unwant;split<;>exact h
 ask:=fun p h _=>⟨by
  unfold Nod.askd;split
  ·exact h
  ·split
   ·unfold Nod.enqueue;split<;>exact h
   ·exact h,fun _ _=>trivial⟩
 prop:=fun p h _=>by
  unfold Nod.propose;split
  ·exact h
  ·split
   ·exact h
   ·split
    ·exact h
    ·exact SZ h _
 syn:=fun p h _=>by
  unfold Nod.syn;split
  ·show AY (GX p.d p.sy) (Ig p.d p.sy);unfold GX Ig;have h':AY p.d p.sy:=h;rw[if_pos h',if_pos h'];unfold Nod.tp AY at h;unfold AY;omega
  ·exact h
 run:=fun p q l h _ _ _=>⟨by
  have hk:=Gf p i q;show AY (p.runP i q).d (p.runP i q).sy;rw[hk.2.2.1,hk.2.2.2];exact h,fun _ _=>trivial⟩
 teach:=fun p h _ _=>⟨h,fun _ _=>trivial⟩
 lead:=fun _ p h _=>by
  unfold Nod.lead;simp only;split
  ·exact h
  ·exact KT h _
 sub:=fun p d ts h _ _=>by
  unfold Nod.subm Nod.sub0;split
  ·exact h
  ·split
   ·exact h
   ·split
    ·exact h
    ·show(Nod.want _ _).tp;unfold Nod.want;split<;>exact h
 crash:=fun _ p k h hk _=>(O8 h hk).1
 start:=fun _ p h _=>(Lj h).1
def eV:Alw:=⟨true,true,true,true⟩
theorem Y4(x:Lac):eV.Ok x:=⟨fun _=>rfl,fun _=>rfl,fun _=>rfl,fun _=>rfl⟩
theorem Y1(L:List Lac)(h:∀ x∈L,LacOk x)(hl:L.length≤100000){i:Nat}(hi:i<5):((BS.acts L).node i).tp :=
 (GInv.acts (R:=fun _=>True) (D:=fun _ _=>True) (Q:=fun _=>True) (P:=fun _=>Nod.tp) (fun i _=>eE eV i) (fun i _=>TInv.all i _ _) L MOk.zero (by omega) ⟨fun _ _=>(by show AY [] 0;decide),fun _ _=>trivial⟩ trivial fun x hx=>⟨h x hx,Y4 x,fun _=>trivial⟩).1.node i hi
theorem Tj(M:Meet){i:Nat}(hi:i<5)(ht:(M.node i).tp)(j:Nat):((M.act (acN 9 (i:Int))).node j).up=if j=i then true else(M.node j).up:=by
 show(upN M.node (i:Int).toNat _ j).up=_;unfold upN;rw[Int.toNat_natCast];split
 ·split
  ·assumption
  ·exact(Lj ht).2.1
 ·rfl
theorem co(M:Meet){x:Lac}(h8:x.k≠8){j:Nat}(hu:(M.node j).up=true):((M.act x).node j).up=true:=by
 by_cases h1:x.k=1
 ·have:=congrArg Prod.fst (ew M h1 j);split at this
  ·exact this.trans hu
  ·exact this.trans hu
 ·by_cases h9:x.k=9
  ·unfold Meet.act;simp only;rw[if_neg h1,if_neg (by omega),if_neg (by omega),if_neg (by omega),if_neg (by omega),if_neg (by omega),if_pos h9,Ic];split
   ·rename_i e;rw[← e,if_pos hu];exact hu
   ·exact hu
  ·exact(congrArg Prod.fst (cm M h1 h8 h9 j)).trans hu
theorem Y2(L:List Lac)(h8:∀ x∈L,x.k≠8)(M:Meet){j:Nat}(hu:(M.node j).up=true):((M.acts L).node j).up=true:=by
 induction L generalizing M with
 | nil=>exact hu
 | cons x L ih=>exact ih (fun y hy=>h8 y (List.mem_cons_of_mem _ hy)) _ (co M (h8 x List.mem_cons_self) hu)
theorem Vf(M:Meet)(L K:List Lac):M.acts (L++K)=(M.acts L).acts K:=List.foldl_append
theorem G9{k n:Int}(h:(k=2∨k=3∨k=9)∧0≤n∧n≤4):LacOk (acN k n):=by
 rw[← Hq];rcases h with⟨rfl|rfl|rfl,h1,h2⟩<;>simp[Zr,acN,Fp,Ha,Hb]<;>omega
theorem KB{P:Lac→Prop}{k:Int}(h:∀ n:Nat,n<5→P (acN k (n:Int))){j:Nat}(hj:j≤5):∀ x∈Ej k j,P x:=by
 intro x hx;obtain⟨n,hn,rfl⟩:=List.mem_map.1 hx;exact h n (by have:=List.mem_range.1 hn;omega)
theorem Ku{P:Lac→Prop}(h3:∀ n:Nat,n<5→P (acN 3 (n:Int)))(h7:P (acN 7 0))(m:Nat):∀ x∈Ci m,P x:=by
 induction m with
 | zero=>intro x hx;cases hx
 | succ m ih =>
  intro x hx;rcases List.mem_append.1 hx with h|h
  ·exact ih x h
  ·rcases List.mem_append.1 h with h|h
   ·exact KB h3 (Nat.le_refl _) x h
   ·rw[List.mem_singleton.1 h];exact h7
theorem P5{P:Lac→Prop}(h9:∀ n:Nat,n<5→P (acN 9 (n:Int)))(h3:∀ n:Nat,n<5→P (acN 3 (n:Int)))(h7:P (acN 7 0))(m:Nat):∀ x∈CM m,P x:=by
 intro x hx;rcases List.mem_append.1 hx with h|h
 ·exact KB h9 (Nat.le_refl _) x h
 ·exact Ku h3 h7 m x h
theorem eb(L:List Lac)(h:∀ x∈L,LacOk x)(m:Nat)(hl:L.length+6*m+5≤100000){j:Nat}(hj:j<5):((BS.acts (L++CM m)).node j).up=true:=by
 unfold CM;rw[← List.append_assoc,Vf];refine Y2 _ (Ku (fun _ _=>by show(3:Int)≠8;decide) (by decide) m) _ ?_;have hs:∀ k,k≤5→j<k→((BS.acts (L++Ej 9 k)).node j).up=true:=by
  intro k;induction k with
  | zero=>intro _ h;omega
  | succ k ih =>
   intro hk hjk;have hok:∀ x∈L++Ej 9 k,LacOk x:=fun x hx=>(List.mem_append.1 hx).elim (h x) fun e=>KB (fun n hn=>G9 ⟨.inr (.inr rfl),by omega,by omega⟩) (by omega) x e;have ht:=Y1 (L++Ej 9 k) hok (by rw[List.length_append,W9];omega) (i:=k) (by omega);rw[I4,← List.append_assoc,Tk,Tj _ (by omega) ht];split
   ·rfl
   ·exact ih (by omega) (by omega)
 exact hs 5 (Nat.le_refl _) hj
section
variable{S:Cmd→Prop}
def VsS(S:Cmd→Prop)(l:List Vt):Prop:=∀ v∈l,S v.w
def RsS(S:Cmd→Prop)(rs:List Rk):Prop:=∀ v,Rk.vt v∈rs→S v.w
def PnS(S:Cmd→Prop):Pend→Prop
 | .began _ vs=>VsS S vs
 | .prom _ _ vs=>VsS S vs
 | .voted _ v=>S v.w
 | .prop v=>S v.w
 | _=>True
structure NdS(S:Cmd→Prop)(p:Nod):Prop where
 up:p.up=true→∃ dr rs,TpU p dr rs∧RsS S rs
 dn:p.up=false→∃ dr,TpD p dr∧RsS S dr
 ag:∀ c∈p.agreed,S c
 wa:∀ c∈p.wants,S c
 qu:∀ c∈p.rnd.queue,S c
 he:∀ j,j<5→VsS S (p.rnd.heard j).vs
 pe:∀ q∈p.pend,PnS S q
structure LtS(S:Cmd→Prop)(l:Let):Prop where
 vs:VsS S l.votes
 wh:∀ c∈l.what,S c
 vt:l.kind=3∨l.kind=4→S l.vote.w
theorem NdS.tape{p:Nod}(h:NdS S p){q:Nod}(hu:q.up=p.up)(hd:q.d=p.d)(hs:q.sy=p.sy)(hv:q.vo=p.vo)(ag:∀ c∈q.agreed,S c)(wa:∀ c∈q.wants,S c)(qu:∀ c∈q.rnd.queue,S c)(he:∀ j,j<5→VsS S (q.rnd.heard j).vs)(pe:∀ x∈q.pend,PnS S x):NdS S q :=
 ⟨fun e=>by
  obtain⟨dr,rs,k,g⟩:=h.up (hu▸e);exact⟨dr,rs,⟨k.ok,k.pre,hd.trans k.d,hs.trans k.sy,hv.trans k.vo,by rw[hd];exact k.len⟩,g⟩,fun e=>by
  obtain⟨dr,k,g⟩:=h.dn (hu▸e);exact⟨dr,⟨k.ok,by rw[hd];exact k.rcv,by rw[hd];exact k.tk,by rw[hs,hd];exact k.sy,by rw[hd];exact k.len⟩,g⟩,ag,wa,qu,he,pe⟩
theorem NdS.wait{p:Nod}(h:NdS S p){x:Pend}(hx:PnS S x):NdS S (p.wait x) :=
 h.tape rfl rfl rfl rfl h.ag h.wa h.qu h.he fun y hy=>(List.mem_append.1 hy).elim (h.pe y) fun e=>by rw[List.mem_singleton.1 e];exact hx
theorem NdS.refuse{p:Nod}(h:NdS S p)(to:Nat)(e:Int):NdS S (p.refuse to e):=by
 unfold Nod.refuse;split
 ·exact h.wait trivial
 ·exact h
theorem NdS.wrote{p q:Nod}(h:NdS S p){dr rs':List Rk}(ht:TpU q dr rs')(hr:RsS S rs')(hu:p.up=true){d:List Int}{a:Acc}(hq:q=p.tv d p.sy a)(ag:∀ c∈q.agreed,S c):NdS S q:=by
 subst hq;exact⟨fun _=>⟨dr,rs',ht,hr⟩,fun e=>(by rw[show(p.tv d p.sy a).up=p.up from rfl,hu]at e;cases e),h.ag,h.wa,h.qu,h.he,h.pe⟩
theorem bZ{r:Rnd}(h:∀ j,j<5→VsS S (r.heard j).vs){a:Acc}(ha:a∈r.accs):VsS S a.vs:=by
 unfold Rnd.accs at ha;simp only[List.mem_cons,List.not_mem_nil,or_false]at ha;rcases ha with rfl|rfl|rfl|rfl|rfl
 ·exact h 0 (by omega)
 ·exact h 1 (by omega)
 ·exact h 2 (by omega)
 ·exact h 3 (by omega)
 ·exact h 4 (by omega)
theorem Wb{r:Rnd}(h:∀ j,j<5→VsS S (r.heard j).vs){s:Int}{v:Vt}(hv:v∈Am (r.accs.map (·.vs)).flatten s):S v.w:=by
 obtain⟨l,h1,h2⟩:=List.mem_flatten.1 (Cu.1 hv).1;obtain⟨a,h3,rfl⟩:=List.mem_map.1 h1;exact bZ h h3 v h2
theorem cP{r:Rnd}(h:∀ j,j<5→VsS S (r.heard j).vs){s:Int}(he:CT r.accs s=0):S (Cl r.accs s):=by
 have hC:Cl r.accs s=((Hg (Fj r.accs s) r.accs.length).map (·.w)).getD ⟨0,0,0,0,0⟩:=if_pos he;unfold CT at he;split at he
 ·cases he
 ·split at he
  ·cases he
  ·split at he
   ·rename_i hO
    obtain⟨v,hv⟩:=Option.isSome_iff_exists.1 hO;rw[hC,hv];exact Wb h (List.mem_of_find?_eq_some hv)
   ·cases he
theorem dz{r:Rnd}(h:∀ j,j<5→VsS S (r.heard j).vs)(k:Nat){l:List Cmd}(hl:∀ c∈l,S c):∀ c∈KD k r l,S c:=by
 induction k generalizing l with
 | zero=>exact hl
 | succ k ih =>
  rw[KD];split
  ·rename_i he;exact ih fun c hc=>(List.mem_append.1 hc).elim (hl c) fun e=>by rw[List.mem_singleton.1 e];exact cP h he
  ·exact hl
theorem NdS.learnC{p:Nod}(h:NdS S p):NdS S p.learnC:=h.tape rfl rfl rfl rfl (dz h.he 41 h.ag) h.wa h.qu h.he h.pe
theorem Zf(a:Acc)(l:List Vt)(ha:VsS S a.vs)(hl:VsS S l):VsS S (Gw a l).vs:=by
 induction l generalizing a with
 | nil=>exact ha
 | cons u l ih =>
  rw[Gw];refine ih _ ?_ fun v hv=>hl v (List.mem_cons_of_mem _ hv);by_cases he:AT a u=0
  ·rw[if_pos he];intro v hv;have hv:v∈Dg a u:=hv;rw[(Lx he).2]at hv
   rcases(D9 (BK he).1.2.2).1 hv with rfl|⟨hv,_⟩
   ·exact hl v List.mem_cons_self
   ·exact ha v hv
  ·rw[if_neg he];exact ha
theorem Wp{r:Rnd}(h:∀ j,j<5→VsS S (r.heard j).vs)(j:Nat)(hj:j<5){vs:List Vt}(hv:VsS S vs):∀ k,k<5→VsS S ((r.hear j vs).heard k).vs:=fun k hk=>by
 show VsS S (upN r.heard j _ k).vs;unfold upN;split
 ·exact Zf ⟨r.bal,vs⟩ _ hv (h j hj)
 ·exact h k hk
theorem NdS.count{p:Nod}(h:NdS S p){j:Nat}(hj:j<5){v:Vt}(hv:S v.w):NdS S (p.count j v):=by
 unfold Nod.count;split
 ·exact h
 ·split
  ·exact h
  ·rename_i he
   have he:=Decidable.not_not.1 he;refine NdS.learnC (h.tape rfl rfl rfl rfl h.ag h.wa h.qu (fun k hk=>?_) h.pe);show VsS S (upN p.rnd.heard j _ k).vs;unfold upN;split
   ·intro u hu;have hu:u∈Dg (p.rnd.heard j) v:=hu;rw[(Lx he).2]at hu
    rcases(D9 (BK he).1.2.2).1 hu with rfl|⟨hu,_⟩
    ·exact hv
    ·exact h.he j hj u hu
   ·exact h.he k hk
theorem dc(q l:List Cmd)(hq:∀ c∈q,S c)(hl:∀ c∈l,S c):∀ c∈LJ q l,S c:=by
 induction l generalizing q with
 | nil=>exact hq
 | cons d l ih =>
  rw[LJ];refine ih _ ?_ fun c hc=>hl c (List.mem_cons_of_mem _ hc);split
  ·exact fun c hc=>(List.mem_append.1 hc).elim (hq c) fun e=>by rw[List.mem_singleton.1 e];exact hl d List.mem_cons_self
  ·exact hq
theorem NdS.enqueue{p:Nod}(h:NdS S p){l:List Cmd}(hl:∀ c∈l,S c):NdS S (p.enqueue l):=by
 unfold Nod.enqueue;split
 ·exact h.tape rfl rfl rfl rfl h.ag h.wa (dc _ _ h.qu hl) h.he h.pe
 ·exact h
theorem NdS.learn{p:Nod}(h:NdS S p)(slot:Nat){l:List Cmd}(hl:∀ c∈l,S c):NdS S (p.learn slot l) :=
 h.tape rfl rfl rfl rfl (fun c hc=>(List.mem_append.1 hc).elim (h.ag c) fun g=>hl c (List.mem_of_mem_drop g)) h.wa h.qu h.he h.pe
theorem TpU.vsS{p:Nod}{dr rs:List Rk}(h:TpU p dr rs)(hr:RsS S rs):VsS S p.vo.vs:=fun v hv=>hr v (P6 h.ok v (by rw[← h.vo];exact hv))
theorem NdS.take{p:Nod}(h:NdS S p)(hu:p.up=true){l:Let}(hl:LtS S l)(hs:l.src<5):NdS S (p.take l):=by
 obtain⟨dr,rs,k,hr⟩:=h.up hu;unfold Nod.take;split
 ·rcases k.promise l.bal with⟨e,he⟩|⟨e,he,hvs,rs',hp,ht,hm,hpb,hpv,d,a,hq⟩
  ·rw[if_pos e];exact h.refuse _ _
  ·rw[if_neg (fun g=>g e)];exact(h.wrote ht (fun v hv=>hr v ((hm v).1 hv)) hu hq (by rw[hq];exact h.ag)).wait (by show VsS S _;rw[hvs];exact k.vsS hr)
 ·have hL:=h.learn 0 hl.wh;generalize p.learn 0 l.what=K at hL ⊢;simp only;split
  ·exact hL
  ·exact NdS.learnC (hL.tape rfl rfl rfl rfl hL.ag hL.wa hL.qu (Wp hL.he _ hs hl.vs) hL.pe)
 ·exact h.tape rfl rfl rfl rfl h.ag h.wa h.qu h.he h.pe
 ·rename_i hk
  rcases k.vote l.vote with⟨e,he⟩|⟨e,he,rs',hp,ht,hm,hpb,d,a,hq⟩
  ·rw[if_pos e];exact h.refuse _ _
  ·rw[if_neg (fun g=>g e)];exact(h.wrote ht (fun v hv=>((hm v).1 hv).elim (fun e=>by rw[e];exact hl.vt (.inl hk)) (hr v)) hu hq (by rw[hq];exact h.ag)).wait (hl.vt (.inl hk))
 ·rename_i hk;exact h.count hs (hl.vt (.inr hk))
 ·split
  ·exact h.wait trivial
  ·exact h.learn _ hl.wh
 ·simp only;split
  ·exact(h.enqueue hl.wh).wait trivial
  ·exact h.enqueue hl.wh
 ·exact h
theorem ZE{p:Nod}(h:NdS S p){s:Nat}{c:Cmd}(hc:p.nextC s=some c):S c:=by
 unfold Nod.nextC at hc;split at hc
 ·cases hc
 ·rename_i hpe
  have hpe:=Decidable.not_not.1 hpe;split at hc
  ·rename_i hF
   have hC:Gz (p.rnd.accs.map (·.vs)) (s:Int)=((KQ (p.rnd.accs.map (·.vs)) (s:Int)).map (·.w)).getD ⟨0,0,0,0,0⟩:=if_pos hpe;have hF2:FB (p.rnd.accs.map (·.vs)) (s:Int)=(KQ (p.rnd.accs.map (·.vs)) (s:Int)).isSome:=if_pos hpe;rw[hF]at hF2
   obtain⟨x,hx⟩:=Option.isSome_iff_exists.1 hF2.symm;rw[hx]at hC
   rw[← Option.some.inj hc,hC];refine Wb h.he (s:=(s:Int)) ?_;have:∀ (l:List Vt) (o:Option Vt) (x:Vt),BQ l o=some x→x∈l∨o=some x:=by
    intro l;induction l with
    | nil=>intro o x e;exact .inr e
    | cons v l ih =>
     intro o x e;cases o with
     | none =>
      rw[BQ]at e
      rcases ih _ _ e with g|g
      ·exact .inl (List.mem_cons_of_mem _ g)
      ·left;cases g;exact List.mem_cons_self
     | some u =>
      rw[BQ]at e
      split at e
      ·rcases ih _ _ e with g|g
       ·exact .inl (List.mem_cons_of_mem _ g)
       ·left;cases g;exact List.mem_cons_self
      ·rcases ih _ _ e with g|g
       ·exact .inl (List.mem_cons_of_mem _ g)
       ·exact .inr g
   exact(this _ _ _ hx).resolve_right fun e=>by cases e
  ·exact h.qu c (List.mem_of_find?_eq_some hc)
theorem NdS.propose{p:Nod}(h:NdS S p)(hu:p.up=true):NdS S p.propose:=by
 obtain⟨dr,rs,k,hr⟩:=h.up hu;unfold Nod.propose;split
 ·exact h
 ·cases hn:p.nextC p.agreed.length with
  | none=>exact h
  | some c =>
   have hc:=ZE h hn;simp only;rcases k.vote ⟨(p.agreed.length:Int),p.rnd.bal,c⟩with⟨e,he⟩|⟨e,he,rs',hp,ht,hm,hpb,d,a,hq⟩
   ·rw[if_pos e];exact h
   ·rw[if_neg (fun g=>g e)];have g:=h.wrote ht (fun v hv=>((hm v).1 hv).elim (fun e=>by rw[e];exact hc) (hr v)) hu hq (by rw[hq];exact h.ag);exact NdS.wait (p:={ (p.vote ⟨(p.agreed.length:Int),p.rnd.bal,c⟩).1 with rnd:={ p.rnd with next:=p.agreed.length+1 } }) (g.tape rfl rfl rfl rfl g.ag g.wa h.qu h.he g.pe) hc
theorem NdS.run{i:Nat}(hi:i<5){p:Nod}(h:NdS S p){q:Pend}{l:List Pend}(hp:p.pend=q::l):NdS S { p.runP i q with pend:=l }∧∀ m∈p.sentP i q,LtS S m:=by
 have hpq:=h.pe q (by rw[hp];exact List.mem_cons_self);have hk:∀ {p':Nod},NdS S p'→p'.pend=p.pend→NdS S { p' with pend:=l }:=fun{p'} g e=>g.tape rfl rfl rfl rfl g.ag g.wa g.qu g.he fun x hx=>g.pe x (by rw[e,hp];exact List.mem_cons_of_mem _ hx);have none:∀ c∈([]:List Cmd),S c:=fun c hc=>by cases hc
 have noneV:VsS S []:=fun c hc=>by cases hc
 cases q with
 | began b vs =>
  unfold Nod.runP Nod.sentP;simp only;split
  ·exact⟨hk h rfl,fun m hm=>(by cases hm)⟩
  ·refine⟨hk (p':={ p with rnd:=p.rnd.hear i vs }) (h.tape rfl rfl rfl rfl h.ag h.wa h.qu (Wp h.he i hi hpq) h.pe) rfl,fun m hm=>?_⟩;obtain⟨to,_,rfl⟩:=D2 hm;exact⟨noneV,none,fun e=>e.elim (fun g=>by cases g) fun g=>(by cases g)⟩
 | prom to b vs=>exact⟨hk h rfl,fun m hm=>by rw[List.mem_singleton.1 hm];exact⟨hpq,h.ag,fun e=>e.elim (fun g=>by cases g) fun g=>(by cases g)⟩⟩
 | voted to v=>exact⟨hk h rfl,fun m hm=>by rw[List.mem_singleton.1 hm];exact⟨noneV,none,fun _=>hpq⟩⟩
 | refuse to b=>exact⟨hk h rfl,fun m hm=>by rw[List.mem_singleton.1 hm];exact⟨noneV,none,fun e=>e.elim (fun g=>by cases g) fun g=>(by cases g)⟩⟩
 | prop v =>
  refine⟨hk (h.count hi hpq) (Gf p i (.prop v)).1,fun m hm=>?_⟩;obtain⟨to,_,rfl⟩:=D2 hm;exact⟨noneV,none,fun _=>hpq⟩
 | askNews to=>exact⟨hk h rfl,fun m hm=>by rw[List.mem_singleton.1 hm];exact⟨noneV,none,fun e=>e.elim (fun g=>by cases g) fun g=>(by cases g)⟩⟩
 | start =>
  refine⟨hk h rfl,fun m hm=>?_⟩;obtain⟨to,_,rfl⟩:=D2 hm;exact⟨noneV,none,fun e=>e.elim (fun g=>by cases g) fun g=>(by cases g)⟩
 | tell to slot=>exact⟨hk h rfl,fun m hm=>by rw[List.mem_singleton.1 hm];exact⟨noneV,fun c hc=>h.ag c (List.mem_of_mem_drop hc),fun e=>e.elim (fun g=>by cases g) fun g=>(by cases g)⟩⟩
theorem NdS.lead{i:Nat}{p:Nod}(h:NdS S p)(hu:p.up=true):NdS S (p.lead i):=by
 obtain⟨dr,rs,k,hr⟩:=h.up hu;unfold Nod.lead;simp only;generalize (⟨max p.rounds p.vo.p.r+1,(i:Int)⟩:Bal)=b;rcases k.promise b with⟨e,he⟩|⟨e,he,hvs,rs',hp,ht,hm,hpb,hpv,d,a,hq⟩
 ·rw[if_pos e];exact h
 ·rw[if_neg (fun g=>g e)];have g:=h.wrote ht (fun v hv=>hr v ((hm v).1 hv)) hu hq (by rw[hq];exact h.ag);exact NdS.wait (p:={ (p.promise b).1 with rnd:=⟨b,fun _=>false,fun _=>Ed,fun _=>p.agreed.length,0,[]⟩ }) (x:=.began b (p.promise b).2.1) (g.tape rfl rfl rfl rfl g.ag g.wa (fun c hc=>by cases hc) (fun j _ v hv=>by cases hv) g.pe) (by show VsS S _;rw[hvs];exact k.vsS hr)
theorem cG(b:Bal)(f:Cmd→Option Bal)(l:List Cmd)(hl:∀ c∈l,S c):∀ c∈(CQ b f l).1,S c:=by
 induction l generalizing f with
 | nil=>intro c hc;cases hc
 | cons d l ih =>
  have ih:=fun f=>ih f fun c hc=>hl c (List.mem_cons_of_mem _ hc);rw[CQ];split
  ·exact fun c hc=>(List.mem_cons.1 hc).elim (fun e=>by rw[e];exact hl d List.mem_cons_self) (ih _ c)
  ·exact ih f
structure MtS(S:Cmd→Prop)(M:Meet):Prop where
 nd:∀ i,i<5→NdS S (M.node i)
 lt:∀ l∈M.lets,LtS S l
theorem MtS.set{M:Meet}(h:MtS S M){i:Nat}{p:Nod}(hp:NdS S p){ls:List Let}(hl:∀ l∈ls,l∈M.lets∨LtS S l)(ts:List Tol):MtS S (M.set i p ls ts) :=
 ⟨fun j hj=>by
  show NdS S (upN M.node i p j);unfold upN;split
  ·exact hp
  ·exact h.nd j hj,fun l hm=>(hl l hm).elim (h.lt l) id⟩
theorem MtS.step{D:Wh}(hD:∀ i d,D.d i d→∀ now:Nat,opE d (now:Int)=0→S (J9 d (now:Int))){n:Nat}{M N:Meet}(s:Stp D n M N)(h:MtS S M):MtS S N:=by
 have same:∀ l∈M.lets,l∈M.lets∨LtS S l:=fun l hl=>.inl hl;have app:∀ {ms:List Let},(∀ m∈ms,LtS S m)→∀ l∈M.lets++ms,l∈M.lets∨LtS S l:=fun g l hl=>(List.mem_append.1 hl).imp id (g l);cases s with
 | take _ l hl hd hu _=>exact h.set ((h.nd _ hd.2).take hu (h.lt l hl) hd.1) same _
 | lets _ ls hl _=>exact⟨h.nd,fun l g=>h.lt l (hl l g)⟩
 | one _ i c hi hu hc he =>
  refine h.set ?_ same _;have k:=h.nd i hi;unfold Nod.unwant;split
  ·exact k.tape rfl rfl rfl rfl k.ag (fun c hc=>k.wa c (List.mem_of_mem_erase hc)) k.qu k.he k.pe
  ·exact k.tape rfl rfl rfl rfl k.ag k.wa k.qu k.he k.pe
 | ask _ i hi hu =>
  have k:=h.nd i hi;have ha:=cG (M.node i).vo.p (M.node i).asked ((M.node i).wants.take 40) fun c hc=>k.wa c (List.mem_of_mem_take hc);have k2:NdS S { M.node i with asked:=(CQ (M.node i).vo.p (M.node i).asked ((M.node i).wants.take 40)).2 }:=k.tape rfl rfl rfl rfl k.ag k.wa k.qu k.he k.pe;refine h.set ?_ (app ?_) _
  ·unfold Nod.askd;split
   ·exact k2
   ·split
    ·exact k2.enqueue ha
    ·exact k2
  ·intro m hm;unfold Nod.askd at hm;split at hm
   ·cases hm
   ·split at hm
    ·cases hm
    ·rw[List.mem_singleton.1 hm];exact⟨fun v hv=>(by cases hv),ha,fun e=>e.elim (fun g=>by cases g) fun g=>(by cases g)⟩
 | prop _ i hi hu=>exact h.set ((h.nd i hi).propose hu) same _
 | syn _ i hi hu hlt hT =>
  have k:=h.nd i hi;obtain⟨dr,rs,g,hr⟩:=k.up hu;exact h.set (p:={ M.node i with sy:=((M.node i).d.length:Int) }) ⟨fun _=>⟨rs,rs,g.syn,hr⟩,fun e=>(by rw[show _=(M.node i).up from rfl,hu]at e;cases e),k.ag,k.wa,k.qu,k.he,k.pe⟩ same _
 | run _ i hi hu q l hp hs =>
  have g:=(h.nd i hi).run hi hp;exact h.set g.1 (app g.2) _
 | teach _ i hi hu hL =>
  have k:=h.nd i hi;refine h.set (p:=GZ (M.node i) i 5) (k.tape rfl rfl rfl rfl k.ag k.wa k.qu k.he k.pe) (app ?_) _;have:∀ n,∀ m∈Dw (M.node i) i n,LtS S m:=by
   intro n;induction n with
   | zero=>intro m hm;cases hm
   | succ n ih =>
    intro m hm;rw[Dw]at hm
    rcases List.mem_append.1 hm with hm|hm
    ·exact ih m hm
    ·split at hm
     ·rw[List.mem_singleton.1 hm];exact⟨fun v hv=>(by cases hv),fun c hc=>k.ag c (List.mem_of_mem_drop hc),fun e=>e.elim (fun g=>by cases g) fun g=>(by cases g)⟩
     ·cases hm
  exact this 5
 | lead _ i hi hu _=>exact h.set ((h.nd i hi).lead hu) same _
 | sub _ i d hi hu hd =>
  have k:=h.nd i hi;refine h.set ?_ same _;unfold Nod.subm Nod.sub0;split
  ·exact k
  ·split
   ·exact k.tape rfl rfl rfl rfl k.ag k.wa k.qu k.he k.pe
   ·rename_i he
    split
    ·exact k
    ·show NdS S (Nod.want _ _);unfold Nod.want;split
     ·exact k
     ·exact k.tape rfl rfl rfl rfl k.ag (fun c hc=>(List.mem_append.1 hc).elim (k.wa c) fun e=>by rw[List.mem_singleton.1 e];exact hD i d hd _ (Decidable.not_not.1 he)) k.qu k.he k.pe
 | crash _ i c hi hu hc _ =>
  have k:=h.nd i hi;obtain⟨dr,rs,g,hr⟩:=k.up hu;obtain⟨dr',_,hy,hD⟩:=g.crash hc;have hce:Gk (M.node i).d (M.node i).sy c=0:=by unfold Gk;rw[if_neg (fun e=>e g.tap),if_neg (by omega)]
  have hct:=O8 (p:=M.node i) g.tap hc;refine h.set ⟨fun e=>(by rw[hct.2.1]at e;cases e),fun _=>⟨dr',hD,fun v hv=>hr v (hy.subset hv)⟩,?_,?_,?_,?_,?_⟩ same _<;>(unfold Nod.crash;rw[if_neg (fun e=>e hce)])
  ·exact fun c hc=>by cases hc
  ·exact fun c hc=>by cases hc
  ·exact fun c hc=>by cases hc
  ·exact fun j _ v hv=>by cases hv
  ·exact fun c hc=>by cases hc
 | start _ i hi hu _ =>
  obtain⟨dr,g,hr⟩:=(h.nd i hi).dn hu;have hT:AY (M.node i).d (M.node i).sy:=⟨g.len,by rw[g.sy];omega,by rw[g.sy];omega⟩;have hst:=Lj (p:=M.node i) hT;have hr2:(M.node i).start.rnd=ea∧(M.node i).start.pend=[.start]∧(M.node i).start.wants=[]:=by
   unfold Nod.start;rw[if_neg (fun e=>e (if_pos hT))];split<;>exact⟨rfl,rfl,rfl⟩
  refine h.set ⟨fun _=>⟨dr,dr,g.start,hr⟩,fun e=>(by rw[hst.2.1]at e;cases e),?_,?_,?_,?_,?_⟩ same _
  ·rw[hst.2.2.2];exact fun c hc=>by cases hc
  ·rw[hr2.2.2];exact fun c hc=>by cases hc
  ·rw[hr2.1];exact fun c hc=>by cases hc
  ·rw[hr2.1];exact fun j _ v hv=>by cases hv
  ·rw[hr2.2.1];exact fun q hq=>by rw[List.mem_singleton.1 hq];trivial
theorem MtS.zero:MtS S BS:=⟨fun i _=>⟨fun _=>⟨[],[],TpU.zero,fun v hv=>(by cases hv)⟩,fun e=>(by cases e),fun c hc=>(by cases hc),fun c hc=>(by cases hc),fun c hc=>(by cases hc),fun j _ v hv=>(by cases hv),fun c hc=>(by cases hc)⟩,fun l hl=>(by cases hl)⟩
end
theorem Lg{P:Lac→Prop}(h9:∀ n:Nat,n<5→P (acN 9 (n:Int)))(h3:∀ n:Nat,n<5→P (acN 3 (n:Int)))(h7:P (acN 7 0)){i:Int}(h2:P (acN 2 i))(l:List Lac):∀ x∈EW l i,P x:=by
 have hh:∀ m,∀ x∈Ex m i,P x:=fun m x hx=>by
  rcases List.mem_append.1 hx with hx|hx
  ·rcases List.mem_append.1 hx with hx|hx
   ·exact P5 h9 h3 h7 0 x hx
   ·rw[List.mem_singleton.1 hx];exact h2
  ·exact P5 h9 h3 h7 m x hx
 intro x hx;exact(List.mem_append.1 hx).elim (hh _ x) (hh _ x)
theorem PA(l:List Lac)(i:Int):(EW l i).length≤1222+240*l.length:=by
 have h1:(l.filter hvy).length≤l.length:=List.length_filter_le _ _;have h2:∀ m,(CM m).length=5+6*m:=fun m=>by unfold CM;rw[List.length_append,GC];rfl
 unfold EW Ex CH;simp only[List.length_append,h2,List.length_singleton];omega
theorem ej(L:List Lac)(h:∀ x∈L,LacOk x)(hl:L.length≤200){i:Nat}(hi:i<5):((BS.acts (L++EW L (i:Int))).node 0).up=true:=by
 have h1:=PA L (i:Int);have hk:∀ x∈EW L (i:Int),LacOk x:=Lg (fun n hn=>G9 ⟨.inr (.inr rfl),by omega,by omega⟩) (fun n hn=>G9 ⟨.inr (.inl rfl),by omega,by omega⟩) (by rw[← Hq];decide) (G9 ⟨.inl rfl,by omega,by omega⟩) L;have e:L++EW L (i:Int)=(L++(Ex (CH L) (i:Int)++(CM 0++[acN 2 (i:Int)])))++CM (CH L):=by unfold EW;rw[show Ex (CH L) (i:Int)=CM 0++[acN 2 (i:Int)]++CM (CH L)from rfl];simp only[List.append_assoc]
 have hle:(L++(Ex (CH L) (i:Int)++(CM 0++[acN 2 (i:Int)]))).length+(5+6*CH L)=L.length+(EW L (i:Int)).length:=by
  have:=congrArg List.length e;rw[List.length_append,List.length_append,show(CM (CH L)).length=5+6*CH L by unfold CM;rw[List.length_append,GC];rfl]at this
  exact this.symm
 rw[e];refine eb _ (fun x hx=>?_) (CH L) (by omega) (by decide);have:x∈L++EW L (i:Int):=by rw[e];exact List.mem_append_left _ hx
 exact(List.mem_append.1 this).elim (h x) (hk x)
end
section
open Go.RowKit
theorem UZ{n many c:Int}{w:World}(h:I64 n)(hc:pick n many=c)(hm:0<many:=by decide)(hm2:many≤9223372036854775807:=by decide) :
  Calls prog 7 #[iv n,iv many] w fun e w'=>e=.returned (iv c)∧Bw w w':=by subst hc;exact BH h many hm hm2
theorem Qc(L:List Lac)(hL:∀ x∈L,LacOk x∧x.k≠1)(hl:L.length≤100000):(∀ j,j<5→(BS.acts L).log j=[])∧(BS.acts L).told=[]:=by
 have s:Sts ⟨fun _ _=>False,True,True,True,True,True⟩ L.length BS (BS.acts L):=Vg L MOk.zero (by omega) fun x hx=>⟨(hL x hx).1,fun e=>(hL x hx).2 e,fun _=>trivial,fun _=>trivial,fun _=>⟨trivial,trivial⟩,fun _=>trivial⟩;have:=s.inv (I:=fun M=>MtS (fun _=>False) M∧M.told=[]) (fun _ M N h g=>⟨g.1.step (fun _ _ hd=>False.elim hd) h,by
  cases h with
  | one _ i c hi hu hc he=>exact((g.1.nd i hi).ag c (List.mem_of_getElem? hc)).elim
  | sub _ i d hi hu hd=>exact False.elim hd
  | _=>exact g.2⟩) ⟨MtS.zero,rfl⟩
 refine⟨fun j hj=>?_,this.2⟩;unfold Meet.log;rw[List.eq_nil_iff_forall_not_mem.2 ((this.1.nd j hj).ag),List.take_nil]
theorem Mf{l:S3}{G:List Gr}{ld:Int}{w:World}(h:RdV w l 5 (grL G))(hG:∀ g∈G,GrOk g)(hld:I64 ld)(hT:Ti w) :
  Calls prog 3 #[l.v,iv ld] w fun e w'=>e=.returned (.bool true)∧Bw w w':=by
 obtain⟨L,hL⟩:∃ L,scr G 80 true=L:=⟨_,rfl⟩;have hok:=ei G 80 true;have hln:=aw G 80 true;rw[hL]at hok hln
 have hr:=AW ld 5 (by omega);obtain⟨n,hn,hn5⟩:∃ n:Nat,pick ld 5=(n:Int)∧n<5:=⟨(pick ld 5).toNat,by omega,by omega⟩;refine tIn [] func3 trivial ?_;refine tR 7 [] fun σ1 _ _=>?_;refine tC 1 (fun F C=>U6 (most:=80) (cr:=true) (h.below (CgQ.below C)) hG (by decide) (tbA hT.1 C)) fun Nz=>?_;rintro _ _ ⟨s,P,rfl,hP,hN,b2⟩;refine⟨_,Fa.ac s P::_,rfl,b2,fun F=>⟨hN.ac Nz,F⟩,?_⟩;rw[hL]at hP
 have hPl:P.length=L.length:=by rw[← hP,List.length_map]
 refine tF fun F _=>?_;have hsn:=(AcR.of F.1 hP).n;refine tR 12 [] fun σ3 _ _=>?_;refine Fh 67 [(5,S3.v s),(6,sn),(7,iv 0),(1,iv ld)] [] [] [Fa.ac s P,Fa.oa 0 s30 (([]:List (Lac × S3)).filter (fun p=>p.1.k != 1))] (fun kk ee LL ΦΦ=>∃ (i:Nat) (y:S3),kk=P.length-i∧ee=[(5,S3.v s),(6,S3.v y),(7,iv (i:Int)),(1,iv ld)]∧LL=[]∧ΦΦ=[Fa.ac s P,Fa.oa 0 y ((P.take i).filter (fun p=>p.1.k != 1))]∧i≤P.length∧y.n=((P.take i).filter (fun p=>p.1.k != 1)).length) (P.length) ⟨0,s30,rfl,rfl,rfl,rfl,by omega,rfl⟩ (fun F=>⟨F.1,⟨OwnS.nil _ _ _ _ _ _,(fun p hp=>by cases hp)⟩,trivial⟩) ?_;rintro k _ _ _ ⟨i,y,rfl,rfl,rfl,rfl,hi,hyn⟩ _ _ _ J hJ;refine tR 8 [] fun σ4 _ _=>?_;by_cases h1:i<P.length
 ·refine tI ((decide ((i:Int)<(s.n:Int)))) true (decide_eq_true (by omega)) ?_;obtain⟨⟨a,yd⟩,ha⟩:∃ a,P[i]?=some a:=⟨_,List.getElem?_eq_getElem (by omega)⟩;refine tF fun F _=>?_;obtain⟨b,off,hxa,_,hin⟩:=bB F.1 ha;have htk:P.take (i+1)=P.take i++[(a,yd)]:=by rw[List.take_add_one,ha];rfl
  have hyl:=List.length_filter_le (fun p=>p.1.k != 1) (P.take i);rw[List.length_take]at hyl
  refine tR 7 [] fun σ5 _ _=>?_;refine tV 2 (pt b (off+5*i)) (fun F C=>(Px (c:=s.c) hxa i hin)) ?_;refine tR 1 [] fun σ6 _ _=>?_;refine tF fun F _=>?_;refine tV 4 (iv a.k) (fun F C=>(CX underlying3 rfl (acK F.1 hxa ha))) ?_;by_cases h2:a.k≠1
  ·refine tV 5 (.bool true) (fun F C=>(FD (t:=3) (m:=a.k) (n:=1) (x:=(.tmp 24)) (y:=(.const (iv 1))) (by simpa using h2))) ?_;refine tR 6 [] fun σ8 _ _=>?_;refine tV 3 (pt b (off+5*i)) (fun F C=>(Px (c:=s.c) hxa i hin)) ?_;refine tF fun F _=>?_;refine tV 4 (.agg #[iv a.k,iv a.n,iv a.a,iv a.p,S3.v yd]) (fun F C=>(dP (acS F.1 hxa ha))) ?_;refine tR 1 [0,0] fun σ11 _ _=>?_;refine Mb 6 0 (x:=y) 23 23 27 5 56 zLa ⟨(σ11 0),0,none⟩ 1 1 [iv a.k,iv a.n,iv a.a,iv a.p,S3.v yd] (fun F=>F.2.1.1) [Fa.ac s P,Fa.dt ((P.take i).filter (fun p=>p.1.k != 1)++[(a,yd)])] (fun F=>⟨F.1,Dat.snoc F.2.1.2 (F.1.2 _ (List.mem_of_getElem? ha)),trivial⟩) rfl (by simp[TQ]) rfl (by simp[Value.oneCell']) (fun F K=>BT K 0 (σ11 0) [iv a.k,iv a.n,iv a.a,iv a.p,S3.v yd] 27 .z true (by kernel_rfl)) (by unfold maxLen;omega) (by omega) fun y12 _ _ n12=>?_;refine tR 5 [] fun σ13 _ _=>?_;refine tV 1 (iv ((i:Int)+1)) (fun F C=>(AF (x:=(.tmp 18)) (y:=(.const (iv 1))) (i:Int) 1 underlying3 (by omega))) ?_;refine tR 2 [] fun σ14 _ _=>?_;have hfl:(P.take (i+1)).filter (fun p=>p.1.k != 1)=(P.take i).filter (fun p=>p.1.k != 1)++[(a,yd)]:=by rw[htk,List.filter_append];simp[h2]
   exact tB hJ (P.length-(i+1)) (by omega) [false] ⟨i+1,y12,rfl,rfl,rfl,rfl,by omega,(by rw[hfl,List.length_append,List.length_singleton];omega)⟩ (fun F=>by rw[hfl];exact⟨F.2.1,⟨(by rw[Df];exact F.1),F.2.2.1⟩,trivial⟩)
  ·refine tV 5 (.bool false) (fun F C=>(FD (t:=3) (m:=a.k) (n:=1) (x:=(.tmp 24)) (y:=(.const (iv 1))) (by simpa using h2))) ?_;refine tR 6 [] fun σ15 _ _=>?_;refine tV 1 (iv ((i:Int)+1)) (fun F C=>(AF (x:=(.tmp 18)) (y:=(.const (iv 1))) (i:Int) 1 underlying3 (by omega))) ?_;refine tR 2 [] fun σ17 _ _=>?_;have hfl:(P.take (i+1)).filter (fun p=>p.1.k != 1)=(P.take i).filter (fun p=>p.1.k != 1):=by rw[htk,List.filter_append];simp[show a.k=1 from by simpa using h2]
   exact tB hJ (P.length-(i+1)) (by omega) [] ⟨i+1,y,rfl,rfl,rfl,rfl,by omega,(by rw[hfl];exact hyn)⟩ (fun F=>by rw[hfl];exact⟨F.1,F.2.1,trivial⟩)
 ·refine tI ((decide ((i:Int)<(s.n:Int)))) false (decide_eq_false (by omega)) ?_;obtain rfl:i=P.length:=by omega
  rw[List.take_length]at hyn ⊢
  refine tR 5 [] fun σ18 _ _=>?_;refine tC 2 (fun F C=>UZ hld hn) fun Nz=>?_;rintro _ _ ⟨rfl,b19⟩;refine⟨_,_,rfl,b19,id,?_⟩;have hfl:=List.length_filter_le (fun p=>p.1.k != 1) P;obtain⟨Q,hQ⟩:∃ Q,(P.filter (fun p=>p.1.k != 1)).map (·.1)=Q:=⟨_,rfl⟩;have hQm:∀ x∈Q,LacOk x∧x.k≠1:=by
   intro x hx;rw[← hQ]at hx
   obtain⟨p,hp,rfl⟩:=List.mem_map.1 hx;obtain⟨hp1,hp2⟩:=List.mem_filter.1 hp;exact⟨hok _ (by rw[← hP];exact List.mem_map.2 ⟨p,hp1,rfl⟩),by simpa using hp2⟩
  have hQl:Q.length≤80:=by rw[← hQ,List.length_map];omega
  have hq1:=PA Q (n:Int);have hqk:∀ x∈EW Q (n:Int),LacOk x∧x.k≠1:=Lg (fun n hn=>⟨G9 ⟨.inr (.inr rfl),by omega,by omega⟩,by show(9:Int)≠1;decide⟩) (fun n hn=>⟨G9 ⟨.inr (.inl rfl),by omega,by omega⟩,by show(3:Int)≠1;decide⟩) ⟨by rw[← Hq];decide,by decide⟩ ⟨G9 ⟨.inl rfl,by omega,by omega⟩,by show(2:Int)≠1;decide⟩ Q;have hQa:∀ x∈Q++EW Q (n:Int),LacOk x∧x.k≠1:=fun x hx=>(List.mem_append.1 hx).elim (hQm x) (hqk x);have hlq:(Q++EW Q (n:Int)).length≤100000:=by rw[List.length_append];omega
  have hu:=ej Q (fun x hx=>(hQm x hx).1) (by omega) hn5;have hno:=Qc _ hQa hlq;have hQe:(P.filter (fun p=>p.1.k != 1)++rnP (EW Q (n:Int))).map (·.1)=Q++EW Q (n:Int):=by rw[List.map_append,hQ,ZY]
  obtain⟨M,hM⟩:∃ M,BS.acts (Q++EW Q (n:Int))=M:=⟨_,rfl⟩;rw[hM]at hu hno
  refine tC 3 (fun F C=>RB (n:=(n:Int)) (AcR.oo F.2.1 hQ) (by omega)) fun Nz=>?_;rintro _ _ ⟨z,rfl,hz,b21⟩;refine⟨_,Fa.ac z (P.filter (fun p=>p.1.k != 1)++rnP (EW Q (n:Int)))::_,rfl,b21,fun F=>⟨⟨hz.fz Nz,Dat.app F.2.1.2 (NL _ _ (Lg (P:=fun a=>a.d=[]) (fun _ _=>rfl) (fun _ _=>rfl) rfl rfl Q))⟩,F⟩,?_⟩;refine tC 4 (fun F C=>dY (AcR.of F.1 hQe) (fun x hx=>(hQa x hx).1) hlq (tb5 hT C) hM hu) fun Nz=>?_;rintro _ _ ⟨ly,tv,ys,rfl,hW,hO,b23⟩;refine⟨_,[Fa.ot ly tv ys M],rfl,b23,fun F=>⟨SE hW hO Nz,trivial⟩,?_⟩;refine tF fun F _=>?_;have htn:=gt F.1.told.rd;rw[hno.2]at htn
  have hlg:=Zu hno.1 (Nat.le_refl 5);refine tR 10 [1,0,0,0,0] fun σ24 _ _=>?_;refine tC 1 (fun F C=>QW (SG F.1) hu) fun Nz=>?_;rintro _ _ ⟨rfl,b25⟩;refine⟨_,_,rfl,b25,id,?_⟩;refine tR 8 [] fun σ26 _ _=>?_;refine Fh 67 [(8,pt (σ24 0) 0),(9,.bool true),(10,S3.v (lgY ys (lgN M 5))),(11,iv 0)] [true] [⟨(σ24 0),.cells #[iv (M.lets.length:Int),.bool true,.bool (M.node 1).up,.bool (M.node 2).up,.bool (M.node 3).up,.bool (M.node 4).up,S3.v ly,iv ((M.node 0).bad:Int),iv ((M.node 1).bad:Int),iv ((M.node 2).bad:Int),iv ((M.node 3).bad:Int),iv ((M.node 4).bad:Int),S3.v tv] 33,.l,false⟩] [] (fun kk ee LL ΦΦ=>∃ (_:Unit),kk=0∧ee=[(8,pt (σ24 0) 0),(9,.bool true),(10,S3.v (lgY ys (lgN M 5))),(11,iv 0)]∧LL=[⟨(σ24 0),.cells (Xg M ly tv) 33,.l,false⟩]∧ΦΦ=[]∧True) (0) ⟨(),rfl,rfl,rfl,rfl,trivial⟩ (fun F=>trivial) ?_;rintro k _ _ _ ⟨_,rfl,rfl,rfl,rfl,_⟩ _ _ _ J hJ;refine tR 8 [] fun σ27 _ _=>?_;refine tI ((decide (0<((lgY ys (lgN M 5)).n:Int)))) false (by rw[hlg];rfl) ?_;refine tR 13 [0,0] fun σ28 _ _=>?_;refine tV 10 (.bool true) (fun F C=>(ET (t:=3) (m:=(tv.n:Int)) (n:=0) (x:=(.tmp 64)) (y:=(.const (iv 0))) (by rw[htn];rfl))) ?_;refine tR 3 [] fun σ29 _ _=>?_;exact tE (.bool true) fun _ B=>⟨rfl,B⟩
end
end Go.Proofs.YtfhbkoflaekhpadGreatDoor
