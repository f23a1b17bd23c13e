/- Part 46 of the walk. -/
import Derived.Test.YtaeckakjdagddabGreatDoorZ45
set_option maxRecDepth 100000
set_option maxHeartbeats 4000000
set_option linter.unusedVariables false
namespace Go.Proofs.YtaeckakjdagddabGreatDoor
structure Alw where
 ca:Bool
 ld:Bool
 cr:Bool
 st:Bool
structure NInv(A:Alw)(i:Nat)(D:List Int→Prop)(Q:Let→Prop)(P:Nod→Prop):Prop where
 take:A.ca=true→∀ p l,P p→Q l→l.dst=i→p.up=true→P (p.take l)
 one:∀ p c,P p→p.up=true→p.agreed[p.done]?=some c→doE p.sto c=0→P (Nod.unwant { p with sto:=doS p.sto c,done:=p.done+1 } c)
 ask:∀ p,P p→p.up=true→P (p.askd i).1∧∀ l∈(p.askd i).2,Q l
 prop:∀ p,P p→p.up=true→P p.propose
 syn:∀ p,P p→p.up=true→P p.syn
 run:∀ p q l,P p→p.up=true→p.pend=q::l→¬ p.sy<(p.d.length:Int)→P { p.runP i q with pend:=l }∧∀ m∈p.sentP i q,Q m
 teach:∀ p,P p→p.up=true→p.leads=true→P (Iw p i 5)∧∀ l∈DC p i 5,Q l
 lead:A.ld=true→∀ p,P p→p.up=true→P (p.lead i)
 sub:∀ p d ts,P p→D d→p.up=true→P (p.subm i d ts).1
 crash:A.cr=true→∀ p k,P p→0≤k→p.up=true→P (p.crash k)
 start:A.st=true→∀ p,P p→p.up=false→P p.start
theorem TK(p:Nod)(i:Nat)(q:Pend)(x:List Pend):({ p with pend:=x }:Nod).runP i q={ p.runP i q with pend:=x }:=by
 cases q with
 | began b vs=>unfold Nod.runP;simp only;split<;>rfl
 | prop v =>
  unfold Nod.runP Nod.count;simp only;split
  ·rfl
  ·split<;>rfl
 | _=>rfl
theorem Mm(p:Nod)(i:Nat)(q:Pend):(p.runP i q).pend=p.pend∧(p.runP i q).up=p.up∧(p.runP i q).d=p.d∧(p.runP i q).sy=p.sy:=by
 cases q with
 | began b vs=>unfold Nod.runP;simp only;split<;>exact⟨rfl,rfl,rfl,rfl⟩
 | prop v =>
  unfold Nod.runP Nod.count;simp only;split
  ·exact⟨rfl,rfl,rfl,rfl⟩
  ·split<;>exact⟨rfl,rfl,rfl,rfl⟩
 | _=>exact⟨rfl,rfl,rfl,rfl⟩
theorem Rj(p:Nod)(i:Nat)(q:Pend)(x:List Pend):({ p with pend:=x }:Nod).sentP i q=p.sentP i q:=by cases q<;>rfl
theorem Fv(p:Nod)(c:Cmd):(p.unwant c).up=p.up∧(p.unwant c).agreed=p.agreed∧(p.unwant c).done=p.done∧(p.unwant c).sto=p.sto:=by unfold Nod.unwant;split<;>exact⟨rfl,rfl,rfl,rfl⟩
theorem Qg(p:Nod)(l:List Cmd):(p.enqueue l).up=p.up:=by unfold Nod.enqueue;split<;>rfl
theorem XN(p:Nod)(i:Nat):(p.askd i).1.up=p.up:=by
 unfold Nod.askd;split
 ·rfl
 ·split
  ·exact Qg _ _
  ·rfl
theorem ZD(p:Nod)(v:Vt):(p.vote v).1.up=p.up:=by
 unfold Nod.vote;split
 ·rfl
 ·split
  ·rfl
  ·split<;>rfl
theorem Rb(p:Nod):p.propose.up=p.up:=by
 unfold Nod.propose;split
 ·rfl
 ·split
  ·rfl
  ·split
   ·rfl
   ·exact ZD p _
theorem cV(p:Nod):p.syn.up=p.up:=by unfold Nod.syn;split<;>rfl
section
variable{A:Alw}{i:Nat}{D:List Int→Prop}{Q:Let→Prop}{P:Nod→Prop}
theorem NInv.doP(h:NInv A i D Q P)(l:List Cmd)(p:Nod)(ts:List Tol)(hp:P p)(hu:p.up=true)(hl:p.agreed.drop p.done=l):P (doP i l p ts).1∧(Go.Proofs.YtaeckakjdagddabGreatDoor.doP i l p ts).1.up=true:=by
 induction l generalizing p ts with
 | nil=>exact⟨hp,hu⟩
 | cons c l ih =>
  rw[Go.Proofs.YtaeckakjdagddabGreatDoor.doP];split
  ·exact⟨hp,hu⟩
  ·rename_i he
   have hc:p.agreed[p.done]?=some c:=by
    have:=congrArg (·[0]?) hl;simpa using this
   have hk:=Fv { p with sto:=doS p.sto c,done:=p.done+1 } c;refine ih _ _ (h.one p c hp hu hc (Decidable.not_not.1 he)) (hk.1.trans hu) ?_;rw[hk.2.1,hk.2.2.1];show p.agreed.drop (p.done+1)=l;rw[← List.drop_drop,hl];rfl
theorem NInv.doneP(h:NInv A i D Q P)(l:List Pend)(p:Nod)(ls:List Let)(hp:P { p with pend:=l })(hu:p.up=true)(h0:p.pend=[])(hs:¬ p.sy<(p.d.length:Int))(hl:∀ m∈ls,Q m):P (doneP i l p ls).1∧(∀ m∈(Go.Proofs.YtaeckakjdagddabGreatDoor.doneP i l p ls).2,Q m)∧(Go.Proofs.YtaeckakjdagddabGreatDoor.doneP i l p ls).1.up=true:=by
 induction l generalizing p ls with
 | nil =>
  refine⟨?_,hl,hu⟩;have:({ p with pend:=[] }:Nod)=p:=by cases p;simp_all
  rw[this]at hp;exact hp
 | cons q l ih =>
  have hk:=Mm p i q;obtain⟨h1,h2⟩:=h.run { p with pend:=q::l } q l hp hu rfl hs;rw[TK]at h1
  rw[Rj]at h2
  exact ih (p.runP i q) (ls++p.sentP i q) h1 (hk.2.1.trans hu) (hk.1.trans h0) (by rw[hk.2.2.1,hk.2.2.2];exact hs) fun m hm=>(List.mem_append.1 hm).elim (hl m) (h2 m)
theorem NInv.piece(h:NInv A i D Q P)(p:Nod)(ls:List Let)(ts:List Tol)(hp:P p)(hu:p.up=true)(hl:∀ m∈ls,Q m):P (p.piece i ls ts).1∧∀ m∈(p.piece i ls ts).2.1,Q m:=by
 obtain⟨a1,a2⟩:=h.doP _ p ts hp hu rfl;unfold Nod.piece;simp only;obtain⟨b1,b2⟩:=h.ask _ a1 a2;have bu:=(XN (Go.Proofs.YtaeckakjdagddabGreatDoor.doP i (p.agreed.drop p.done) p ts).1 i).trans a2;have c1:=h.prop _ b1 bu;have cu:=(Rb ((Go.Proofs.YtaeckakjdagddabGreatDoor.doP i (p.agreed.drop p.done) p ts).1.askd i).1).trans bu;have hls:∀ m∈ls++((Go.Proofs.YtaeckakjdagddabGreatDoor.doP i (p.agreed.drop p.done) p ts).1.askd i).2,Q m:=fun m hm=>(List.mem_append.1 hm).elim (hl m) (b2 m);generalize ls++((Go.Proofs.YtaeckakjdagddabGreatDoor.doP i (p.agreed.drop p.done) p ts).1.askd i).2=k at hls ⊢;generalize ((Go.Proofs.YtaeckakjdagddabGreatDoor.doP i (p.agreed.drop p.done) p ts).1.askd i).1.propose=r at c1 cu ⊢;have hd:P (r.syncd i k).1∧(∀ m∈(r.syncd i k).2,Q m)∧(r.syncd i k).1.up=true:=by
  unfold Nod.syncd;split
  ·exact⟨c1,hls,cu⟩
  ·rename_i hn
   have hp2:=h.syn r c1 cu;have hpd:r.syn.pend=r.pend:=by unfold Nod.syn;split<;>rfl
   refine h.doneP r.pend { r.syn with pend:=[] } k (by rw[← hpd];exact hp2) ((cV r).trans cu) rfl ?_ hls;show ¬ r.syn.sy<(r.syn.d.length:Int);unfold Nod.syn;split
   ·rename_i h1
    have:CX r.d r.sy=0:=Decidable.not_not.1 fun e=>hn ⟨h1,e⟩;have hT:Bh r.d r.sy:=by
     unfold CX at this;split at this
     ·assumption
     ·cases this
    show ¬ Ir r.d r.sy<((Hh r.d r.sy).length:Int);unfold Ir Hh;rw[if_pos hT,if_pos hT];exact Int.lt_irrefl _
   ·rename_i h1;exact h1
 unfold Nod.taught;split
 ·rename_i hL
  obtain⟨e1,e2⟩:=h.teach _ hd.1 hd.2.2 hL;exact⟨e1,fun m hm=>(List.mem_append.1 hm).elim (hd.2.1 m) (e2 m)⟩
 ·exact⟨hd.1,hd.2.1⟩
end
structure GInv(Q:Let→Prop)(P:Nat→Nod→Prop)(M:Meet):Prop where
 node:∀ i,i<5→P i (M.node i)
 lets:∀ l∈M.lets,Q l
theorem GInv.set{Q:Let→Prop}{P:Nat→Nod→Prop}{M:Meet}(h:GInv Q P M){i:Nat}{p:Nod}{ls:List Let}{ts:List Tol}(hp:P i p)(hl:∀ l∈ls,Q l):GInv Q P (M.set i p ls ts) :=
 ⟨fun j hj=>by
  show P j (upN M.node i p j);unfold upN;split
  ·rename_i e;rw[e];exact hp
  ·exact h.node j hj,hl⟩
theorem GInv.come{A:Alw}{D:Nat→List Int→Prop}{Q:Let→Prop}{P:Nat→Nod→Prop}(hI:∀ i,i<5→NInv A i (D i) Q (P i))(hc:A.ca=true){M:Meet}(h:GInv Q P M){l:Let}(hl:Q l)(hd:l.dst<5):GInv Q P (M.come l):=by
 unfold Meet.come;split
 ·rename_i hu
  exact h.set (ls:=M.lets) (ts:=M.told) ((hI _ hd).take hc _ l (h.node _ hd) hl rfl hu) h.lets
 ·exact h
theorem GInv.comes{A:Alw}{D:Nat→List Int→Prop}{Q:Let→Prop}{P:Nat→Nod→Prop}(hI:∀ i,i<5→NInv A i (D i) Q (P i))(hc:A.ca=true)(l:List Let){M:Meet}(h:GInv Q P M)(hl:∀ m∈l,Q m∧m.dst<5):GInv Q P (l.foldl (fun M l=>M.come l) M):=by
 induction l generalizing M with
 | nil=>exact h
 | cons x l ih=>exact ih (h.come hI hc (hl x List.mem_cons_self).1 (hl x List.mem_cons_self).2) fun m hm=>hl m (List.mem_cons_of_mem _ hm)
structure Alw.Ok(A:Alw)(x:Lac):Prop where
 ca:x.k=4∨x.k=6∨x.k=7→A.ca=true
 ld:x.k=2→A.ld=true
 cr:x.k=8→A.cr=true
 st:x.k=9→A.st=true
theorem GInv.act{A:Alw}{D:Nat→List Int→Prop}{Q:Let→Prop}{P:Nat→Nod→Prop}(hI:∀ i,i<5→NInv A i (D i) Q (P i)){n:Nat}{M:Meet}(h:GInv Q P M)(hM:MOk n M){x:Lac}(hx:LacOk x)(hA:A.Ok x)(hD:x.k=1→D x.n.toNat x.d):GInv Q P (M.act x):=by
 have hnode:∀ {k:Int},x.k=k→Fx k=true→x.n.toNat<5:=fun{k} e e2=>by have:=hx.n (by rw[e];exact e2);omega
 unfold Meet.act;simp only;by_cases h1:x.k=1
 ·rw[if_pos h1];have hi:=hnode h1 rfl;refine h.set ?_ h.lets;unfold Nod.subm;by_cases hu:(M.node x.n.toNat).up=true
  ·exact(hI _ hi).sub _ x.d M.told (h.node _ hi) (hD h1) hu
  ·unfold Nod.sub0;rw[if_pos (by simpa using hu)];exact h.node _ hi
 ·rw[if_neg h1];by_cases h2:x.k=2
  ·rw[if_pos h2];have hi:=hnode h2 rfl;refine h.set ?_ h.lets;split
   ·rename_i hu;exact(hI _ hi).lead (hA.ld h2) _ (h.node _ hi) hu
   ·exact h.node _ hi
  ·rw[if_neg h2];by_cases h3:x.k=3
   ·rw[if_pos h3];have hi:=hnode h3 rfl;by_cases hu:(M.node x.n.toNat).up=true
    ·have:=(hI _ hi).piece _ M.lets M.told (h.node _ hi) hu h.lets;rw[if_pos hu,if_pos hu,if_pos hu];exact h.set this.1 this.2
    ·rw[if_neg hu,if_neg hu,if_neg hu];exact h.set (h.node _ hi) h.lets
   ·rw[if_neg h3];by_cases h4:x.k=4∨x.k=5∨x.k=6
    ·rw[if_pos h4];unfold Meet.move;split
     ·exact h
     ·rename_i l hl
      have hm:=List.mem_of_getElem? hl;have hB:GInv Q P (if x.k≠6 then{ M with lets:=M.lets.eraseIdx (x.a.toNat%M.lets.length) }else M):=by
       split
       ·exact⟨h.node,fun m hm=>h.lets m (List.mem_of_mem_eraseIdx hm)⟩
       ·exact h
      simp only;split
      ·rename_i h5
       exact hB.come hI (hA.ca (by omega)) (h.lets l hm) (hM.lets l hm).dst
      ·exact hB
    ·rw[if_neg h4];by_cases h7:x.k=7
     ·rw[if_pos h7];unfold Meet.comeAll;exact GInv.comes hI (hA.ca (by omega)) _ ⟨h.node,fun l hl=>by cases hl⟩ fun m hm=>⟨h.lets m hm,(hM.lets m hm).dst⟩
     ·rw[if_neg h7];by_cases h8:x.k=8
      ·rw[if_pos h8];have hi:=hnode h8 rfl;refine h.set ?_ h.lets;split
       ·rename_i hu;exact(hI _ hi).crash (hA.cr h8) _ x.p (h.node _ hi) (hx.p (by rw[h8];rfl)).1 hu
       ·exact h.node _ hi
      ·rw[if_neg h8];by_cases h9:x.k=9
       ·rw[if_pos h9];have hi:=hnode h9 rfl;refine h.set ?_ h.lets;split
        ·exact h.node _ hi
        ·rename_i hu;exact(hI _ hi).start (hA.st h9) _ (h.node _ hi) (by simpa using hu)
       ·rw[if_neg h9];exact h
structure TInv(i:Nat)(D:List Int→Prop)(P:Nod→Prop)(R:List Tol→Prop):Prop where
 one:∀ p c ts,P p→p.up=true→p.agreed[p.done]?=some c→doE p.sto c=0→(p.asked c).isSome=true→R ts→R (ts++[⟨i,c.c,c.s,doC p.sto c,doA p.sto c⟩])
 sub:∀ p d ts,P p→D d→p.up=true→opE d (p.done:Int)=0→Ks d (p.done:Int)∈p.agreed.take p.done→R ts→R (ts++[⟨i,(Ks d (p.done:Int)).c,(Ks d (p.done:Int)).s,doC p.sto (Ks d (p.done:Int)),doA p.sto (Ks d (p.done:Int))⟩])
theorem TInv.doP{A:Alw}{i:Nat}{D:List Int→Prop}{Q:Let→Prop}{P:Nod→Prop}{R:List Tol→Prop}(h:NInv A i D Q P)(t:TInv i D P R)(l:List Cmd)(p:Nod)(ts:List Tol)(hp:P p)(hu:p.up=true)(hl:p.agreed.drop p.done=l)(hr:R ts):R (doP i l p ts).2:=by
 induction l generalizing p ts with
 | nil=>exact hr
 | cons c l ih =>
  rw[Go.Proofs.YtaeckakjdagddabGreatDoor.doP];split
  ·exact hr
  ·rename_i he
   have hc:p.agreed[p.done]?=some c:=by
    have:=congrArg (·[0]?) hl;simpa using this
   have hk:=Fv { p with sto:=doS p.sto c,done:=p.done+1 } c;refine ih _ _ (h.one p c hp hu hc (Decidable.not_not.1 he)) (hk.1.trans hu) ?_ ?_
   ·rw[hk.2.1,hk.2.2.1];show p.agreed.drop (p.done+1)=l;rw[← List.drop_drop,hl];rfl
   ·split
    ·rename_i ha;exact t.one p c ts hp hu hc (Decidable.not_not.1 he) ha hr
    ·exact hr
theorem LH(M:Meet)(l:Let):(M.come l).told=M.told:=by unfold Meet.come;split<;>rfl
theorem PV(l:List Let)(M:Meet):(l.foldl (fun M l=>M.come l) M).told=M.told:=by
 induction l generalizing M with
 | nil=>rfl
 | cons x l ih=>exact(ih _).trans (LH M x)
theorem Tw(M:Meet)(k:Int)(a:Nat):(M.move k a).told=M.told:=by
 unfold Meet.move;split
 ·rfl
 ·simp only;split
  ·rw[LH];split<;>rfl
  ·split<;>rfl
theorem NF(M:Meet){x:Lac}(h1:x.k≠1)(h3:x.k≠3):(M.act x).told=M.told:=by
 unfold Meet.act;simp only;rw[if_neg h1];split
 ·rfl
 ·split
  ·exact Tw _ _ _
  ·split
   ·exact PV _ _
   ·split
    ·rfl
    ·split<;>rfl
theorem GInv.told{A:Alw}{D:Nat→List Int→Prop}{Q:Let→Prop}{P:Nat→Nod→Prop}{R:List Tol→Prop}(hI:∀ i,i<5→NInv A i (D i) Q (P i))(hT:∀ i,i<5→TInv i (D i) (P i) R){M:Meet}(h:GInv Q P M)(hr:R M.told){x:Lac}(hx:LacOk x)(hD:x.k=1→D x.n.toNat x.d):R (M.act x).told:=by
 by_cases h1:x.k=1
 ·have hi:x.n.toNat<5:=by have:=hx.n (by rw[h1];rfl);omega
  unfold Meet.act;simp only;rw[if_pos h1];show R (Nod.subm _ _ _ _).2;unfold Nod.subm Nod.sub0;split
  ·exact hr
  ·rename_i hu
   split
   ·exact hr
   ·rename_i he
    split
    ·rename_i hm
     exact(hT _ hi).sub _ _ _ (h.node _ hi) (hD h1) (by simpa using hu) (Decidable.not_not.1 he) hm hr
    ·exact hr
 ·by_cases h3:x.k=3
  ·have hi:x.n.toNat<5:=by have:=hx.n (by rw[h3];rfl);omega
   unfold Meet.act;simp only;rw[if_neg h1,if_neg (by omega),if_pos h3];show R (if _ then _ else _);split
   ·rename_i hu
    exact TInv.doP (hI _ hi) (hT _ hi) _ _ _ (h.node _ hi) hu rfl hr
   ·exact hr
  ·rw[NF M h1 h3];exact hr
theorem GInv.acts{A:Alw}{D:Nat→List Int→Prop}{Q:Let→Prop}{P:Nat→Nod→Prop}{R:List Tol→Prop}(hI:∀ i,i<5→NInv A i (D i) Q (P i))(hT:∀ i,i<5→TInv i (D i) (P i) R)(L:List Lac){n:Nat}{M:Meet}(hM:MOk n M)(hn:n+L.length≤1000000)(h:GInv Q P M)(hr:R M.told)(hx:∀ x∈L,LacOk x∧A.Ok x∧(x.k=1→D x.n.toNat x.d)):GInv Q P (M.acts L)∧R (M.acts L).told∧MOk (n+L.length) (M.acts L):=by
 induction L generalizing n M with
 | nil=>exact⟨h,hr,hM⟩
 | cons x L ih =>
  have h1:=hx x List.mem_cons_self;rw[List.length_cons]at hn
  have:=ih (hM.act (by omega) h1.1) (by omega) (h.act hI hM h1.1 h1.2.1 h1.2.2) (h.told hI hT hr h1.1 h1.2.2) fun y hy=>hx y (List.mem_cons_of_mem _ hy);rw[List.length_cons,show n+(L.length+1)=n+1+L.length by omega];exact this
theorem TInv.all(i:Nat)(D:List Int→Prop)(P:Nod→Prop):TInv i D P fun _=>True:=⟨fun _ _ _ _ _ _ _ _ _=>trivial,fun _ _ _ _ _ _ _ _ _=>trivial⟩
def Nod.tp(p:Nod):Prop:=Bh p.d p.sy
theorem S6{d:List Int}{s:Int}{may:Prop}[Decidable may] {b:List Int} (h:Cw d s may b=0):Bh (F1 d s may b) (G0 d s may b):=by
 obtain⟨h1,h2,_⟩:=Ut h;unfold F1 G0;rw[if_pos h,if_pos h];unfold Bh at *;rw[List.length_append,EC];omega
theorem Kz{p:Nod}(h:p.tp)(b:Bal):(p.promise b).1.tp:=by
 unfold Nod.promise;split
 ·exact h
 ·split
  ·exact h
  ·split
   ·exact h
   ·rename_i hw;exact S6 (Decidable.not_not.1 hw)
theorem Sy{p:Nod}(h:p.tp)(v:Vt):(p.vote v).1.tp:=by
 unfold Nod.vote;split
 ·exact h
 ·split
  ·exact h
  ·split
   ·exact h
   ·rename_i hw;exact S6 (Decidable.not_not.1 hw)
theorem Mj{p:Nod}(h:p.tp)(to:Nat)(e:Int):(p.refuse to e).tp:=by unfold Nod.refuse;split<;>exact h
theorem UX{p:Nod}(h:p.tp)(j:Nat)(v:Vt):(p.count j v).tp:=by
 unfold Nod.count;split
 ·exact h
 ·split<;>exact h
theorem Qf{p:Nod}(h:p.tp)(l:List Cmd):(p.enqueue l).tp:=by unfold Nod.enqueue;split<;>exact h
theorem JO{p:Nod}(h:p.tp){k:Int}(hk:0≤k):(p.crash k).tp∧(p.crash k).up=false∧(p.crash k).done=0∧(p.crash k).agreed=[]:=by
 have he:Jb p.d p.sy k=0:=by unfold Jb;rw[if_neg (fun e=>e h),if_neg (by omega)]
 unfold Nod.crash;rw[if_neg (fun e=>e he)];refine⟨?_,rfl,rfl,rfl⟩;show Bh (Lf p.d p.sy k) (Lg p.d p.sy k);unfold Lf Lg;rw[if_pos he,if_pos he];unfold Nod.tp Bh at h;have hc:0≤MI p.d p.sy k∧MI p.d p.sy k≤(p.d.length:Int):=by unfold MI;split<;>omega
 unfold Bh;rw[List.length_take];omega
theorem KD{p:Nod}(h:p.tp):p.start.tp∧p.start.up=true∧p.start.done=0∧p.start.agreed=[]:=by
 have he:CX p.d p.sy=0:=if_pos h;have hl:=VE p.d p.d.length;unfold Nod.start;rw[if_neg (fun e=>e he)];split
 ·refine⟨?_,rfl,rfl,rfl⟩;show Bh (Lu p.d p.sy) (Nk p.d p.sy);unfold Lu Nk;have h':Bh p.d p.sy:=h;rw[if_pos h',if_pos h'];unfold Nod.tp Bh at h;unfold Bh;rw[List.length_take];unfold Em;split<;>omega
 ·exact⟨h,rfl,rfl,rfl⟩
theorem cZ(A:Alw)(i:Nat):NInv A i (fun _=>True) (fun _=>True) Nod.tp where
 take:=fun _ p l h _ _ _=>by
  unfold Nod.take;split
  ·split
   ·exact Mj h _ _
   ·exact Kz h l.bal
  ·simp only;split<;>exact h
  ·exact h
  ·split
   ·exact Mj h _ _
   ·exact Sy h l.vote
  ·exact UX h _ _
  ·split<;>exact h
  ·simp only;split<;>exact Qf h l.what
  ·exact h
 one:=fun p c h _ _ _=>by unfold Nod.unwant;split<;>exact h
 ask:=fun p h _=>⟨by
  unfold Nod.askd;split
  ·exact h
  ·split
   ·unfold Nod.enqueue;split<;>exact h
   ·exact h,fun _ _=>trivial⟩
 prop:=fun p h _=>by
  unfold Nod.propose;split
  ·exact h
  ·split
   ·exact h
   ·split
    ·exact h
    ·exact Sy h _
 syn:=fun p h _=>by
  unfold Nod.syn;split
  ·show Bh (Hh p.d p.sy) (Ir p.d p.sy);unfold Hh Ir;have h':Bh p.d p.sy:=h;rw[if_pos h',if_pos h'];unfold Nod.tp Bh at h;unfold Bh;omega
  ·exact h
 run:=fun p q l h _ _ _=>⟨by
  have hk:=Mm p i q;show Bh (p.runP i q).d (p.runP i q).sy;rw[hk.2.2.1,hk.2.2.2];exact h,fun _ _=>trivial⟩
 teach:=fun p h _ _=>⟨h,fun _ _=>trivial⟩
 lead:=fun _ p h _=>by
  unfold Nod.lead;simp only;split
  ·exact h
  ·exact Kz h _
 sub:=fun p d ts h _ _=>by
  unfold Nod.subm Nod.sub0;split
  ·exact h
  ·split
   ·exact h
   ·split
    ·exact h
    ·show(Nod.want _ _).tp;unfold Nod.want;split<;>exact h
 crash:=fun _ p k h hk _=>(JO h hk).1
 start:=fun _ p h _=>(KD h).1
def dw:Alw:=⟨true,true,true,true⟩
theorem XI(x:Lac):dw.Ok x:=⟨fun _=>rfl,fun _=>rfl,fun _=>rfl,fun _=>rfl⟩
theorem R5(L:List Lac)(h:∀ x∈L,LacOk x)(hl:L.length≤100000){i:Nat}(hi:i<5):((AU.acts L).node i).tp :=
 (GInv.acts (R:=fun _=>True) (D:=fun _ _=>True) (Q:=fun _=>True) (P:=fun _=>Nod.tp) (fun i _=>cZ dw i) (fun i _=>TInv.all i _ _) L MOk.zero (by omega) ⟨fun _ _=>(by show Bh [] 0;decide),fun _ _=>trivial⟩ trivial fun x hx=>⟨h x hx,XI x,fun _=>trivial⟩).1.node i hi
theorem aD(M:Meet){x:Lac}(h8:x.k≠8){j:Nat}(hu:(M.node j).up=true):((M.act x).node j).up=true:=by
 by_cases h1:x.k=1
 ·have:=congrArg Prod.fst (cS M h1 j);split at this
  ·exact this.trans hu
  ·exact this.trans hu
 ·by_cases h9:x.k=9
  ·unfold Meet.act;simp only;rw[if_neg h1,if_neg (by omega),if_neg (by omega),if_neg (by omega),if_neg (by omega),if_neg (by omega),if_pos h9,He];split
   ·rename_i e;rw[← e,if_pos hu];exact hu
   ·exact hu
  ·exact(congrArg Prod.fst (aC M h1 h8 h9 j)).trans hu
theorem Gz{f:Nat→Nod}{i j:Nat}{p:Nod}(h:i=j→p=f j):upN f i p j=f j:=by
 unfold upN;split
 ·rename_i e;exact h e.symm
 ·rfl
theorem MH(M:Meet)(l:Let){j:Nat}(hd:(M.node j).up=false):(M.come l).node j=M.node j:=by
 unfold Meet.come;split
 ·rename_i hu
  exact Gz fun e=>by rw[e,hd]at hu;cases hu
 ·rfl
theorem UV(l:List Let)(M:Meet){j:Nat}(hd:(M.node j).up=false):(l.foldl (fun M l=>M.come l) M).node j=M.node j:=by
 induction l generalizing M with
 | nil=>rfl
 | cons x l ih =>
  have h:=MH M x hd;exact(ih (M.come x) (by rw[h];exact hd)).trans h
theorem Y8(M:Meet)(k:Int)(a:Nat){j:Nat}(hd:(M.node j).up=false):(M.move k a).node j=M.node j:=by
 unfold Meet.move;split
 ·rfl
 ·simp only;split
  ·split
   ·exact MH _ _ hd
   ·exact MH _ _ hd
  ·split<;>rfl
theorem U5(M:Meet)(x:Lac){j:Nat}(hd:(M.node j).up=false)(h9:¬ (x.k=9∧x.n.toNat=j)):(M.act x).node j=M.node j:=by
 have hu:∀ {i:Nat},i=j→¬ (M.node i).up=true:=fun e h=>by rw[e,hd]at h;cases h
 unfold Meet.act;simp only;split
 ·refine Gz fun e=>?_;rw[e];unfold Nod.subm Nod.sub0;rw[if_pos hd]
 ·split
  ·exact Gz fun e=>by rw[if_neg (hu e),e]
  ·split
   ·exact Gz fun e=>by rw[if_neg (hu e),e]
   ·split
    ·exact Y8 M _ _ hd
    ·split
     ·unfold Meet.comeAll;exact UV _ { M with lets:=[] } hd
     ·split
      ·exact Gz fun e=>by rw[if_neg (hu e),e]
      ·split
       ·rename_i k9;exact Gz fun e=>absurd ⟨k9,e⟩ h9
       ·rfl
theorem U7(L:List Lac)(h:∀ x∈L,LacOk x)(hl:L.length≤100000){j:Nat}(hj:j<5)(hd:((AU.acts L).node j).up=false):((AU.acts L).node j).agreed=[]:=by
 have key:∀ k,k≤L.length→((AU.acts (L.take k)).node j).up=false→((AU.acts (L.take k)).node j).agreed=[]:=by
  intro k;induction k with
  | zero=>intro _ h;cases h
  | succ k ih =>
   intro hk;have hm:∀ x∈L.take k,LacOk x:=fun x hx=>h x (List.mem_of_mem_take hx);have hx:=h L[k] (List.getElem_mem (by omega));have ht:=R5 (L.take k) hm (by rw[List.length_take];omega) hj;rw[List.take_add_one,List.getElem?_eq_getElem (show k<L.length by omega),Option.toList_some,L3];have ih:=ih (by omega);generalize AU.acts (L.take k)=M at ih ht ⊢;generalize L[k]=x at hx ⊢;by_cases hu:(M.node j).up=true
   ·intro h2;by_cases h8:x.k=8
    ·by_cases hn:x.n.toNat=j
     ·have:=JO ht (hx.p (by rw[h8];rfl)).1;have he:(M.act x).node j=(M.node j).crash x.p:=by
       unfold Meet.act;simp only;rw[if_neg (by omega),if_neg (by omega),if_neg (by omega),if_neg (by omega),if_neg (by omega),if_pos h8,hn,if_pos hu];show upN _ _ _ _=_;unfold upN;rw[if_pos rfl]
      rw[he];exact this.2.2.2
     ·have he:(M.act x).node j=M.node j:=by
       unfold Meet.act;simp only;rw[if_neg (by omega),if_neg (by omega),if_neg (by omega),if_neg (by omega),if_neg (by omega),if_pos h8];exact Gz fun e=>absurd e hn
      rw[he,hu]at h2;cases h2
    ·rw[aD M h8 hu]at h2;cases h2
   ·have hd:(M.node j).up=false:=by simpa using hu
    by_cases h9:x.k=9∧x.n.toNat=j
    ·intro h2;have he:(M.act x).node j=(M.node j).start:=by
      unfold Meet.act;simp only;rw[if_neg (by omega),if_neg (by omega),if_neg (by omega),if_neg (by omega),if_neg (by omega),if_neg (by omega),if_pos h9.1,h9.2,if_neg hu];show upN _ _ _ _=_;unfold upN;rw[if_pos rfl]
     rw[he,(KD ht).2.1]at h2;cases h2
    ·rw[U5 M x hd h9];exact ih
 have:=key L.length (Nat.le_refl _);rw[List.take_length]at this
 exact this hd
theorem GX(p:Nod)(b:Bal):(p.promise b).1.done=p.done:=by
 unfold Nod.promise;split
 ·rfl
 ·split
  ·rfl
  ·split<;>rfl
theorem Mu(p:Nod)(v:Vt):(p.vote v).1.done=p.done:=by
 unfold Nod.vote;split
 ·rfl
 ·split
  ·rfl
  ·split<;>rfl
theorem JM(p:Nod)(j:Nat)(v:Vt):(p.count j v).done=p.done:=by
 unfold Nod.count;split
 ·rfl
 ·split<;>rfl
theorem IL(p:Nod)(to:Nat)(e:Int):(p.refuse to e).done=p.done:=by unfold Nod.refuse;split<;>rfl
theorem GE(p:Nod)(l:List Cmd):(p.enqueue l).done=p.done:=by unfold Nod.enqueue;split<;>rfl
theorem Uf(p:Nod)(l:Let):(p.take l).done=p.done:=by
 unfold Nod.take;split
 ·split
  ·exact IL _ _ _
  ·exact GX p l.bal
 ·simp only;split<;>rfl
 ·rfl
 ·split
  ·exact IL _ _ _
  ·exact Mu p l.vote
 ·exact JM p _ _
 ·split<;>rfl
 ·simp only;split<;>exact GE p l.what
 ·rfl
theorem TJ(p:Nod)(i:Nat)(q:Pend):(p.runP i q).done=p.done:=by
 cases q with
 | began b vs=>unfold Nod.runP;simp only;split<;>rfl
 | prop v=>exact JM p i v
 | _=>rfl
theorem Qa(i:Nat)(l:List Pend)(p:Nod)(ls:List Let):(doneP i l p ls).1.done=p.done:=by
 induction l generalizing p ls with
 | nil=>rfl
 | cons q l ih=>exact(ih _ _).trans (TJ p i q)
theorem Vf(i:Nat)(l:List Cmd)(p:Nod)(ts:List Tol):p.done≤(doP i l p ts).1.done∧∃ us,(doP i l p ts).2=ts++us:=by
 induction l generalizing p ts with
 | nil=>exact⟨Nat.le_refl _,[],(List.append_nil _).symm⟩
 | cons c l ih =>
  rw[doP];split
  ·exact⟨Nat.le_refl _,[],(List.append_nil _).symm⟩
  ·obtain⟨h1,us,h2⟩:=ih (Nod.unwant { p with sto:=doS p.sto c,done:=p.done+1 } c) (if(p.asked c).isSome=true then ts++[⟨i,c.c,c.s,doC p.sto c,doA p.sto c⟩]else ts);rw[(Fv _ _).2.2.1]at h1
   refine⟨Nat.le_trans (Nat.le_succ _) h1,?_⟩;rw[h2];split
   ·exact⟨_,List.append_assoc _ _ _⟩
   ·exact⟨us,rfl⟩
theorem Kw(p:Nod)(i:Nat)(ls:List Let)(ts:List Tol):p.done≤(p.piece i ls ts).1.done∧∃ us,(p.piece i ls ts).2.2=ts++us:=by
 obtain⟨h1,h2⟩:=Vf i (p.agreed.drop p.done) p ts;refine⟨?_,h2⟩;unfold Nod.piece;simp only;generalize (doP i (p.agreed.drop p.done) p ts).1=a at h1 ⊢;have e1:(a.askd i).1.done=a.done:=by
  unfold Nod.askd;split
  ·rfl
  ·split
   ·exact GE _ _
   ·rfl
 generalize a.askd i=b at e1 ⊢;have e2:b.1.propose.done=b.1.done:=by
  unfold Nod.propose;split
  ·rfl
  ·split
   ·rfl
   ·split
    ·rfl
    ·exact Mu _ _
 generalize b.1.propose=c at e2 ⊢;generalize ls++b.2=k;have e3:(c.syncd i k).1.done=c.done:=by
  unfold Nod.syncd;split
  ·rfl
  ·rw[Qa];unfold Nod.syn;split<;>rfl
 generalize c.syncd i k=d at e3 ⊢;have e4:(d.1.taught i d.2).1.done=d.1.done:=by unfold Nod.taught;split<;>rfl
 omega
theorem LG(M:Meet)(l:Let)(j:Nat):((M.come l).node j).done=(M.node j).done:=by
 unfold Meet.come;split
 ·show(upN M.node l.dst ((M.node l.dst).take l) j).done=_;unfold upN;split
  ·rename_i e;rw[e];exact Uf _ _
  ·rfl
 ·rfl
theorem PU(l:List Let)(M:Meet)(j:Nat):((l.foldl (fun M l=>M.come l) M).node j).done=(M.node j).done:=by
 induction l generalizing M with
 | nil=>rfl
 | cons x l ih=>exact(ih _).trans (LG M x j)
theorem P4{f:Nat→Nod}{i j:Nat}{p:Nod}(h:p.done=(f i).done):(upN f i p j).done=(f j).done:=by
 unfold upN;split
 ·rename_i e;rw[e];exact h
 ·rfl
theorem U0(M:Meet){x:Lac}(h3:x.k≠3)(h8:x.k≠8)(h9:x.k≠9)(j:Nat):((M.act x).node j).done=(M.node j).done:=by
 unfold Meet.act;simp only;split
 ·refine P4 ?_;unfold Nod.subm Nod.sub0;split
  ·rfl
  ·split
   ·rfl
   ·split
    ·rfl
    ·show(Nod.want _ _).done=_;unfold Nod.want;split<;>rfl
 ·split
  ·refine P4 ?_;split
   ·unfold Nod.lead;simp only;split
    ·rfl
    ·exact GX _ _
   ·rfl
  ·split
   ·unfold Meet.move;split
    ·rfl
    ·simp only;split
     ·rw[LG];split<;>rfl
     ·split<;>rfl
   ·split
    ·unfold Meet.comeAll;exact PU _ { M with lets:=[] } j
    ·rfl
theorem U6(M:Meet){x:Lac}(h3:x.k=3)(j:Nat):(M.node j).done≤((M.act x).node j).done∧(x.n.toNat≠j→((M.act x).node j).done=(M.node j).done):=by
 unfold Meet.act;simp only;rw[if_neg (by omega),if_neg (by omega),if_pos h3];unfold Meet.set upN;simp only;by_cases hj:j=x.n.toNat
 ·rw[if_pos hj];refine⟨?_,fun e=>absurd hj.symm e⟩;rw[hj];split
  ·exact(Kw _ _ _ _).1
  ·exact Nat.le_refl _
 ·rw[if_neg hj];exact⟨Nat.le_refl _,fun _=>rfl⟩
theorem S9(M:Meet)(x:Lac):∃ us,(M.act x).told=M.told++us∧(x.k≠3→x.k≠1→us=[]):=by
 by_cases h1:x.k=1
 ·unfold Meet.act;simp only;rw[if_pos h1];show ∃ us,(Nod.subm _ _ _ _).2=M.told++us∧_;unfold Nod.subm Nod.sub0;split
  ·exact⟨[],(List.append_nil _).symm,fun _ _=>rfl⟩
  ·split
   ·exact⟨[],(List.append_nil _).symm,fun _ _=>rfl⟩
   ·split
    ·exact⟨_,rfl,fun _ e=>absurd h1 e⟩
    ·exact⟨[],(List.append_nil _).symm,fun _ _=>rfl⟩
 ·by_cases h3:x.k=3
  ·unfold Meet.act;simp only;rw[if_neg h1,if_neg (by omega),if_pos h3];unfold Meet.set;simp only;split
   ·obtain⟨us,h⟩:=(Kw (M.node x.n.toNat) x.n.toNat M.lets M.told).2;exact⟨us,h,fun e=>absurd h3 e⟩
   ·exact⟨[],(List.append_nil _).symm,fun _ _=>rfl⟩
  ·exact⟨[],by rw[NF M h1 h3,List.append_nil],fun _ _=>rfl⟩
theorem RT{n:Nat}{M:Meet}(h:MOk n M){j:Nat}(hj:j<5):(M.log j).length=(M.node j).done:=by
 have:=(h.node j hj).dn;unfold Meet.log;rw[List.length_take];omega
theorem dS{L:List Lac}(h:∀ x∈L,LacOk x)(hl:L.length≤100000){i:Nat}{x:Lac}(hx:L[i]?=some x){j:Nat}(hj:j<5) :
  (x.k=8∧x.n=(j:Int)→((AU.acts (L.take i)).node j).up=true→((AU.acts (L.take (i+1))).log j).length=0) ∧
  (¬ (x.k=8∧x.n=(j:Int))→((AU.acts (L.take i)).log j).length≤((AU.acts (L.take (i+1))).log j).length∧(¬ (x.k=3∧x.n=(j:Int))→((AU.acts (L.take (i+1))).log j).length=((AU.acts (L.take i)).log j).length)):=by
 have hm:∀ y∈L.take i,LacOk y:=fun y hy=>h y (List.mem_of_mem_take hy);have hm2:∀ y∈L.take (i+1),LacOk y:=fun y hy=>h y (List.mem_of_mem_take hy);have ht:=R5 (L.take i) hm (by rw[List.length_take];omega) hj;have hd:=U7 (L.take i) hm (by rw[List.length_take];omega) hj;have hn:=(G3 (L.take i) hm (by rw[List.length_take];omega)).node j hj;have hM:=G3 (L.take i) hm (by rw[List.length_take];omega);have hM2:=G3 (L.take (i+1)) hm2 (by rw[List.length_take];omega);rw[RT hM hj,RT hM2 hj];rw[Hx hx];have hxo:=h x (List.mem_of_getElem? hx);generalize AU.acts (L.take i)=M at ht hd hn ⊢;have hnj:Fx x.k=true→(x.n=(j:Int)↔x.n.toNat=j):=fun e=>by have:=hxo.n e;omega
 by_cases h8:x.k=8
 ·have he:(M.act x).node j=if j=x.n.toNat then(if(M.node j).up then(M.node j).crash x.p else M.node j)else M.node j:=by
   unfold Meet.act;simp only;rw[if_neg (by omega),if_neg (by omega),if_neg (by omega),if_neg (by omega),if_neg (by omega),if_pos h8];show upN _ _ _ _=_;unfold upN;by_cases e:j=x.n.toNat
   ·rw[if_pos e,if_pos e,e]
   ·rw[if_neg e,if_neg e]
  have hq:=hnj (by rw[h8];rfl);refine⟨fun e hu=>?_,fun e=>?_⟩
  ·rw[he,if_pos (hq.1 e.2).symm,if_pos hu];exact(JO ht (hxo.p (by rw[h8];rfl)).1).2.2.1
  ·rw[he,if_neg (fun e2=>e ⟨h8,hq.2 e2.symm⟩)];exact⟨Nat.le_refl _,fun _=>rfl⟩
 ·refine⟨fun e=>absurd e.1 h8,fun _=>?_⟩;by_cases h3:x.k=3
  ·have hq:=hnj (by rw[h3];rfl);have:=U6 M h3 j;exact⟨this.1,fun e=>this.2 fun e2=>e ⟨h3,hq.2 e2⟩⟩
  ·by_cases h9:x.k=9
   ·have he:((M.act x).node j).done=(M.node j).done:=by
     unfold Meet.act;simp only;rw[if_neg (by omega),if_neg (by omega),if_neg (by omega),if_neg (by omega),if_neg (by omega),if_neg h8,if_pos h9];unfold Meet.set upN;simp only;split
     ·rename_i e
      rw[← e];split
      ·rfl
      ·rename_i hu
       have h0:=hd (by simpa using hu);have h1:=hn.dn;rw[h0]at h1
       rw[(KD ht).2.2.1];simp at h1;omega
     ·rfl
    rw[he];exact⟨Nat.le_refl _,fun _=>rfl⟩
   ·rw[U0 M h3 h8 h9];exact⟨Nat.le_refl _,fun _=>rfl⟩
end Go.Proofs.YtaeckakjdagddabGreatDoor
