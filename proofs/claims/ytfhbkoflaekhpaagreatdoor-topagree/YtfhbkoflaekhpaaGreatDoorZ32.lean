/- Part 32 of the walk. -/
import Derived.Test.YtfhbkoflaekhpaaGreatDoorZ31
set_option maxRecDepth 100000
set_option maxHeartbeats 4000000
set_option linter.unusedVariables false
namespace Go.Proofs.YtfhbkoflaekhpaaGreatDoor
theorem Uu(p:Nod)(i:Nat)(q:Pend)(x:List Pend):({ p with pend:=x }:Nod).runP i q={ p.runP i q with pend:=x }:=by
 cases q with
 | began b vs=>unfold Nod.runP;simp only;split<;>rfl
 | prop v =>
  unfold Nod.runP Nod.count;simp only;split
  ·rfl
  ·split<;>rfl
 | _=>rfl
theorem MG(p:Nod)(i:Nat)(q:Pend):(p.runP i q).pend=p.pend∧(p.runP i q).up=p.up∧(p.runP i q).d=p.d∧(p.runP i q).sy=p.sy:=by
 cases q with
 | began b vs=>unfold Nod.runP;simp only;split<;>exact⟨rfl,rfl,rfl,rfl⟩
 | prop v =>
  unfold Nod.runP Nod.count;simp only;split
  ·exact⟨rfl,rfl,rfl,rfl⟩
  ·split<;>exact⟨rfl,rfl,rfl,rfl⟩
 | _=>exact⟨rfl,rfl,rfl,rfl⟩
theorem R6(p:Nod)(i:Nat)(q:Pend)(x:List Pend):({ p with pend:=x }:Nod).sentP i q=p.sentP i q:=by cases q<;>rfl
theorem Jn(p:Nod)(c:Cmd):(p.unwant c).up=p.up∧(p.unwant c).agreed=p.agreed∧(p.unwant c).done=p.done∧(p.unwant c).sto=p.sto:=by unfold Nod.unwant;split<;>exact⟨rfl,rfl,rfl,rfl⟩
theorem Q3(p:Nod)(l:List Cmd):(p.enqueue l).up=p.up:=by unfold Nod.enqueue;split<;>rfl
theorem RV(p:Nod)(i:Nat):(p.askd i).1.up=p.up:=by
 unfold Nod.askd;split
 ·rfl
 ·split
  ·exact Q3 _ _
  ·rfl
theorem aA(p:Nod)(v:Vt):(p.vote v).1.up=p.up:=by
 unfold Nod.vote;split
 ·rfl
 ·split
  ·rfl
  ·split<;>rfl
theorem KO(p:Nod):p.propose.up=p.up:=by
 unfold Nod.propose;split
 ·rfl
 ·split
  ·rfl
  ·split
   ·rfl
   ·exact aA p _
structure Wh where
 d:Nat→List Int→Prop
 ld:Prop
 cr:Prop
inductive Stp (D:Wh):Nat→Meet→Meet→Prop
 | take (M:Meet) (l:Let) (hl:l∈M.lets) (hd:l.src<5∧l.dst<5) (hu:(M.node l.dst).up=true):Stp D 0 M (M.set l.dst ((M.node l.dst).take l) M.lets M.told)
 | lets (M:Meet) (ls:List Let) (h:∀ l∈ls,l∈M.lets):Stp D 0 M { M with lets:=ls }
 | one (M:Meet) (i:Nat) (c:Cmd) (hi:i<5) (hu:(M.node i).up=true) (hc:(M.node i).agreed[(M.node i).done]?=some c) (he:doE (M.node i).sto c=0) :
   Stp D 0 M (M.set i (Nod.unwant { M.node i with sto:=doS (M.node i).sto c,done:=(M.node i).done+1 } c) M.lets (if((M.node i).asked c).isSome=true then M.told++[⟨i,c.c,c.s,doC (M.node i).sto c,doA (M.node i).sto c⟩]else M.told))
 | ask (M:Meet) (i:Nat) (hi:i<5) (hu:(M.node i).up=true):Stp D 0 M (M.set i ((M.node i).askd i).1 (M.lets++((M.node i).askd i).2) M.told)
 | prop (M:Meet) (i:Nat) (hi:i<5) (hu:(M.node i).up=true):Stp D 1 M (M.set i (M.node i).propose M.lets M.told)
 | syn (M:Meet) (i:Nat) (hi:i<5) (hu:(M.node i).up=true) (h:(M.node i).sy<((M.node i).d.length:Int)) (hT:B2 (M.node i).d (M.node i).sy):Stp D 0 M (M.set i { M.node i with sy:=((M.node i).d.length:Int) } M.lets M.told)
 | run (M:Meet) (i:Nat) (hi:i<5) (hu:(M.node i).up=true) (q:Pend) (l:List Pend) (hp:(M.node i).pend=q::l) (hs:¬ (M.node i).sy<((M.node i).d.length:Int)):Stp D 0 M (M.set i { (M.node i).runP i q with pend:=l } (M.lets++(M.node i).sentP i q) M.told)
 | teach (M:Meet) (i:Nat) (hi:i<5) (hu:(M.node i).up=true) (hL:(M.node i).leads=true):Stp D 0 M (M.set i (IE (M.node i) i 5) (M.lets++DM (M.node i) i 5) M.told)
 | lead (M:Meet) (i:Nat) (hi:i<5) (hu:(M.node i).up=true) (hL:D.ld):Stp D 0 M (M.set i ((M.node i).lead i) M.lets M.told)
 | sub (M:Meet) (i:Nat) (d:List Int) (hi:i<5) (hu:(M.node i).up=true) (hD:D.d i d):Stp D 0 M (M.set i ((M.node i).subm i d M.told).1 M.lets ((M.node i).subm i d M.told).2)
 | crash (M:Meet) (i:Nat) (k:Int) (hi:i<5) (hu:(M.node i).up=true) (hk:0≤k) (hC:D.cr):Stp D 0 M (M.set i ((M.node i).crash k) M.lets M.told)
 | start (M:Meet) (i:Nat) (hi:i<5) (hu:(M.node i).up=false):Stp D 0 M (M.set i (M.node i).start M.lets M.told)
inductive Sts (D:Wh):Nat→Meet→Meet→Prop
 | nil (n:Nat) (M:Meet):Sts D n M M
 | snoc {n c m:Nat} {M N K:Meet} (h:Sts D n M N) (s:Stp D c N K) (hm:n+c≤m):Sts D m M K
section
variable{D:Wh}
theorem Sts.mono{n m:Nat}{M N:Meet}(h:Sts D n M N)(hn:n≤m):Sts D m M N:=by
 cases h with
 | nil=>exact .nil m M
 | snoc h s hm=>exact .snoc h s (by omega)
theorem Sts.trans{n m:Nat}{M N K:Meet}(h:Sts D n M N)(k:Sts D m N K):Sts D (n+m) M K:=by
 induction k with
 | nil=>exact h.mono (by omega)
 | snoc _ s hm ih=>exact(ih h).snoc s (by omega)
theorem Sts.s0{n:Nat}{M N K:Meet}(h:Sts D n M N)(s:Stp D 0 N K):Sts D n M K:=h.snoc s (Nat.le_refl _)
theorem Stp.s{n:Nat}{M N:Meet}(h:Stp D 0 M N):Sts D n M N:=(Sts.nil n M).s0 h
theorem Ln{α:Type}(f:Nat→α)(i:Nat):upN f i (f i)=f:=by funext j;unfold upN;split<;>simp_all
theorem SO{α:Type}(f:Nat→α)(i:Nat)(x y:α):upN (upN f i x) i y=upN f i y:=by funext j;unfold upN;split<;>rfl
theorem Gb(M:Meet)(i:Nat)(p q:Nod)(ls ms:List Let)(ts us:List Tol):(M.set i p ls ts).set i q ms us=M.set i q ms us:=by unfold Meet.set;simp only[SO]
theorem I5(M:Meet)(i:Nat)(p:Nod)(ls:List Let)(ts:List Tol):(M.set i p ls ts).node i=p:=Ep M.node i p
theorem Mh(M:Meet)(l:Let):(M.come l).lets=M.lets:=by unfold Meet.come;split<;>rfl
theorem Mi(M:Meet)(l:Let)(ls:List Let):({ M with lets:=ls }:Meet).come l={ M.come l with lets:=ls }:=by
 unfold Meet.come;show(if(M.node l.dst).up=true then _ else _)=_;split<;>rfl
theorem Qr(l:List Let)(M:Meet)(ls:List Let):l.foldl (fun M l=>M.come l) ({ M with lets:=ls }:Meet)={ l.foldl (fun M l=>M.come l) M with lets:=ls }:=by
 induction l generalizing M with
 | nil=>rfl
 | cons x l ih=>rw[List.foldl_cons,Mi,ih];rfl
theorem Sts.come{n:Nat}{M N:Meet}(h:Sts D n M N){l:Let}(hl:l∈N.lets)(hd:l.src<5∧l.dst<5):Sts D n M (N.come l):=by
 unfold Meet.come;split
 ·rename_i hu;exact h.s0 (.take N l hl hd hu)
 ·exact h
theorem Sts.comes(l:List Let){n:Nat}{M N:Meet}(h:Sts D n M N)(hl:∀ m∈l,m∈N.lets∧m.src<5∧m.dst<5):Sts D n M (l.foldl (fun M l=>M.come l) N):=by
 induction l generalizing N with
 | nil=>exact h
 | cons x l ih=>exact ih (h.come (hl x List.mem_cons_self).1 (hl x List.mem_cons_self).2) fun m hm=>by rw[Mh];exact hl m (List.mem_cons_of_mem _ hm)
theorem Sts.doP{n i:Nat}(hi:i<5)(l:List Cmd)(p:Nod){M:Meet}{ls:List Let}{ts:List Tol}(h:Sts D n M (M.set i p ls ts))(hu:p.up=true)(hl:p.agreed.drop p.done=l) :
  Sts D n M (M.set i (doP i l p ts).1 ls (Go.Proofs.YtfhbkoflaekhpaaGreatDoor.doP i l p ts).2)∧(Go.Proofs.YtfhbkoflaekhpaaGreatDoor.doP i l p ts).1.up=true:=by
 induction l generalizing p ts with
 | nil=>exact⟨h,hu⟩
 | cons c l ih =>
  rw[Go.Proofs.YtfhbkoflaekhpaaGreatDoor.doP];split
  ·exact⟨h,hu⟩
  ·rename_i he
   have hc:p.agreed[p.done]?=some c:=by have:=congrArg (·[0]?) hl;simpa using this
   have hk:=Jn { p with sto:=doS p.sto c,done:=p.done+1 } c;have e:=I5 M i p ls ts;have s:=Stp.one (D:=D) (M.set i p ls ts) i c hi (by rw[e];exact hu) (by rw[e];exact hc) (by rw[e];exact Decidable.not_not.1 he);rw[e,Gb]at s
   refine ih _ (h.s0 s) (hk.1.trans hu) ?_;rw[hk.2.1,hk.2.2.1];show p.agreed.drop (p.done+1)=l;rw[← List.drop_drop,hl];rfl
theorem Sts.doneP{n i:Nat}(hi:i<5)(l:List Pend)(p:Nod){M:Meet}{ls:List Let}{ts:List Tol}(h:Sts D n M (M.set i { p with pend:=l } ls ts))(hu:p.up=true)(h0:p.pend=[])(hs:¬ p.sy<(p.d.length:Int)) :
  Sts D n M (M.set i (doneP i l p ls).1 (Go.Proofs.YtfhbkoflaekhpaaGreatDoor.doneP i l p ls).2 ts)∧(Go.Proofs.YtfhbkoflaekhpaaGreatDoor.doneP i l p ls).1.up=true:=by
 induction l generalizing p ls with
 | nil =>
  have:({ p with pend:=[] }:Nod)=p:=by cases p;simp_all
  rw[this]at h;exact⟨h,hu⟩
 | cons q l ih =>
  have hk:=MG p i q;have e:=I5 M i { p with pend:=q::l } ls ts;have s:=Stp.run (D:=D) (M.set i { p with pend:=q::l } ls ts) i hi (by rw[e];exact hu) q l (by rw[e]) (by rw[e];exact hs);rw[e,Gb,Uu,R6]at s
  exact ih (p.runP i q) (h.s0 s) (hk.2.1.trans hu) (hk.1.trans h0) (by rw[hk.2.2.1,hk.2.2.2];exact hs)
theorem Sts.piece{i:Nat}(hi:i<5)(M:Meet)(hu:(M.node i).up=true):Sts D 1 M (M.set i ((M.node i).piece i M.lets M.told).1 ((M.node i).piece i M.lets M.told).2.1 ((M.node i).piece i M.lets M.told).2.2):=by
 have h0:Sts D 0 M (M.set i (M.node i) M.lets M.told):=by rw[show M.set i (M.node i) M.lets M.told=M by unfold Meet.set;rw[Ln]];exact .nil 0 M
 obtain⟨ha,au⟩:=Sts.doP hi _ (M.node i) h0 hu rfl;unfold Nod.piece;simp only;generalize Go.Proofs.YtfhbkoflaekhpaaGreatDoor.doP i ((M.node i).agreed.drop (M.node i).done) (M.node i) M.told=a at ha au ⊢;have e:=I5 M i a.1 M.lets a.2;have s:=Stp.ask (D:=D) (M.set i a.1 M.lets a.2) i hi (by rw[e];exact au);rw[e,Gb]at s
 have hb:=ha.s0 s;have bu:=(RV a.1 i).trans au;clear e s ha;generalize (a.1.askd i)=b at hb bu ⊢;have e:=I5 M i b.1 (M.lets++b.2) a.2;have s:=Stp.prop (D:=D) (M.set i b.1 (M.lets++b.2) a.2) i hi (by rw[e];exact bu);rw[e,Gb]at s
 have hc:=hb.snoc s (m:=1) (by omega);have cu:=(KO b.1).trans bu;clear e s hb;change Sts D 1 M (M.set i b.1.propose (M.lets++b.2) a.2)at hc;generalize b.1.propose=r at hc cu ⊢;generalize M.lets++b.2=k at hc ⊢;have hd:Sts D 1 M (M.set i (r.syncd i k).1 (r.syncd i k).2 a.2)∧(r.syncd i k).1.up=true:=by
  unfold Nod.syncd;split
  ·exact⟨hc,cu⟩
  ·rename_i hn
   have e:=I5 M i r k a.2;unfold Nod.syn;split
   ·rename_i h1
    have h2:Dc r.d r.sy=0:=Decidable.not_not.1 fun e=>hn ⟨h1,e⟩;have hT:B2 r.d r.sy:=by
     unfold Dc at h2;split at h2
     ·assumption
     ·cases h2
    have s:=Stp.syn (D:=D) (M.set i r k a.2) i hi (by rw[e];exact cu) (by rw[e];exact h1) (by rw[e];exact hT);rw[e,Gb]at s
    have e1:Lc r.d r.sy=r.d:=if_pos hT;have e2:LU r.d r.sy=(r.d.length:Int):=if_pos hT;rw[e1,e2];exact Sts.doneP hi r.pend { r with sy:=(r.d.length:Int),pend:=[] } (hc.s0 s) cu rfl (Int.lt_irrefl _)
   ·rename_i h1
    exact Sts.doneP hi r.pend { r with pend:=[] } hc cu rfl h1
 generalize r.syncd i k=f at hd ⊢;unfold Nod.taught;split
 ·rename_i hL
  have e:=I5 M i f.1 f.2 a.2;have s:=Stp.teach (D:=D) (M.set i f.1 f.2 a.2) i hi (by rw[e];exact hd.2) (by rw[e];exact hL);rw[e,Gb]at s
  exact hd.1.s0 s
 ·exact hd.1
theorem H6(M:Meet)(i:Nat):M.set i (M.node i) M.lets M.told=M:=by unfold Meet.set;rw[Ln]
theorem Yk{n:Nat}{M:Meet}(hM:MOk n M){x:Lac}(hx:LacOk x)(hD:x.k=1→D.d x.n.toNat x.d)(h2:x.k=2→D.ld)(h8:x.k=8→D.cr):Sts D 1 M (M.act x):=by
 have hnode:∀ {k:Int},x.k=k→Gk k=true→x.n.toNat<5:=fun{k} e e2=>by have:=hx.n (by rw[e];exact e2);omega
 unfold Meet.act;simp only;split
 ·rename_i h1
  by_cases hu:(M.node x.n.toNat).up=true
  ·exact(Stp.sub M _ x.d (hnode h1 rfl) hu (hD h1)).s
  ·unfold Nod.subm Nod.sub0;rw[if_pos (by simpa using hu)];rw[H6];exact .nil 1 M
 ·split
  ·rename_i hk
   split
   ·rename_i hu;exact(Stp.lead M _ (hnode hk rfl) hu (h2 hk)).s
   ·rw[H6];exact .nil 1 M
  ·split
   ·rename_i h3
    by_cases hu:(M.node x.n.toNat).up=true
    ·rw[if_pos hu,if_pos hu,if_pos hu];exact Sts.piece (hnode h3 rfl) M hu
    ·rw[if_neg hu,if_neg hu,if_neg hu,H6];exact .nil 1 M
   ·split
    ·rename_i h4
     unfold Meet.move;split
     ·exact .nil 1 M
     ·rename_i l hl
      have hm:=List.mem_of_getElem? hl;have hd:=And.intro (hM.lets l hm).src (hM.lets l hm).dst;have hA:∀ N:Meet,Sts D 1 M N→N.lets=M.lets→Sts D 1 M (if x.k≠6 then{ N with lets:=M.lets.eraseIdx (x.a.toNat%M.lets.length) }else N):=fun N h e=>by
       split
       ·exact h.s0 (.lets N _ fun m hm=>by rw[e];exact List.mem_of_mem_eraseIdx hm)
       ·exact h
      simp only;split
      ·have:=hA (M.come l) ((Sts.nil 1 M).come hm hd) (Mh M l);by_cases h6:x.k≠6
       ·rw[if_pos h6]at this ⊢;rw[Mi];exact this
       ·rw[if_neg h6]at this ⊢;exact this
      ·exact hA M (.nil 1 M) rfl
    ·split
     ·unfold Meet.comeAll;rw[Qr];exact(Sts.comes M.lets (.nil 1 M) fun m hm=>⟨hm,(hM.lets m hm).src,(hM.lets m hm).dst⟩).s0 (.lets _ [] fun l hl=>by cases hl)
     ·split
      ·rename_i hk
       split
       ·rename_i hu;exact(Stp.crash M _ x.p (hnode hk rfl) hu (hx.p (by rw[hk];rfl)).1 (h8 hk)).s
       ·rw[H6];exact .nil 1 M
      ·split
       ·rename_i h9
        split
        ·rw[H6];exact .nil 1 M
        ·rename_i hu;exact(Stp.start M _ (hnode h9 rfl) (by simpa using hu)).s
       ·exact .nil 1 M
theorem Oh(L:List Lac){n:Nat}{M:Meet}(hM:MOk n M)(hn:n+L.length≤1000000)(hx:∀ x∈L,LacOk x∧(x.k=1→D.d x.n.toNat x.d)∧(x.k=2→D.ld)∧(x.k=8→D.cr)):Sts D L.length M (M.acts L):=by
 induction L generalizing n M with
 | nil=>exact .nil _ M
 | cons x L ih =>
  have h1:=hx x List.mem_cons_self;rw[List.length_cons]at hn
  rw[List.length_cons,Nat.add_comm];exact(Yk hM h1.1 h1.2.1 h1.2.2.1 h1.2.2.2).trans (ih (hM.act (by omega) h1.1) (by omega) fun y hy=>hx y (List.mem_cons_of_mem _ hy))
end
def whT:Wh:=⟨fun _ _=>True,True,True⟩
inductive Rk where
 | pr (b:Bal)
 | vt (v:Vt)
def Rk.body:Rk→List Int
 | .pr b=>Bl b
 | .vt v=>Bd v
def Rk.ap(a:Acc):Rk→Acc
 | .pr b=>⟨b,a.vs⟩
 | .vt v=>⟨v.b,AY a.vs v⟩
def Rk.err(a:Acc):Rk→Int
 | .pr b=>BN a b
 | .vt v=>AO a v
def Rk.ok(a:Acc):Rk→Prop
 | .pr b=>BN a b=0∧a.p≠b
 | .vt v=>AO a v=0∧v∉a.vs
theorem Rk.ok.err{a:Acc}{r:Rk}(h:Rk.ok a r):Rk.err a r=0:=by cases r<;>exact h.1
def BD(rs:List Rk):Acc:=rs.foldl Rk.ap a0
theorem BP(rs:List Rk)(r:Rk):BD (rs++[r])=Rk.ap (BD rs) r:=by unfold BD;rw[List.foldl_append];rfl
def AU(rs:List Rk):Prop:=∀ i r,rs[i]?=some r→Rk.ok (BD (rs.take i)) r
theorem AU.nil:AU []:=fun i r h=>by simp at h
theorem AU.left{rs qs:List Rk}(h:AU (rs++qs)):AU rs:=fun i r e=>by
 have hi:=(List.getElem?_eq_some_iff.1 e).1;have:=h i r (by rw[List.getElem?_append_left hi];exact e)
 rwa [List.take_append_of_le_length (by omega)]at this
theorem AU.pre{rs qs:List Rk}(h:AU qs)(hp:rs <+: qs):AU rs:=by obtain⟨x,rfl⟩:=hp;exact h.left
theorem AU.snoc{rs:List Rk}{r:Rk}(h:AU rs)(he:Rk.ok (BD rs) r):AU (rs++[r]):=fun i q e=>by
 rcases Nat.lt_or_ge i rs.length with hi|hi
 ·rw[List.getElem?_append_left hi]at e
  rw[List.take_append_of_le_length (by omega)];exact h i q e
 ·have:=(List.getElem?_eq_some_iff.1 e).1;rw[List.length_append,List.length_singleton]at this
  obtain rfl:i=rs.length:=by omega
  rw[List.getElem?_append_right (Nat.le_refl _)]at e
  simp at e;subst e;rw[List.take_append_of_le_length (Nat.le_refl _),List.take_length];exact he
theorem AU.last{rs:List Rk}{r:Rk}(h:AU (rs++[r])):Rk.ok (BD rs) r:=by
 have:=h rs.length r (by simp)
 rwa [List.take_append_of_le_length (Nat.le_refl _),List.take_length]at this
theorem AU.ind{P:List Rk→Prop}(h0:P [])(hs:∀ rs r,AU rs→Rk.ok (BD rs) r→P rs→P (rs++[r])){rs:List Rk}(h:AU rs):P rs:=by
 have:∀ k,k≤rs.length→P (rs.take k):=by
  intro k;induction k with
  | zero=>intro _;exact h0
  | succ k ih =>
   intro hk;have e:rs.take (k+1)=rs.take k++[rs[k]]:=by rw[List.take_succ_eq_append_getElem (by omega)]
   rw[e];exact hs _ _ (h.pre (List.take_prefix _ _)) (h k _ (List.getElem?_eq_getElem (by omega))) (ih (by omega))
 have:=this rs.length (Nat.le_refl _)
 rwa [List.take_length]at this
theorem An.prm{a:Acc}{b:Bal}(h:An a)(hb:Ab b)(hl:¬ b.lt a.p):An ⟨b,a.vs⟩:=by
 refine⟨.inl hb,fun v hv=>⟨(h.2.1 v hv).1,fun g=>?_⟩,h.2.2⟩;have h1:=(h.2.1 v hv).1.2.1;have h2:=(h.2.1 v hv).2;rw[Iy hb.pr h1.pr]at g
 rw[Iy h.1 h1.pr]at h2
 rw[Iy hb.pr h.1]at hl
 omega
theorem An.vot{a:Acc}{v:Vt}(h:An a)(hv:Ak v)(hl:¬ v.b.lt a.p):An ⟨v.b,AY a.vs v⟩:=by
 refine⟨.inl hv.2.1,fun u hu=>?_,Iw v h.2.2⟩;rcases(Ct h.2.2).1 hu with rfl|⟨hu,_⟩
 ·refine⟨hv,fun g=>?_⟩;change u.b.lt u.b at g;unfold Bal.lt at g;omega
 ·exact(h.prm hv.2.1 hl).2.1 u hu
theorem JE:An a0:=⟨.inr ⟨rfl,rfl⟩,fun v hv=>(List.not_mem_nil hv).elim,trivial⟩
theorem Rk.may{a:Acc}(h:An a){r:Rk}(he:Rk.err a r=0):An (Rk.ap a r):=by
 cases r with
 | pr b=>have:=Da he;exact h.prm this.2.1 this.2.2
 | vt v=>have:=AG he;exact h.vot this.2.1 this.2.2
theorem AU.acc{rs:List Rk}(h:AU rs):An (BD rs):=h.ind (P:=fun rs=>An (BD rs)) JE fun rs r _ he ih=>by rw[BP];exact Rk.may ih he.err
theorem BJ{a b:Bal}(ha:Aw a)(hb:Aw b)(h:¬ a.lt b):b.key≤a.key:=by rw[Iy ha hb]at h;omega
theorem Rk.rises{a:Acc}(h:An a){r:Rk}(he:Rk.err a r=0):a.p.key≤(Rk.ap a r).p.key:=by
 cases r with
 | pr b=>have:=Da he;exact BJ this.2.1.pr h.1 this.2.2
 | vt v=>have:=AG he;exact BJ this.2.1.2.1.pr h.1 this.2.2
theorem P5{rs:List Rk}(h:AU rs):∀ v∈(BD rs).vs,Rk.vt v∈rs:=h.ind (P:=fun rs=>∀ v∈(BD rs).vs,Rk.vt v∈rs) (fun v hv=>by cases hv) fun rs r hk he ih v hv=>by
 rw[BP]at hv
 cases r with
 | pr b=>exact List.mem_append_left _ (ih v hv)
 | vt u =>
  rcases(Ct hk.acc.2.2).1 hv with rfl|⟨hv,_⟩
  ·exact List.mem_append_right _ List.mem_cons_self
  ·exact List.mem_append_left _ (ih v hv)
theorem An.le{a:Acc}(h:An a){v:Vt}(hv:v∈a.vs):v.b.key≤a.p.key:=BJ h.1 (h.2.1 v hv).1.2.1.pr (h.2.1 v hv).2
theorem K5{a:Acc}(h:An a){v:Vt}(he:AO a v=0){u:Vt}(hu:u∈a.vs):∃ x∈AY a.vs v,x.slot=u.slot∧u.b.key≤x.b.key:=by
 have hz:=AG he;by_cases e:u.slot=v.slot
 ·exact⟨v,(Ct h.2.2).2 (.inl rfl),e.symm,Int.le_trans (h.le hu) (BJ hz.2.1.2.1.pr h.1 hz.2.2)⟩
 ·exact⟨u,(Ct h.2.2).2 (.inr ⟨hu,e⟩),rfl,Int.le_refl _⟩
theorem Xq{rs:List Rk}(h:AU rs):∀ v,Rk.vt v∈rs→v.b.key≤(BD rs).p.key∧∃ u∈(BD rs).vs,u.slot=v.slot∧v.b.key≤u.b.key:=h.ind (P:=fun rs=>∀ v,Rk.vt v∈rs→v.b.key≤(BD rs).p.key∧∃ u∈(BD rs).vs,u.slot=v.slot∧v.b.key≤u.b.key) (fun v hv=>by cases hv) fun rs r hk he ih v hv=>by
 have hr:=Rk.rises hk.acc he.err;rw[BP];rcases List.mem_append.1 hv with hv|hv
 ·obtain⟨h1,u,h2,h3,h4⟩:=ih v hv;refine⟨Int.le_trans h1 hr,?_⟩;cases r with
  | pr b=>exact⟨u,h2,h3,h4⟩
  | vt w =>
   obtain⟨x,x1,x2,x3⟩:=K5 hk.acc he.err h2;exact⟨x,x1,x2.trans h3,Int.le_trans h4 x3⟩
 ·rw[← List.mem_singleton.1 hv]at he ⊢
  exact⟨Int.le_refl _,v,(Ct hk.acc.2.2).2 (.inl rfl),rfl,Int.le_refl _⟩
theorem E5{rs qs:List Rk}(h:AU (rs++qs)):(BD rs).p.key≤(BD (rs++qs)).p.key∧∀ v,Rk.vt v∈qs→(BD rs).p.key≤v.b.key:=by
 have:∀ k,k≤qs.length→(BD rs).p.key≤(BD (rs++qs.take k)).p.key∧∀ v,Rk.vt v∈qs.take k→(BD rs).p.key≤v.b.key:=by
  intro k;induction k with
  | zero=>intro _;rw[List.take_zero,List.append_nil];exact⟨Int.le_refl _,fun v hv=>by cases hv⟩
  | succ k ih =>
   intro hk;obtain⟨h1,h2⟩:=ih (by omega);have e:qs.take (k+1)=qs.take k++[qs[k]]:=by rw[List.take_succ_eq_append_getElem (by omega)]
   have hok:AU (rs++qs.take k++[qs[k]]):=h.pre (by rw[List.append_assoc,← e];exact List.prefix_append_right_inj rs |>.2 (List.take_prefix _ _));have hr:=Rk.rises hok.left.acc hok.last.err;rw[← BP]at hr
   rw[e,← List.append_assoc];refine⟨Int.le_trans h1 hr,fun v hv=>?_⟩;rcases List.mem_append.1 hv with hv|hv
   ·exact h2 v hv
   ·have hl:=hok.last;rw[← List.mem_singleton.1 hv]at hl
    have hz:=AG hl.err;exact Int.le_trans h1 (BJ hz.2.1.2.1.pr hok.left.acc.1 hz.2.2)
 have:=this qs.length (Nat.le_refl _)
 rwa [List.take_length]at this
def fl(rs:List Rk):List Int:=Az (rs.map Rk.body)
theorem YE(rs:List Rk)(r:Rk):fl (rs++[r])=fl rs++AH r.body:=by unfold fl;rw[List.map_append,Ci];simp[Az]
theorem Q8(rs qs:List Rk):fl (rs++qs)=fl rs++fl qs:=by unfold fl;rw[List.map_append,Ci]
theorem VM{rs qs:List Rk}(h:rs <+: qs):(fl rs).length≤(fl qs).length:=by obtain⟨x,rfl⟩:=h;rw[Q8,List.length_append];omega
theorem ei{rs qs:List Rk}(h:rs <+: qs)(he:(fl qs).length≤(fl rs).length):rs=qs:=by
 obtain⟨x,rfl⟩:=h;rw[Q8,List.length_append]at he
 have:=OF (x.map Rk.body);rw[List.length_map]at this
 unfold fl at he;obtain rfl:x=[]:=List.eq_nil_of_length_eq_zero (by omega);rw[List.append_nil]
theorem AU.chn{rs:List Rk}(h:AU rs):Chn ((List.range (rs.length+1)).map fun j=>BD (rs.take j)) (rs.map Rk.body):=by
 refine⟨by simp,by simp[BD],fun i b a c hb ha hc=>?_⟩;simp only[List.getElem?_map,Option.map_eq_some_iff]at hb ha hc;obtain⟨r,hr,rfl⟩:=hb;obtain⟨j,hj,rfl⟩:=ha;obtain⟨k,hk,rfl⟩:=hc;have hi:=(List.getElem?_eq_some_iff.1 hr).1;rw[List.getElem?_range (by omega)]at hj hk
 cases hj;cases hk;have he:=(h i r hr).err;have hq:rs[i]=r:=by rw[List.getElem?_eq_getElem hi]at hr;exact Option.some.inj hr
 rw[List.take_succ_eq_append_getElem hi,BP,hq];generalize BD (rs.take i)=a at he ⊢;cases r with
 | pr b=>show Dk a (Bl b)=_;rw[VA a (Da he).2.1];exact if_pos he
 | vt v=>show Dk a (Bd v)=_;rw[VB a (AG he).2.1];exact if_pos he
structure TpU(p:Nod)(dr rs:List Rk):Prop where
 ok:AU rs
 pre:dr <+: rs
 d:p.d=fl rs
 sy:p.sy=((fl dr).length:Int)
 vo:p.vo=BD rs
 len:p.d.length≤100000
structure TpD(p:Nod)(dr:List Rk):Prop where
 ok:AU dr
 rcv:DQ p.d=((fl dr).length,BD dr)
 tk:p.d.take (fl dr).length=fl dr
 sy:p.sy=(p.d.length:Int)
 len:p.d.length≤100000
theorem TpU.tap{p:Nod}{dr rs:List Rk}(h:TpU p dr rs):B2 p.d p.sy:=by
 have:=VM h.pre;have:=h.d;refine⟨h.len,by rw[h.sy];omega,?_⟩;rw[h.sy,h.d];omega
theorem TpU.zero:TpU CQ [] []:=⟨AU.nil,List.prefix_refl _,rfl,rfl,rfl,by decide⟩
theorem TpU.all{p:Nod}{dr rs:List Rk}(h:TpU p dr rs)(hs:¬ p.sy<(p.d.length:Int)):dr=rs:=ei h.pre (by rw[h.sy,h.d]at hs;omega)
theorem TpU.crash{p:Nod}{dr rs:List Rk}(h:TpU p dr rs){k:Int}(hk:0≤k):∃ dr',dr <+: dr'∧dr' <+: rs∧TpD (p.crash k) dr':=by
 have hT:=h.tap;have hc:Hb p.d p.sy k=0:=by unfold Hb;rw[if_neg (fun e=>e hT),if_neg (by omega)]
 have hT':=hT;unfold B2 at hT';have hN:p.sy≤Fv p.d p.sy k∧Fv p.d p.sy k≤(p.d.length:Int):=by unfold Fv;split<;>omega
 obtain⟨j,a,h1,h2,h3,h4,h5⟩:=h.ok.chn.torn (Fv p.d p.sy k).toNat;rw[List.length_map]at h1 h5
 rw[List.getElem?_map,List.getElem?_range (by omega)]at h2
 obtain rfl:BD (rs.take j)=a:=by simpa using h2
 have hfj:Az ((rs.map Rk.body).take j)=fl (rs.take j):=by unfold fl;rw[List.map_take]
 rw[hfj]at h3 h4
 have hd:(p.crash k).d=(fl rs).take (Fv p.d p.sy k).toNat:=by
  unfold Nod.crash;rw[if_neg (fun e=>e hc)];show Jt p.d p.sy k=_;unfold Jt;rw[if_pos hc,h.d]
 have hs:(p.crash k).sy=Fv p.d p.sy k:=by
  unfold Nod.crash;rw[if_neg (fun e=>e hc)];show Ju p.d p.sy k=_;unfold Ju;rw[if_pos hc]
 have hl:((fl rs).take (Fv p.d p.sy k).toNat).length=(Fv p.d p.sy k).toNat:=by rw[List.length_take,← h.d];omega
 refine⟨rs.take j,?_,List.take_prefix _ _,h.ok.pre (List.take_prefix _ _),by rw[hd];exact h3,?_,?_,?_⟩
 ·obtain⟨x,hx⟩:=h.pre;rcases Nat.lt_or_ge j dr.length with g|g
  ·exfalso;rcases h5 with h5|h5
   ·rw[← hx,List.length_append]at h5;omega
   ·have hp:rs.take (j+1) <+: dr:=by rw[← hx,List.take_append_of_le_length (by omega)];exact List.take_prefix _ _
    have:=VM hp;rw[show Az ((rs.map Rk.body).take (j+1))=fl (rs.take (j+1))by unfold fl;rw[List.map_take]]at h5
    have:=h.sy;omega
  ·rw[← hx,List.take_append];rw[List.take_of_length_le g];exact List.prefix_append _ _
 ·rw[hd,List.take_take,Nat.min_eq_left h4];have e:fl rs=fl (rs.take j)++fl (rs.drop j):=by rw[← Q8,List.take_append_drop]
  rw[show(fl rs).take (fl (rs.take j)).length=(fl (rs.take j)++fl (rs.drop j)).take (fl (rs.take j)).length by rw[← e],List.take_append_of_le_length (Nat.le_refl _),List.take_length]
 ·rw[hs,hd,hl];omega
 ·rw[hd,hl];have:=h.len;omega
theorem TpD.start{p:Nod}{dr:List Rk}(h:TpD p dr):TpU p.start dr dr:=by
 have hT:B2 p.d p.sy:=⟨h.len,by rw[h.sy];omega,by rw[h.sy];omega⟩;have e0:Dc p.d p.sy=0:=if_pos hT;have e1:LO p.d p.sy=((fl dr).length:Int):=by unfold LO;rw[if_pos hT,h.rcv]
 have e2:FB p.d p.sy=BD dr:=by unfold FB;rw[if_pos hT,h.rcv]
 have hle:=SC p.d;rw[h.rcv]at hle
 have hle:(fl dr).length≤p.d.length:=hle;have hlen:=h.len;unfold Nod.start;rw[if_neg (fun e=>e e0),e1,e2];split
 ·rename_i hlt
  have e3:I3 p.d p.sy=fl dr:=by unfold I3;rw[if_pos hT,h.rcv];exact h.tk
  have e4:KV p.d p.sy=((fl dr).length:Int):=by unfold KV;rw[if_pos hT,h.rcv];exact if_pos (by rw[h.sy];exact hlt)
  exact⟨h.ok,List.prefix_refl _,e3,e4,rfl,by show(I3 p.d p.sy).length≤_;rw[e3];omega⟩
 ·rename_i hge
  have e3:p.d=fl dr:=by have:=h.tk;rwa [List.take_of_length_le (by omega)]at this
  exact⟨h.ok,List.prefix_refl _,e3,by show p.sy=_;rw[h.sy,← e3],rfl,hlen⟩
theorem TpU.syn{p:Nod}{dr rs:List Rk}(h:TpU p dr rs):TpU { p with sy:=(p.d.length:Int) } rs rs:=⟨h.ok,List.prefix_refl _,h.d,by show(p.d.length:Int)=_;rw[h.d],h.vo,h.len⟩
def Nod.tv(p:Nod)(d:List Int)(s:Int)(a:Acc):Nod:={ p with d:=d,sy:=s,vo:=a }
theorem TpU.write{p:Nod}{dr rs:List Rk}(h:TpU p dr rs){r:Rk}(he:Rk.ok p.vo r)(hl:p.d.length+(r.body.length+5)≤100000):TpU (p.tv (p.d++AH r.body) p.sy (Rk.ap p.vo r)) dr (rs++[r]):=by
 rw[h.vo]at he
 refine⟨h.ok.snoc he,h.pre.trans (List.prefix_append _ _),?_,h.sy,?_,?_⟩
 ·show p.d++_=_;rw[h.d,YE]
 ·show Rk.ap p.vo r=_;rw[h.vo,BP]
 ·show(p.d++AH r.body).length≤_;rw[List.length_append,Bq];omega
theorem TpU.promise{p:Nod}{dr rs:List Rk}(h:TpU p dr rs)(b:Bal):((p.promise b).2.2≠0∧(p.promise b).1=p) ∨
  ((p.promise b).2.2=0∧BN p.vo b=0∧(p.promise b).2.1=p.vo.vs∧∃ rs',rs <+: rs'∧TpU (p.promise b).1 dr rs'∧(∀ v,Rk.vt v∈rs'↔Rk.vt v∈rs)∧(BD rs').p=b∧(BD rs').vs=p.vo.vs∧∃ d a,(p.promise b).1=p.tv d p.sy a):=by
 unfold Nod.promise;split
 ·rename_i h1;exact .inl ⟨h1,rfl⟩
 ·rename_i h1
  have h1:=Decidable.not_not.1 h1;split
  ·rename_i h2
   refine .inr ⟨rfl,h1,rfl,rs,List.prefix_refl _,?_,fun _=>Iff.rfl,?_,?_,p.d,p.vo,?_⟩
   ·rw[h2];exact h
   ·rw[← h.vo];exact h2.symm
   ·rw[← h.vo]
   ·rw[h2];rfl
  ·rename_i h2
   split
   ·rename_i h3;exact .inl ⟨h3,rfl⟩
   ·rename_i h3
    have h3:=Decidable.not_not.1 h3;have hw:=MU h3;have e1:FP p.d p.sy (Ab b) (Bl b)=p.d++AH (Bl b):=if_pos h3;have e2:GS p.d p.sy (Ab b) (Bl b)=p.sy:=if_pos h3;rw[e1,e2];refine .inr ⟨rfl,h1,rfl,rs++[Rk.pr b],List.prefix_append _ _,(h.write (r:=.pr b) ⟨h1,fun e=>h2 e.symm⟩ hw.2.1),fun v=>by simp,?_,?_,_,_,rfl⟩
    ·rw[BP];rfl
    ·rw[BP,h.vo];rfl
theorem TA{l:List Vt}(h:B1 l){v:Vt}(hv:v∈l):AY l v=l:=by
 induction l with
 | nil=>cases hv
 | cons u us ih =>
  rw[AY];rcases List.mem_cons.1 hv with rfl|hv
  ·rw[if_neg (Int.lt_irrefl _),if_pos rfl]
  ·rw[if_pos (h.1 v hv),ih h.2 hv]
theorem TpU.vote{p:Nod}{dr rs:List Rk}(h:TpU p dr rs)(v:Vt):((p.vote v).2≠0∧(p.vote v).1=p) ∨
  ((p.vote v).2=0∧AO p.vo v=0∧∃ rs',rs <+: rs'∧TpU (p.vote v).1 dr rs'∧(∀ u,Rk.vt u∈rs'↔u=v∨Rk.vt u∈rs)∧(BD rs').p=v.b∧∃ d a,(p.vote v).1=p.tv d p.sy a):=by
 unfold Nod.vote;split
 ·rename_i h1;exact .inl ⟨h1,rfl⟩
 ·rename_i h1
  have h1:=Decidable.not_not.1 h1;have hz:=AG h1;split
  ·rename_i h2
   have hle:=hz.1.le h2;have hge:=BJ hz.2.1.2.1.pr hz.1.1 hz.2.2;have e:v.b=p.vo.p:=Hj hz.2.1.2.1.pr hz.1.1 (by omega);have e2:(⟨v.b,AY p.vo.vs v⟩:Acc)=p.vo:=by rw[TA hz.1.2.2 h2,e]
   rw[e2];refine .inr ⟨rfl,h1,rs,List.prefix_refl _,h,fun u=>⟨.inr,fun hu=>?_⟩,by rw[← h.vo];exact e.symm,p.d,p.vo,rfl⟩;rcases hu with rfl|hu
   ·exact P5 h.ok u (by rw[← h.vo];exact h2)
   ·exact hu
  ·rename_i h2
   split
   ·rename_i h3;exact .inl ⟨h3,rfl⟩
   ·rename_i h3
    have h3:=Decidable.not_not.1 h3;have hw:=MU h3;have e1:FP p.d p.sy (Ak v) (Bd v)=p.d++AH (Bd v):=if_pos h3;have e2:GS p.d p.sy (Ak v) (Bd v)=p.sy:=if_pos h3;rw[e1,e2];refine .inr ⟨rfl,h1,rs++[Rk.vt v],List.prefix_append _ _,h.write (r:=.vt v) ⟨h1,h2⟩ hw.2.1,fun u=>?_,by rw[BP];rfl,_,_,rfl⟩;rw[List.mem_append,List.mem_singleton];exact⟨fun g=>g.elim .inr fun e=>.inl (Rk.vt.inj e),fun g=>g.elim (fun e=>.inr (by rw[e])) .inl⟩
structure Gs where
 dr:Nat→List Rk
 W:Bal→Nat→Cmd→Prop
def Gs.held(σ:Gs)(n:Nat)(v:Vt):Prop:=Rk.vt v∈σ.dr n
def Gs.H(σ:Gs)(n s:Nat)(b:Int)(c:Cmd):Prop:=∃ v,σ.held n v∧v.slot=(s:Int)∧v.b.key=b∧v.w=c
def Gs.P(σ:Gs)(n:Nat):Int:=(BD (σ.dr n)).p.key
def Gs.vok(σ:Gs)(v:Vt):Prop:=Ak v∧σ.W v.b v.slot.toNat v.w
def Gs.chs(σ:Gs)(s:Nat)(c:Cmd):Prop:=∃ b,Ch σ.H s b c
structure GsI(σ:Gs):Prop where
 ok:∀ n,AU (σ.dr n)
 pinv:PInv σ.H σ.P
 w1:∀ b s c c',σ.W b s c→σ.W b s c'→c=c'
 w2:∀ b s c,σ.W b s c→Ab b∧D5 σ.H σ.P s b.key c
 w3:∀ b s c,σ.W b s c→b.key≤σ.P b.n.toNat
 hv:∀ n v,σ.held n v→σ.vok v
structure Gs.le(σ τ:Gs):Prop where
 pre:∀ n,σ.dr n <+: τ.dr n
 W:∀ b s c,σ.W b s c→τ.W b s c
theorem Gs.le.refl(σ:Gs):σ.le σ:=⟨fun _=>List.prefix_refl _,fun _ _ _ h=>h⟩
theorem Gs.le.trans{σ τ υ:Gs}(h:σ.le τ)(k:τ.le υ):σ.le υ:=⟨fun n=>(h.pre n).trans (k.pre n),fun b s c g=>k.W b s c (h.W b s c g)⟩
theorem Gs.le.held{σ τ:Gs}(h:σ.le τ){n:Nat}{v:Vt}(g:σ.held n v):τ.held n v:=(h.pre n).subset g
theorem Gs.le.H{σ τ:Gs}(h:σ.le τ){n s:Nat}{b:Int}{c:Cmd}(g:σ.H n s b c):τ.H n s b c:=by obtain⟨v,h1,h2⟩:=g;exact⟨v,h.held h1,h2⟩
theorem Gs.le.vok{σ τ:Gs}(h:σ.le τ){v:Vt}(g:σ.vok v):τ.vok v:=⟨g.1,h.W _ _ _ g.2⟩
theorem Gs.le.chs{σ τ:Gs}(h:σ.le τ){s:Nat}{c:Cmd}(g:σ.chs s c):τ.chs s c:=by obtain⟨b,Q,h1,h2⟩:=g;exact⟨b,Q,h1,fun q hq hQ=>h.H (h2 q hq hQ)⟩
theorem Gs.le.P{σ τ:Gs}(h:σ.le τ)(hI:GsI τ)(n:Nat):σ.P n≤τ.P n:=by
 obtain⟨x,hx⟩:=h.pre n;have:=hI.ok n;unfold Gs.P;rw[← hx]at this ⊢
 exact(E5 this).1
structure Gs.by_(i:Nat)(σ τ:Gs):Prop where
 le:σ.le τ
 new:∀ b s c,τ.W b s c→σ.W b s c∨b.n=(i:Int)
 oth:∀ n,n≠i→τ.dr n=σ.dr n
theorem Gs.by_.refl(i:Nat)(σ:Gs):Gs.by_ i σ σ:=⟨.refl σ,fun _ _ _ h=>.inl h,fun _ _=>rfl⟩
def Gs.ext(σ:Gs)(i:Nat)(qs:List Rk):Gs:=⟨upN σ.dr i (σ.dr i++qs),σ.W⟩
theorem G4(σ:Gs)(i:Nat)(qs:List Rk):(σ.ext i qs).dr i=σ.dr i++qs:=Ep _ _ _
theorem Kl(σ:Gs){i n:Nat}(qs:List Rk)(h:n≠i):(σ.ext i qs).dr n=σ.dr n:=FL _ _ h
theorem Nk(σ:Gs)(i:Nat)(qs:List Rk):Gs.by_ i σ (σ.ext i qs):=⟨⟨fun n=>by
 by_cases e:n=i
 ·subst e;rw[G4];exact List.prefix_append _ _
 ·rw[Kl σ qs e];exact List.prefix_refl _,fun _ _ _ h=>h⟩,fun _ _ _ h=>.inl h,fun n h=>Kl σ qs h⟩
theorem OD(σ:Gs)(i:Nat)(r:Rk):(σ.ext i [r]).P=upP σ.P i (Rk.ap (BD (σ.dr i)) r).p.key:=by
 funext n
 unfold Gs.P upP;split
 ·rename_i e;subst e;rw[G4,BP]
 ·rename_i e;rw[Kl σ _ e]
theorem Hh{σ:Gs}{i:Nat}{qs:List Rk}{n:Nat}{v:Vt}:(σ.ext i qs).held n v↔σ.held n v∨(n=i∧Rk.vt v∈qs):=by
 unfold Gs.held;by_cases e:n=i
 ·subst e;rw[G4,List.mem_append];simp
 ·rw[Kl σ qs e];simp[e]
theorem GsI.ext1{σ:Gs}(h:GsI σ){i:Nat}{r:Rk}(he:Rk.ok (BD (σ.dr i)) r)(hv:∀ v,r=.vt v→σ.vok v):GsI (σ.ext i [r]):=by
 have hacc:=(h.ok i).acc;have hris:=Rk.rises hacc he.err;have hle:=(Nk σ i [r]).le;have hok:∀ n,AU ((σ.ext i [r]).dr n):=fun n=>by
  by_cases e:n=i
  ·subst e;rw[G4];exact(h.ok n).snoc he
  ·rw[Kl σ _ e];exact h.ok n
 have hPi:σ.P i≤(Rk.ap (BD (σ.dr i)) r).p.key:=hris;have hP:∀ n,σ.P n≤(σ.ext i [r]).P n:=fun n=>by rw[OD];exact Lo hPi n
 have hhv:∀ n v,(σ.ext i [r]).held n v→(σ.ext i [r]).vok v:=fun n v g=>by
  rcases Hh.1 g with g|⟨_,g⟩
  ·exact hle.vok (h.hv n v g)
  ·exact hle.vok (hv v (List.mem_singleton.1 g).symm)
 cases r with
 | pr b =>
  have hH:(σ.ext i [.pr b]).H=σ.H:=by
   funext n s b' c
   exact propext ⟨fun⟨v,g,k⟩=>⟨v,(Hh.1 g).resolve_right fun e=>by simp at e,k⟩,fun⟨v,g,k⟩=>⟨v,hle.held g,k⟩⟩
  refine⟨hok,?_,h.w1,fun b' s c g=>⟨(h.w2 b' s c g).1,?_⟩,fun b' s c g=>Int.le_trans (h.w3 b' s c g) (hP _),hhv⟩
  ·rw[hH,OD];exact h.pinv.promise hPi
  ·rw[hH,OD];exact(h.w2 b' s c g).2.up hPi
 | vt v =>
  obtain⟨hm,hW⟩:=hv v rfl;have hs:v.slot=(v.slot.toNat:Int):=by have:=hm.1;omega
  have hH:(σ.ext i [.vt v]).H=bj σ.H i v.slot.toNat v.b.key v.w:=by
   funext n s b' c
   refine propext ⟨fun⟨u,g,k1,k2,k3⟩=>?_,fun g=>?_⟩
   ·rcases Hh.1 g with g|⟨g1,g2⟩
    ·exact .inl ⟨u,g,k1,k2,k3⟩
    ·have e:u=v:=Rk.vt.inj (List.mem_singleton.1 g2);subst e;exact .inr ⟨g1,by omega,k2.symm,k3.symm⟩
   ·rcases g with⟨u,g,k⟩|⟨rfl,rfl,rfl,rfl⟩
    ·exact⟨u,hle.held g,k⟩
    ·exact⟨v,Hh.2 (.inr ⟨rfl,List.mem_singleton.2 rfl⟩),hs,rfl,rfl⟩
  refine⟨hok,?_,h.w1,fun b' s c g=>⟨(h.w2 b' s c g).1,?_⟩,fun b' s c g=>Int.le_trans (h.w3 b' s c g) (hP _),hhv⟩
  ·rw[hH,OD];refine h.pinv.vote hPi (by have:=hm.2.1.pos;show 0<v.b.key;omega) (h.w2 _ _ _ hW).2 fun m c' ⟨u,g,k1,k2,k3⟩=>?_;have hu:=h.hv m u g;have e:u.b=v.b:=Hj hu.1.2.1.pr hm.2.1.pr k2;have h2:=hu.2;rw[e,show u.slot.toNat=v.slot.toNat by omega,k3]at h2
   exact h.w1 _ _ _ _ h2 hW
  ·rw[hH,OD];exact(h.w2 b' s c g).2.vote hPi
theorem YA(σ:Gs)(i:Nat)(r:Rk)(qs:List Rk):(σ.ext i [r]).ext i qs=σ.ext i (r::qs):=by unfold Gs.ext;simp only[Ep,SO,List.append_assoc,List.singleton_append]
theorem GsI.ext{σ:Gs}(h:GsI σ){i:Nat}(qs:List Rk)(hk:AU (σ.dr i++qs))(hv:∀ v,Rk.vt v∈qs→σ.vok v):GsI (σ.ext i qs):=by
 induction qs generalizing σ with
 | nil =>
  have:σ.ext i []=σ:=by unfold Gs.ext;rw[List.append_nil,Ln]
  rw[this];exact h
 | cons r qs ih =>
  rw[← YA];have h1:AU (σ.dr i++[r]):=hk.pre ⟨qs,by simp⟩;refine ih (h.ext1 h1.last fun v e=>hv v (by rw[e];exact List.mem_cons_self)) ?_ fun v g=>(Nk σ i [r]).le.vok (hv v (List.mem_cons_of_mem _ g));rw[G4,List.append_assoc];exact hk
structure PrmOk(dr:List Rk)(b:Bal)(vs:List Vt):Prop where
 le:b.key≤(BD dr).p.key
 sub:∀ v∈vs,Rk.vt v∈dr∧v.b.key≤b.key
 dom:∀ v,Rk.vt v∈dr→v.b.key<b.key→∃ u∈vs,u.slot=v.slot∧v.b.key≤u.b.key
 acc:An ⟨b,vs⟩
theorem PrmOk.mono{dr rs:List Rk}{b:Bal}{vs:List Vt}(h:PrmOk dr b vs)(hp:dr <+: rs)(hk:AU rs):PrmOk rs b vs:=by
 obtain⟨x,rfl⟩:=hp;have hr:=E5 hk;refine⟨Int.le_trans h.le hr.1,fun v hv=>⟨List.mem_append_left _ (h.sub v hv).1,(h.sub v hv).2⟩,fun v hv hlt=>?_,h.acc⟩;rcases List.mem_append.1 hv with hv|hv
 ·exact h.dom v hv hlt
 ·have:=hr.2 v hv;have:=h.le;omega
theorem PrmOk.of{rs:List Rk}(hk:AU rs){b:Bal}{vs:List Vt}(hb:(BD rs).p=b)(hv:(BD rs).vs=vs):PrmOk rs b vs:=by
 subst hb hv;exact⟨Int.le_refl _,fun v hv=>⟨P5 hk v hv,hk.acc.le hv⟩,fun v hv _=>(Xq hk v hv).2,hk.acc⟩
structure RdI(σ:Gs)(i:Nat)(r:Rnd):Prop where
 bal:r.bal=BZ∨(Ab r.bal∧r.bal.n=(i:Int))
 next:∀ s c,σ.W r.bal s c→s<r.next
 own:∀ j,j<5→r.pro j=true→r.bal.key≤σ.P i
 heard:∀ j,j<5→∀ v∈(r.heard j).vs,σ.held j v∧v.b.key≤r.bal.key∧(r.pro j=false→v.b=r.bal)
 prom:∀ j,j<5→r.pro j=true→r.bal.key≤σ.P j∧∀ v,σ.held j v→v.b.key<r.bal.key→∃ u∈(r.heard j).vs,u.slot=v.slot∧v.b.key≤u.b.key
 acc:∀ j,j<5→An (r.heard j)∧(r.pro j=true→(r.heard j).p=r.bal)
def PnI(σ:Gs)(rs:List Rk)(r:Rnd):Pend→Prop
 | .began b vs=>PrmOk rs b vs∧b.key≤r.bal.key
 | .prom _ b vs=>PrmOk rs b vs∧b.key≤σ.P b.n.toNat
 | .voted _ v=>Rk.vt v∈rs
 | .prop v=>Rk.vt v∈rs
 | .refuse _ b=>Aw b∧b.key≤(BD rs).p.key
 | _=>True
structure UpI(σ:Gs)(i:Nat)(p:Nod)(rs:List Rk):Prop where
 tp:TpU p (σ.dr i) rs
 vok:∀ v,Rk.vt v∈rs→σ.vok v
 rd:RdI σ i p.rnd
 bp:p.rnd.bal.key≤p.vo.p.key
 pe:∀ q∈p.pend,PnI σ rs p.rnd q
def AgL(σ:Gs)(l:List Cmd)(k:Nat):Prop:=∀ s c,l[s]?=some c→σ.chs (k+s) c
structure NdI(σ:Gs)(i:Nat)(p:Nod):Prop where
 up:p.up=true→∃ rs,UpI σ i p rs
 dn:p.up=false→TpD p (σ.dr i)
 ag:AgL σ p.agreed 0
structure LtI(σ:Gs)(l:Let):Prop where
 k0:l.kind=0→l.bal.key≤σ.P l.bal.n.toNat
 k1:l.kind=1→PrmOk (σ.dr l.src) l.bal l.votes∧l.bal.key≤σ.P l.bal.n.toNat∧AgL σ l.what 0
 k2:l.kind=2→Aw l.bal∧l.bal.key≤σ.P l.src
 k3:l.kind=3→σ.vok l.vote
 k4:l.kind=4→σ.held l.src l.vote
 k5:l.kind=5→AgL σ l.what l.slot
structure AgI(σ:Gs)(M:Meet):Prop where
 gs:GsI σ
 nd:∀ i,i<5→NdI σ i (M.node i)
 lt:∀ l∈M.lets,LtI σ l
theorem AgL.mono{σ τ:Gs}(h:σ.le τ){l:List Cmd}{k:Nat}(g:AgL σ l k):AgL τ l k:=fun s c e=>h.chs (g s c e)
theorem RdI.mono{σ τ:Gs}(h:σ.le τ)(hI:GsI τ){i:Nat}{r:Rnd}(g:RdI σ i r)(hn:∀ s c,τ.W r.bal s c→s<r.next):RdI τ i r:=by
 refine⟨g.bal,hn,fun j hj hp=>Int.le_trans (g.own j hj hp) (h.P hI i),fun j hj v hv=>⟨h.held (g.heard j hj v hv).1,(g.heard j hj v hv).2⟩,fun j hj hp=>⟨Int.le_trans (g.prom j hj hp).1 (h.P hI j),fun v hv hlt=>?_⟩,g.acc⟩;obtain⟨x,hx⟩:=h.pre j;have hk:=hI.ok j;have hv':Rk.vt v∈τ.dr j:=hv;rw[← hx]at hk hv'
 rcases List.mem_append.1 hv' with hv'|hv'
 ·exact(g.prom j hj hp).2 v hv' hlt
 ·have h1:=(E5 hk).2 v hv';have h2:=(g.prom j hj hp).1;have h3:σ.P j≤v.b.key:=h1;omega
theorem PnI.mono{σ τ:Gs}(h:σ.le τ)(hI:GsI τ){rs rs':List Rk}(hp:rs <+: rs')(hk:AU rs'){r r':Rnd}(hr:r.bal.key≤r'.bal.key){q:Pend}(g:PnI σ rs r q):PnI τ rs' r' q:=by
 cases q with
 | began b vs=>exact⟨g.1.mono hp hk,Int.le_trans g.2 hr⟩
 | prom to b vs=>exact⟨g.1.mono hp hk,Int.le_trans g.2 (h.P hI _)⟩
 | voted to v=>exact hp.subset g
 | prop v=>exact hp.subset g
 | refuse to b=>obtain⟨x,rfl⟩:=hp;exact⟨g.1,Int.le_trans g.2 (E5 hk).1⟩
 | _=>trivial
theorem NdI.mono{i j:Nat}{σ τ:Gs}(h:Gs.by_ i σ τ)(hI:GsI τ)(hσ:GsI σ)(hj:j≠i){p:Nod}(g:NdI σ j p):NdI τ j p:=by
 have e:=h.oth j hj;refine⟨fun hu=>?_,fun hd=>by rw[e];exact g.dn hd,g.ag.mono h.le⟩;obtain⟨rs,k⟩:=g.up hu;refine⟨rs,by rw[e];exact k.tp,fun v hv=>h.le.vok (k.vok v hv),k.rd.mono h.le hI fun s c hW=>?_,k.bp,fun q hq=>(k.pe q hq).mono h.le hI (List.prefix_refl _) k.tp.ok (Int.le_refl _)⟩;rcases h.new _ _ _ hW with hW|hW
 ·exact k.rd.next s c hW
 ·rcases k.rd.bal with hb|⟨_,hb⟩
  ·have:=(hI.w2 _ _ _ ‹_›).1;rw[hb]at this
   exact absurd this (by decide)
  ·rw[hb]at hW;omega
theorem LtI.mono{σ τ:Gs}(h:σ.le τ)(hI:GsI τ){l:Let}(g:LtI σ l):LtI τ l :=
 ⟨fun e=>Int.le_trans (g.k0 e) (h.P hI _),fun e=>⟨(g.k1 e).1.mono (h.pre _) (hI.ok _),Int.le_trans (g.k1 e).2.1 (h.P hI _),(g.k1 e).2.2.mono h⟩,fun e=>⟨(g.k2 e).1,Int.le_trans (g.k2 e).2 (h.P hI _)⟩,fun e=>h.vok (g.k3 e),fun e=>h.held (g.k4 e),fun e=>(g.k5 e).mono h⟩
theorem AgI.set{σ τ:Gs}{M:Meet}(h:AgI σ M){i:Nat}(hb:Gs.by_ i σ τ)(hI:GsI τ){p:Nod}(hp:NdI τ i p){ls:List Let}(hl:∀ l∈ls,l∈M.lets∨LtI τ l)(ts:List Tol):AgI τ (M.set i p ls ts) :=
 ⟨hI,fun j hj=>by
  show NdI τ j (upN M.node i p j);unfold upN;split
  ·rename_i e;rw[e];exact hp
  ·rename_i e;exact(h.nd j hj).mono hb hI h.gs e,fun l hm=>(hl l hm).elim (fun k=>(h.lt l k).mono hb.le hI) id⟩
theorem Yi{σ:Gs}{r:Rnd}(h:∀ j,j<5→∀ v∈(r.heard j).vs,σ.held j v){s:Nat}(he:CV r.accs (s:Int)=0):σ.chs s (Cr r.accs (s:Int)):=by
 have hC:Cr r.accs (s:Int)=((GZ (Ej r.accs (s:Int)) r.accs.length).map (·.w)).getD ⟨0,0,0,0,0⟩:=if_pos he;unfold CV at he;split at he
 ·cases he
 ·split at he
  ·cases he
  ·rename_i hA
   have hA:=Decidable.not_not.1 hA;split at he
   ·rename_i hO
    obtain⟨v,hv⟩:=Option.isSome_iff_exists.1 hO;rw[hC,hv];have hp:=List.find?_some hv;have h5:5<2*BK (Ej r.accs (s:Int)) v:=of_decide_eq_true hp;have e:Ej r.accs (s:Int)=Af (r.heard 0).vs (s:Int)++(Af (r.heard 1).vs (s:Int)++(Af (r.heard 2).vs (s:Int)++(Af (r.heard 3).vs (s:Int)++Af (r.heard 4).vs (s:Int)))):=by
     unfold Ej Rnd.accs Af;simp[List.filter_append]
    rw[e,ER,ER,ER,ER]at h5
    have hR:∀ j,j<5→B1 (r.heard j).vs:=fun j hj=>(hA (r.heard j) (by unfold Rnd.accs;rcases five hj with rfl|rfl|rfl|rfl|rfl<;>simp)).2.2;have g0:=Hq (hR 0 (by omega)) (s:Int) v;have g1:=Hq (hR 1 (by omega)) (s:Int) v;have g2:=Hq (hR 2 (by omega)) (s:Int) v;have g3:=Hq (hR 3 (by omega)) (s:Int) v;have g4:=Hq (hR 4 (by omega)) (s:Int) v;refine⟨v.b.key,fun q=>decide (v∈(r.heard q).vs∧v.slot=(s:Int)),?_,fun q hq hqQ=>?_⟩
    ·show 3≤(decide (v∈(r.heard 0).vs∧v.slot=(s:Int))).toNat+(decide (v∈(r.heard 1).vs∧v.slot=(s:Int))).toNat+(decide (v∈(r.heard 2).vs∧v.slot=(s:Int))).toNat+(decide (v∈(r.heard 3).vs∧v.slot=(s:Int))).toNat+(decide (v∈(r.heard 4).vs∧v.slot=(s:Int))).toNat;omega
    ·obtain⟨h1,h2⟩:=of_decide_eq_true hqQ;exact⟨v,h q hq v h1,h2,rfl,rfl⟩
   ·cases he
theorem AgL.snoc{σ:Gs}{l:List Cmd}(h:AgL σ l 0){c:Cmd}(hc:σ.chs l.length c):AgL σ (l++[c]) 0:=fun s d e=>by
 rcases Nat.lt_or_ge s l.length with g|g
 ·rw[List.getElem?_append_left g]at e;exact h s d e
 ·have:=(List.getElem?_eq_some_iff.1 e).1;rw[List.length_append,List.length_singleton]at this
  obtain rfl:s=l.length:=by omega
  rw[List.getElem?_append_right (Nat.le_refl _)]at e
  simp at e;subst e;rw[Nat.zero_add];exact hc
theorem Sy{σ:Gs}{r:Rnd}(h:∀ j,j<5→∀ v∈(r.heard j).vs,σ.held j v)(k:Nat){l:List Cmd}(hl:AgL σ l 0):AgL σ (K7 k r l) 0:=by
 induction k generalizing l with
 | zero=>exact hl
 | succ k ih =>
  rw[K7];split
  ·rename_i he;exact ih (hl.snoc (Yi h he))
  ·exact hl
theorem OS{σ:Gs}{l what:List Cmd}{slot:Nat}(hl:AgL σ l 0)(hw:AgL σ what slot)(hs:slot≤l.length):AgL σ (l++what.drop (l.length-slot)) 0:=fun s c e=>by
 rcases Nat.lt_or_ge s l.length with g|g
 ·rw[List.getElem?_append_left g]at e;exact hl s c e
 ·rw[List.getElem?_append_right g,List.getElem?_drop]at e
  have:=hw _ c e
  rwa [show slot+(l.length-slot+(s-l.length))=0+s by omega]at this
theorem T8(a:Acc)(l:List Vt):∀ v∈(CS a l).vs,v∈a.vs∨v∈l:=by
 induction l generalizing a with
 | nil=>exact fun v hv=>.inl hv
 | cons u l ih =>
  intro v hv;rw[CS]at hv
  rcases ih _ v hv with h|h
  ·by_cases he:AO a u=0
   ·rw[if_pos he]at h
    have h:v∈BX a u:=h;rw[(Fc he).2]at h
    rcases(Ct (AG he).1.2.2).1 h with rfl|⟨h,_⟩
    ·exact .inr List.mem_cons_self
    ·exact .inl h
   ·rw[if_neg he]at h;exact .inl h
  ·exact .inr (List.mem_cons_of_mem _ h)
theorem T7(a:Acc)(l:List Vt):∀ u∈a.vs,∃ x∈(CS a l).vs,x.slot=u.slot∧u.b.key≤x.b.key:=by
 induction l generalizing a with
 | nil=>exact fun u hu=>⟨u,hu,rfl,Int.le_refl _⟩
 | cons w l ih =>
  intro u hu;rw[CS];by_cases he:AO a w=0
  ·rw[if_pos he];obtain⟨x,h1,h2,h3⟩:=K5 (AG he).1 he hu;obtain⟨y,k1,k2,k3⟩:=ih ⟨BO a w,BX a w⟩ x (by show x∈BX a w;rw[(Fc he).2];exact h1);exact⟨y,k1,k2.trans h2,Int.le_trans h3 k3⟩
  ·rw[if_neg he];exact ih a u hu
theorem T6{b:Bal}(a:Acc)(l:List Vt)(ha:An a)(hp:a.p=b)(hl:∀ v∈l,v.b.key≤b.key):An (CS a l)∧(CS a l).p=b:=by
 induction l generalizing a with
 | nil=>exact⟨ha,hp⟩
 | cons u l ih =>
  rw[CS];by_cases he:AO a u=0
  ·rw[if_pos he];have hz:=AG he;have e:u.b=b:=by
    have h1:=BJ hz.2.1.2.1.pr ha.1 hz.2.2;have h2:=hl u List.mem_cons_self;rw[hp]at h1
    exact Hj hz.2.1.2.1.pr (hp▸ha.1) (by omega)
   have e1:(⟨BO a u,BX a u⟩:Acc)=⟨u.b,AY a.vs u⟩:=by rw[(Fc he).1,(Fc he).2]
   rw[e1];exact ih _ (ha.vot hz.2.1 hz.2.2) e fun v hv=>hl v (List.mem_cons_of_mem _ hv)
  ·rw[if_neg he];exact ih a ha hp fun v hv=>hl v (List.mem_cons_of_mem _ hv)
theorem RdI.hear{σ:Gs}{i:Nat}{r:Rnd}(h:RdI σ i r){j:Nat}{vs:List Vt}(hp:PrmOk (σ.dr j) r.bal vs)(ho:r.bal.key≤σ.P i):RdI σ i (r.hear j vs):=by
 refine⟨h.bal,h.next,fun _ _ _=>ho,fun k hk v hv=>?_,fun k hk hq=>?_,fun k hk=>?_⟩
 rotate_right
 ·show An (upN r.heard j (CS ⟨r.bal,vs⟩ (r.heard j).vs) k)∧(upN r.pro j true k=true→(upN r.heard j (CS ⟨r.bal,vs⟩ (r.heard j).vs) k).p=r.bal);unfold upN;split
  ·rename_i e;subst e
   have:=T6 (b:=r.bal) ⟨r.bal,vs⟩ (r.heard k).vs hp.acc rfl fun v hv=>(h.heard k hk v hv).2.1;exact⟨this.1,fun _=>this.2⟩
  ·exact h.acc k hk
 ·have hv:v∈(upN r.heard j (CS ⟨r.bal,vs⟩ (r.heard j).vs) k).vs:=hv;by_cases e:k=j
  ·subst e;rw[Ep]at hv
   rcases T8 _ _ v hv with g|g
   ·exact⟨(hp.sub v g).1,(hp.sub v g).2,fun e=>by rw[show(r.hear k vs).pro k=true from Ep _ _ _]at e;cases e⟩
   ·have:=h.heard k hk v g;exact⟨this.1,this.2.1,fun e=>by rw[show(r.hear k vs).pro k=true from Ep _ _ _]at e;cases e⟩
  ·rw[FL _ _ e]at hv
   have:=h.heard k hk v hv;exact⟨this.1,this.2.1,fun e'=>this.2.2 (by rwa [show(r.hear j vs).pro k=r.pro k from FL _ _ e]at e')⟩
 ·by_cases e:k=j
  ·subst e;refine⟨hp.le,fun v hv hlt=>?_⟩;obtain⟨u,h1,h2,h3⟩:=hp.dom v hv hlt;obtain⟨x,k1,k2,k3⟩:=T7 ⟨r.bal,vs⟩ (r.heard k).vs u h1;exact⟨x,by show x∈(upN r.heard k _ k).vs;rw[Ep];exact k1,k2.trans h2,Int.le_trans h3 k3⟩
  ·rw[show(r.hear j vs).pro k=r.pro k from FL _ _ e]at hq
   have:=h.prom k hk hq;exact⟨this.1,fun v hv hlt=>by
    obtain⟨u,h1,h2⟩:=this.2 v hv hlt;exact⟨u,by show u∈(upN r.heard j _ k).vs;rw[FL _ _ e];exact h1,h2⟩⟩
theorem RdI.count{σ:Gs}{i:Nat}{r:Rnd}(h:RdI σ i r){j:Nat}{v:Vt}(hb:v.b=r.bal)(he:AO (r.heard j) v=0)(hh:σ.held j v):RdI σ i { r with heard:=upN r.heard j ⟨BO (r.heard j) v,BX (r.heard j) v⟩ }:=by
 have hz:=AG he;have hL:BX (r.heard j) v=AY (r.heard j).vs v:=(Fc he).2;refine⟨h.bal,h.next,h.own,fun k hk u hu=>?_,fun k hk hq=>⟨(h.prom k hk hq).1,fun u hu hlt=>?_⟩,fun k hk=>?_⟩
 rotate_right
 ·show An (upN r.heard j ⟨BO (r.heard j) v,BX (r.heard j) v⟩ k)∧(r.pro k=true→(upN r.heard j ⟨BO (r.heard j) v,BX (r.heard j) v⟩ k).p=r.bal);unfold upN;split
  ·rw[(Fc he).1,hL];exact⟨hz.1.vot hz.2.1 hz.2.2,fun _=>hb⟩
  ·exact h.acc k hk
 ·have hu:u∈(upN r.heard j ⟨BO (r.heard j) v,BX (r.heard j) v⟩ k).vs:=hu;by_cases e:k=j
  ·subst e;rw[Ep]at hu
   have hu:u∈BX (r.heard k) v:=hu;rw[hL]at hu
   rcases(Ct hz.1.2.2).1 hu with rfl|⟨hu,_⟩
   ·exact⟨hh,by rw[hb];exact Int.le_refl _,fun _=>hb⟩
   ·exact h.heard k hk u hu
  ·rw[FL _ _ e]at hu;exact h.heard k hk u hu
 ·obtain⟨x,h1,h2,h3⟩:=(h.prom k hk hq).2 u hu hlt;by_cases e:k=j
  ·subst e;obtain⟨y,k1,k2,k3⟩:=K5 hz.1 he h1;exact⟨y,by show y∈(upN r.heard k _ k).vs;rw[Ep];show y∈BX (r.heard k) v;rw[hL];exact k1,k2.trans h2,Int.le_trans h3 k3⟩
  ·exact⟨x,by show x∈(upN r.heard j _ k).vs;rw[FL _ _ e];exact h1,h2,h3⟩
theorem UpI.keep{σ:Gs}{i:Nat}{p q:Nod}{rs:List Rk}(h:UpI σ i p rs)(hd:q.d=p.d)(hs:q.sy=p.sy)(hv:q.vo=p.vo)(hr:RdI σ i q.rnd)(hb:q.rnd.bal=p.rnd.bal)(hp:∀ x∈q.pend,x∈p.pend∨PnI σ rs q.rnd x):UpI σ i q rs :=
 ⟨⟨h.tp.ok,h.tp.pre,hd.trans h.tp.d,hs.trans h.tp.sy,hv.trans h.tp.vo,by rw[hd];exact h.tp.len⟩,h.vok,hr,by rw[hb,hv];exact h.bp,fun x hx=>(hp x hx).elim (fun g=>by
  have:=h.pe x g;cases x<;>first|exact this|exact trivial|(refine⟨this.1,?_⟩;first|exact this.2|(rw[hb];exact this.2))) id⟩
theorem UpI.count{σ:Gs}{i:Nat}{p:Nod}{rs:List Rk}(h:UpI σ i p rs)(ha:AgL σ p.agreed 0){j:Nat}{v:Vt}(hh:σ.held j v):UpI σ i (p.count j v) rs∧AgL σ (p.count j v).agreed 0:=by
 unfold Nod.count;split
 ·exact⟨h,ha⟩
 ·rename_i hb
  have hb:=Decidable.not_not.1 hb;split
  ·exact⟨h,ha⟩
  ·rename_i he
   have hr:=h.rd.count hb (Decidable.not_not.1 he) hh;exact⟨h.keep rfl rfl rfl hr rfl fun x hx=>.inl hx,Sy (fun j hj v hv=>(hr.heard j hj v hv).1) 41 ha⟩
def Nod.tp(p:Nod):Prop:=B2 p.d p.sy
theorem Vy{p:Nod}(h:p.tp){k:Int}(hk:0≤k):(p.crash k).tp∧(p.crash k).up=false∧(p.crash k).done=0∧(p.crash k).agreed=[]:=by
 have he:Hb p.d p.sy k=0:=by unfold Hb;rw[if_neg (fun e=>e h),if_neg (by omega)]
 unfold Nod.crash;rw[if_neg (fun e=>e he)];refine⟨?_,rfl,rfl,rfl⟩;show B2 (Jt p.d p.sy k) (Ju p.d p.sy k);unfold Jt Ju;rw[if_pos he,if_pos he];unfold Nod.tp B2 at h;have hc:0≤Fv p.d p.sy k∧Fv p.d p.sy k≤(p.d.length:Int):=by unfold Fv;split<;>omega
 unfold B2;rw[List.length_take];omega
theorem X6{p:Nod}(h:p.tp):p.start.tp∧p.start.up=true∧p.start.done=0∧p.start.agreed=[]:=by
 have he:Dc p.d p.sy=0:=if_pos h;have hl:=We p.d p.d.length;unfold Nod.start;rw[if_neg (fun e=>e he)];split
 ·refine⟨?_,rfl,rfl,rfl⟩;show B2 (I3 p.d p.sy) (KV p.d p.sy);unfold I3 KV;have h':B2 p.d p.sy:=h;rw[if_pos h',if_pos h'];unfold Nod.tp B2 at h;unfold B2;rw[List.length_take];unfold DQ;split<;>omega
 ·exact⟨h,rfl,rfl,rfl⟩
theorem UV(M:Meet)(L K:List Lac):M.acts (L++K)=(M.acts L).acts K:=List.foldl_append
theorem NdI.mk'{σ:Gs}{i:Nat}{p:Nod}{rs:List Rk}(hu:p.up=true)(h:UpI σ i p rs)(ha:AgL σ p.agreed 0):NdI σ i p:=⟨fun _=>⟨rs,h⟩,fun e=>(by rw[hu]at e;cases e),ha⟩
theorem AgL.nil(σ:Gs)(k:Nat):AgL σ [] k:=fun s c e=>by simp at e
theorem AgL.drop{σ:Gs}{l:List Cmd}(h:AgL σ l 0)(k:Nat):AgL σ (l.drop k) k:=fun s c e=>by
 rw[List.getElem?_drop]at e
 have:=h _ c e
 rwa [Nat.zero_add]at this
theorem UpI.wait{σ:Gs}{i:Nat}{p:Nod}{rs:List Rk}(h:UpI σ i p rs){x:Pend}(hx:PnI σ rs p.rnd x):UpI σ i (p.wait x) rs :=
 h.keep rfl rfl rfl h.rd rfl fun y hy=>(List.mem_append.1 hy).imp id fun e=>by rw[List.mem_singleton.1 e];exact hx
theorem UpI.refuse{σ:Gs}{i:Nat}{p:Nod}{rs:List Rk}(h:UpI σ i p rs)(to:Nat)(e:Int):UpI σ i (p.refuse to e) rs:=by
 unfold Nod.refuse;split
 ·exact h.wait (by show Aw p.vo.p∧p.vo.p.key≤_;rw[h.tp.vo];exact⟨h.tp.ok.acc.1,Int.le_refl _⟩)
 ·exact h
theorem MD(p:Nod)(to:Nat)(e:Int):(p.refuse to e).agreed=p.agreed:=by unfold Nod.refuse;split<;>rfl
theorem UpI.wrote{σ τ:Gs}{i:Nat}{p q:Nod}{rs rs':List Rk}(h:UpI σ i p rs)(hle:σ.le τ)(hI:GsI τ)(hdr:τ.dr i=σ.dr i)(ht:TpU q (σ.dr i) rs')(hp:rs <+: rs')(hv:∀ v,Rk.vt v∈rs'→τ.vok v){r:Rnd}(hr:RdI τ i r)(hb1:p.rnd.bal.key≤r.bal.key)(hb2:r.bal.key≤q.vo.p.key){x:Pend}(hx:PnI τ rs' r x)(hpe:q.pend=p.pend):UpI τ i (Nod.wait { q with rnd:=r } x) rs' :=
 ⟨by rw[hdr];exact⟨ht.ok,ht.pre,ht.d,ht.sy,ht.vo,ht.len⟩,hv,hr,hb2,fun y hy=>by
  rcases List.mem_append.1 hy with g|g
  ·have g:y∈q.pend:=g;rw[hpe]at g
   exact(h.pe y g).mono hle hI hp ht.ok hb1
  ·rw[List.mem_singleton.1 g];exact hx⟩
theorem EG{σ:Gs}{i:Nat}{p:Nod}{rs:List Rk}(h:UpI σ i p rs)(l:List Cmd):UpI σ i (p.enqueue l) rs∧(p.enqueue l).agreed=p.agreed:=by
 unfold Nod.enqueue;split
 ·exact⟨h.keep rfl rfl rfl ⟨h.rd.bal,h.rd.next,h.rd.own,h.rd.heard,h.rd.prom,h.rd.acc⟩ rfl fun x hx=>.inl hx,rfl⟩
 ·exact⟨h,rfl⟩
theorem OR{σ:Gs}{i:Nat}{p:Nod}{rs:List Rk}(h:UpI σ i p rs)(ha:AgL σ p.agreed 0):UpI σ i p.learnC rs∧AgL σ p.learnC.agreed 0:=⟨h.keep rfl rfl rfl h.rd rfl fun x hx=>.inl hx,Sy (fun j hj v hv=>(h.rd.heard j hj v hv).1) 41 ha⟩
theorem NdI.take{σ:Gs}(hI:GsI σ){i:Nat}{p:Nod}(h:NdI σ i p)(hu:p.up=true){l:Let}(hl:LtI σ l)(hs:l.src<5):NdI σ i (p.take l):=by
 obtain⟨rs,k⟩:=h.up hu;have ha:=h.ag
 suffices g:∃ rs',UpI σ i (p.take l) rs'∧AgL σ (p.take l).agreed 0 by
  obtain⟨rs',g1,g2⟩:=g;exact NdI.mk' ((congrArg Prod.fst (ZR p l)).trans hu) g1 g2
 unfold Nod.take;split
 ·rename_i hk
  rcases k.tp.promise l.bal with⟨e,he⟩|⟨e,he,hvs,rs',hp,ht,hm,hpb,hpv,d,a,hq⟩
  ·rw[if_pos e];exact⟨rs,k.refuse _ _,by rw[MD];exact ha⟩
  ·rw[if_neg (fun g=>g e)];have hz:=Da he;refine⟨rs',?_,?_⟩
   ·refine k.wrote (q:=(p.promise l.bal).1) (r:=(p.promise l.bal).1.rnd) (.refl σ) hI rfl ht hp (fun v hv=>k.vok v ((hm v).1 hv)) ?_ ?_ ?_ ⟨PrmOk.of ht.ok hpb (hpv.trans hvs.symm),hl.k0 hk⟩ (by rw[hq];rfl)
    ·rw[hq];exact k.rd
    ·rw[hq];exact Int.le_refl _
    ·rw[ht.vo,hpb,hq];exact Int.le_trans k.bp (BJ hz.2.1.pr hz.1.1 hz.2.2)
   ·show AgL σ (p.promise l.bal).1.agreed 0;rw[hq];exact ha
 ·rename_i hk
  obtain⟨g1,g2,g3⟩:=hl.k1 hk;have hL:AgL σ (p.learn 0 l.what).agreed 0:=OS ha g3 (Nat.zero_le _);have hU:UpI σ i (p.learn 0 l.what) rs:=k.keep rfl rfl rfl k.rd rfl fun x hx=>.inl hx;generalize p.learn 0 l.what=K at hL hU ⊢;simp only;split
  ·exact⟨rs,hU,hL⟩
  ·rename_i hc
   have hld:K.leads=true:=by cases hh:K.leads with|true=>rfl|false=>exact absurd (.inl hh) hc
   have hbal:l.bal=K.rnd.bal:=Decidable.not_not.1 fun e=>hc (.inr (.inl e));have hb0:K.rnd.bal≠BZ:=(of_decide_eq_true hld).1;rw[hbal]at g1 g2
   have hn:=(hU.rd.bal.resolve_left hb0).2;rw[hn,Int.toNat_natCast]at g2
   have hr:=hU.rd.hear g1 g2;exact⟨rs,OR (p:={ K with rnd:={ K.rnd.hear l.src l.votes with taught:=upN K.rnd.taught l.src l.what.length } }) (hU.keep rfl rfl rfl ⟨hr.bal,hr.next,hr.own,hr.heard,hr.prom,hr.acc⟩ rfl fun x hx=>.inl hx) hL⟩
 ·exact⟨rs,k.keep rfl rfl rfl k.rd rfl fun x hx=>.inl hx,ha⟩
 ·rename_i hk
  rcases k.tp.vote l.vote with⟨e,he⟩|⟨e,he,rs',hp,ht,hm,hpb,d,a,hq⟩
  ·rw[if_pos e];exact⟨rs,k.refuse _ _,by rw[MD];exact ha⟩
  ·rw[if_neg (fun g=>g e)];have hz:=AG he;refine⟨rs',?_,?_⟩
   ·refine k.wrote (q:=(p.vote l.vote).1) (r:=(p.vote l.vote).1.rnd) (.refl σ) hI rfl ht hp (fun v hv=>((hm v).1 hv).elim (fun e=>by rw[e];exact hl.k3 hk) (k.vok v)) ?_ ?_ ?_ ((hm _).2 (.inl rfl)) (by rw[hq];rfl)
    ·rw[hq];exact k.rd
    ·rw[hq];exact Int.le_refl _
    ·rw[ht.vo,hpb,hq];exact Int.le_trans k.bp (BJ hz.2.1.2.1.pr hz.1.1 hz.2.2)
   ·show AgL σ (p.vote l.vote).1.agreed 0;rw[hq];exact ha
 ·rename_i hk
  exact⟨rs,k.count ha (hl.k4 hk)⟩
 ·rename_i hk
  split
  ·exact⟨rs,k.wait trivial,ha⟩
  ·rename_i hlt;exact⟨rs,k.keep rfl rfl rfl k.rd rfl fun x hx=>.inl hx,OS ha (hl.k5 hk) (by omega)⟩
 ·have:=EG k l.what;simp only;split
  ·exact⟨rs,this.1.wait trivial,by show AgL σ (p.enqueue l.what).agreed 0;rw[this.2];exact ha⟩
  ·exact⟨rs,this.1,by rw[this.2];exact ha⟩
 ·exact⟨rs,k,ha⟩
theorem Uk{σ:Gs}(hI:GsI σ){i:Nat}{p:Nod}(h:RdI σ i p.rnd)(hb:Ab p.rnd.bal)(he:p.rnd.enough=true){s:Nat}(hs:p.rnd.next≤s){c:Cmd}(hc:p.nextC s=some c):D5 σ.H σ.P s p.rnd.bal.key c:=by
 have h5:5<2*Kf p.rnd.pro:=of_decide_eq_true he;have hmem:∀ j,j<5→∀ v∈(p.rnd.heard j).vs,v.slot=(s:Int)→v∈Af (p.rnd.accs.map (·.vs)).flatten (s:Int):=fun j hj v hv e=>by
  refine BL.2 ⟨List.mem_flatten.2 ⟨(p.rnd.heard j).vs,List.mem_map.2 ⟨p.rnd.heard j,?_,rfl⟩,hv⟩,e⟩;unfold Rnd.accs;rcases five hj with rfl|rfl|rfl|rfl|rfl<;>simp
 refine⟨p.rnd.pro,by omega,fun q hq hQ=>(h.prom q hq hQ).1,?_⟩;unfold Nod.nextC at hc;split at hc
 ·cases hc
 ·rename_i hpe
  have hpe:=Decidable.not_not.1 hpe;have hF:Fh (p.rnd.accs.map (·.vs)) (s:Int)=(Jb (p.rnd.accs.map (·.vs)) (s:Int)).isSome:=if_pos hpe;have hC:Gu (p.rnd.accs.map (·.vs)) (s:Int)=((Jb (p.rnd.accs.map (·.vs)) (s:Int)).map (·.w)).getD ⟨0,0,0,0,0⟩:=if_pos hpe;have hall:∀ l∈p.rnd.accs.map (·.vs),∀ v∈l,Ak v:=by
   unfold Cx at hpe;split at hpe
   ·cases hpe
   ·split at hpe
    ·assumption
    ·cases hpe
  have hpr:∀ v∈Af (p.rnd.accs.map (·.vs)).flatten (s:Int),Aw v.b:=fun v hv=>by
   obtain⟨l,h1,h2⟩:=List.mem_flatten.1 (BL.1 hv).1;exact(hall l h1 v h2).2.1.pr
  rcases Qb _ hpr with⟨h0,hO⟩|⟨x,hO,hx,hmax⟩
  ·left;intro q hq hQ b' c' ⟨v,g,k1,k2,k3⟩;refine Int.not_lt.1 fun hlt=>?_;obtain⟨u,h1,h2,_⟩:=(h.prom q hq hQ).2 v g (by omega);have:=hmem q hq u h1 (h2.trans k1);rw[h0]at this;cases this
  ·right;have hO:Jb (p.rnd.accs.map (·.vs)) (s:Int)=some x:=hO;rw[hO]at hF hC
   have hF:Fh (p.rnd.accs.map (·.vs)) (s:Int)=true:=hF;rw[if_pos hF]at hc
   have hcx:c=x.w:=(Option.some.inj hc).symm.trans hC;obtain⟨hxm,hxs⟩:=BL.1 hx;obtain⟨j,hj,hxj⟩:∃ j,j<5∧x∈(p.rnd.heard j).vs:=by
    obtain⟨l,h1,h2⟩:=List.mem_flatten.1 hxm;obtain⟨a,h3,rfl⟩:=List.mem_map.1 h1;unfold Rnd.accs at h3;simp only[List.mem_cons,List.not_mem_nil,or_false]at h3;rcases h3 with rfl|rfl|rfl|rfl|rfl
    ·exact⟨0,by omega,h2⟩
    ·exact⟨1,by omega,h2⟩
    ·exact⟨2,by omega,h2⟩
    ·exact⟨3,by omega,h2⟩
    ·exact⟨4,by omega,h2⟩
   obtain⟨hh1,hh2,hh3⟩:=h.heard j hj x hxj;have hvk:=hI.hv j x hh1;have hnb:x.b≠p.rnd.bal:=fun e=>by
    have h1:=hvk.2;rw[e]at h1
    have:=h.next _ _ h1;omega
   have hlt:x.b.key<p.rnd.bal.key:=by
    rcases Int.lt_or_eq_of_le hh2 with g|g
    ·exact g
    ·exact absurd (Hj hvk.1.2.1.pr hb.pr g) hnb
   have hpj:p.rnd.pro j=true:=by
    cases hh:p.rnd.pro j with
    | true=>rfl
    | false=>exact absurd (hh3 hh) hnb
   refine⟨x.b.key,hlt,⟨j,hj,hpj,x,hh1,hxs,rfl,hcx.symm⟩,fun q hq hQ b' c' ⟨v,g,k1,k2,k3⟩ hlt'=>?_⟩;obtain⟨u,h1,h2,h3⟩:=(h.prom q hq hQ).2 v g (by omega);have:=hmax u (hmem q hq u h1 (h2.trans k1));omega
def Gs.prop(σ:Gs)(b:Bal)(s:Nat)(c:Cmd):Gs:=⟨σ.dr,fun b' s' c'=>σ.W b' s' c'∨(b'=b∧s'=s∧c'=c)⟩
theorem GsI.prop{σ:Gs}(h:GsI σ){b:Bal}{s:Nat}{c:Cmd}(hb:Ab b)(hS:D5 σ.H σ.P s b.key c)(ho:b.key≤σ.P b.n.toNat)(hn:∀ c',¬ σ.W b s c'):GsI (σ.prop b s c):=by
 refine⟨h.ok,h.pinv,?_,?_,?_,fun n v g=>⟨(h.hv n v g).1,.inl (h.hv n v g).2⟩⟩
 ·rintro b' s' c1 c2 (g|⟨rfl,rfl,rfl⟩) (k|⟨e1,e2,e3⟩)
  ·exact h.w1 _ _ _ _ g k
  ·subst e1 e2;exact absurd g (hn _)
  ·exact absurd k (hn _)
  ·exact e3.symm
 ·rintro b' s' c' (g|⟨rfl,rfl,rfl⟩)
  ·exact h.w2 _ _ _ g
  ·exact⟨hb,hS⟩
 ·rintro b' s' c' (g|⟨rfl,rfl,rfl⟩)
  ·exact h.w3 _ _ _ g
  ·exact ho
theorem NdI.propose{σ:Gs}(hI:GsI σ){i:Nat}{p:Nod}(h:NdI σ i p)(hu:p.up=true):∃ τ ex,Gs.by_ i σ τ∧GsI τ∧NdI τ i p.propose∧(∀ b s c,τ.W b s c→σ.W b s c∨ex=some (b,s))∧∀ b s,ex=some (b,s)→s<40∧b=p.rnd.bal:=by
 obtain⟨rs,k⟩:=h.up hu;have hsame:∃ τ ex,Gs.by_ i σ τ∧GsI τ∧NdI τ i p∧(∀ b s c,τ.W b s c→σ.W b s c∨ex=some (b,s))∧∀ b s,ex=some (b,s)→s<40∧b=p.rnd.bal:=⟨σ,none,.refl i σ,hI,h,fun _ _ _ h=>.inl h,fun _ _ e=>by cases e⟩;have hup:=(KO p).trans hu
 revert hup
 unfold Nod.propose;split
 ·exact fun _=>hsame
 ·rename_i hc
  have hld:p.leads=true:=by cases hh:p.leads with|true=>rfl|false=>exact absurd (.inl hh) hc
  have hen:p.rnd.enough=true:=by cases hh:p.rnd.enough with|true=>rfl|false=>exact absurd (.inr (.inl hh)) hc
  have hnx:p.rnd.next≤p.agreed.length:=Nat.not_lt.1 fun e=>hc (.inr (.inr e));cases hn:p.nextC p.agreed.length with
  | none=>exact fun _=>hsame
  | some c =>
   simp only;rcases k.tp.vote ⟨(p.agreed.length:Int),p.rnd.bal,c⟩with⟨e,he⟩|⟨e,he,rs',hp,ht,hm,hpb,d,a,hq⟩
   ·rw[if_pos e];exact fun _=>hsame
   ·rw[if_neg (fun g=>g e)];intro hup;have hz:=AG he;have hb0:p.rnd.bal≠BZ:=(of_decide_eq_true hld).1;obtain⟨hb,hbn⟩:=k.rd.bal.resolve_left hb0;have hS:=Uk hI k.rd hb hen hnx hn;have hW:∀ c',¬ σ.W p.rnd.bal p.agreed.length c':=fun c' g=>by have:=k.rd.next _ _ g;omega
    have ho:p.rnd.bal.key≤σ.P i:=by
     obtain⟨q,hq,hQ,_⟩:=K8 p.rnd.pro p.rnd.pro (by have:5<2*Kf p.rnd.pro:=of_decide_eq_true hen;omega) (by have:5<2*Kf p.rnd.pro:=of_decide_eq_true hen;omega);exact k.rd.own q hq hQ
    have hτ:=hI.prop hb hS (by rw[hbn,Int.toNat_natCast];exact ho) hW;have hby:Gs.by_ i σ (σ.prop p.rnd.bal p.agreed.length c):=⟨⟨fun _=>List.prefix_refl _,fun _ _ _ g=>.inl g⟩,fun b s c' g=>g.imp id fun e=>by rw[e.1];exact hbn,fun _ _=>rfl⟩;have hvk:(σ.prop p.rnd.bal p.agreed.length c).vok ⟨(p.agreed.length:Int),p.rnd.bal,c⟩:=⟨hz.2.1,.inr ⟨rfl,Int.toNat_natCast _,rfl⟩⟩;have hr:=k.rd.mono (τ:=σ.prop p.rnd.bal p.agreed.length c) (r:=p.rnd) hby.le hτ;refine⟨_,some (p.rnd.bal,p.agreed.length),hby,hτ,NdI.mk' (rs:=rs') hup ?_ ?_,fun b s c' g=>g.imp id fun e=>by rw[e.1,e.2.1],fun b s e=>?_⟩
    ·refine k.wrote (q:=(p.vote ⟨(p.agreed.length:Int),p.rnd.bal,c⟩).1) (r:={ p.rnd with next:=p.agreed.length+1 }) hby.le hτ rfl ht hp (fun v hv=>((hm v).1 hv).elim (fun e=>by rw[e];exact hvk) fun g=>hby.le.vok (k.vok v g)) ?_ (Int.le_refl _) ?_ ((hm _).2 (.inl rfl)) (by rw[hq];rfl)
     ·have g:=k.rd;refine RdI.mono (σ:=σ) hby.le hτ (r:={ p.rnd with next:=p.agreed.length+1 }) ⟨g.bal,fun s c' hw=>Nat.lt_of_lt_of_le (g.next s c' hw) (by show p.rnd.next≤p.agreed.length+1;omega),g.own,g.heard,g.prom,g.acc⟩ fun s c' hw=>?_;rcases hw with hw|⟨_,rfl,_⟩
      ·exact Nat.lt_of_lt_of_le (g.next s c' hw) (by show p.rnd.next≤p.agreed.length+1;omega)
      ·exact Nat.lt_succ_self _
     ·rw[ht.vo,hpb];exact Int.le_refl _
    ·show AgL _ (p.vote ⟨(p.agreed.length:Int),p.rnd.bal,c⟩).1.agreed 0;rw[hq];exact h.ag.mono hby.le
    ·cases e;have:=hz.2.1.1.2;exact⟨by simp only at this;omega,rfl⟩
theorem LtI.none{σ:Gs}{l:Let}(h:l.kind=6):LtI σ l:=⟨fun e=>by omega,fun e=>by omega,fun e=>by omega,fun e=>by omega,fun e=>by omega,fun e=>by omega⟩
theorem LtI.news{σ:Gs}{l:Let}(h:l.kind=5)(hw:AgL σ l.what l.slot):LtI σ l:=⟨fun e=>by omega,fun e=>by omega,fun e=>by omega,fun e=>by omega,fun e=>by omega,fun _=>hw⟩
theorem NdI.run{σ:Gs}(hI:GsI σ){i:Nat}(hi:i<5){p:Nod}(h:NdI σ i p)(hu:p.up=true){q:Pend}{l:List Pend}(hp:p.pend=q::l)(hs:¬ p.sy<(p.d.length:Int)):NdI σ i { p.runP i q with pend:=l }∧∀ m∈p.sentP i q,LtI σ m:=by
 obtain⟨rs,k⟩:=h.up hu;have hdr:=k.tp.all hs;have hpq:=k.pe q (by rw[hp];exact List.mem_cons_self);have hsub:∀ x∈l,x∈p.pend:=fun x hx=>by rw[hp];exact List.mem_cons_of_mem _ hx
 have hk:∀ {p':Nod},UpI σ i p' rs→p'.pend=p.pend→UpI σ i { p' with pend:=l } rs:=fun{p'} g e=>g.keep rfl rfl rfl g.rd rfl fun x hx=>.inl (by rw[e];exact hsub x hx);cases q with
 | began b vs =>
  unfold Nod.runP Nod.sentP;simp only;split
  ·exact⟨NdI.mk' hu (hk k rfl) h.ag,fun m hm=>by cases hm⟩
  ·rename_i e
   have e:=Decidable.not_not.1 e;obtain⟨g1,g2⟩:=hpq;have hacc:=k.tp.ok.acc;rw[← k.tp.vo]at hacc
   have hbp:=k.bp;have hb:p.rnd.bal=b:=by
    rw[← e];refine Hj ?_ hacc.1 (by rw[e]at hbp ⊢;omega);rcases k.rd.bal with g|g
    ·rw[g];exact .inr ⟨rfl,rfl⟩
    ·exact g.1.pr
   have hle:b.key≤σ.P i:=by have:=g1.le;rw[← hdr]at this;exact this
   rw[← hdr,← hb]at g1
   rw[← hb]at hle
   refine⟨NdI.mk' hu (hk (p':={ p with rnd:=p.rnd.hear i vs }) (k.keep rfl rfl rfl (k.rd.hear g1 hle) rfl fun x hx=>.inl hx) rfl) h.ag,fun m hm=>?_⟩;obtain⟨to,_,rfl⟩:=D3 hm;refine⟨fun _=>?_,fun e=>(by cases e),fun e=>(by cases e),fun e=>(by cases e),fun e=>(by cases e),fun e=>(by cases e)⟩;show b.key≤σ.P b.n.toNat;rw[← hb];rcases k.rd.bal with g|g
   ·rw[g];have hz:=(hI.ok (BZ.n.toNat)).acc.1;have:0≤σ.P (BZ.n.toNat):=by
     unfold Aw Ab at hz;unfold Gs.P Bal.key;omega
    exact this
   ·rw[g.2,Int.toNat_natCast];exact hle
 | prom to b vs =>
  refine⟨NdI.mk' hu (hk k rfl) h.ag,fun m hm=>?_⟩;rw[List.mem_singleton.1 hm];refine⟨fun e=>(by cases e),fun _=>⟨?_,hpq.2,h.ag⟩,fun e=>(by cases e),fun e=>(by cases e),fun e=>(by cases e),fun e=>(by cases e)⟩;show PrmOk (σ.dr i) b vs;rw[hdr];exact hpq.1
 | voted to v =>
  refine⟨NdI.mk' hu (hk k rfl) h.ag,fun m hm=>?_⟩;rw[List.mem_singleton.1 hm];refine⟨fun e=>(by cases e),fun e=>(by cases e),fun e=>(by cases e),fun e=>(by cases e),fun _=>?_,fun e=>(by cases e)⟩;show Rk.vt v∈σ.dr i;rw[hdr];exact hpq
 | refuse to b =>
  refine⟨NdI.mk' hu (hk k rfl) h.ag,fun m hm=>?_⟩;rw[List.mem_singleton.1 hm];refine⟨fun e=>(by cases e),fun e=>(by cases e),fun _=>?_,fun e=>(by cases e),fun e=>(by cases e),fun e=>(by cases e)⟩;show Aw b∧b.key≤(BD (σ.dr i)).p.key;rw[hdr];exact hpq
 | prop v =>
  have hh:σ.held i v:=by show Rk.vt v∈σ.dr i;rw[hdr];exact hpq
  have g:=k.count h.ag hh;refine⟨NdI.mk' ((congrArg Prod.fst (O4 p i v)).trans hu) (hk g.1 (MG p i (.prop v)).1) g.2,fun m hm=>?_⟩;obtain⟨to,_,rfl⟩:=D3 hm;exact⟨fun e=>(by cases e),fun e=>(by cases e),fun e=>(by cases e),fun _=>k.vok v hpq,fun e=>(by cases e),fun e=>(by cases e)⟩
 | askNews to=>exact⟨NdI.mk' hu (hk k rfl) h.ag,fun m hm=>by rw[List.mem_singleton.1 hm];exact LtI.none rfl⟩
 | start=>exact⟨NdI.mk' hu (hk k rfl) h.ag,fun m hm=>by obtain⟨to,_,rfl⟩:=D3 hm;exact LtI.none rfl⟩
 | tell to slot=>exact⟨NdI.mk' hu (hk k rfl) h.ag,fun m hm=>by rw[List.mem_singleton.1 hm];exact LtI.news rfl (h.ag.drop slot)⟩
theorem NdI.lead{σ:Gs}(hI:GsI σ){i:Nat}(hi:i<5){p:Nod}(h:NdI σ i p)(hu:p.up=true):NdI σ i (p.lead i):=by
 obtain⟨rs,k⟩:=h.up hu;have hup:(p.lead i).up=true:=(congrArg Prod.fst (YY p i)).trans hu
 revert hup
 unfold Nod.lead;simp only;generalize hb:(⟨max p.rounds p.vo.p.r+1,(i:Int)⟩:Bal)=b;rcases k.tp.promise b with⟨e,he⟩|⟨e,he,hvs,rs',hp,ht,hm,hpb,hpv,d,a,hq⟩
 ·rw[if_pos e];exact fun _=>h
 ·rw[if_neg (fun g=>g e)];intro hup;have hz:=Da he;have hlt:p.vo.p.key<b.key:=by
   have:=hz.1.1;rw[← hb];unfold Aw Ab at this;show 5*p.vo.p.r+p.vo.p.n<5*(max p.rounds p.vo.p.r+1)+(i:Int);omega
  refine NdI.mk' (rs:=rs') hup ?_ ?_
  ·refine k.wrote (q:=(p.promise b).1) (r:=⟨b,fun _=>false,fun _=>Ef,fun _=>p.agreed.length,0,[]⟩) (.refl σ) hI rfl ht hp (fun v hv=>k.vok v ((hm v).1 hv)) ?_ ?_ ?_ ⟨PrmOk.of ht.ok hpb (hpv.trans hvs.symm),Int.le_refl _⟩ (by rw[hq];rfl)
   ·refine⟨.inr ⟨hz.2.1,by rw[← hb]⟩,fun s c hW=>?_,fun j _ e=>(by cases e),fun j _ v hv=>(by cases hv),fun j _ e=>(by cases e),fun j _=>⟨JE,fun e=>(by cases e)⟩⟩;have h1:=hI.w3 _ _ _ hW;rw[show b.n.toNat=i by rw[← hb];exact Int.toNat_natCast i]at h1
    obtain⟨x,hx⟩:=k.tp.pre;have h2:=k.tp.ok;rw[← hx]at h2
    have h3:=(E5 h2).1;rw[hx,← k.tp.vo]at h3
    have h4:σ.P i≤p.vo.p.key:=h3;have h1:b.key≤σ.P i:=h1;omega
   ·have:=k.bp;show _≤b.key;omega
   ·rw[ht.vo,hpb];exact Int.le_refl _
  ·show AgL σ (p.promise b).1.agreed 0;rw[hq];exact h.ag
theorem UG{p:Nod}{i:Nat}(k:Nat):∀ m∈DM p i k,m.kind=5∧m.what=p.agreed.drop m.slot:=by
 induction k with
 | zero=>intro m hm;cases hm
 | succ k ih =>
  intro m hm;rw[DM]at hm
  rcases List.mem_append.1 hm with hm|hm
  ·exact ih m hm
  ·split at hm
   ·rw[List.mem_singleton.1 hm];exact⟨rfl,rfl⟩
   ·cases hm
theorem AgI.step{D:Wh}{n:Nat}{σ:Gs}{M N:Meet}(h:AgI σ M)(s:Stp D n M N):∃ τ ex,σ.le τ∧AgI τ N∧(∀ b s c,τ.W b s c→σ.W b s c∨ex=some (b,s))∧∀ b s,ex=some (b,s)→n=1∧s<40∧∃ i,i<5∧b=(M.node i).rnd.bal:=by
 have hI:=h.gs;have done:∀ {i:Nat} {p:Nod} {ls:List Let} {ts:List Tol},NdI σ i p→(∀ l∈ls,l∈M.lets∨LtI σ l)→∃ τ ex,σ.le τ∧AgI τ (M.set i p ls ts)∧(∀ b s c,τ.W b s c→σ.W b s c∨ex=some (b,s))∧∀ b s,ex=some (b,s)→n=1∧s<40∧∃ i,i<5∧b=(M.node i).rnd.bal:=fun{i p ls ts} hp hl=>⟨σ,none,.refl σ,h.set (.refl _ σ) hI hp hl ts,fun _ _ _ h=>.inl h,fun _ _ e=>by cases e⟩;have same:∀ l∈M.lets,l∈M.lets∨LtI σ l:=fun l hl=>.inl hl;have app:∀ {ms:List Let},(∀ m∈ms,LtI σ m)→∀ l∈M.lets++ms,l∈M.lets∨LtI σ l:=fun g l hl=>(List.mem_append.1 hl).imp id (g l);cases s with
 | take _ l hl hd hu=>exact done ((h.nd _ hd.2).take hI hu (h.lt l hl) hd.1) same
 | lets _ ls hl=>exact⟨σ,none,.refl σ,⟨hI,h.nd,fun l g=>h.lt l (hl l g)⟩,fun _ _ _ h=>.inl h,fun _ _ e=>by cases e⟩
 | one _ i c hi hu hc he =>
  refine done ?_ same;obtain⟨rs,k⟩:=(h.nd i hi).up hu;have hk:=Jn { M.node i with sto:=doS (M.node i).sto c,done:=(M.node i).done+1 } c;refine NdI.mk' (hk.1.trans hu) (rs:=rs) ?_ (by rw[hk.2.1];exact(h.nd i hi).ag);unfold Nod.unwant;split<;>exact k.keep rfl rfl rfl k.rd rfl fun x hx=>.inl hx
 | ask _ i hi hu =>
  obtain⟨rs,k⟩:=(h.nd i hi).up hu;have ha:=(h.nd i hi).ag;have hup:=(RV (M.node i) i).trans hu;generalize hp:M.node i=p at k ha hup ⊢;refine done (NdI.mk' (rs:=rs) hup ?_ ?_) (app ?_)
  ·unfold Nod.askd;split
   ·exact k.keep rfl rfl rfl k.rd rfl fun x hx=>.inl hx
   ·split
    ·exact(EG (p:={ p with asked:=(CU p.vo.p p.asked (p.wants.take 40)).2 }) (k.keep rfl rfl rfl k.rd rfl fun x hx=>.inl hx) _).1
    ·exact k.keep rfl rfl rfl k.rd rfl fun x hx=>.inl hx
  ·unfold Nod.askd;split
   ·exact ha
   ·split
    ·show AgL σ (Nod.enqueue _ _).agreed 0;rw[(EG (p:={ p with asked:=(CU p.vo.p p.asked (p.wants.take 40)).2 }) (k.keep rfl rfl rfl k.rd rfl fun x hx=>.inl hx) _).2];exact ha
    ·exact ha
  ·intro m hm;unfold Nod.askd at hm;split at hm
   ·cases hm
   ·split at hm
    ·cases hm
    ·rw[List.mem_singleton.1 hm];exact LtI.none rfl
 | prop _ i hi hu =>
  obtain⟨τ,ex,h1,h2,h3,h4,h5⟩:=(h.nd i hi).propose hI hu;exact⟨τ,ex,h1.le,h.set h1 h2 h3 (fun l hl=>.inl hl) _,h4,fun b s e=>⟨rfl,(h5 b s e).1,i,hi,(h5 b s e).2⟩⟩
 | syn _ i hi hu hlt hT =>
  obtain⟨rs,k⟩:=(h.nd i hi).up hu;obtain⟨x,hx⟩:=k.tp.pre;have h2:=hI.ext (i:=i) x (by rw[hx];exact k.tp.ok) fun v hv=>k.vok v (by rw[← hx];exact List.mem_append_right _ hv);have h1:=Nk σ i x;refine⟨σ.ext i x,none,h1.le,h.set h1 h2 (NdI.mk' (p:={ M.node i with sy:=((M.node i).d.length:Int) }) (rs:=rs) hu ⟨?_,fun v hv=>h1.le.vok (k.vok v hv),k.rd.mono h1.le h2 fun s c hW=>k.rd.next s c hW,k.bp,fun q hq=>(k.pe q hq).mono h1.le h2 (List.prefix_refl _) k.tp.ok (Int.le_refl _)⟩ ((h.nd i hi).ag.mono h1.le)) (fun l hl=>.inl hl) _,fun _ _ _ h=>.inl h,fun _ _ e=>by cases e⟩;rw[G4,hx];exact k.tp.syn
 | run _ i hi hu q l hp hs =>
  have g:=(h.nd i hi).run hI hi hu hp hs;exact done g.1 (app g.2)
 | teach _ i hi hu hL =>
  obtain⟨rs,k⟩:=(h.nd i hi).up hu;refine done (NdI.mk' (rs:=rs) hu (k.keep rfl rfl rfl ⟨k.rd.bal,k.rd.next,k.rd.own,k.rd.heard,k.rd.prom,k.rd.acc⟩ rfl fun x hx=>.inl hx) (h.nd i hi).ag) (app fun m hm=>?_);obtain⟨g1,g2⟩:=UG 5 m hm;exact LtI.news g1 (by rw[g2];exact(h.nd i hi).ag.drop _)
 | lead _ i hi hu _=>exact done ((h.nd i hi).lead hI hi hu) same
 | sub _ i d hi hu hD =>
  obtain⟨rs,k⟩:=(h.nd i hi).up hu;have ha:=(h.nd i hi).ag;refine done ?_ same;unfold Nod.subm Nod.sub0;split
  ·exact h.nd i hi
  ·split
   ·exact NdI.mk' (rs:=rs) hu (k.keep rfl rfl rfl k.rd rfl fun x hx=>.inl hx) ha
   ·split
    ·exact h.nd i hi
    ·show NdI σ i (Nod.want _ _);unfold Nod.want;split
     ·exact h.nd i hi
     ·exact NdI.mk' (rs:=rs) hu (k.keep rfl rfl rfl k.rd rfl fun x hx=>.inl hx) ha
 | crash _ i c hi hu hc _ =>
  obtain⟨rs,k⟩:=(h.nd i hi).up hu;obtain⟨dr',⟨x,hx⟩,⟨y,hy⟩,hD⟩:=k.tp.crash hc;have h2:=hI.ext (i:=i) x (k.tp.ok.pre ⟨y,by rw[hx];exact hy⟩) fun v hv=>k.vok v (by rw[← hy,← hx];exact List.mem_append_left _ (List.mem_append_right _ hv));have h1:=Nk σ i x;have hct:=Vy (p:=M.node i) k.tp.tap hc;exact⟨σ.ext i x,none,h1.le,h.set h1 h2 ⟨fun e=>(by rw[hct.2.1]at e;cases e),fun _=>(by rw[G4,hx];exact hD),by rw[hct.2.2.2];exact AgL.nil _ _⟩ (fun l hl=>.inl hl) _,fun _ _ _ h=>.inl h,fun _ _ e=>by cases e⟩
 | start _ i hi hu =>
  have k:=(h.nd i hi).dn hu;have hT:B2 (M.node i).d (M.node i).sy:=⟨k.len,by rw[k.sy];omega,by rw[k.sy];omega⟩;have hst:=X6 (p:=M.node i) hT;have ht:=k.start;have hr:(M.node i).start.rnd=di∧(M.node i).start.pend=[.start]:=by
   unfold Nod.start;rw[if_neg (fun e=>e (if_pos hT))];split<;>exact⟨rfl,rfl⟩
  refine done (NdI.mk' (rs:=σ.dr i) hst.2.1 ⟨ht,fun v hv=>hI.hv i v hv,?_,?_,fun q hq=>?_⟩ (by rw[hst.2.2.2];exact AgL.nil _ _)) same
  ·rw[hr.1];exact⟨.inl rfl,fun s c hW=>absurd (hI.w2 _ _ _ hW).1 (by decide),fun j _ e=>(by cases e),fun j _ v hv=>(by cases hv),fun j _ e=>(by cases e),fun j _=>⟨JE,fun e=>(by cases e)⟩⟩
  ·rw[hr.1,ht.vo];have hz:=ht.ok.acc.1;show(0:Int)≤_;unfold Aw Ab at hz;unfold Bal.key;omega
  ·rw[hr.2]at hq
   rw[List.mem_singleton.1 hq];trivial
theorem AgI.steps{D:Wh}{n:Nat}{M N:Meet}(s:Sts D n M N){σ:Gs}(h:AgI σ M):∃ (τ:Gs) (ex:List (Bal × Nat)),σ.le τ∧AgI τ N∧ex.length≤n∧∀ b s c,τ.W b s c→σ.W b s c∨(b,s)∈ex:=by
 induction s with
 | nil=>exact⟨σ,[],.refl σ,h,Nat.zero_le _,fun _ _ _ h=>.inl h⟩
 | snoc _ s hm ih =>
  obtain⟨τ,ex,h1,h2,h5,h6⟩:=ih h;obtain⟨υ,eo,h3,h4,h7,h8⟩:=h2.step s;cases eo with
  | none=>exact⟨υ,ex,h1.trans h3,h4,by omega,fun b s c g=>(h7 b s c g).elim (h6 b s c) fun e=>by cases e⟩
  | some x=>exact⟨υ,x::ex,h1.trans h3,h4,by have:=(h8 x.1 x.2 rfl).1;rw[List.length_cons];omega,fun b s c g=>(h7 b s c g).elim (fun g=>(h6 b s c g).imp id (List.mem_cons_of_mem _)) fun e=>.inr (by cases e;exact List.mem_cons_self)⟩
theorem AgI.zero:AgI ⟨fun _=>[],fun _ _ _=>False⟩ Bb :=
 ⟨⟨fun _=>AU.nil,⟨fun n s b c ⟨v,g,_⟩=>(by cases g),fun n n' s b c c' ⟨v,g,_⟩=>(by cases g),fun n s b c ⟨v,g,_⟩=>(by cases g)⟩,fun _ _ _ _ g=>g.elim,fun _ _ _ g=>g.elim,fun _ _ _ g=>g.elim,fun n v g=>(by cases g)⟩,
  fun i _=>NdI.mk' (rs:=[]) rfl ⟨TpU.zero,fun v g=>(by cases g),⟨.inl rfl,fun _ _ g=>g.elim,fun j _ e=>(by cases e),fun j _ v hv=>(by cases hv),fun j _ e=>(by cases e),fun j _=>⟨JE,fun e=>(by cases e)⟩⟩,Int.le_refl _,fun q hq=>(by cases hq)⟩ (AgL.nil _ _),fun l hl=>by cases hl⟩
theorem agree{L K:List Lac}(hL:∀ x∈L++K,LacOk x)(hl:(L++K).length≤100000){i j:Nat}(hi:i<5)(hj:j<5){s:Nat}{c d:Cmd}(hc:((Bb.acts L).node i).agreed[s]?=some c)(hd:((Bb.acts (L++K)).node j).agreed[s]?=some d):c=d:=by
 rw[List.length_append]at hl
 have hLL:∀ x∈L,LacOk x:=fun x hx=>hL x (List.mem_append_left _ hx);have s1:Sts whT L.length Bb (Bb.acts L):=Oh L MOk.zero (by omega) fun x hx=>⟨hLL x hx,fun _=>trivial,fun _=>trivial,fun _=>trivial⟩;have s2:Sts whT K.length (Bb.acts L) (Bb.acts (L++K)):=by
  rw[UV];exact Oh K (Og L hLL (by omega)) (by omega) fun x hx=>⟨hL x (List.mem_append_right _ hx),fun _=>trivial,fun _=>trivial,fun _=>trivial⟩
 obtain⟨σ,_,_,h1,_⟩:=AgI.zero.steps s1;obtain⟨τ,_,h2,h3,_⟩:=h1.steps s2;have g1:=h2.chs ((h1.nd i hi).ag s c hc);have g2:=(h3.nd j hj).ag s d hd;obtain⟨b1,g1⟩:=g1;obtain⟨b2,g2⟩:=g2;exact h3.gs.pinv.agree g1 g2
end Go.Proofs.YtfhbkoflaekhpaaGreatDoor
