/-
  What the program's own package rests on, in plain lists: a slot's place among votes that rise, the greatest ballot so far, and votes that are counted.
-/
import Derived.BigQuiet
import Derived.Test.YthmlikljeoamgabDoorKb8
import Derived.Test.YthmlikljeoamgabDoorKb9
import Derived.Test.YthmlikljeoamgabDoorKb3
namespace Go.Proofs.YthmlikljeoamgabDoor
set_option linter.unusedVariables false

/-- the place of a slot among votes -/
structure Plc (l : List Vt) (s : Int) (p : Nat) : Prop where
  le : p ≤ l.length
  lo : ∀ (i : Nat) (v : Vt), i < p → l[i]? = some v → v.slot < s
  hi : ∀ (i : Nat) (v : Vt), p ≤ i → l[i]? = some v → s ≤ v.slot
theorem insV_skip (a b : List Vt) (v : Vt) (h : ∀ u ∈ a, u.slot < v.slot) : insV (a ++ b) v = a ++ insV b v := by
  induction a with
  | nil => rfl
  | cons x a ih =>
    show insV (x :: (a ++ b)) v = x :: (a ++ insV b v)
    rw [insV, if_pos (h x List.mem_cons_self), ih (fun u hu => h u (List.mem_cons_of_mem _ hu))]
theorem Plc.front {l : List Vt} {s : Int} {p : Nat} (h : Plc l s p) : ∀ u ∈ l.take p, u.slot < s := by
  intro u hu
  obtain ⟨i, hi⟩ := List.mem_iff_getElem?.1 hu
  rw [List.getElem?_take] at hi
  split at hi
  · rename_i hip; exact h.lo i u hip hi
  · cases hi
theorem Plc.has {l : List Vt} {v u : Vt} {p : Nat} (h : Plc l v.slot p) (hu : l[p]? = some u) (he : u.slot = v.slot) : insV l v = l.take p ++ (v :: l.drop (p + 1)) := by
  obtain ⟨hp, e⟩ := List.getElem?_eq_some_iff.1 hu
  have hd : l.drop p = u :: l.drop (p + 1) := by rw [← e]; exact List.drop_eq_getElem_cons hp
  have h1 := insV_skip (l.take p) (l.drop p) v h.front
  rw [List.take_append_drop] at h1
  rw [h1, hd, insV, if_neg (by omega), if_pos he]
theorem Plc.no {l : List Vt} {v : Vt} {p : Nat} (h : Plc l v.slot p) (hn : ∀ u, l[p]? = some u → u.slot ≠ v.slot) : insV l v = l.take p ++ (v :: l.drop p) := by
  have h1 := insV_skip (l.take p) (l.drop p) v h.front
  rw [List.take_append_drop] at h1
  rw [h1]
  rcases Nat.lt_or_ge p l.length with hp | hp
  · have hd : l.drop p = l[p] :: l.drop (p + 1) := List.drop_eq_getElem_cons hp
    have h2 := h.hi p l[p] (Nat.le_refl _) (List.getElem?_eq_getElem hp)
    have h3 := hn l[p] (List.getElem?_eq_getElem hp)
    rw [hd, insV, if_neg (by omega), if_neg h3]
  · rw [List.drop_eq_nil_of_le hp, insV]
/-- the one vote for a slot -/
theorem Plc.ofSlot_has {l : List Vt} {s : Int} {p : Nat} {u : Vt} (hr : Rise l) (hu : l[p]? = some u) (he : u.slot = s) : ofSlot l s = [u] := by
  have h1 := ofSlot_le hr s
  have h2 : u ∈ ofSlot l s := ofSlot_mem.2 ⟨List.mem_iff_getElem?.2 ⟨p, hu⟩, he⟩
  match hl : ofSlot l s with
  | [] => rw [hl] at h2; cases h2
  | [x] => rw [hl] at h2; rw [List.mem_singleton.1 h2]
  | x :: y :: r => rw [hl] at h1; simp at h1
theorem Plc.ofSlot_no {l : List Vt} {s : Int} {p : Nat} (hr : Rise l) (h : Plc l s p) (hn : ∀ u, l[p]? = some u → u.slot ≠ s) : ofSlot l s = [] := by
  rw [List.eq_nil_iff_forall_not_mem]
  intro u hu
  obtain ⟨hu, he⟩ := ofSlot_mem.1 hu
  obtain ⟨i, hi⟩ := List.mem_iff_getElem?.1 hu
  rcases Nat.lt_trichotomy i p with hip | rfl | hip
  · have := h.lo i u hip hi; omega
  · exact hn u hi he
  · have hip' : i < l.length := (List.getElem?_eq_some_iff.1 hi).1
    have hp : p < l.length := by omega
    have h2 := h.hi p l[p] (Nat.le_refl _) (List.getElem?_eq_getElem hp)
    have h3 := rise_lt hr hip (List.getElem?_eq_getElem hp) hi
    omega
where
  rise_lt : ∀ {l : List Vt} (hr : Rise l) {i j : Nat} (hij : i < j) {u v : Vt} (hu : l[i]? = some u) (hv : l[j]? = some v), u.slot < v.slot
    | x :: xs, hr, 0, j + 1, _, u, v, hu, hv => by
      simp at hu hv
      subst hu
      exact hr.1 v (List.mem_iff_getElem?.2 ⟨j, hv⟩)
    | x :: xs, hr, i + 1, j + 1, hij, u, v, hu, hv => rise_lt (l := xs) hr.2 (i := i) (j := j) (by omega) (by simpa using hu) (by simpa using hv)
    | [], _, i, j, _, u, v, hu, hv => by simp at hu
theorem Rise.get {l : List Vt} (hr : Rise l) {i j : Nat} (hij : i < j) {u v : Vt} (hu : l[i]? = some u) (hv : l[j]? = some v) : u.slot < v.slot := Plc.ofSlot_no.rise_lt hr hij hu hv
/-- a look at a place in the middle -/
theorem Plc.half {l : List Vt} (hr : Rise l) {s : Int} {i j h : Nat} {u : Vt} (hu : l[h]? = some u) (hlo : ∀ (k : Nat) (v : Vt), k < i → l[k]? = some v → v.slot < s) (hhi : ∀ (k : Nat) (v : Vt), j ≤ k → l[k]? = some v → s ≤ v.slot) :
    (u.slot < s → ∀ (k : Nat) (v : Vt), k < h + 1 → l[k]? = some v → v.slot < s) ∧ (s ≤ u.slot → ∀ (k : Nat) (v : Vt), h ≤ k → l[k]? = some v → s ≤ v.slot) := by
  constructor
  · intro g k v hk hv
    rcases Nat.lt_or_ge k h with hkh | hkh
    · have := hr.get hkh hv hu; omega
    · obtain rfl : k = h := by omega
      rw [hu] at hv; cases hv; exact g
  · intro g k v hk hv
    rcases Nat.lt_or_ge h k with hkh | hkh
    · have := hr.get hkh hu hv; omega
    · obtain rfl : k = h := by omega
      rw [hu] at hv; cases hv; exact g

/-- one vote more -/
def nextV (o : Option Vt) (v : Vt) : Option Vt := match o with
  | none => some v
  | some u => if u.b.lt v.b then some v else some u
theorem bestV_snoc (l : List Vt) (v : Vt) (o : Option Vt) : bestV (l ++ [v]) o = nextV (bestV l o) v := by
  induction l generalizing o with
  | nil =>
    cases o with
    | none => rfl
    | some u =>
      show bestV [v] (some u) = nextV (some u) v
      rw [bestV, nextV]
      split <;> rfl
  | cons x l ih =>
    cases o with
    | none => exact ih _
    | some u =>
      show bestV (x :: (l ++ [v])) (some u) = nextV (bestV (x :: l) (some u)) v
      rw [bestV, bestV]
      split
      · exact ih _
      · exact ih _
/-- what is kept while votes are looked at: the best one, or a vote of nothing -/
def vt0 : Vt := ⟨0, ⟨0, 0⟩, ⟨0, 0, 0, 0, 0⟩⟩
def KeptV (o : Option Vt) (x : Vt) : Prop := (o = none ∧ x = vt0) ∨ (o = some x ∧ BalMay x.b)
theorem KeptV.next {o : Option Vt} {x v : Vt} (h : KeptV o x) (hv : BalMay v.b) : KeptV (nextV o v) (if x.b.lt v.b then v else x) := by
  rcases h with ⟨rfl, rfl⟩ | ⟨rfl, hx⟩
  · rw [if_pos (by unfold BalMay at hv; unfold Bal.lt; simp [vt0]; omega)]
    exact .inr ⟨rfl, hv⟩
  · show KeptV (if x.b.lt v.b then some v else some x) _
    split
    · exact .inr ⟨rfl, hv⟩
    · exact .inr ⟨rfl, hx⟩
theorem KeptV.pick {ls : List (List Vt)} {s : Int} {x : Vt} (hs : 0 ≤ s ∧ s ≤ 39) (hb : ∀ l ∈ ls, ∀ v ∈ l, VtMay v) (h : KeptV (pickO ls s) x) : (if pickE ls s = 0 then ((pickO ls s).map (·.w)).getD ⟨0, 0, 0, 0, 0⟩ else ⟨0, 0, 0, 0, 0⟩) = x.w ∧ (if pickE ls s = 0 then (pickO ls s).isSome else false) = !decide (x.b.r = 0 ∧ x.b.n = 0) ∧ pickE ls s = 0 := by
  have e : pickE ls s = 0 := by unfold pickE; rw [if_neg (fun g => g hs), if_pos hb]
  rw [if_pos e, if_pos e]
  rcases h with ⟨h1, rfl⟩ | ⟨h1, h2⟩
  · rw [h1]; exact ⟨rfl, rfl, e⟩
  · rw [h1]
    refine ⟨rfl, ?_, e⟩
    rw [decide_eq_false (by unfold BalMay at h2; omega)]
    rfl

/-- two votes are not counted twice -/
theorem numV_two (l : List Vt) {u v : Vt} (h : u ≠ v) : numV l u + numV l v ≤ l.length := by
  induction l with
  | nil => simp [numV]
  | cons x l ih =>
    unfold numV at ih ⊢
    rw [List.countP_cons, List.countP_cons, List.length_cons]
    by_cases hx : x = u
    · subst hx
      rw [if_pos (by simp), if_neg (by simp [h])]
      omega
    · by_cases hy : x = v
      · subst hy
        rw [if_neg (by simp [hx]), if_pos (by simp)]
        omega
      · rw [if_neg (by simp [hx]), if_neg (by simp [hy])]
        omega
theorem numV_mem {l : List Vt} {v : Vt} (h : 0 < numV l v) : v ∈ l := by
  unfold numV at h
  obtain ⟨u, hu, e⟩ := List.countP_pos_iff.1 h
  rw [← of_decide_eq_true e]; exact hu
theorem numV_le (a b : List Vt) (v : Vt) : numV a v ≤ numV (a ++ b) v := by
  unfold numV; rw [List.countP_append]; omega
/-- what more than half have voted for is what is chosen -/
theorem choO_found {l : List Vt} {m : Nat} {v : Vt} (hl : l.length ≤ m) (h : m < 2 * numV l v) : choO l m = some v := by
  cases hf : choO l m with
  | none =>
    have := List.find?_eq_none.1 hf v (numV_mem (by omega))
    simp at this
    omega
  | some u =>
    have hu := List.find?_some hf
    simp at hu
    by_cases e : u = v
    · rw [e]
    · have := numV_two l e
      omega
theorem choO_not {l : List Vt} {m : Nat} (h : ∀ v, 2 * numV l v ≤ m) : choO l m = none := by
  unfold choO
  rw [List.find?_eq_none]
  intro v _
  have := h v
  simp
  omega
end Go.Proofs.YthmlikljeoamgabDoor
/-
  The walks of the program's own search for a slot's place among votes.
-/
namespace Go.Proofs.YthmlikljeoamgabDoor
open Go.RowKit
set_option linter.unusedVariables false

theorem Sv.first {w : World} {a : Option Addr} {n cap : Nat} {l : List Vt} (h : Sv w (.slice a n cap) l) (i : Nat) (v : Vt) (hi : l[i]? = some v) : ∃ b off, a = some ⟨b, off, none⟩ ∧ b < w.heap.size ∧ w.cell? ⟨b, off + 8 * i, none⟩ = some (.int .i64 v.slot) := by
  obtain ⟨b, off, ha, hb, hr⟩ := h.spot i v hi
  exact ⟨b, off, ha, hb, hr 0 _ rfl⟩
set_option maxHeartbeats 1000000 in
set_option maxRecDepth 100000 in
/-- the closure -/
theorem place1_any (g1 g2 : Nat) (a : Option Addr) (n cap : Nat) (l : List Vt) (s : Int) (i : Nat) (v : Vt) (w : World) (hl : l.length = n) (hv : l[i]? = some v) (h : Sv w (.slice a n cap) l)
    (c1 : w.cell? ⟨g1, 0, none⟩ = some (.slice a n cap)) (c2 : w.cell? ⟨g2, 0, none⟩ = some (.int .i64 s)) :
    Calls Tryd.prog 54 #[.int .i64 (i : Int), .pointer (some ⟨g1, 0, none⟩), .pointer (some ⟨g2, 0, none⟩)] w fun e w' => e = .returned (.bool (decide (s ≤ v.slot))) ∧ Below w.heap.size w w' := by
  obtain ⟨b, off, rfl, hb, c3⟩ := h.first i v hv
  have hin : i < n := by have := (List.getElem?_eq_some_iff.1 hv).1; omega
  have hix := runIndexV b off n cap i hin
  have bb := Below.refl w.heap.size w
  go_enter Tryd.func54, Tryd.ntmps54
  go_wp2_with fail
  go_quiet (fail)
  have e1 : Below w.heap.size w (w.drewN nq) := below_drewN bb nq
  go_wp2
  go_ret
  exact ⟨ret_bool (by simp), e1⟩
set_option maxHeartbeats 1000000 in
set_option maxRecDepth 100000 in
theorem search_any (g1 g2 : Nat) (a : Option Addr) (n cap : Nat) (l : List Vt) (s : Int) (w : World) (hl : l.length = n) (hr : Rise l) (h : Sv w (.slice a n cap) l) (l1 : g1 < w.heap.size) (l2 : g2 < w.heap.size)
    (c1 : w.cell? ⟨g1, 0, none⟩ = some (.slice a n cap)) (c2 : w.cell? ⟨g2, 0, none⟩ = some (.int .i64 s)) :
    Calls Tryd.prog 53 #[.int .i64 (n : Int), .func (.func 54) #[] #[.pointer (some ⟨g1, 0, none⟩), .pointer (some ⟨g2, 0, none⟩)]] w fun e w' => ∃ p : Nat, e = .returned (.int .i64 (p : Int)) ∧ Plc l s p ∧ Below w.heap.size w w' := by
  have hlen := h.len
  rw [hl] at hlen
  have HL : Hid (l.length = n) := hl
  clear hl
  go_enter Tryd.func53, Tryd.ntmps53
  go_wp2_with fail
  go_loopw [5, 6] (fun iv jv wr => ∃ i j : Nat, i ≤ j ∧ j ≤ n ∧ iv = .int .i64 (i : Int) ∧ jv = .int .i64 (j : Int) ∧ (∀ (k : Nat) (v : Vt), k < i → l[k]? = some v → v.slot < s) ∧ (∀ (k : Nat) (v : Vt), j ≤ k → l[k]? = some v → s ≤ v.slot) ∧ Below w.heap.size w wr) (fun iv jv _ => (intOf jv - intOf iv).toNat)
  case atStart => exact ⟨0, n, by omega, by omega, rfl, rfl, fun k v hk => by omega, fun k v hk hv => by have := (List.getElem?_eq_some_iff.1 hv).1; have := HL.out; omega, Below.refl _ _⟩
  case round =>
    obtain ⟨i, j, hij, hjn, rfl, rfl, hlo, hhi, hbel⟩ := hrel
    have HLo : Hid (∀ (k : Nat) (v : Vt), k < i → l[k]? = some v → v.slot < s) := hlo
    have HHi : Hid (∀ (k : Nat) (v : Vt), j ≤ k → l[k]? = some v → s ≤ v.slot) := hhi
    clear hlo hhi
    by_cases hlt : i < j
    · have hlt' : (i : Int) < (j : Int) := by omega
      go_wp2_with fail
      obtain ⟨m, hm⟩ : ∃ m : Nat, ((i : Int) + (j : Int)) / 2 = (m : Int) := ⟨(i + j) / 2, by omega⟩
      rw [hm]
      have m1 : i ≤ m := by omega
      have m2 : m < j := by omega
      clear hm
      obtain ⟨v, hv⟩ : ∃ v, l[m]? = some v := ⟨_, List.getElem?_eq_getElem (by have := HL.out; omega)⟩
      refine (place1_any g1 g2 a n cap l s m v wr HL.out hv (h.below hbel) ((hbel.cell (p := ⟨g1, 0, none⟩) l1).trans c1) ((hbel.cell (p := ⟨g2, 0, none⟩) l2).trans c2)).mono ?_
      rintro e w2 ⟨rfl, b2⟩
      have e2 := hbel.trans (b2.mono hbel.size)
      obtain ⟨P1, P2⟩ := Plc.half hr hv HLo.out HHi.out
      by_cases hs : s ≤ v.slot
      · rw [decide_eq_true hs]
        have HH : Hid (∀ (k : Nat) (v : Vt), m ≤ k → l[k]? = some v → s ≤ v.slot) := P2 hs
        clear P1 P2 hv hs
        go_wp2
        go_roundw
        case rel => exact ⟨i, m, by omega, by omega, rfl, rfl, HLo.out, HH.out, e2⟩
        case measure => simp [intOf]; omega
      · rw [decide_eq_false hs]
        have HH : Hid (∀ (k : Nat) (v : Vt), k < m + 1 → l[k]? = some v → v.slot < s) := P1 (by omega)
        clear P1 P2 hv hs
        go_wp2
        go_roundw
        case rel => exact ⟨m + 1, j, by omega, by omega, by go_num, rfl, HH.out, HHi.out, e2⟩
        case measure => simp [intOf]; omega
    · obtain rfl : i = j := by omega
      go_wp2
      go_ret
      exact ⟨i, rfl, ⟨by have := HL.out; omega, HLo.out, HHi.out⟩, hbel⟩
set_option maxHeartbeats 1000000 in
set_option maxRecDepth 100000 in
theorem placeOf_any (x : Value) (l : List Vt) (s : Int) (w : World) (hr : Rise l) (h : Sv w x l) :
    Calls Tryd.prog 44 #[x, .int .i64 s] w fun e w' => ∃ p : Nat, e = .returned (.int .i64 (p : Int)) ∧ Plc l s p ∧ Below w.heap.size w w' := by
  obtain ⟨a, cp, rfl⟩ := h.shape
  obtain ⟨n, hn⟩ : ∃ n, l.length = n := ⟨_, rfl⟩
  rw [hn] at h ⊢
  have HL : Hid (l.length = n) := hn
  clear hn
  have r1 := heap_alloc2_old w (.cells #[.slice a n cp] 31) (.cells #[.int .i64 s] 3)
  have r2 := heap_alloc2_new w (.cells #[.slice a n cp] 31) (.cells #[.int .i64 s] 3)
  have bb : Below w.heap.size w ((w.alloc (.cells #[.slice a n cp] 31)).alloc (.cells #[.int .i64 s] 3)) := ((Below.refl _ _).alloc (Nat.le_refl _) _).alloc (by simp) _
  generalize hW : (w.alloc (.cells #[.slice a n cp] 31)).alloc (.cells #[.int .i64 s] 3) = W at r1 r2 bb
  have z : W.heap.size = w.heap.size + 2 := by rw [← hW]; simp
  have c1 : W.cell? ⟨w.heap.size, 0, none⟩ = some (.slice a n cp) := cell_of_row _ _ 0 _ _ _ r1
  have c2 : W.cell? ⟨w.heap.size + 1, 0, none⟩ = some (.int .i64 s) := cell_of_row _ _ 0 _ _ _ r2
  have hW2 := h.below bb
  go_enter Tryd.func44, Tryd.ntmps44
  go_wp2_with fail
  clear hW
  refine (search_any w.heap.size (w.heap.size + 1) a n cp l s W HL.out hr hW2 (by omega) (by omega) c1 c2).mono ?_
  rintro e w2 ⟨p, rfl, hp, b2⟩
  have d2 := bb.trans (b2.mono bb.size)
  have HP : Hid (Plc l s p) := hp
  clear hp
  go_wp2
  go_ret
  exact ⟨p, rfl, HP.out, d2⟩

/-- is the vote at a place one for the slot? -/
def hasS (l : List Vt) (p : Nat) (s : Int) : Bool := match l[p]? with | some v => decide (v.slot = s) | none => false
theorem hasS_some {l : List Vt} {p : Nat} {s : Int} {v : Vt} (h : l[p]? = some v) : hasS l p s = decide (v.slot = s) := by unfold hasS; rw [h]
theorem hasS_none {l : List Vt} {p : Nat} {s : Int} (h : l[p]? = none) : hasS l p s = false := by unfold hasS; rw [h]
theorem hasS_true {l : List Vt} {p : Nat} {s : Int} (h : hasS l p s = true) : ∃ v, l[p]? = some v ∧ v.slot = s := by
  cases hu : l[p]? with
  | none => rw [hasS_none hu] at h; cases h
  | some v => rw [hasS_some hu] at h; exact ⟨v, rfl, of_decide_eq_true h⟩
theorem hasS_false {l : List Vt} {p : Nat} {s : Int} (h : hasS l p s = false) : ∀ v, l[p]? = some v → v.slot ≠ s := by
  intro v hv
  rw [hasS_some hv] at h
  exact of_decide_eq_false h
theorem hasVote_any (x : Value) (l : List Vt) (p : Nat) (s : Int) (w : World) (h : Sv w x l) :
    Calls Tryd.prog 45 #[x, .int .i64 (p : Int), .int .i64 s] w fun e w' => e = .returned (.bool (hasS l p s)) ∧ w' = w := by
  obtain ⟨a, cp, rfl⟩ := h.shape
  obtain ⟨n, hn⟩ : ∃ n, l.length = n := ⟨_, rfl⟩
  rw [hn] at h ⊢
  by_cases hp : p < n
  · obtain ⟨v, hv⟩ : ∃ v, l[p]? = some v := ⟨_, List.getElem?_eq_getElem (by omega)⟩
    obtain ⟨b, off, rfl, hb, c3⟩ := h.first p v hv
    have hix := runIndexV b off n cp p hp
    have hpi : (p : Int) < (n : Int) := by omega
    rw [hasS_some hv]
    clear hn hv h
    go_enter Tryd.func45, Tryd.ntmps45
    go_wp2
    go_ret
    exact ⟨ret_bool (by first | rfl | simp), rfl⟩
  · have hv : l[p]? = none := List.getElem?_eq_none (by omega)
    have hpi : ¬ (p : Int) < (n : Int) := by omega
    rw [hasS_none hv]
    clear hn hv h
    go_enter Tryd.func45, Tryd.ntmps45
    go_wp2
    go_ret
    exact ⟨rfl, rfl⟩
end Go.Proofs.YthmlikljeoamgabDoor
