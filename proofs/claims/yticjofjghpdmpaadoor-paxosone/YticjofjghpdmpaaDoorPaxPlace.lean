/-
  The walks of the program's own search for a slot's place among votes.
-/
import Derived.Test.YticjofjghpdmpaaDoorPaxLaw
import Derived.Test.YticjofjghpdmpaaDoorPaxOwn
import Derived.Test.YticjofjghpdmpaaDoorTail
import Derived.BigQuiet
namespace Go.Proofs.YticjofjghpdmpaaDoor
open Go.RowKit
set_option linter.unusedVariables false

theorem Sv.first {w : World} {a : Option Addr} {n cap : Nat} {l : List Vt} (h : Sv w (.slice a n cap) l) (i : Nat) (v : Vt) (hi : l[i]? = some v) : ∃ b off, a = some ⟨b, off, none⟩ ∧ b < w.heap.size ∧ w.cell? ⟨b, off + 8 * i, none⟩ = some (.int .i64 v.slot) := by
  obtain ⟨b, off, ha, hb, hr⟩ := h.spot i v hi
  exact ⟨b, off, ha, hb, hr 0 _ rfl⟩
set_option maxHeartbeats 1000000 in
set_option maxRecDepth 100000 in
/-- the closure -/
theorem place1_any (g1 g2 : Nat) (a : Option Addr) (n cap : Nat) (l : List Vt) (s : Int) (i : Nat) (v : Vt) (w : World) (hl : l.length = n) (hv : l[i]? = some v) (h : Sv w (.slice a n cap) l)
    (c1 : w.cell? ⟨g1, 0, none⟩ = some (.slice a n cap)) (c2 : w.cell? ⟨g2, 0, none⟩ = some (.int .i64 s)) :
    Calls Tryd.prog 50 #[.int .i64 (i : Int), .pointer (some ⟨g1, 0, none⟩), .pointer (some ⟨g2, 0, none⟩)] w fun e w' => e = .returned (.bool (decide (s ≤ v.slot))) ∧ Below w.heap.size w w' := by
  obtain ⟨b, off, rfl, hb, c3⟩ := h.first i v hv
  have hin : i < n := by have := (List.getElem?_eq_some_iff.1 hv).1; omega
  have hix := runIndexV b off n cap i hin
  have bb := Below.refl w.heap.size w
  go_enter Tryd.func50, Tryd.ntmps50
  go_wp2_with fail
  go_quiet (fail)
  have e1 : Below w.heap.size w (w.drewN nq) := below_drewN bb nq
  go_wp2
  go_ret
  exact ⟨ret_bool (by simp), e1⟩
set_option maxHeartbeats 1000000 in
set_option maxRecDepth 100000 in
theorem search_any (g1 g2 : Nat) (a : Option Addr) (n cap : Nat) (l : List Vt) (s : Int) (w : World) (hl : l.length = n) (hr : Rise l) (h : Sv w (.slice a n cap) l) (l1 : g1 < w.heap.size) (l2 : g2 < w.heap.size)
    (c1 : w.cell? ⟨g1, 0, none⟩ = some (.slice a n cap)) (c2 : w.cell? ⟨g2, 0, none⟩ = some (.int .i64 s)) :
    Calls Tryd.prog 49 #[.int .i64 (n : Int), .func (.func 50) #[] #[.pointer (some ⟨g1, 0, none⟩), .pointer (some ⟨g2, 0, none⟩)]] w fun e w' => ∃ p : Nat, e = .returned (.int .i64 (p : Int)) ∧ Plc l s p ∧ Below w.heap.size w w' := by
  have hlen := h.len
  rw [hl] at hlen
  have HL : Hid (l.length = n) := hl
  clear hl
  go_enter Tryd.func49, Tryd.ntmps49
  go_wp2_with fail
  go_loopw [5, 6] (fun iv jv wr => ∃ i j : Nat, i ≤ j ∧ j ≤ n ∧ iv = .int .i64 (i : Int) ∧ jv = .int .i64 (j : Int) ∧ (∀ (k : Nat) (v : Vt), k < i → l[k]? = some v → v.slot < s) ∧ (∀ (k : Nat) (v : Vt), j ≤ k → l[k]? = some v → s ≤ v.slot) ∧ Below w.heap.size w wr) (fun iv jv _ => (intOf jv - intOf iv).toNat)
  case atStart => exact ⟨0, n, by omega, by omega, rfl, rfl, fun k v hk => by omega, fun k v hk hv => by have := (List.getElem?_eq_some_iff.1 hv).1; have := HL.out; omega, Below.refl _ _⟩
  case round =>
    obtain ⟨i, j, hij, hjn, rfl, rfl, hlo, hhi, hbel⟩ := hrel
    have HLo : Hid (∀ (k : Nat) (v : Vt), k < i → l[k]? = some v → v.slot < s) := hlo
    have HHi : Hid (∀ (k : Nat) (v : Vt), j ≤ k → l[k]? = some v → s ≤ v.slot) := hhi
    clear hlo hhi
    by_cases hlt : i < j
    · have hlt' : (i : Int) < (j : Int) := by omega
      go_wp2_with fail
      obtain ⟨m, hm⟩ : ∃ m : Nat, ((i : Int) + (j : Int)) / 2 = (m : Int) := ⟨(i + j) / 2, by omega⟩
      rw [hm]
      have m1 : i ≤ m := by omega
      have m2 : m < j := by omega
      clear hm
      obtain ⟨v, hv⟩ : ∃ v, l[m]? = some v := ⟨_, List.getElem?_eq_getElem (by have := HL.out; omega)⟩
      refine (place1_any g1 g2 a n cap l s m v wr HL.out hv (h.below hbel) ((hbel.cell (p := ⟨g1, 0, none⟩) l1).trans c1) ((hbel.cell (p := ⟨g2, 0, none⟩) l2).trans c2)).mono ?_
      rintro e w2 ⟨rfl, b2⟩
      have e2 := hbel.trans (b2.mono hbel.size)
      obtain ⟨P1, P2⟩ := Plc.half hr hv HLo.out HHi.out
      by_cases hs : s ≤ v.slot
      · rw [decide_eq_true hs]
        have HH : Hid (∀ (k : Nat) (v : Vt), m ≤ k → l[k]? = some v → s ≤ v.slot) := P2 hs
        clear P1 P2 hv hs
        go_wp2
        go_roundw
        case rel => exact ⟨i, m, by omega, by omega, rfl, rfl, HLo.out, HH.out, e2⟩
        case measure => simp [intOf]; omega
      · rw [decide_eq_false hs]
        have HH : Hid (∀ (k : Nat) (v : Vt), k < m + 1 → l[k]? = some v → v.slot < s) := P1 (by omega)
        clear P1 P2 hv hs
        go_wp2
        go_roundw
        case rel => exact ⟨m + 1, j, by omega, by omega, by go_num, rfl, HH.out, HHi.out, e2⟩
        case measure => simp [intOf]; omega
    · obtain rfl : i = j := by omega
      go_wp2
      go_ret
      exact ⟨i, rfl, ⟨by have := HL.out; omega, HLo.out, HHi.out⟩, hbel⟩
set_option maxHeartbeats 1000000 in
set_option maxRecDepth 100000 in
theorem placeOf_any (x : Value) (l : List Vt) (s : Int) (w : World) (hr : Rise l) (h : Sv w x l) :
    Calls Tryd.prog 44 #[x, .int .i64 s] w fun e w' => ∃ p : Nat, e = .returned (.int .i64 (p : Int)) ∧ Plc l s p ∧ Below w.heap.size w w' := by
  obtain ⟨a, cp, rfl⟩ := h.shape
  obtain ⟨n, hn⟩ : ∃ n, l.length = n := ⟨_, rfl⟩
  rw [hn] at h ⊢
  have HL : Hid (l.length = n) := hn
  clear hn
  have r1 := heap_alloc2_old w (.cells #[.slice a n cp] 24) (.cells #[.int .i64 s] 3)
  have r2 := heap_alloc2_new w (.cells #[.slice a n cp] 24) (.cells #[.int .i64 s] 3)
  have bb : Below w.heap.size w ((w.alloc (.cells #[.slice a n cp] 24)).alloc (.cells #[.int .i64 s] 3)) := ((Below.refl _ _).alloc (Nat.le_refl _) _).alloc (by simp) _
  generalize hW : (w.alloc (.cells #[.slice a n cp] 24)).alloc (.cells #[.int .i64 s] 3) = W at r1 r2 bb
  have z : W.heap.size = w.heap.size + 2 := by rw [← hW]; simp
  have c1 : W.cell? ⟨w.heap.size, 0, none⟩ = some (.slice a n cp) := cell_of_row _ _ 0 _ _ _ r1
  have c2 : W.cell? ⟨w.heap.size + 1, 0, none⟩ = some (.int .i64 s) := cell_of_row _ _ 0 _ _ _ r2
  have hW2 := h.below bb
  go_enter Tryd.func44, Tryd.ntmps44
  go_wp2_with fail
  clear hW
  refine (search_any w.heap.size (w.heap.size + 1) a n cp l s W HL.out hr hW2 (by omega) (by omega) c1 c2).mono ?_
  rintro e w2 ⟨p, rfl, hp, b2⟩
  have d2 := bb.trans (b2.mono bb.size)
  have HP : Hid (Plc l s p) := hp
  clear hp
  go_wp2
  go_ret
  exact ⟨p, rfl, HP.out, d2⟩

/-- is the vote at a place one for the slot? -/
def hasS (l : List Vt) (p : Nat) (s : Int) : Bool := match l[p]? with | some v => decide (v.slot = s) | none => false
theorem hasS_some {l : List Vt} {p : Nat} {s : Int} {v : Vt} (h : l[p]? = some v) : hasS l p s = decide (v.slot = s) := by unfold hasS; rw [h]
theorem hasS_none {l : List Vt} {p : Nat} {s : Int} (h : l[p]? = none) : hasS l p s = false := by unfold hasS; rw [h]
theorem hasS_true {l : List Vt} {p : Nat} {s : Int} (h : hasS l p s = true) : ∃ v, l[p]? = some v ∧ v.slot = s := by
  cases hu : l[p]? with
  | none => rw [hasS_none hu] at h; cases h
  | some v => rw [hasS_some hu] at h; exact ⟨v, rfl, of_decide_eq_true h⟩
theorem hasS_false {l : List Vt} {p : Nat} {s : Int} (h : hasS l p s = false) : ∀ v, l[p]? = some v → v.slot ≠ s := by
  intro v hv
  rw [hasS_some hv] at h
  exact of_decide_eq_false h
theorem hasVote_any (x : Value) (l : List Vt) (p : Nat) (s : Int) (w : World) (h : Sv w x l) :
    Calls Tryd.prog 45 #[x, .int .i64 (p : Int), .int .i64 s] w fun e w' => e = .returned (.bool (hasS l p s)) ∧ w' = w := by
  obtain ⟨a, cp, rfl⟩ := h.shape
  obtain ⟨n, hn⟩ : ∃ n, l.length = n := ⟨_, rfl⟩
  rw [hn] at h ⊢
  by_cases hp : p < n
  · obtain ⟨v, hv⟩ : ∃ v, l[p]? = some v := ⟨_, List.getElem?_eq_getElem (by omega)⟩
    obtain ⟨b, off, rfl, hb, c3⟩ := h.first p v hv
    have hix := runIndexV b off n cp p hp
    have hpi : (p : Int) < (n : Int) := by omega
    rw [hasS_some hv]
    clear hn hv h
    go_enter Tryd.func45, Tryd.ntmps45
    go_wp2
    go_ret
    exact ⟨ret_bool (by first | rfl | simp), rfl⟩
  · have hv : l[p]? = none := List.getElem?_eq_none (by omega)
    have hpi : ¬ (p : Int) < (n : Int) := by omega
    rw [hasS_none hv]
    clear hn hv h
    go_enter Tryd.func45, Tryd.ntmps45
    go_wp2
    go_ret
    exact ⟨rfl, rfl⟩
end Go.Proofs.YticjofjghpdmpaaDoor
