/-
  Bytes that outlive a store into a row that holds none. No program is named here.
-/
import Derived.Test.YtakgfdbjgeopdaaDoorKn15
import Derived.Test.YtakgfdbjgeopdaaDoorKn3
import Derived.Test.YtakgfdbjgeopdaaDoorKn2
namespace Go.Proofs.YtakgfdbjgeopdaaDoor
open Go.RowKit
set_option linter.unusedVariables false

def notByte : Value → Bool
  | .int .u8 _ => false
  | _ => true
theorem noByte_of (cs : Array Value) (h : cs.all notByte = true) : ∀ (i : Nat) (x : Int), cs[i]? ≠ some (.int .u8 x) := by
  intro i x e
  have hm := Array.mem_of_getElem? e
  have := Array.all_eq_true_iff_forall_mem.1 h _ hm
  simp [notByte] at this
/-- a row without bytes is set: bytes stay -/
theorem Sl.otherRow {w : World} {v : Value} {l : List Int} (h : Sl w v l) {g : Nat} {cs : Array Value} {t : TypeId} {fr : Nat × Nat} (hg : w.heap[g]? = some (.cells cs t fr)) (hno : ∀ (i : Nat) (x : Int), cs[i]? ≠ some (.int .u8 x)) (cs' : Array Value) : Sl (w.setRow g cs') v l := by
  obtain ⟨⟨a, cap, rfl, hc, hn, h1⟩, h2, h3⟩ := h
  refine ⟨⟨a, cap, rfl, hc, hn, ?_⟩, h2, h3⟩
  rcases h1 with h1 | ⟨b, off, rfl, hbs, hcell⟩
  · exact .inl h1
  · refine .inr ⟨b, off, rfl, by simpa using hbs, fun i hi => ?_⟩
    have hne : b ≠ g := by
      rintro rfl
      have h7 := hcell i hi
      rw [cell_of_row _ _ _ _ _ _ hg] at h7
      exact hno _ _ h7
    rw [← hcell i hi]
    exact World.cell?_of_block (w := w) (setRow_other w g b cs' hne)
/-- thirty-two bytes in a row of their own -/
structure So (w : World) (g c : Nat) (l : List Int) : Prop where
  sl : Sl w (.slice (some ⟨g, 0, none⟩) 32 c) l
  cel : ∃ cs, w.heap[g]? = some (.cells cs 5)
  len : l.length = 32
theorem So.lt {w : World} {g c : Nat} {l : List Int} (h : So w g c l) : g < w.heap.size := by
  obtain ⟨cs, hg⟩ := h.cel
  exact (Array.getElem?_eq_some_iff.1 hg).1
theorem So.below {w w' : World} {g c : Nat} {l : List Int} (h : So w g c l) (b : Below w.heap.size w w') : So w' g c l := by
  obtain ⟨cs, hg⟩ := h.cel
  exact ⟨h.sl.below b, ⟨cs, (b.block g h.lt).trans hg⟩, h.len⟩
/-- its first cell is a byte -/
theorem So.byte0 {w : World} {g c : Nat} {l : List Int} (h : So w g c l) : ∃ x, w.cell? ⟨g, 0, none⟩ = some (.int .u8 x) := by
  obtain ⟨⟨a, cp, e, _, _, h1⟩, _, _⟩ := h.sl
  rcases h1 with h1 | ⟨b, off, ha, _, hcell⟩
  · have := h.len; rw [h1] at this; cases this
  · simp only [Value.slice.injEq] at e
    obtain ⟨e, _, _⟩ := e
    rw [ha] at e
    simp only [Option.some.injEq, Addr.mk.injEq] at e
    obtain ⟨rfl, rfl, _⟩ := e
    have := hcell 0 (by have := h.len; omega)
    exact ⟨_, this⟩
theorem So.otherRow {w : World} {g c : Nat} {l : List Int} (h : So w g c l) {q : Nat} {cs : Array Value} {t : TypeId} {fr : Nat × Nat} (hg : w.heap[q]? = some (.cells cs t fr)) (hno : ∀ (i : Nat) (x : Int), cs[i]? ≠ some (.int .u8 x)) (cs' : Array Value) : So (w.setRow q cs') g c l := by
  obtain ⟨cs0, hg0⟩ := h.cel
  have hne : g ≠ q := by
    intro e
    subst e
    obtain ⟨x, hx⟩ := h.byte0
    rw [cell_of_row _ _ 0 _ _ _ hg] at hx
    exact hno 0 x hx
  exact ⟨h.sl.otherRow hg hno cs', ⟨cs0, (setRow_other w q g cs' hne).trans hg0⟩, h.len⟩
theorem So.ofOwns {w : World} {base : Nat} {v : Value} {l : List Int} (h : w.ownsRow base 5 1 v 32 (l.map (Value.int .u8))) (hl : l.length = 32) (hb : ∀ x ∈ l, 0 ≤ x ∧ x < 256) : ∃ g c, v = .slice (some ⟨g, 0, none⟩) 32 c ∧ base ≤ g ∧ So w g c l := by
  have hs := Sl.ofOwns (l := l) (by rw [hl]; exact h) (by rw [hl]; omega) hb
  rcases h.2 with ⟨_, h0⟩ | ⟨g, cap, cur, rfl, hbg, hg, _⟩
  · cases h0
  · exact ⟨g, cap, rfl, hbg, hs, ⟨cur, hg⟩, hl⟩
end Go.Proofs.YtakgfdbjgeopdaaDoor
/-
  The walk of what pads the bytes of a digest.
-/
namespace Go.Proofs.YtakgfdbjgeopdaaDoor
open Go.RowKit

def lenOf : Value → Nat
  | .slice _ n _ => n
  | _ => 0

set_option maxRecDepth 100000 in
theorem owns_lenOf {w : World} {base e : Nat} {v : Value} {n : Nat} {xs : List Value} (h : w.ownsRow base e 1 v n xs) : lenOf v = n := by
  rcases h.2 with ⟨rfl, rfl⟩ | ⟨g, cap, cur, rfl, _⟩ <;> rfl

set_option maxRecDepth 100000 in
theorem padded_any (v : Value) (l : List Int) (w : World) (h : Sl w v l) (hl : l.length ≤ 100000) :
    Calls Tryd.prog 60 #[v] w fun e w' => ∃ v', e = .returned v' ∧ w'.ownsRow w.heap.size 5 1 v' (pad l).length ((pad l).map (Value.int .u8)) ∧ Below w.heap.size w w' := by
  have hs := h
  obtain ⟨⟨a, cap, rfl, hc, hn, h1⟩, hla, hba⟩ := h
  clear h1 hn hba
  obtain ⟨i0, hi, hz0, hz1, hz2⟩ := info_parts info5
  go_enter Tryd.func60, Tryd.ntmps60
  go_wp2_with (at_make; refine wpList_make_own _ rfl _ _ 22 rfl w.heap.size 5 i0 (.int .u8 0) 1 Tryd.underlying22 hi hz0 hz1 _ _ _ (l.length + 128) rfl rfl (by omega) (by rw [hz2]; omega) (by unfold maxLen; omega) (Nat.le_refl _) ?_)
  intro w1 ho1 hg1
  have hb1 : Below w.heap.size w w1 := (Below.refl _ _).grown hg1 (Nat.le_refl _) (by simp)
  have ho1' : w1.ownsRow w.heap.size 5 1 (.slice (some ⟨w.heap.size, 0, none⟩) 0 (l.length + 128)) ([] : List Int).length (([] : List Int).map (Value.int .u8)) := ho1
  clear ho1 hg1
  go_wp2_with (at_builtin; refine wpList_append_sl _ rfl _ _ 22 rfl w.heap.size 5 Tryd.underlying22 info5 _ _ rfl rfl [] l ho1' (hs.below hb1) (by simp; omega) hb1.size ?_)
  intro v2 w2 ho2 hg2
  have ho2' : w2.ownsRow w.heap.size 5 1 v2 l.length (l.map (Value.int .u8)) := by simpa using ho2
  have hb2 : Below w.heap.size w w2 := hb1.grown hg2 hb1.size (by simp [Value.ownBlock])
  have hlt2 := ho2'.lt
  clear ho1' hg2 hb1 ho2
  go_wp2_with (at_builtin; refine wpList_append_sl _ rfl _ _ 22 rfl w.heap.size 5 Tryd.underlying22 info5 _ _ rfl rfl l [128] (ho2'.alloc _) (Sl.one _ _ _ rfl (by omega)) (by simp; omega) (by have := hb2.size; simp; omega) ?_)
  intro v3 w3 ho3 hg3
  have ho3' : w3.ownsRow w.heap.size 5 1 v3 (padTo l 0).length ((padTo l 0).map (Value.int .u8)) := by simpa [padTo] using ho3
  have hb3 : Below w.heap.size w w3 := (hb2.alloc hb2.size _).grown hg3 (by have := hb2.size; simp; omega) (fun k hk => (hlt2 k hk).1)
  clear ho3 hg3 hb2 hlt2 ho2'
  go_wp2
  go_loopw [3] (fun v wr => ∃ j : Nat, j ≤ zeros l.length ∧ wr.ownsRow w.heap.size 5 1 v (padTo l j).length ((padTo l j).map (Value.int .u8)) ∧ Below w.heap.size w wr) (fun v _ => zeros l.length + l.length + 1 - lenOf v)
  case atStart => exact ⟨0, Nat.zero_le _, ho3', hb3⟩
  case round =>
    clear ho3' hb3
    obtain ⟨j, hj, hown, hb⟩ := hrel
    obtain ⟨g, cp, hv, hgB, hgs, hcp, hcell, hfr⟩ := owns_shape hown (by simp [padTo])
    rw [padTo_length] at hv
    subst hv
    clear hcell hfr hcp
    have hz : zeros l.length ≤ 63 := by unfold zeros; omega
    have hlt := hown.lt
    by_cases hjz : j < zeros l.length
    · have hne : ¬ ((l.length + 1 + j) % 64 = 56) := by unfold zeros at hjz; omega
      go_wp2_with (at_builtin; refine wpList_append_sl _ rfl _ _ 22 rfl w.heap.size 5 Tryd.underlying22 info5 _ _ rfl rfl (padTo l j) [0] (hown.alloc _) (Sl.one _ _ _ rfl (by omega)) (by rw [padTo_length]; simp; omega) (by have := hb.size; simp; omega) ?_)
      intro v4 w4 ho4 hg4
      have ho4' : w4.ownsRow w.heap.size 5 1 v4 (padTo l (j + 1)).length ((padTo l (j + 1)).map (Value.int .u8)) := by rw [← padTo_succ]; simpa using ho4
      have hb4 : Below w.heap.size w w4 := (hb.alloc hb.size _).grown hg4 (by have := hb.size; simp; omega) (fun k hk => (hlt k hk).1)
      have hl4 := owns_lenOf ho4'
      rw [padTo_length] at hl4
      have HL : Hid (lenOf v4 = l.length + 1 + (j + 1)) := hl4
      clear hl4 ho4 hg4 hown hlt hb
      go_wp2
      go_roundw
      case rel => exact ⟨j + 1, hjz, ho4', hb4⟩
      case measure =>
        have hl4 := HL.out
        show zeros l.length + l.length + 1 - lenOf v4 < zeros l.length + l.length + 1 - (l.length + 1 + j)
        rw [hl4]
        omega
    · have heq : (l.length + 1 + j) % 64 = 56 := by unfold zeros at hjz hj; omega
      have H56 : Hid ((l.length + 1 + j) % 64 = 56) := heq
      have h56 : (((l.length : Int) + 1 + j) % 64 != 56) = false := by simp; omega
      have ejz : j = zeros l.length := by omega
      have EJ : Hid (j = zeros l.length) := ejz
      clear heq ejz
      go_wp2_with fail
      go_loopw [3, 5] (fun v s wr => ∃ k : Nat, k ≤ 8 ∧ s = .int .i64 (56 - 8 * (k : Int)) ∧ wr.ownsRow w.heap.size 5 1 v (padTo l j ++ (lenBytes l.length).take k).length ((padTo l j ++ (lenBytes l.length).take k).map (Value.int .u8)) ∧ Below w.heap.size w wr) (fun _ s _ => (intOf s + 8).toNat)
      case atStart => exact ⟨0, by omega, rfl, by simpa using hown, hb⟩
      case round =>
        clear hown hb hlt hgs
        obtain ⟨k, hk, rfl, hown, hb⟩ := hrel
        have hlt := hown.lt
        by_cases hk8 : k < 8
        · go_wp2_with (at_builtin; refine wpList_append_sl _ rfl _ _ 22 rfl w.heap.size 5 Tryd.underlying22 info5 _ _ rfl rfl _ _ (hown.alloc _) (Sl.one _ _ _ rfl ?_) (by rw [List.length_append, padTo_length, List.length_take]; simp; omega) (by have := hb.size; simp; omega) ?_)
          · omega
          intro v5 w5 ho5 hg5
          have ho5' : w5.ownsRow w.heap.size 5 1 v5 (padTo l j ++ (lenBytes l.length).take (k + 1)).length ((padTo l j ++ (lenBytes l.length).take (k + 1)).map (Value.int .u8)) := by
            rw [lenBytes_take _ _ hk8]
            simpa using ho5
          have hb5 : Below w.heap.size w w5 := (hb.alloc hb.size _).grown hg5 (by have := hb.size; simp; omega) (fun k hk => (hlt k hk).1)
          clear ho5 hg5 hown hlt hb
          go_wp2
          go_roundw
          case rel => exact ⟨k + 1, by omega, by go_num, ho5', hb5⟩
          case measure => simp [intOf]; omega
        · obtain rfl : k = 8 := by omega
          go_wp2
          go_ret
          refine ⟨u3, rfl, ?_, hb⟩
          unfold pad
          rw [← EJ.out]
          exact hown
end Go.Proofs.YtakgfdbjgeopdaaDoor
