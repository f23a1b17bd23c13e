/-
  The walk of bytes that are told by letters.
-/
import Derived.Test.YtdhoegkphhekfabDoorInfo
import Derived.LoopN
namespace Go.Proofs.YtdhoegkphhekfabDoor
open Go.RowKit

def hv (c : UInt8) : Int := if 97 ≤ (c.toNat : Int) then (c.toNat : Int) - 97 + 10 else ((c.toNat : Int) - 48) % 256
def hexAt (s : ByteArray) (j : Nat) : Int := (16 * hv (s.data.getD (2 * j) 0) + hv (s.data.getD (2 * j + 1) 0)) % 256
def hexPre (s : ByteArray) : Nat → List Int
  | 0 => []
  | j + 1 => hexPre s j ++ [hexAt s j]
theorem hexPre_length (s : ByteArray) (j : Nat) : (hexPre s j).length = j := by
  induction j with
  | zero => rfl
  | succ j ih => simp [hexPre, ih]
theorem hexAt_byte (s : ByteArray) (j : Nat) : 0 ≤ hexAt s j ∧ hexAt s j < 256 := by unfold hexAt; omega
theorem hexPre_byte (s : ByteArray) (j : Nat) : ∀ x ∈ hexPre s j, 0 ≤ x ∧ x < 256 := by
  induction j with
  | zero => intro x hx; cases hx
  | succ j ih =>
    intro x hx
    rcases List.mem_append.1 hx with h | h
    · exact ih x h
    · obtain rfl : x = hexAt s j := by simpa using h
      exact hexAt_byte s j

theorem hexAt_eq (s : ByteArray) (j : Nat) (h0 : 2 * j < s.size) (h1 : 2 * j + 1 < s.size) : hexAt s j = (16 * hv s[2 * j] + hv s[2 * j + 1]) % 256 := by
  have e0 : s.data.getD (2 * j) 0 = s[2 * j] := by unfold Array.getD; rw [dif_pos (show 2 * j < s.data.size from h0)]; rfl
  have e1 : s.data.getD (2 * j + 1) 0 = s[2 * j + 1] := by unfold Array.getD; rw [dif_pos (show 2 * j + 1 < s.data.size from h1)]; rfl
  unfold hexAt
  rw [e0, e1]

theorem Sl.one' (w : World) (b b' : Int) (e : TypeId) {g : Nat} (hg : g = w.heap.size) (hb : 0 ≤ b ∧ b < 256) (he : b' = b) : Sl (w.alloc (.cells #[.int .u8 b'] e)) (.slice (some ⟨g, 0, none⟩) 1 1) [b] := by
  subst he; exact Sl.one w b' e hg hb

set_option maxHeartbeats 1000000 in
theorem hex_any (s : ByteArray) (n : Nat) (w : World) (hs : s.size = 2 * n) (hn : n ≤ 1000) :
    Calls Tryd.prog 10 #[.string s] w fun e w' => ∃ v', e = .returned v' ∧ w'.ownsRow w.heap.size 5 1 v' (hexPre s n).length ((hexPre s n).map (Value.int .u8)) ∧ Below w.heap.size w w' := by
  have HS : Hid (s.size = 2 * n) := hs
  go_enter Tryd.func10, Tryd.ntmps10
  go_wp2_with fail
  go_loopw [3, 4] (fun v i wr => ∃ j : Nat, j ≤ n ∧ i = .int .i64 (2 * (j : Int)) ∧ wr.ownsRow w.heap.size 5 1 v (hexPre s j).length ((hexPre s j).map (Value.int .u8)) ∧ Below w.heap.size w wr) (fun _ i _ => 2 * n - (intOf i).toNat)
  case atStart => exact ⟨0, by omega, rfl, World.ownsRow_nil _ _ _ _, Below.refl _ _⟩
  case round =>
    obtain ⟨j, hj, rfl, hown, hb⟩ := hrel
    have hlt := hown.lt
    by_cases hj32 : j < n
    · have i0 : 2 * j < s.size := by omega
      have i1 : 2 * j + 1 < s.size := by omega
      have b0 := s[2 * j].toNat_lt
      have b1 := s[2 * j + 1].toNat_lt
      have hpl := hexPre_length s j
      have HX : Hid (hexAt s j = (16 * hv s[2 * j] + hv s[2 * j + 1]) % 256) := hexAt_eq s j i0 i1
      have e00 : Hid (hv s[2 * j] = if 97 ≤ (s[2 * j].toNat : Int) then (s[2 * j].toNat : Int) - 97 + 10 else ((s[2 * j].toNat : Int) - 48) % 256) := rfl
      have e11 : Hid (hv s[2 * j + 1] = if 97 ≤ (s[2 * j + 1].toNat : Int) then (s[2 * j + 1].toNat : Int) - 97 + 10 else ((s[2 * j + 1].toNat : Int) - 48) % 256) := rfl
      have HP : Hid (hexPre s (j + 1) = hexPre s j ++ [hexAt s j]) := rfl
      have HY := hexAt_byte s j
      have HYY : Hid (0 ≤ hexAt s j ∧ hexAt s j < 256) := HY
      clear HY
      generalize hexPre s j = pre at hown HP hpl
      generalize hexAt s j = hx at HX HP HYY
      by_cases h0 : (97 : Int) ≤ (s[2 * j].toNat : Int) <;> by_cases h1 : (97 : Int) ≤ (s[2 * j + 1].toNat : Int)
      all_goals
        have hxe := HX.out
        rw [e00.out, e11.out] at hxe
        first | rw [if_pos h0] at hxe | rw [if_neg h0] at hxe
        first | rw [if_pos h1] at hxe | rw [if_neg h1] at hxe
        have HXE : Hid (hx = _) := hxe
        clear hxe e00 e11 HX
        go_wp2_with fail
        refine wp_loop_rounds 3 ?_
        rw [rounds_succ]
        go_wp2_with fail
        rw [rounds_succ]
        go_wp2_with fail
        rw [rounds_succ]
        go_wp2_with (at_builtin; refine wpList_append_sl _ rfl _ _ 22 rfl w.heap.size 5 Tryd.underlying22 info5 _ _ rfl rfl pre [hx] (hown.alloc _) (Sl.one' _ _ _ _ rfl HYY.out ?_) (by simp; omega) (by have := hb.size; simp; omega) ?_)
        · first | (rw [HXE.out]; done) | (rw [HXE.out]; omega)
        intro v' w' ho hg
        have ho' : w'.ownsRow w.heap.size 5 1 v' (pre ++ [hx]).length ((pre ++ [hx]).map (Value.int .u8)) := by simpa [hpl] using ho
        have hb' : Below w.heap.size w w' := (hb.alloc hb.size _).grown hg (by have := hb.size; simp; omega) (fun k hk => (hlt k hk).1)
        clear ho hg hown hlt hb
        go_wp2
        go_roundw
        case rel => exact ⟨j + 1, by omega, by go_num, by rw [HP.out]; exact ho', hb'⟩
        case measure => simp [intOf]; omega
    · have HJ : Hid (j = n) := by unfold Hid; omega
      go_wp2
      go_ret
      refine ⟨u3, rfl, ?_, hb⟩
      rw [HJ.out] at hown
      exact hown
end Go.Proofs.YtdhoegkphhekfabDoor
