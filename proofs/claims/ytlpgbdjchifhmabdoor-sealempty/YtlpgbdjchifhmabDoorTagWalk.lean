/-
  The walk of the tag.
-/
import Derived.Test.YtlpgbdjchifhmabDoorGatherWalk
import Derived.Test.YtlpgbdjchifhmabDoorFactorWalk
import Derived.Test.YtlpgbdjchifhmabDoorTogetherWalk
namespace Go.Proofs.YtlpgbdjchifhmabDoor
open Go.RowKit

/-- the tag of data under a key -/
def tagL (key data : List Int) : List Int := leB 16 (accN (leN (clampL (key.take 16))) data + leN (key.drop 16))
theorem tagL_length (key data : List Int) : (tagL key data).length = 16 := leB_length _ _
theorem tagL_byte (key data : List Int) : ∀ x ∈ tagL key data, 0 ≤ x ∧ x < 256 := leB_byte _ _

theorem Sl.aShape {w : World} {v : Value} {l : List Int} (h : Sl w v l) : ∃ a c, v = .slice a l.length c := by
  obtain ⟨⟨a, cap, e, _⟩, _⟩ := h
  exact ⟨a, cap, e⟩

set_option maxHeartbeats 2000000 in
set_option maxRecDepth 100000 in
theorem tag_ok (vk vd : Value) (key data : List Int) (w : World) (hk : Sl w vk key) (hd : Sl w vd data) (lk : key.length = 32) (ld : data.length ≤ 4000) :
    Calls Tryd.prog 18 #[vk, vd] w fun e w' => ∃ v', e = .returned (.tuple #[v', .int .i64 0]) ∧ Sl w' v' (tagL key data) ∧ Below w.heap.size w w' := by
  obtain ⟨ak, ck, rfl⟩ := hk.aShape
  obtain ⟨ad, cd, rfl⟩ := hd.aShape
  rw [lk] at hk ⊢
  obtain ⟨a1, c1, hc1', s1⟩ := hk.upTo 16 (by omega)
  obtain ⟨a2, c2, hc2', s2⟩ := hk.from 16 (by omega)
  have hc1 : ∀ W, (Instr.slice 22 (.slice ak 32 ck) none (some (.int .i64 16)) none).run Tryd.prog W = .ok (.slice a1 16 c1) W := hc1'
  have hc2 : ∀ W, (Instr.slice 22 (.slice ak 32 ck) (some (.int .i64 16)) none none).run Tryd.prog W = .ok (.slice a2 16 c2) W := hc2'
  clear hc1' hc2'
  have lt : (key.take 16).length = 16 := by rw [List.length_take]; omega
  have lr : (key.drop 16).length = 16 := by rw [List.length_drop]; omega
  have ldi : ¬ (4000 : Int) < (data.length : Int) := by omega
  have HT : Hid (tagL key data = leB 16 (accN (leN (clampL (key.take 16))) data + leN (key.drop 16))) := rfl
  generalize key.take 16 = K1 at s1 lt HT
  generalize key.drop 16 = K2 at s2 lr HT
  clear hk lk
  have hdl : Hid (data.length ≤ 4000) := ld
  go_enter Tryd.func18, Tryd.ntmps18
  go_wp2_with fail
  go_region_with (first
    | (go_at_call 24; refine (factor_any _ K1 _ (s1.below ((Below.refl _ _).drew)) lt).mono ?_; rintro e w2 ⟨r1, rfl, l1, v1, hb2⟩)
    | (go_at_call 23; refine (gathered_any r1 (leN (clampL K1)) _ data _ (hd.below ((Below.refl _ _).drew.trans hb2)) hdl.out l1 v1).mono ?_; rintro e w3 ⟨n1, rfl, l3, v3, hb3⟩)
    | (go_at_call 22; refine (together_any n1 _ K2 _ (s2.below (((Below.refl _ _).drew.trans hb2).trans (hb3.mono hb2.size))) lr l3).mono ?_; rintro e w4 ⟨v4, rfl, s4, hb4⟩))
  all_goals
    go_wp2
    go_ret2
    refine ⟨v4, rfl, ?_, ?_⟩
    · rw [HT.out, ← v3]; exact s4
    · have b3 : Below w.heap.size w w3 := ((Below.refl _ _).drew.trans hb2).trans (hb3.mono hb2.size)
      exact b3.trans (hb4.mono b3.size)

theorem tag_no (vk vd : Value) (key data : List Int) (w : World) (hk : Sl w vk key) (hd : Sl w vd data) (hno : key.length ≠ 32 ∨ 4000 < data.length) :
    Calls Tryd.prog 18 #[vk, vd] w fun e w' => e = .returned (.tuple #[.slice none 0 0, .int .i64 1]) ∧ w' = w := by
  obtain ⟨ak, ck, rfl⟩ := hk.aShape
  obtain ⟨ad, cd, rfl⟩ := hd.aShape
  have h1 := hk.len
  have h2 := hd.len
  by_cases lk : key.length = 32
  · have ld : (4000 : Int) < (data.length : Int) := by omega
    rw [lk] at *
    clear hk hd
    go_enter Tryd.func18, Tryd.ntmps18
    go_wp2
    go_ret2
    exact ⟨rfl, rfl⟩
  · have lki : ¬ (key.length : Int) = 32 := by omega
    clear hk hd
    go_enter Tryd.func18, Tryd.ntmps18
    go_wp2
    go_ret2
    exact ⟨rfl, rfl⟩
end Go.Proofs.YtlpgbdjchifhmabDoor
