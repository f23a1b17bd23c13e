/-
  The walk of the law VaultAudits.
-/
import Derived.Test.YtmpefofifbehjaaDoorKg19
import Derived.Test.YtmpefofifbehjaaDoorKg30
import Derived.Test.YtmpefofifbehjaaDoorKg31
import Derived.Test.YtmpefofifbehjaaDoorKg29
namespace Go.Proofs.YtmpefofifbehjaaDoor
open Go.RowKit
set_option linter.unusedVariables false

set_option maxHeartbeats 2000000 in
set_option maxRecDepth 100000 in
theorem vaultAudits_walk (x : Value) (F : Nat → Ent) (n : Nat) (w : World) (h : Se w x F n) (hT : TabAt w) (hN : NTab w) :
    Calls Tryd.prog 5 #[x] w fun e w' => e = .returned (.bool true) ∧ Below w.heap.size w w' := by
  have HSE : Hid (Se w x F n) := h
  clear h
  have hT0 := hT
  have hN0 := hN
  have bb := Below.refl w.heap.size w
  go_enter Tryd.func5, Tryd.ntmps5
  go_wp2_with fail
  refine (entries_any x F n w HSE.out).mono ?_
  rintro e w1 ⟨vc, rfl, sc, bw1⟩
  have d1 := bb.trans (bw1.mono bb.size)
  have tt1_0 := hT.below bw1
  have tt1_1 := hN.below bw1
  clear hT hN
  clear bw1
  obtain ⟨gc, cc, rfl⟩ := sc.shape
  have HSC : Hid (Se w1 (.slice gc n cc) F n) := sc
  clear sc
  have D1 := d1
  go_wp2_with fail
  have key1 := audit_any (.slice gc n cc) F n w1 HSC.out tt1_0 tt1_1
  by_cases hbig : 200 < n
  · have HB : Hid (200 < n) := hbig
    clear hbig
    refine key1.mono ?_
    clear key1
    rintro e w2 ⟨hA, b2⟩
    obtain rfl : e = .returned (.tuple #[.int .i64 0, .int .i64 1]) := by
      rcases hA with ⟨_, g9⟩ | ⟨g9, _⟩
      · exact g9
      · exact absurd HB.out (by omega)
    clear hA
    have d2 := d1.trans (b2.mono d1.size)
    have tt2_0 := tt1_0.below b2
    have tt2_1 := tt1_1.below b2
    clear tt1_0 tt1_1
    have sc2 := HSC.out.below b2
    have HS2 : Hid (Se w2 (.slice gc n cc) F n) := sc2
    clear sc2 b2 HSC
    go_wp2_with fail
    have hx := HSE.out.below d2
    refine (audited_any x F n w2 hx).mono ?_
    clear hx
    rintro e w3 ⟨hA, b3⟩
    obtain rfl : e = .returned (.tuple #[.int .i64 0, .int .i64 1]) := by
      rcases hA with ⟨_, g9⟩ | ⟨g9, _⟩
      · exact g9
      · exact absurd HB.out (by omega)
    clear hA
    have d3 := d2.trans (b3.mono d2.size)
    have tt3_0 := tt2_0.below b3
    have tt3_1 := tt2_1.below b3
    clear tt2_0 tt2_1
    have se1 := HS2.out.below b3
    have se2 := HSE.out.below d3
    clear b3 HS2
    have key3 := sameEntries_any _ _ _ _ _ se1 se2
    clear se1 se2
    go_wp2_with fail
    refine key3.mono ?_
    rintro e w9 ⟨rfl, b9⟩
    have d9 := d3.trans (b9.mono d3.size)
    clear key3
    go_wp2
    go_ret
    exact ⟨rfl, d9⟩
  · have HB : Hid (¬ 200 < n) := hbig
    clear hbig
    refine key1.mono ?_
    clear key1
    rintro e w2 ⟨hA, b2⟩
    obtain ⟨p, hp, rfl⟩ : ∃ p, AudP F n p ∧ e = .returned (.tuple #[.int .i64 p, .int .i64 0]) := by
      rcases hA with ⟨g9, _⟩ | ⟨_, g9⟩
      · exact absurd g9 HB.out
      · exact g9
    have HPA : Hid (AudP F n p) := hp
    clear hp
    clear hA
    have d2 := d1.trans (b2.mono d1.size)
    have tt2_0 := tt1_0.below b2
    have tt2_1 := tt1_1.below b2
    clear tt1_0 tt1_1
    have sc2 := HSC.out.below b2
    have HS2 : Hid (Se w2 (.slice gc n cc) F n) := sc2
    clear sc2 b2 HSC
    go_wp2_with fail
    have hx := HSE.out.below d2
    refine (audited_any x F n w2 hx).mono ?_
    clear hx
    rintro e w3 ⟨hA, b3⟩
    obtain rfl : e = .returned (.tuple #[.int .i64 p, .int .i64 0]) := by
      rcases hA with ⟨g9, _⟩ | ⟨_, q, g8, g9⟩
      · exact absurd g9 HB.out
      · rw [HPA.out.unique g8]; exact g9
    clear hA
    have d3 := d2.trans (b3.mono d2.size)
    have tt3_0 := tt2_0.below b3
    have tt3_1 := tt2_1.below b3
    clear tt2_0 tt2_1
    have se1 := HS2.out.below b3
    have se2 := HSE.out.below d3
    clear b3 HS2
    have key3 := sameEntries_any _ _ _ _ _ se1 se2
    clear se1 se2
    go_wp2_with fail
    refine key3.mono ?_
    rintro e w9 ⟨rfl, b9⟩
    have d9 := d3.trans (b9.mono d3.size)
    clear key3
    go_wp2
    go_ret
    exact ⟨rfl, d9⟩
end Go.Proofs.YtmpefofifbehjaaDoor
