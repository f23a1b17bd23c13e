/-
  A number's digits, as the library writes them.
-/
import Derived.Test.YtlcbebiocmmbaaaDoorLinSpec
import Derived.Test.YtlcbebiocmmbaaaDoorLinStr
import Derived.Test.YtlcbebiocmmbaaaDoorShelfI
import Derived.Lib.AppendIntMem
namespace Go.Proofs.YtlcbebiocmmbaaaDoor
open Go.RowKit Go.Sort
set_option linter.unusedVariables false

theorem decD (n : Nat) : Lib.decDigits n = (decL n).map fun c => UInt8.ofNat c.toNat := by
  induction n using Nat.strongRecOn with
  | _ n ih =>
    by_cases h : n < 10
    · rw [Lib.decDigits, dif_pos h, decL_low h]
      simp only [List.map_cons, List.map_nil, List.cons.injEq, and_true]
      congr 1
    · rw [Lib.decDigits, dif_neg h, decL_up h, ih (n / 10) (by omega), List.map_append]
      simp only [List.map_cons, List.map_nil]
      congr 2
/-- the table of tens stands in memory -/
structure LPTab (w : World) : Prop where
  lt : 3 < w.heap.size
  tab : Hid (Lib.TabIs Tryd.prog w "internal/strconv.uint64pow10" .u64 Lib.pow10Tab)
theorem gPow : Tryd.prog.globalNamed "internal/strconv.uint64pow10" = some 3 := by kernel_rfl
theorem LPTab.below {w w' : World} (h : LPTab w) {B : Nat} (hB : 3 < B) (hb : Below B w w') : LPTab w' := by
  refine ⟨Nat.lt_of_lt_of_le h.lt hb.size, ?_⟩
  have h1 := h.tab.out
  unfold Hid
  unfold Lib.TabIs World.var? at h1 ⊢
  rw [gPow] at h1 ⊢
  simp only [Option.bind_some] at h1 ⊢
  rw [hb.block _ hB]
  exact h1
theorem itoa_any (n : Nat) (hn : n ≤ 9223372036854775807) (w : World) (ht : LPTab w) :
    Calls Tryd.prog 39 #[.int .i64 (n : Int)] w fun e w' => e = .returned (.string (strOfNums (decL n))) ∧ Below w.heap.size w w' := by
  refine (Tryd.strconv_Itoa (n : Int) (by omega) (by omega) w ht.tab.out).mono ?_
  rintro e w' ⟨rfl, k, os, rfl⟩
  refine ⟨?_, Lib.below_grow _ w (Nat.le_refl _) k os⟩
  rw [Lib.itoa_nonneg, decD]
  rfl
end Go.Proofs.YtlcbebiocmmbaaaDoor
