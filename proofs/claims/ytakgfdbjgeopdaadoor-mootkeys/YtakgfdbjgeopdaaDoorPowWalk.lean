/-
  The walk of the document's own power of two.
-/
import Derived.Test.YtakgfdbjgeopdaaDoorInfo
import Derived.BigQuiet
namespace Go.Proofs.YtakgfdbjgeopdaaDoor
open Go.RowKit

theorem ret_int {a b : Int} (h : a = b) : Ending.returned (.int .i64 a) = .returned (.int .i64 b) := by rw [h]

theorem power_any (n : Nat) (w : World) (hn : n ≤ 32) :
    Calls Tryd.prog 91 #[.int .i64 n] w fun e w' => e = .returned (.int .i64 ((2 ^ n : Nat) : Int)) ∧ w' = w := by
  go_enter Tryd.func91, Tryd.ntmps91
  go_wp2
  go_loop [3, 4] (fun p i => ∃ k : Nat, k ≤ n ∧ i = .int .i64 k ∧ p = .int .i64 ((2 ^ k : Nat) : Int)) (fun _ i => n - (intOf i).toNat)
  case atStart => exact ⟨0, by omega, rfl, rfl⟩
  case round =>
    obtain ⟨k, hk, rfl, rfl⟩ := hrel
    have hp : 2 ^ k ≤ 2 ^ 32 := Nat.pow_le_pow_right (by omega) (by omega)
    have hq : 2 ^ k ≤ 4294967296 := hp
    have HS : Hid (2 ^ (k + 1) = 2 * 2 ^ k) := by unfold Hid; rw [Nat.pow_succ, Nat.mul_comm]
    clear hp
    by_cases hlt : k < n
    · generalize 2 ^ k = P at hq HS ⊢
      go_wp2
      go_round
      case rel => exact ⟨k + 1, by omega, by go_num, by rw [HS.out]; go_num⟩
      case measure => simp [intOf]; omega
    · have HN : Hid (2 ^ n = 2 ^ k) := by unfold Hid; rw [show n = k by omega]
      generalize 2 ^ k = P at hq HS HN ⊢
      go_wp2
      go_ret
      exact ⟨ret_int (by rw [← HN.out]; simp), rfl⟩
end Go.Proofs.YtakgfdbjgeopdaaDoor
