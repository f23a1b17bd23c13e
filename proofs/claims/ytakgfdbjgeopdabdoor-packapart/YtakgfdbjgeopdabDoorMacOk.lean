/-
  The walk of sha.Mac.
-/
import Derived.Test.YtakgfdbjgeopdabDoorMacWalk
namespace Go.Proofs.YtakgfdbjgeopdabDoor
open Go.RowKit
set_option maxRecDepth 100000

theorem Mac_ok (vk vb : Value) (k b : List Int) (w : World) (hk : Sl w vk k) (hb : Sl w vb b) (hkl : k.length ≤ 256) (hbl : b.length ≤ 2000) (ht : TabAt w) :
    Calls Tryd.prog 41 #[vk, vb] w fun e w' => ∃ v', e = .returned (.tuple #[v', .int .i64 0]) ∧ Fresh w w' v' (macL k b) := by
  have hs := hk
  have hs2 := hb
  obtain ⟨⟨a, cap, rfl, _, _, _⟩, hla, hba⟩ := hk
  obtain ⟨⟨a2, cap2, rfl, _, _, _⟩, hla2, hba2⟩ := hb
  clear hba hba2
  go_enter Tryd.func41, Tryd.ntmps41
  go_wp2_with fail
  refine (mac_any _ _ k b w hs hs2 (by omega) (by omega) ht).mono ?_
  rintro e w1 ⟨v1, rfl, hf⟩
  go_wp2
  go_ret2
  exact ⟨v1, rfl, hf⟩

theorem Mac_no (a a2 : Option Addr) (n cap n2 cap2 : Nat) (w : World) (hn2 : n ≤ 140737488351232) (hn3 : n2 ≤ 140737488351232) (h : 256 < n ∨ 2000 < n2) :
    Calls Tryd.prog 41 #[.slice a n cap, .slice a2 n2 cap2] w fun e w' => e = .returned (.tuple #[.slice none 0 0, .int .i64 1]) ∧ w' = w := by
  by_cases h1 : 256 < n
  · go_enter Tryd.func41, Tryd.ntmps41
    go_wp2
    go_ret2
    exact ⟨rfl, rfl⟩
  · have h2 : 2000 < n2 := by omega
    have hd : decide ((256 : Int) < (n : Int)) = false := by simp; omega
    go_enter Tryd.func41, Tryd.ntmps41
    go_wp2
    go_ret2
    exact ⟨rfl, rfl⟩
end Go.Proofs.YtakgfdbjgeopdabDoor
