/-
  The walk of the document's new channel.
-/
import Derived.Test.YtpoaabjpeigooaaChanWalk
import Derived.Test.YtpoaabjpeigooaaCheckP
namespace Go.Proofs.Ytpoaabjpeigooaa
open Go.RowKit
set_option linter.unusedVariables false

theorem Zl.nilN (w : World) : Zl w (.slice none 0 0) [] := ⟨⟨none, 0, rfl, by simp, .inl rfl⟩, by simp, by simp⟩
theorem own_ne_boxN {W : World} {v : Value} {n : Nat} {xs : List Value} (h : W.ownsRow 0 5 1 v n xs) {B : Nat} {A : Array Value} {ty : TypeId} {fr : Nat × Nat} (hr : W.heap[B]? = some (.cells A ty fr)) (hty : ty ≠ 5) : ∀ k, v.ownBlock = some k → k ≠ B := by
  intro k hk hkB
  subst hkB
  rcases h.2 with ⟨rfl, _⟩ | ⟨g, cap, cur, rfl, _, hg, _⟩
  · simp [Value.ownBlock] at hk
  · simp only [Value.ownBlock, Option.some.injEq] at hk
    subst hk
    rw [hg] at hr
    simp only [Option.some.injEq, Obj.cells.injEq] at hr
    exact hty hr.2.1.symm
set_option maxHeartbeats 1000000 in
set_option maxRecDepth 100000 in
theorem refnew_any (vk : Value) (key : List Int) (w : World) (hk : Sl w vk key) :
    Calls Try.prog 10 #[vk] w fun e w' => ∃ v', e = .returned (.tuple #[.agg (chA v' 0 0 noB), .int .i64 (if key.length = 32 then 0 else 1)]) ∧ w'.ownsRow 0 5 1 v' (if key.length = 32 then key else []).length ((if key.length = 32 then key else []).map (Value.int .u8)) ∧ Below w.heap.size w w' := by
  obtain ⟨ak, ck, rfl⟩ := hk.shape
  have hkl := hk.len
  have d0 := Dc.made w (.slice none 0 0) 0 0 noB
  have bb : Below w.heap.size w (w.alloc (.cells (chA (.slice none 0 0) 0 0 noB) 25)) := (Below.refl _ _).alloc (Nat.le_refl _) _
  have hz : (w.alloc (.cells (chA (.slice none 0 0) 0 0 noB) 25)).heap.size = w.heap.size + 1 := by simp
  by_cases h1 : key.length = 32
  · rw [if_pos h1, if_pos h1]
    have H1 : Hid (key.length = 32) := h1
    rw [h1] at hk ⊢
    go_enter Try.func10, Try.ntmps10
    go_wp2_with fail
    refine (chan_any _ key 0 _ [] _ (hk.below bb) (by have := H1.out; omega) (Zl.nilN _) (fun x hx => by cases hx) (by simp)).mono ?_
    rintro e w1 ⟨v1, rfl, o1, c1⟩
    rw [chT_nil, chS_nil]
    have e1 : Below w.heap.size w w1 := bb.trans (c1.mono (by omega))
    have d1 := d0.below c1
    obtain ⟨a1, n1, hv1⟩ : ∃ a c, v1 = .slice a key.length c := by
      rcases o1.2 with ⟨rfl, h0⟩ | ⟨g, cap, cur, rfl, _⟩
      · exact ⟨none, 0, by rw [h0]⟩
      · exact ⟨_, cap, rfl⟩
    rw [H1.out] at hv1
    subst hv1
    have hi := chInfoD (k := .slice a1 32 n1) (s := 0) (t := 0) noB_length
    have ho := chA_oneD a1 32 n1 0 0 noB
    have hold : (chA (.slice none 0 0) 0 0 noB).size = (chA (.slice a1 32 n1) 0 0 noB).size := rfl
    have hbl : ∀ k, (Value.slice a1 32 n1).ownBlock = some k → k ≠ w.heap.size := own_ne_boxN o1 d1.row (by decide)
    go_wp2_with (refine wpList_store_row rfl 25 _ _ rfl w.heap.size (chA (.slice a1 32 n1) 0 0 noB) rfl rfl 25 _ d1.row hi hold ho ?_)
    have r2 := setRow_heap w1 w.heap.size _ (chA (.slice a1 32 n1) 0 0 noB) 25 _ d1.row
    have s2 : (w1.setRow w.heap.size (chA (.slice a1 32 n1) 0 0 noB)).ownsRow 0 5 1 (.slice a1 32 n1) key.length (key.map (Value.int .u8)) := owns_keepB o1 fun k hk' => setRow_other _ _ _ _ (hbl k hk')
    exact bodyPost_ret (results_row2 rfl _ _ w.heap.size 25 _ (0, 0) _ rfl r2 Try.underlying25 rfl hi) rfl ⟨.slice a1 32 n1, rfl, H1.out ▸ s2, below_setRow e1 (Nat.le_refl _) _⟩
  · rw [if_neg h1, if_neg h1]
    have h1' : ¬ (key.length : Int) = 32 := by omega
    go_enter Try.func10, Try.ntmps10
    go_wp2
    exact bodyPost_ret (results_row2 rfl _ _ w.heap.size 25 (chA (.slice none 0 0) 0 0 noB) (0, 0) _ rfl (heap_alloc_new _ _) Try.underlying25 rfl (chInfoD noB_length)) rfl ⟨.slice none 0 0, rfl, World.ownsRow_nil _ _ _ _, (Below.refl _ _).alloc (Nat.le_refl _) _⟩
end Go.Proofs.Ytpoaabjpeigooaa
