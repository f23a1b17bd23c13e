/-
  The walks of what is refused, and of a block of the stream.
-/
import Derived.Test.YtakgfdbjgeopdaaGreatDoorKo3
namespace Go.Proofs.YtakgfdbjgeopdaaGreatDoor
open Go.RowKit

/-- what is wrong with a key, a counter and a nonce -/
def chaErr (key nonce : List Int) (c : Int) : Int := if key.length ≠ 32 ∨ nonce.length ≠ 12 then 1 else if c < 0 ∨ 1073741824 < c then 2 else 0
theorem chaErr_size {key nonce : List Int} {c : Int} (h : key.length ≠ 32 ∨ nonce.length ≠ 12) : chaErr key nonce c = 1 := by unfold chaErr; rw [if_pos h]
theorem chaErr_range {key nonce : List Int} {c : Int} (hk : key.length = 32) (hn : nonce.length = 12) (h : c < 0 ∨ 1073741824 < c) : chaErr key nonce c = 2 := by unfold chaErr; rw [if_neg (by omega), if_pos h]
theorem chaErr_ok {key nonce : List Int} {c : Int} (hk : key.length = 32) (hn : nonce.length = 12) (h : 0 ≤ c ∧ c ≤ 1073741824) : chaErr key nonce c = 0 := by unfold chaErr; rw [if_neg (by omega), if_neg (by omega)]
theorem chaErr_zero {key nonce : List Int} {c : Int} (h : chaErr key nonce c = 0) : key.length = 32 ∧ nonce.length = 12 ∧ 0 ≤ c ∧ c ≤ 1073741824 := by
  unfold chaErr at h
  split at h
  · cases h
  · split at h
    · cases h
    · omega

theorem refused_any (vk vn : Value) (key nonce : List Int) (c : Int) (w : World) (hk : Sl w vk key) (hn : Sl w vn nonce) :
    Calls Tryz.prog 179 #[vk, .int .i64 c, vn] w fun e w' => e = .returned (.int .i64 (chaErr key nonce c)) ∧ w' = w := by
  obtain ⟨⟨ak, ck, rfl, _, _, _⟩, lk, _⟩ := hk
  obtain ⟨⟨an, cn, rfl, _, _, _⟩, ln, _⟩ := hn
  have H1 : Hid (key.length ≠ 32 ∨ nonce.length ≠ 12 → chaErr key nonce c = 1) := chaErr_size
  have H2 : Hid (key.length = 32 → nonce.length = 12 → (c < 0 ∨ 1073741824 < c) → chaErr key nonce c = 2) := chaErr_range
  have H3 : Hid (key.length = 32 → nonce.length = 12 → (0 ≤ c ∧ c ≤ 1073741824) → chaErr key nonce c = 0) := chaErr_ok
  generalize chaErr key nonce c = E at H1 H2 H3 ⊢
  generalize key.length = n at *
  generalize nonce.length = m at *
  go_enter Tryz.func179, Tryz.ntmps179
  by_cases h1 : (n : Int) = 32
  · by_cases h2 : (m : Int) = 12
    · by_cases h3 : c < 0
      · go_wp2
        go_ret
        exact ⟨by rw [H2.out (by omega) (by omega) (by omega)]; rfl, rfl⟩
      · by_cases h4 : 1073741824 < c
        · go_wp2
          go_ret
          exact ⟨by rw [H2.out (by omega) (by omega) (by omega)]; rfl, rfl⟩
        · go_wp2
          go_ret
          exact ⟨by rw [H3.out (by omega) (by omega) (by omega)]; rfl, rfl⟩
    · go_wp2
      go_ret
      exact ⟨by rw [H1.out (by omega)]; rfl, rfl⟩
  · go_wp2
    go_ret
    exact ⟨by rw [H1.out (by omega)]; rfl, rfl⟩

theorem block_row (w : World) (l : List Int) (o : Obj) (t : TypeId) (old : Array Value) (ho : o = .cells old t (0, 0)) {W : World} (hW : (w.alloc o).setRow w.heap.size (bArr l) = W) :
    W.heap[w.heap.size]? = some (.cells (bArr l) t (0, 0)) ∧ Below w.heap.size w W ∧ W.heap.size = w.heap.size + 1 := by
  subst hW
  subst ho
  exact ⟨setRow_heap _ _ _ _ t _ (heap_alloc_new _ _), below_setRowAt' ((Below.refl _ _).alloc (Nat.le_refl _) _) (Nat.le_refl _) _, by simp⟩

theorem Sl.ofRow {w : World} {g : Nat} {l : List Int} {t : TypeId} {fr : Nat × Nat} (h : w.heap[g]? = some (.cells (bArr l) t fr)) (hl : l.length ≤ 140737488351232) (hb : ∀ x ∈ l, 0 ≤ x ∧ x < 256) : Sl w (.slice (some ⟨g, 0, none⟩) l.length l.length) l := by
  refine ⟨⟨_, l.length, rfl, by simp, by simp, .inr ⟨g, 0, rfl, (Array.getElem?_eq_some_iff.1 h).1, fun i hi => ?_⟩⟩, hl, hb⟩
  rw [Nat.zero_add]
  exact (cell_of_row w _ i _ _ _ h).trans (bArr_get l i hi)

/-- a new list of so many bytes, which nothing that was there before shares -/
structure Got (w w' : World) (v : Value) (l : List Int) : Prop where
  sl : Sl w' v l
  bel : Below w.heap.size w w'
  new : ∀ b o n c, v = .slice (some ⟨b, o, none⟩) n c → w.heap.size ≤ b

set_option maxHeartbeats 1000000 in
set_option maxRecDepth 100000 in
theorem block_ok (vk vn : Value) (key nonce : List Int) (c : Nat) (w : World) (hk : Sl w vk key) (hn : Sl w vn nonce) (lk : key.length = 32) (ln : nonce.length = 12) (hc : c ≤ 1073741824) (ht : QTab w) :
    Calls Tryz.prog 182 #[vk, .int .i64 c, vn] w fun e w' => ∃ v', e = .returned (.tuple #[v', .int .i64 0]) ∧ Got w w' v' (blockL (begunL key (BitVec.ofNat 32 c) nonce)) := by
  go_enter Tryz.func182, Tryz.ntmps182
  go_wp2_with fail
  refine (refused_any vk vn key nonce c w hk hn).mono ?_
  rintro e w1 ⟨rfl, rfl⟩
  rw [chaErr_ok lk ln (by omega)]
  go_wp2_with fail
  refine (begun_any vk vn key nonce c w1 hk hn lk ln (by omega)).mono ?_
  rintro e w2 ⟨rfl, b2⟩
  have hl := begunL_length key (BitVec.ofNat 32 c) nonce
  generalize hus : begunL key (BitVec.ofNat 32 c) nonce = us at hl
  have HUS : Hid (begunL key (BitVec.ofNat 32 c) nonce = us) := hus
  clear hus
  go_wp2_with fail
  refine (scrambled_any us w2 hl (ht.below ht.pos b2)).mono ?_
  rintro e w3 ⟨rfl, b3⟩
  have hbl := blockL_length us
  have hbb := blockL_byte us
  generalize hbs : blockL us = bs at hbl hbb
  have HBS : Hid (blockL us = bs) := hbs
  clear hbs
  have hsz : (Tryz.prog.info? 186).map (·.size) = some (bArr bs).size := by rw [bArr_size, hbl]; kernel_rfl
  have hone : (bArr bs).all (·.oneCell') = true := by simp [bArr, Value.oneCell']
  go_wp2_with ((with_reducible (refine wpList_id ?_)); refine wpList_store_row rfl 186 _ _ rfl w3.heap.size _ rfl rfl 186 (bArr (List.replicate 64 0)) (heap_alloc_new _ _) hsz (by rw [bArr_size, bArr_size, hbl]; rfl) hone ?_)
  generalize hW4 : World.setRow _ _ _ = W4
  obtain ⟨hr, b4, _⟩ := block_row w3 bs _ 186 (bArr (List.replicate 64 0)) rfl hW4
  go_ret2
  refine ⟨_, rfl, ?_, (b2.trans (b3.mono b2.size)).trans (b4.mono (Nat.le_trans b2.size b3.size)), fun b o n c e => ?_⟩
  · rw [HUS.out, HBS.out]
    have := Sl.ofRow hr (by omega) hbb
    rw [hbl] at this
    exact this
  · have := Nat.le_trans b2.size b3.size
    injection e with e1
    injection e1 with e2
    injection e2 with e3
    omega

theorem block_no (vk vn : Value) (key nonce : List Int) (c : Int) (w : World) (hk : Sl w vk key) (hn : Sl w vn nonce) (hE : chaErr key nonce c ≠ 0) :
    Calls Tryz.prog 182 #[vk, .int .i64 c, vn] w fun e w' => e = .returned (.tuple #[.slice none 0 0, .int .i64 (chaErr key nonce c)]) ∧ w' = w := by
  go_enter Tryz.func182, Tryz.ntmps182
  go_wp2_with fail
  refine (refused_any vk vn key nonce c w hk hn).mono ?_
  rintro e w1 ⟨rfl, rfl⟩
  generalize hEE : chaErr key nonce c = E at hE
  have HE : Hid (chaErr key nonce c = E) := hEE
  clear hEE
  go_wp2
  go_ret2
  exact ⟨by rw [HE.out]; rfl, rfl⟩
end Go.Proofs.YtakgfdbjgeopdaaGreatDoor
