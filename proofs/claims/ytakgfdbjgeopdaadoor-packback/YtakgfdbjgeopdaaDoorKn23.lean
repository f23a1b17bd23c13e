/-
  The walks of what the tag is of: noughts behind, and a length's bytes.
-/
import Derived.Test.YtakgfdbjgeopdaaDoorKn22
namespace Go.Proofs.YtakgfdbjgeopdaaDoor
open Go.RowKit

set_option maxHeartbeats 1000000 in
theorem sfilled_any (v : Value) (l : List Int) (B : Nat) (w : World) (ho : w.ownsRow B 5 1 v l.length (l.map (Value.int .u8))) (hB : B ≤ w.heap.size) (hl : l.length ≤ 100000) :
    Calls Tryd.prog 97 #[v] w fun e w' => ∃ v', e = .returned v' ∧ w'.ownsRow B 5 1 v' (padL l).length ((padL l).map (Value.int .u8)) ∧ Below B w w' := by
  have HF : Hid (padL l = l ++ List.replicate (gap l.length) 0) := rfl
  have hg := gap_lt l.length
  have HS : Hid (∀ j, j < gap l.length → ¬ (l.length + j) % 16 = 0) := fun j hj => gap_short _ _ hj
  have HE : Hid ((l.length + gap l.length) % 16 = 0) := gap_sum _
  obtain ⟨a0, c0, rfl⟩ := owns_shape2 ho
  generalize gap l.length = G at HF hg HS HE
  go_enter Tryd.func97, Tryd.ntmps97
  go_wp2_with fail
  go_loopw [0] (fun v wr => ∃ (j : Nat) (a : Option Addr) (cap : Nat), j ≤ G ∧ v = .slice a (l.length + j) cap ∧ wr.ownsRow B 5 1 v (l ++ List.replicate j 0).length ((l ++ List.replicate j 0).map (Value.int .u8)) ∧ Below B w wr) (fun v _ => l.length + G - lenV v)
  case atStart => exact ⟨0, a0, c0, by omega, rfl, by simpa using ho, Below.refl _ _⟩
  case round =>
    clear ho
    obtain ⟨j, a, cap, hj, rfl, hown, hb⟩ := hrel
    have hlt := hown.lt
    by_cases hjn : j < G
    · have h1 := HS.out j hjn
      have h2 : ¬ ((l.length : Int) + j) % 16 = 0 := by omega
      go_wp2_with (at_builtin; refine wpList_append_sl _ rfl _ _ 22 rfl B 5 Tryd.underlying22 info5 _ _ rfl rfl (l ++ List.replicate j 0) [0] (hown.alloc _) (Sl.one _ _ _ rfl (by omega)) (by simp; omega) (by have := hb.size; simp; omega) ?_)
      intro v2 w2 ho2 hg2
      have ho2' : w2.ownsRow B 5 1 v2 (l ++ List.replicate (j + 1) 0).length ((l ++ List.replicate (j + 1) 0).map (Value.int .u8)) := by rw [← replicate_snoc]; simpa using ho2
      have hb2 : Below B w w2 := (hb.alloc (Nat.le_trans hB hb.size) _).grown hg2 (by have := hb.size; simp; omega) (fun k hk => (hlt k hk).1)
      obtain ⟨a2, c2, hv2⟩ := owns_shape2 ho2'
      rw [List.length_append, List.length_replicate] at hv2
      subst hv2
      clear ho2 hg2 hown hlt hb h1 h2
      go_wp2
      go_roundw
      case rel => exact ⟨j + 1, a2, c2, by omega, rfl, ho2', hb2⟩
      case measure => simp [lenV]; omega
    · have HJ : Hid (G = j) := by unfold Hid; omega
      have h0 := HE.out
      have h1 : ((l.length : Int) + j) % 16 = 0 := by have := HJ.out; omega
      have h2 : (((l.length : Int) + j) % 16 != 0) = false := by simp; omega
      clear h0
      go_wp2
      go_ret
      refine ⟨_, rfl, ?_, hb⟩
      rw [HF.out, HJ.out]
      exact hown

theorem byteN_wrap (x : Int) (n : Int) (k : Nat) (h : x = n / 256 ^ k) : IntKind.u8.wrap x = byteN n k := by
  subst h
  rw [IntKind.wrap_u8]
  rfl

set_option maxHeartbeats 1000000 in
theorem withLength_any (v : Value) (l : List Int) (n : Nat) (B : Nat) (w : World) (ho : w.ownsRow B 5 1 v l.length (l.map (Value.int .u8))) (hB : B ≤ w.heap.size) (hl : l.length ≤ 100000) (hn : n ≤ 100000) :
    Calls Tryd.prog 98 #[v, .int .i64 n] w fun e w' => ∃ v', e = .returned v' ∧ w'.ownsRow B 5 1 v' (l ++ leB 8 (n : Int)).length ((l ++ leB 8 (n : Int)).map (Value.int .u8)) ∧ Below B w w' := by
  go_enter Tryd.func98, Tryd.ntmps98
  go_wp2_with fail
  go_loopw [0, 1, 5] (fun v s i wr => ∃ k : Nat, k ≤ 8 ∧ i = .int .i64 k ∧ s = .int .i64 ((n : Int) / 256 ^ k) ∧ wr.ownsRow B 5 1 v (l ++ leB k (n : Int)).length ((l ++ leB k (n : Int)).map (Value.int .u8)) ∧ Below B w wr) (fun _ _ i _ => 8 - (intOf i).toNat)
  case atStart => exact ⟨0, by omega, rfl, by simp, by simpa [leB] using ho, Below.refl _ _⟩
  case round =>
    clear ho
    obtain ⟨k, hk, rfl, rfl, hown, hb⟩ := hrel
    have hlt := hown.lt
    by_cases hk8 : k < 8
    · have hki : (k : Int) < 8 := by omega
      obtain ⟨x, hx⟩ : ∃ x : Int, (n : Int) / 256 ^ k = x := ⟨_, rfl⟩
      have hp : (0 : Int) < 256 ^ k := pow256 k
      have hx0 : 0 ≤ x := by rw [← hx]; exact Int.ediv_nonneg (by omega) (by omega)
      have hx1 : x ≤ 100000 := by rw [← hx]; have := Int.ediv_le_self (256 ^ k) (show (0 : Int) ≤ n by omega); omega
      have HX : Hid ((n : Int) / 256 ^ (k + 1) = x / 256) := by unfold Hid; rw [Int.pow_succ, ← Int.ediv_ediv_of_nonneg (Int.le_of_lt hp), hx]
      have HBY : Hid (x % 256 = byteN n k) := by unfold Hid byteN; rw [hx]
      have hlk := leB_length k (n : Int)
      have HS : Hid (leB (k + 1) (n : Int) = leB k n ++ [byteN n k]) := leB_succ k _
      rw [hx]
      clear hx hp
      generalize leB k (n : Int) = pre at hown HS hlk
      generalize byteN (n : Int) k = y at HBY HS
      go_wp2_with (at_builtin; refine wpList_append_sl _ rfl _ _ 22 rfl B 5 Tryd.underlying22 info5 _ _ rfl rfl (l ++ pre) [y] (hown.alloc _) (Sl.one2 _ _ _ _ rfl ?_ ?_) (by simp; omega) (by have := hb.size; simp; omega) ?_)
      · have := HBY.out; omega
      · have := HBY.out; omega
      intro v2 w2 ho2 hg2
      have ho2' : w2.ownsRow B 5 1 v2 (l ++ (pre ++ [y])).length ((l ++ (pre ++ [y])).map (Value.int .u8)) := by rw [← List.append_assoc]; simpa [hlk] using ho2
      have hb2 : Below B w w2 := (hb.alloc (Nat.le_trans hB hb.size) _).grown hg2 (by have := hb.size; simp; omega) (fun k hk => (hlt k hk).1)
      clear ho2 hg2 hown hlt hb
      go_wp2
      go_roundw
      case rel => exact ⟨k + 1, by omega, by go_num, by rw [HX.out], by rw [HS.out]; exact ho2', hb2⟩
      case measure => simp [intOf]; omega
    · obtain rfl : k = 8 := by omega
      go_wp2
      go_ret
      exact ⟨_, rfl, hown, hb⟩

set_option maxHeartbeats 1000000 in
theorem laid_any (va vs : Value) (a s : List Int) (w : World) (ha : Sl w va a) (hs : Sl w vs s) (la : a.length ≤ 10000) (ls : s.length ≤ 10000) :
    Calls Tryd.prog 84 #[va, vs] w fun e w' => ∃ v', e = .returned v' ∧ Sl w' v' (laidL a s) ∧ Below w.heap.size w w' := by
  have HL : Hid (laidL a s = padL (padL a ++ s) ++ leB 8 (a.length : Int) ++ leB 8 (s.length : Int)) := by unfold Hid; rw [padL_app]; rfl
  have HY : Hid (∀ x ∈ laidL a s, 0 ≤ x ∧ x < 256) := laidL_byte ha.byte hs.byte
  have HN : Hid ((laidL a s).length ≤ 30000) := by unfold Hid; rw [laidL_length]; have := gap_lt a.length; have := gap_lt s.length; omega
  have hpa : (padL a).length ≤ 11000 := by rw [padL_length]; have := gap_lt a.length; omega
  have hpp : (padL (padL a ++ s)).length ≤ 30000 := by rw [padL_length, List.length_append]; have := gap_lt ((padL a).length + s.length); omega
  obtain ⟨aa, ca, rfl⟩ := ha.shape
  obtain ⟨as0, cs, rfl⟩ := hs.shape
  generalize hn : a.length = n at la HL ha ⊢
  generalize hm : s.length = m at ls HL hs ⊢
  have HNA : Hid (a.length = n) := hn
  have HMS : Hid (s.length = m) := hm
  clear hn hm
  go_enter Tryd.func84, Tryd.ntmps84
  go_wp2_with (at_builtin; refine wpList_append_sl _ rfl _ _ 22 rfl w.heap.size 5 Tryd.underlying22 info5 _ _ rfl rfl [] a (World.ownsRow_nil _ _ _ _) ha (by have := HNA.out; simp; omega) (Nat.le_refl _) ?_)
  intro v1 w1 ho1 hg1
  have b1 : Below w.heap.size w w1 := (Below.refl _ _).grown hg1 (Nat.le_refl _) (by simp [Value.ownBlock])
  replace ho1 : w1.ownsRow w.heap.size 5 1 v1 a.length (a.map (Value.int .u8)) := by simpa using ho1
  clear hg1
  go_wp2_with fail
  refine (sfilled_any v1 a w.heap.size w1 ho1 b1.size (by have := HNA.out; omega)).mono ?_
  rintro e w2 ⟨v2, rfl, ho2, b2⟩
  replace b2 := b1.trans b2
  clear ho1 b1
  have hs2 := hs.below b2
  have hlt := ho2.lt
  generalize padL a = A at HL hpa hpp ho2
  go_wp2_with (at_builtin; refine wpList_append_sl _ rfl _ _ 22 rfl w.heap.size 5 Tryd.underlying22 info5 _ _ rfl rfl A s ho2 hs2 (by have := HMS.out; omega) b2.size ?_)
  intro v3 w3 ho3 hg3
  have b3 : Below w.heap.size w w3 := b2.grown hg3 b2.size (fun k hk => (hlt k hk).1)
  clear hg3 hlt ho2 b2 hs2
  replace ho3 : w3.ownsRow w.heap.size 5 1 v3 (A ++ s).length ((A ++ s).map (Value.int .u8)) := by simpa using ho3
  have hAs : (A ++ s).length ≤ 21000 := by rw [List.length_append]; have := HMS.out; omega
  generalize A ++ s = AS at HL hpp ho3 hAs
  go_wp2_with fail
  refine (sfilled_any v3 AS w.heap.size w3 ho3 b3.size (by omega)).mono ?_
  rintro e w4 ⟨v4, rfl, ho4, b4⟩
  replace b4 := b3.trans b4
  clear ho3 b3
  generalize padL AS = X at HL hpp ho4
  go_wp2_with fail
  refine (withLength_any v4 X n w.heap.size w4 ho4 b4.size (by omega) (by omega)).mono ?_
  rintro e w5 ⟨v5, rfl, ho5, b5⟩
  replace b5 := b4.trans b5
  have hX5 : (X ++ leB 8 (n : Int)).length ≤ 30008 := by rw [List.length_append, leB_length]; omega
  clear ho4 b4
  generalize X ++ leB 8 (n : Int) = X5 at HL hX5 ho5
  go_wp2_with fail
  refine (withLength_any v5 X5 m w.heap.size w5 ho5 b5.size (by omega) (by omega)).mono ?_
  rintro e w6 ⟨v6, rfl, ho6, b6⟩
  replace b6 := b5.trans b6
  rw [← HL.out] at ho6
  go_wp2
  go_ret
  exact ⟨_, rfl, Sl.ofOwns ho6 (by have := HN.out; omega) HY.out, b6⟩

/-- have the key, the nonce and what is known lengths that they may have? -/
def fits (key nonce a : List Int) : Bool := decide (key.length = 32) && decide (nonce.length = 12) && decide (a.length ≤ 256)
set_option maxHeartbeats 1000000 in
theorem fit_any (vk vn va : Value) (key nonce a : List Int) (w : World) (hk : Sl w vk key) (hn : Sl w vn nonce) (ha : Sl w va a) :
    Calls Tryd.prog 68 #[vk, vn, va] w fun e w' => e = .returned (.bool (fits key nonce a)) ∧ w' = w := by
  have h1 := hk.len
  have h2 := hn.len
  have h3 := ha.len
  obtain ⟨ak, ck, rfl⟩ := hk.shape
  obtain ⟨an, cn, rfl⟩ := hn.shape
  obtain ⟨aa, ca, rfl⟩ := ha.shape
  unfold fits
  generalize key.length = n1 at h1 hk ⊢
  generalize nonce.length = n2 at h2 hn ⊢
  generalize a.length = n3 at h3 ha ⊢
  clear hk hn ha
  by_cases c1 : (n1 : Int) = 32
  · by_cases c2 : (n2 : Int) = 12
    · by_cases c3 : (n3 : Int) ≤ 256
      · go_enter Tryd.func68, Tryd.ntmps68
        go_wp2
        go_ret
        refine ⟨ret_bool ?_, rfl⟩
        simp; omega
      · go_enter Tryd.func68, Tryd.ntmps68
        go_wp2
        go_ret
        refine ⟨ret_bool ?_, rfl⟩
        simp; omega
    · go_enter Tryd.func68, Tryd.ntmps68
      go_wp2
      go_ret
      refine ⟨ret_bool ?_, rfl⟩
      simp; omega
  · go_enter Tryd.func68, Tryd.ntmps68
    go_wp2
    go_ret
    refine ⟨ret_bool ?_, rfl⟩
    simp; omega
end Go.Proofs.YtakgfdbjgeopdaaDoor
