/-
  The walk of the tag.
-/
import Derived.Test.YtakgfdbjgeopdaaGreatDoorKo9
import Derived.Test.YtakgfdbjgeopdaaGreatDoorKo17
import Derived.Test.YtakgfdbjgeopdaaGreatDoorKo5
namespace Go.Proofs.YtakgfdbjgeopdaaGreatDoor
open Go.RowKit

/-- the tag of data under a key -/
def tagL (key data : List Int) : List Int := leB 16 (accN (leN (clampL (key.take 16))) data + leN (key.drop 16))
theorem tagL_length (key data : List Int) : (tagL key data).length = 16 := leB_length _ _
theorem tagL_byte (key data : List Int) : ∀ x ∈ tagL key data, 0 ≤ x ∧ x < 256 := leB_byte _ _

theorem Sl.aShape {w : World} {v : Value} {l : List Int} (h : Sl w v l) : ∃ a c, v = .slice a l.length c := by
  obtain ⟨⟨a, cap, e, _⟩, _⟩ := h
  exact ⟨a, cap, e⟩

set_option maxHeartbeats 2000000 in
set_option maxRecDepth 100000 in
theorem tag_ok (vk vd : Value) (key data : List Int) (w : World) (hk : Sl w vk key) (hd : Sl w vd data) (lk : key.length = 32) (ld : data.length ≤ 4000) :
    Calls Tryz.prog 183 #[vk, vd] w fun e w' => ∃ v', e = .returned (.tuple #[v', .int .i64 0]) ∧ Sl w' v' (tagL key data) ∧ Below w.heap.size w w' := by
  obtain ⟨ak, ck, rfl⟩ := hk.aShape
  obtain ⟨ad, cd, rfl⟩ := hd.aShape
  rw [lk] at hk ⊢
  obtain ⟨a1, c1, hc1', s1⟩ := hk.upTo 16 (by omega)
  obtain ⟨a2, c2, hc2', s2⟩ := hk.from 16 (by omega)
  have hc1 : ∀ W, (Instr.slice 26 (.slice ak 32 ck) none (some (.int .i64 16)) none).run Tryz.prog W = .ok (.slice a1 16 c1) W := hc1'
  have hc2 : ∀ W, (Instr.slice 26 (.slice ak 32 ck) (some (.int .i64 16)) none none).run Tryz.prog W = .ok (.slice a2 16 c2) W := hc2'
  clear hc1' hc2'
  have lt : (key.take 16).length = 16 := by rw [List.length_take]; omega
  have lr : (key.drop 16).length = 16 := by rw [List.length_drop]; omega
  have ldi : ¬ (4000 : Int) < (data.length : Int) := by omega
  have HT : Hid (tagL key data = leB 16 (accN (leN (clampL (key.take 16))) data + leN (key.drop 16))) := rfl
  generalize key.take 16 = K1 at s1 lt HT
  generalize key.drop 16 = K2 at s2 lr HT
  clear hk lk
  have hdl : Hid (data.length ≤ 4000) := ld
  go_enter Tryz.func183, Tryz.ntmps183
  go_wp2_with fail
  go_region_with (first
    | (go_at_call 224; refine (factor_any _ K1 _ (s1.below ((Below.refl _ _).drew)) lt).mono ?_; rintro e w2 ⟨r1, rfl, l1, v1, hb2⟩)
    | (go_at_call 223; refine (gathered_any r1 (leN (clampL K1)) _ data _ (hd.below ((Below.refl _ _).drew.trans hb2)) hdl.out l1 v1).mono ?_; rintro e w3 ⟨n1, rfl, l3, v3, hb3⟩)
    | (go_at_call 222; refine (together_any n1 _ K2 _ (s2.below (((Below.refl _ _).drew.trans hb2).trans (hb3.mono hb2.size))) lr l3).mono ?_; rintro e w4 ⟨v4, rfl, s4, hb4⟩))
  all_goals
    go_wp2
    go_ret2
    refine ⟨v4, rfl, ?_, ?_⟩
    · rw [HT.out, ← v3]; exact s4
    · have b3 : Below w.heap.size w w3 := ((Below.refl _ _).drew.trans hb2).trans (hb3.mono hb2.size)
      exact b3.trans (hb4.mono b3.size)

theorem tag_no (vk vd : Value) (key data : List Int) (w : World) (hk : Sl w vk key) (hd : Sl w vd data) (hno : key.length ≠ 32 ∨ 4000 < data.length) :
    Calls Tryz.prog 183 #[vk, vd] w fun e w' => e = .returned (.tuple #[.slice none 0 0, .int .i64 1]) ∧ w' = w := by
  obtain ⟨ak, ck, rfl⟩ := hk.aShape
  obtain ⟨ad, cd, rfl⟩ := hd.aShape
  have h1 := hk.len
  have h2 := hd.len
  by_cases lk : key.length = 32
  · have ld : (4000 : Int) < (data.length : Int) := by omega
    rw [lk] at *
    clear hk hd
    go_enter Tryz.func183, Tryz.ntmps183
    go_wp2
    go_ret2
    exact ⟨rfl, rfl⟩
  · have lki : ¬ (key.length : Int) = 32 := by omega
    clear hk hd
    go_enter Tryz.func183, Tryz.ntmps183
    go_wp2
    go_ret2
    exact ⟨rfl, rfl⟩
end Go.Proofs.YtakgfdbjgeopdaaGreatDoor
/-
  What is sealed, in plain lists of bytes. No program is named here.
-/
namespace Go.Proofs.YtakgfdbjgeopdaaGreatDoor
open Go.RowKit

/-- how many noughts are wanted behind n bytes -/
def gap (n : Nat) : Nat := (16 - n % 16) % 16
/-- noughts behind, till sixteen divides the length -/
def padL (l : List Int) : List Int := l ++ List.replicate (gap l.length) 0
theorem padL_length (l : List Int) : (padL l).length = l.length + gap l.length := by rw [padL, List.length_append, List.length_replicate]
theorem gap_lt (n : Nat) : gap n < 16 := by unfold gap; omega
theorem gap_sum (n : Nat) : (n + gap n) % 16 = 0 := by unfold gap; omega
theorem gap_short (n j : Nat) (h : j < gap n) : ¬ (n + j) % 16 = 0 := by unfold gap at h; omega
theorem gap_add (n m : Nat) (h : n % 16 = 0) : gap (n + m) = gap m := by unfold gap; omega
theorem padL_byte {l : List Int} (h : ∀ x ∈ l, 0 ≤ x ∧ x < 256) : ∀ x ∈ padL l, 0 ≤ x ∧ x < 256 := by
  intro x hx
  rcases List.mem_append.1 hx with h1 | h1
  · exact h x h1
  · rw [(List.mem_replicate.1 h1).2]; omega
theorem padL_app (a s : List Int) : padL (padL a ++ s) = padL a ++ padL s := by
  have h : (padL a).length % 16 = 0 := by rw [padL_length]; exact gap_sum _
  rw [padL, List.length_append, gap_add _ _ h, List.append_assoc]
  rfl

theorem leB_succ (k : Nat) (v : Int) : leB (k + 1) v = leB k v ++ [byteN v k] := by
  simp [leB, List.range_succ]

/-- what the tag is of -/
def laidL (a s : List Int) : List Int := padL a ++ padL s ++ leB 8 (a.length : Int) ++ leB 8 (s.length : Int)
theorem laidL_length (a s : List Int) : (laidL a s).length = a.length + gap a.length + (s.length + gap s.length) + 8 + 8 := by
  simp only [laidL, List.length_append, padL_length, leB_length]
theorem laidL_byte {a s : List Int} (ha : ∀ x ∈ a, 0 ≤ x ∧ x < 256) (hs : ∀ x ∈ s, 0 ≤ x ∧ x < 256) : ∀ x ∈ laidL a s, 0 ≤ x ∧ x < 256 := by
  intro x hx
  rcases List.mem_append.1 hx with hx | hx
  · rcases List.mem_append.1 hx with hx | hx
    · rcases List.mem_append.1 hx with hx | hx
      · exact padL_byte ha x hx
      · exact padL_byte hs x hx
    · exact leB_byte _ _ x hx
  · exact leB_byte _ _ x hx

/-- the tag of what is known and what is sealed -/
def stagL (key nonce a s : List Int) : List Int := tagL ((blockL (begunL key (BitVec.ofNat 32 0) nonce)).take 32) (laidL a s)
theorem stagL_length (key nonce a s : List Int) : (stagL key nonce a s).length = 16 := tagL_length _ _
theorem stagL_byte (key nonce a s : List Int) : ∀ x ∈ stagL key nonce a s, 0 ≤ x ∧ x < 256 := tagL_byte _ _
/-- the bytes, mixed from the second block on -/
def smixL (key nonce p : List Int) : List Int := mixL (begunL key (BitVec.ofNat 32 1) nonce) p
theorem smixL_length (key nonce p : List Int) : (smixL key nonce p).length = p.length := mixL_length _ _
/-- what is sealed, and its tag behind it -/
def sealL (key nonce a p : List Int) : List Int := smixL key nonce p ++ stagL key nonce a (smixL key nonce p)
theorem sealL_length (key nonce a p : List Int) : (sealL key nonce a p).length = p.length + 16 := by
  rw [sealL, List.length_append, smixL_length, stagL_length]
end Go.Proofs.YtakgfdbjgeopdaaGreatDoor
/-
  The walks of what the tag is of: noughts behind, and a length's bytes.
-/
namespace Go.Proofs.YtakgfdbjgeopdaaGreatDoor
open Go.RowKit

set_option maxHeartbeats 1000000 in
theorem sfilled_any (v : Value) (l : List Int) (B : Nat) (w : World) (ho : w.ownsRow B 5 1 v l.length (l.map (Value.int .u8))) (hB : B ≤ w.heap.size) (hl : l.length ≤ 100000) :
    Calls Tryz.prog 225 #[v] w fun e w' => ∃ v', e = .returned v' ∧ w'.ownsRow B 5 1 v' (padL l).length ((padL l).map (Value.int .u8)) ∧ Below B w w' := by
  have HF : Hid (padL l = l ++ List.replicate (gap l.length) 0) := rfl
  have hg := gap_lt l.length
  have HS : Hid (∀ j, j < gap l.length → ¬ (l.length + j) % 16 = 0) := fun j hj => gap_short _ _ hj
  have HE : Hid ((l.length + gap l.length) % 16 = 0) := gap_sum _
  obtain ⟨a0, c0, rfl⟩ := owns_shape2 ho
  generalize gap l.length = G at HF hg HS HE
  go_enter Tryz.func225, Tryz.ntmps225
  go_wp2_with fail
  go_loopw [0] (fun v wr => ∃ (j : Nat) (a : Option Addr) (cap : Nat), j ≤ G ∧ v = .slice a (l.length + j) cap ∧ wr.ownsRow B 5 1 v (l ++ List.replicate j 0).length ((l ++ List.replicate j 0).map (Value.int .u8)) ∧ Below B w wr) (fun v _ => l.length + G - lenV v)
  case atStart => exact ⟨0, a0, c0, by omega, rfl, by simpa using ho, Below.refl _ _⟩
  case round =>
    clear ho
    obtain ⟨j, a, cap, hj, rfl, hown, hb⟩ := hrel
    have hlt := hown.lt
    by_cases hjn : j < G
    · have h1 := HS.out j hjn
      have h2 : ¬ ((l.length : Int) + j) % 16 = 0 := by omega
      go_wp2_with (at_builtin; refine wpList_append_sl _ rfl _ _ 26 rfl B 5 Tryz.underlying26 info5 _ _ rfl rfl (l ++ List.replicate j 0) [0] (hown.alloc _) (Sl.one _ _ _ rfl (by omega)) (by simp; omega) (by have := hb.size; simp; omega) ?_)
      intro v2 w2 ho2 hg2
      have ho2' : w2.ownsRow B 5 1 v2 (l ++ List.replicate (j + 1) 0).length ((l ++ List.replicate (j + 1) 0).map (Value.int .u8)) := by rw [← replicate_snoc]; simpa using ho2
      have hb2 : Below B w w2 := (hb.alloc (Nat.le_trans hB hb.size) _).grown hg2 (by have := hb.size; simp; omega) (fun k hk => (hlt k hk).1)
      obtain ⟨a2, c2, hv2⟩ := owns_shape2 ho2'
      rw [List.length_append, List.length_replicate] at hv2
      subst hv2
      clear ho2 hg2 hown hlt hb h1 h2
      go_wp2
      go_roundw
      case rel => exact ⟨j + 1, a2, c2, by omega, rfl, ho2', hb2⟩
      case measure => simp [lenV]; omega
    · have HJ : Hid (G = j) := by unfold Hid; omega
      have h0 := HE.out
      have h1 : ((l.length : Int) + j) % 16 = 0 := by have := HJ.out; omega
      have h2 : (((l.length : Int) + j) % 16 != 0) = false := by simp; omega
      clear h0
      go_wp2
      go_ret
      refine ⟨_, rfl, ?_, hb⟩
      rw [HF.out, HJ.out]
      exact hown

theorem byteN_wrap (x : Int) (n : Int) (k : Nat) (h : x = n / 256 ^ k) : IntKind.u8.wrap x = byteN n k := by
  subst h
  rw [IntKind.wrap_u8]
  rfl

set_option maxHeartbeats 1000000 in
theorem withLength_any (v : Value) (l : List Int) (n : Nat) (B : Nat) (w : World) (ho : w.ownsRow B 5 1 v l.length (l.map (Value.int .u8))) (hB : B ≤ w.heap.size) (hl : l.length ≤ 100000) (hn : n ≤ 100000) :
    Calls Tryz.prog 226 #[v, .int .i64 n] w fun e w' => ∃ v', e = .returned v' ∧ w'.ownsRow B 5 1 v' (l ++ leB 8 (n : Int)).length ((l ++ leB 8 (n : Int)).map (Value.int .u8)) ∧ Below B w w' := by
  go_enter Tryz.func226, Tryz.ntmps226
  go_wp2_with fail
  go_loopw [0, 1, 5] (fun v s i wr => ∃ k : Nat, k ≤ 8 ∧ i = .int .i64 k ∧ s = .int .i64 ((n : Int) / 256 ^ k) ∧ wr.ownsRow B 5 1 v (l ++ leB k (n : Int)).length ((l ++ leB k (n : Int)).map (Value.int .u8)) ∧ Below B w wr) (fun _ _ i _ => 8 - (intOf i).toNat)
  case atStart => exact ⟨0, by omega, rfl, by simp, by simpa [leB] using ho, Below.refl _ _⟩
  case round =>
    clear ho
    obtain ⟨k, hk, rfl, rfl, hown, hb⟩ := hrel
    have hlt := hown.lt
    by_cases hk8 : k < 8
    · have hki : (k : Int) < 8 := by omega
      obtain ⟨x, hx⟩ : ∃ x : Int, (n : Int) / 256 ^ k = x := ⟨_, rfl⟩
      have hp : (0 : Int) < 256 ^ k := pow256 k
      have hx0 : 0 ≤ x := by rw [← hx]; exact Int.ediv_nonneg (by omega) (by omega)
      have hx1 : x ≤ 100000 := by rw [← hx]; have := Int.ediv_le_self (256 ^ k) (show (0 : Int) ≤ n by omega); omega
      have HX : Hid ((n : Int) / 256 ^ (k + 1) = x / 256) := by unfold Hid; rw [Int.pow_succ, ← Int.ediv_ediv_of_nonneg (Int.le_of_lt hp), hx]
      have HBY : Hid (x % 256 = byteN n k) := by unfold Hid byteN; rw [hx]
      have hlk := leB_length k (n : Int)
      have HS : Hid (leB (k + 1) (n : Int) = leB k n ++ [byteN n k]) := leB_succ k _
      rw [hx]
      clear hx hp
      generalize leB k (n : Int) = pre at hown HS hlk
      generalize byteN (n : Int) k = y at HBY HS
      go_wp2_with (at_builtin; refine wpList_append_sl _ rfl _ _ 26 rfl B 5 Tryz.underlying26 info5 _ _ rfl rfl (l ++ pre) [y] (hown.alloc _) (Sl.one2 _ _ _ _ rfl ?_ ?_) (by simp; omega) (by have := hb.size; simp; omega) ?_)
      · have := HBY.out; omega
      · have := HBY.out; omega
      intro v2 w2 ho2 hg2
      have ho2' : w2.ownsRow B 5 1 v2 (l ++ (pre ++ [y])).length ((l ++ (pre ++ [y])).map (Value.int .u8)) := by rw [← List.append_assoc]; simpa [hlk] using ho2
      have hb2 : Below B w w2 := (hb.alloc (Nat.le_trans hB hb.size) _).grown hg2 (by have := hb.size; simp; omega) (fun k hk => (hlt k hk).1)
      clear ho2 hg2 hown hlt hb
      go_wp2
      go_roundw
      case rel => exact ⟨k + 1, by omega, by go_num, by rw [HX.out], by rw [HS.out]; exact ho2', hb2⟩
      case measure => simp [intOf]; omega
    · obtain rfl : k = 8 := by omega
      go_wp2
      go_ret
      exact ⟨_, rfl, hown, hb⟩

set_option maxHeartbeats 1000000 in
theorem laid_any (va vs : Value) (a s : List Int) (w : World) (ha : Sl w va a) (hs : Sl w vs s) (la : a.length ≤ 10000) (ls : s.length ≤ 10000) :
    Calls Tryz.prog 184 #[va, vs] w fun e w' => ∃ v', e = .returned v' ∧ Sl w' v' (laidL a s) ∧ Below w.heap.size w w' := by
  have HL : Hid (laidL a s = padL (padL a ++ s) ++ leB 8 (a.length : Int) ++ leB 8 (s.length : Int)) := by unfold Hid; rw [padL_app]; rfl
  have HY : Hid (∀ x ∈ laidL a s, 0 ≤ x ∧ x < 256) := laidL_byte ha.byte hs.byte
  have HN : Hid ((laidL a s).length ≤ 30000) := by unfold Hid; rw [laidL_length]; have := gap_lt a.length; have := gap_lt s.length; omega
  have hpa : (padL a).length ≤ 11000 := by rw [padL_length]; have := gap_lt a.length; omega
  have hpp : (padL (padL a ++ s)).length ≤ 30000 := by rw [padL_length, List.length_append]; have := gap_lt ((padL a).length + s.length); omega
  obtain ⟨aa, ca, rfl⟩ := ha.shape
  obtain ⟨as0, cs, rfl⟩ := hs.shape
  generalize hn : a.length = n at la HL ha ⊢
  generalize hm : s.length = m at ls HL hs ⊢
  have HNA : Hid (a.length = n) := hn
  have HMS : Hid (s.length = m) := hm
  clear hn hm
  go_enter Tryz.func184, Tryz.ntmps184
  go_wp2_with (at_builtin; refine wpList_append_sl _ rfl _ _ 26 rfl w.heap.size 5 Tryz.underlying26 info5 _ _ rfl rfl [] a (World.ownsRow_nil _ _ _ _) ha (by have := HNA.out; simp; omega) (Nat.le_refl _) ?_)
  intro v1 w1 ho1 hg1
  have b1 : Below w.heap.size w w1 := (Below.refl _ _).grown hg1 (Nat.le_refl _) (by simp [Value.ownBlock])
  replace ho1 : w1.ownsRow w.heap.size 5 1 v1 a.length (a.map (Value.int .u8)) := by simpa using ho1
  clear hg1
  go_wp2_with fail
  refine (sfilled_any v1 a w.heap.size w1 ho1 b1.size (by have := HNA.out; omega)).mono ?_
  rintro e w2 ⟨v2, rfl, ho2, b2⟩
  replace b2 := b1.trans b2
  clear ho1 b1
  have hs2 := hs.below b2
  have hlt := ho2.lt
  generalize padL a = A at HL hpa hpp ho2
  go_wp2_with (at_builtin; refine wpList_append_sl _ rfl _ _ 26 rfl w.heap.size 5 Tryz.underlying26 info5 _ _ rfl rfl A s ho2 hs2 (by have := HMS.out; omega) b2.size ?_)
  intro v3 w3 ho3 hg3
  have b3 : Below w.heap.size w w3 := b2.grown hg3 b2.size (fun k hk => (hlt k hk).1)
  clear hg3 hlt ho2 b2 hs2
  replace ho3 : w3.ownsRow w.heap.size 5 1 v3 (A ++ s).length ((A ++ s).map (Value.int .u8)) := by simpa using ho3
  have hAs : (A ++ s).length ≤ 21000 := by rw [List.length_append]; have := HMS.out; omega
  generalize A ++ s = AS at HL hpp ho3 hAs
  go_wp2_with fail
  refine (sfilled_any v3 AS w.heap.size w3 ho3 b3.size (by omega)).mono ?_
  rintro e w4 ⟨v4, rfl, ho4, b4⟩
  replace b4 := b3.trans b4
  clear ho3 b3
  generalize padL AS = X at HL hpp ho4
  go_wp2_with fail
  refine (withLength_any v4 X n w.heap.size w4 ho4 b4.size (by omega) (by omega)).mono ?_
  rintro e w5 ⟨v5, rfl, ho5, b5⟩
  replace b5 := b4.trans b5
  have hX5 : (X ++ leB 8 (n : Int)).length ≤ 30008 := by rw [List.length_append, leB_length]; omega
  clear ho4 b4
  generalize X ++ leB 8 (n : Int) = X5 at HL hX5 ho5
  go_wp2_with fail
  refine (withLength_any v5 X5 m w.heap.size w5 ho5 b5.size (by omega) (by omega)).mono ?_
  rintro e w6 ⟨v6, rfl, ho6, b6⟩
  replace b6 := b5.trans b6
  rw [← HL.out] at ho6
  go_wp2
  go_ret
  exact ⟨_, rfl, Sl.ofOwns ho6 (by have := HN.out; omega) HY.out, b6⟩

/-- have the key, the nonce and what is known lengths that they may have? -/
def fits (key nonce a : List Int) : Bool := decide (key.length = 32) && decide (nonce.length = 12) && decide (a.length ≤ 256)
set_option maxHeartbeats 1000000 in
theorem fit_any (vk vn va : Value) (key nonce a : List Int) (w : World) (hk : Sl w vk key) (hn : Sl w vn nonce) (ha : Sl w va a) :
    Calls Tryz.prog 136 #[vk, vn, va] w fun e w' => e = .returned (.bool (fits key nonce a)) ∧ w' = w := by
  have h1 := hk.len
  have h2 := hn.len
  have h3 := ha.len
  obtain ⟨ak, ck, rfl⟩ := hk.shape
  obtain ⟨an, cn, rfl⟩ := hn.shape
  obtain ⟨aa, ca, rfl⟩ := ha.shape
  unfold fits
  generalize key.length = n1 at h1 hk ⊢
  generalize nonce.length = n2 at h2 hn ⊢
  generalize a.length = n3 at h3 ha ⊢
  clear hk hn ha
  by_cases c1 : (n1 : Int) = 32
  · by_cases c2 : (n2 : Int) = 12
    · by_cases c3 : (n3 : Int) ≤ 256
      · go_enter Tryz.func136, Tryz.ntmps136
        go_wp2
        go_ret
        refine ⟨ret_bool ?_, rfl⟩
        simp; omega
      · go_enter Tryz.func136, Tryz.ntmps136
        go_wp2
        go_ret
        refine ⟨ret_bool ?_, rfl⟩
        simp; omega
    · go_enter Tryz.func136, Tryz.ntmps136
      go_wp2
      go_ret
      refine ⟨ret_bool ?_, rfl⟩
      simp; omega
  · go_enter Tryz.func136, Tryz.ntmps136
    go_wp2
    go_ret
    refine ⟨ret_bool ?_, rfl⟩
    simp; omega
end Go.Proofs.YtakgfdbjgeopdaaGreatDoor
