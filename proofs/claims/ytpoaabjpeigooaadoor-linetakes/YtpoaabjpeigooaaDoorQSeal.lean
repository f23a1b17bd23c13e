/-
  What is sealed, in plain lists of bytes. No program is named here.
-/
import Derived.Test.YtpoaabjpeigooaaDoorQStream
import Derived.Test.YtpoaabjpeigooaaDoorQPolyB
import Derived.Test.YtpoaabjpeigooaaDoorQBase
import Derived.Deep.RegionWith
namespace Go.Proofs.YtpoaabjpeigooaaDoor
open Go.RowKit

/-- how many noughts are wanted behind n bytes -/
def gap (n : Nat) : Nat := (16 - n % 16) % 16
/-- noughts behind, till sixteen divides the length -/
def padL (l : List Int) : List Int := l ++ List.replicate (gap l.length) 0
theorem padL_length (l : List Int) : (padL l).length = l.length + gap l.length := by rw [padL, List.length_append, List.length_replicate]
theorem gap_lt (n : Nat) : gap n < 16 := by unfold gap; omega
theorem gap_sum (n : Nat) : (n + gap n) % 16 = 0 := by unfold gap; omega
theorem gap_short (n j : Nat) (h : j < gap n) : ¬ (n + j) % 16 = 0 := by unfold gap at h; omega
theorem gap_add (n m : Nat) (h : n % 16 = 0) : gap (n + m) = gap m := by unfold gap; omega
theorem padL_byte {l : List Int} (h : ∀ x ∈ l, 0 ≤ x ∧ x < 256) : ∀ x ∈ padL l, 0 ≤ x ∧ x < 256 := by
  intro x hx
  rcases List.mem_append.1 hx with h1 | h1
  · exact h x h1
  · rw [(List.mem_replicate.1 h1).2]; omega
theorem padL_app (a s : List Int) : padL (padL a ++ s) = padL a ++ padL s := by
  have h : (padL a).length % 16 = 0 := by rw [padL_length]; exact gap_sum _
  rw [padL, List.length_append, gap_add _ _ h, List.append_assoc]
  rfl

theorem leB_succ (k : Nat) (v : Int) : leB (k + 1) v = leB k v ++ [byteN v k] := by
  simp [leB, List.range_succ]

/-- what the tag is of -/
def laidL (a s : List Int) : List Int := padL a ++ padL s ++ leB 8 (a.length : Int) ++ leB 8 (s.length : Int)
theorem laidL_length (a s : List Int) : (laidL a s).length = a.length + gap a.length + (s.length + gap s.length) + 8 + 8 := by
  simp only [laidL, List.length_append, padL_length, leB_length]
theorem laidL_byte {a s : List Int} (ha : ∀ x ∈ a, 0 ≤ x ∧ x < 256) (hs : ∀ x ∈ s, 0 ≤ x ∧ x < 256) : ∀ x ∈ laidL a s, 0 ≤ x ∧ x < 256 := by
  intro x hx
  rcases List.mem_append.1 hx with hx | hx
  · rcases List.mem_append.1 hx with hx | hx
    · rcases List.mem_append.1 hx with hx | hx
      · exact padL_byte ha x hx
      · exact padL_byte hs x hx
    · exact leB_byte _ _ x hx
  · exact leB_byte _ _ x hx

/-- the tag of what is known and what is sealed -/
def stagL (key nonce a s : List Int) : List Int := tagL ((blockL (begunL key (BitVec.ofNat 32 0) nonce)).take 32) (laidL a s)
theorem stagL_length (key nonce a s : List Int) : (stagL key nonce a s).length = 16 := tagL_length _ _
theorem stagL_byte (key nonce a s : List Int) : ∀ x ∈ stagL key nonce a s, 0 ≤ x ∧ x < 256 := tagL_byte _ _
/-- the bytes, mixed from the second block on -/
def smixL (key nonce p : List Int) : List Int := mixL (begunL key (BitVec.ofNat 32 1) nonce) p
theorem smixL_length (key nonce p : List Int) : (smixL key nonce p).length = p.length := mixL_length _ _
/-- what is sealed, and its tag behind it -/
def sealL (key nonce a p : List Int) : List Int := smixL key nonce p ++ stagL key nonce a (smixL key nonce p)
theorem sealL_length (key nonce a p : List Int) : (sealL key nonce a p).length = p.length + 16 := by
  rw [sealL, List.length_append, smixL_length, stagL_length]
end Go.Proofs.YtpoaabjpeigooaaDoor
/-
  The walks of what the tag is of: noughts behind, and a length's bytes.
-/
namespace Go.Proofs.YtpoaabjpeigooaaDoor
open Go.RowKit

set_option maxHeartbeats 1000000 in
theorem sfilled_any (v : Value) (l : List Int) (B : Nat) (w : World) (ho : w.ownsRow B 5 1 v l.length (l.map (Value.int .u8))) (hB : B ≤ w.heap.size) (hl : l.length ≤ 100000) :
    Calls Tryd.prog 76 #[v] w fun e w' => ∃ v', e = .returned v' ∧ w'.ownsRow B 5 1 v' (padL l).length ((padL l).map (Value.int .u8)) ∧ Below B w w' := by
  have HF : Hid (padL l = l ++ List.replicate (gap l.length) 0) := rfl
  have hg := gap_lt l.length
  have HS : Hid (∀ j, j < gap l.length → ¬ (l.length + j) % 16 = 0) := fun j hj => gap_short _ _ hj
  have HE : Hid ((l.length + gap l.length) % 16 = 0) := gap_sum _
  obtain ⟨a0, c0, rfl⟩ := owns_shape2 ho
  generalize gap l.length = G at HF hg HS HE
  go_enter Tryd.func76, Tryd.ntmps76
  go_wp2_with fail
  go_loopw [0] (fun v wr => ∃ (j : Nat) (a : Option Addr) (cap : Nat), j ≤ G ∧ v = .slice a (l.length + j) cap ∧ wr.ownsRow B 5 1 v (l ++ List.replicate j 0).length ((l ++ List.replicate j 0).map (Value.int .u8)) ∧ Below B w wr) (fun v _ => l.length + G - lenV v)
  case atStart => exact ⟨0, a0, c0, by omega, rfl, by simpa using ho, Below.refl _ _⟩
  case round =>
    clear ho
    obtain ⟨j, a, cap, hj, rfl, hown, hb⟩ := hrel
    have hlt := hown.lt
    by_cases hjn : j < G
    · have h1 := HS.out j hjn
      have h2 : ¬ ((l.length : Int) + j) % 16 = 0 := by omega
      go_wp2_with (at_builtin; refine wpList_append_sl _ rfl _ _ 22 rfl B 5 Tryd.underlying22 info5 _ _ rfl rfl (l ++ List.replicate j 0) [0] (hown.alloc _) (Sl.one _ _ _ rfl (by omega)) (by simp; omega) (by have := hb.size; simp; omega) ?_)
      intro v2 w2 ho2 hg2
      have ho2' : w2.ownsRow B 5 1 v2 (l ++ List.replicate (j + 1) 0).length ((l ++ List.replicate (j + 1) 0).map (Value.int .u8)) := by rw [← replicate_snoc]; simpa using ho2
      have hb2 : Below B w w2 := (hb.alloc (Nat.le_trans hB hb.size) _).grown hg2 (by have := hb.size; simp; omega) (fun k hk => (hlt k hk).1)
      obtain ⟨a2, c2, hv2⟩ := owns_shape2 ho2'
      rw [List.length_append, List.length_replicate] at hv2
      subst hv2
      clear ho2 hg2 hown hlt hb h1 h2
      go_wp2
      go_roundw
      case rel => exact ⟨j + 1, a2, c2, by omega, rfl, ho2', hb2⟩
      case measure => simp [lenV]; omega
    · have HJ : Hid (G = j) := by unfold Hid; omega
      have h0 := HE.out
      have h1 : ((l.length : Int) + j) % 16 = 0 := by have := HJ.out; omega
      have h2 : (((l.length : Int) + j) % 16 != 0) = false := by simp; omega
      clear h0
      go_wp2
      go_ret
      refine ⟨_, rfl, ?_, hb⟩
      rw [HF.out, HJ.out]
      exact hown

theorem byteN_wrap (x : Int) (n : Int) (k : Nat) (h : x = n / 256 ^ k) : IntKind.u8.wrap x = byteN n k := by
  subst h
  rw [IntKind.wrap_u8]
  rfl

set_option maxHeartbeats 1000000 in
theorem withLength_any (v : Value) (l : List Int) (n : Nat) (B : Nat) (w : World) (ho : w.ownsRow B 5 1 v l.length (l.map (Value.int .u8))) (hB : B ≤ w.heap.size) (hl : l.length ≤ 100000) (hn : n ≤ 100000) :
    Calls Tryd.prog 77 #[v, .int .i64 n] w fun e w' => ∃ v', e = .returned v' ∧ w'.ownsRow B 5 1 v' (l ++ leB 8 (n : Int)).length ((l ++ leB 8 (n : Int)).map (Value.int .u8)) ∧ Below B w w' := by
  go_enter Tryd.func77, Tryd.ntmps77
  go_wp2_with fail
  go_loopw [0, 1, 5] (fun v s i wr => ∃ k : Nat, k ≤ 8 ∧ i = .int .i64 k ∧ s = .int .i64 ((n : Int) / 256 ^ k) ∧ wr.ownsRow B 5 1 v (l ++ leB k (n : Int)).length ((l ++ leB k (n : Int)).map (Value.int .u8)) ∧ Below B w wr) (fun _ _ i _ => 8 - (intOf i).toNat)
  case atStart => exact ⟨0, by omega, rfl, by simp, by simpa [leB] using ho, Below.refl _ _⟩
  case round =>
    clear ho
    obtain ⟨k, hk, rfl, rfl, hown, hb⟩ := hrel
    have hlt := hown.lt
    by_cases hk8 : k < 8
    · have hki : (k : Int) < 8 := by omega
      obtain ⟨x, hx⟩ : ∃ x : Int, (n : Int) / 256 ^ k = x := ⟨_, rfl⟩
      have hp : (0 : Int) < 256 ^ k := pow256 k
      have hx0 : 0 ≤ x := by rw [← hx]; exact Int.ediv_nonneg (by omega) (by omega)
      have hx1 : x ≤ 100000 := by rw [← hx]; have := Int.ediv_le_self (256 ^ k) (show (0 : Int) ≤ n by omega); omega
      have HX : Hid ((n : Int) / 256 ^ (k + 1) = x / 256) := by unfold Hid; rw [Int.pow_succ, ← Int.ediv_ediv_of_nonneg (Int.le_of_lt hp), hx]
      have HBY : Hid (x % 256 = byteN n k) := by unfold Hid byteN; rw [hx]
      have hlk := leB_length k (n : Int)
      have HS : Hid (leB (k + 1) (n : Int) = leB k n ++ [byteN n k]) := leB_succ k _
      rw [hx]
      clear hx hp
      generalize leB k (n : Int) = pre at hown HS hlk
      generalize byteN (n : Int) k = y at HBY HS
      go_wp2_with (at_builtin; refine wpList_append_sl _ rfl _ _ 22 rfl B 5 Tryd.underlying22 info5 _ _ rfl rfl (l ++ pre) [y] (hown.alloc _) (Sl.one2 _ _ _ _ rfl ?_ ?_) (by simp; omega) (by have := hb.size; simp; omega) ?_)
      · have := HBY.out; omega
      · have := HBY.out; omega
      intro v2 w2 ho2 hg2
      have ho2' : w2.ownsRow B 5 1 v2 (l ++ (pre ++ [y])).length ((l ++ (pre ++ [y])).map (Value.int .u8)) := by rw [← List.append_assoc]; simpa [hlk] using ho2
      have hb2 : Below B w w2 := (hb.alloc (Nat.le_trans hB hb.size) _).grown hg2 (by have := hb.size; simp; omega) (fun k hk => (hlt k hk).1)
      clear ho2 hg2 hown hlt hb
      go_wp2
      go_roundw
      case rel => exact ⟨k + 1, by omega, by go_num, by rw [HX.out], by rw [HS.out]; exact ho2', hb2⟩
      case measure => simp [intOf]; omega
    · obtain rfl : k = 8 := by omega
      go_wp2
      go_ret
      exact ⟨_, rfl, hown, hb⟩

set_option maxHeartbeats 1000000 in
theorem laid_any (va vs : Value) (a s : List Int) (w : World) (ha : Sl w va a) (hs : Sl w vs s) (la : a.length ≤ 10000) (ls : s.length ≤ 10000) :
    Calls Tryd.prog 63 #[va, vs] w fun e w' => ∃ v', e = .returned v' ∧ Sl w' v' (laidL a s) ∧ Below w.heap.size w w' := by
  have HL : Hid (laidL a s = padL (padL a ++ s) ++ leB 8 (a.length : Int) ++ leB 8 (s.length : Int)) := by unfold Hid; rw [padL_app]; rfl
  have HY : Hid (∀ x ∈ laidL a s, 0 ≤ x ∧ x < 256) := laidL_byte ha.byte hs.byte
  have HN : Hid ((laidL a s).length ≤ 30000) := by unfold Hid; rw [laidL_length]; have := gap_lt a.length; have := gap_lt s.length; omega
  have hpa : (padL a).length ≤ 11000 := by rw [padL_length]; have := gap_lt a.length; omega
  have hpp : (padL (padL a ++ s)).length ≤ 30000 := by rw [padL_length, List.length_append]; have := gap_lt ((padL a).length + s.length); omega
  obtain ⟨aa, ca, rfl⟩ := ha.shape
  obtain ⟨as0, cs, rfl⟩ := hs.shape
  generalize hn : a.length = n at la HL ha ⊢
  generalize hm : s.length = m at ls HL hs ⊢
  have HNA : Hid (a.length = n) := hn
  have HMS : Hid (s.length = m) := hm
  clear hn hm
  go_enter Tryd.func63, Tryd.ntmps63
  go_wp2_with (at_builtin; refine wpList_append_sl _ rfl _ _ 22 rfl w.heap.size 5 Tryd.underlying22 info5 _ _ rfl rfl [] a (World.ownsRow_nil _ _ _ _) ha (by have := HNA.out; simp; omega) (Nat.le_refl _) ?_)
  intro v1 w1 ho1 hg1
  have b1 : Below w.heap.size w w1 := (Below.refl _ _).grown hg1 (Nat.le_refl _) (by simp [Value.ownBlock])
  replace ho1 : w1.ownsRow w.heap.size 5 1 v1 a.length (a.map (Value.int .u8)) := by simpa using ho1
  clear hg1
  go_wp2_with fail
  refine (sfilled_any v1 a w.heap.size w1 ho1 b1.size (by have := HNA.out; omega)).mono ?_
  rintro e w2 ⟨v2, rfl, ho2, b2⟩
  replace b2 := b1.trans b2
  clear ho1 b1
  have hs2 := hs.below b2
  have hlt := ho2.lt
  generalize padL a = A at HL hpa hpp ho2
  go_wp2_with (at_builtin; refine wpList_append_sl _ rfl _ _ 22 rfl w.heap.size 5 Tryd.underlying22 info5 _ _ rfl rfl A s ho2 hs2 (by have := HMS.out; omega) b2.size ?_)
  intro v3 w3 ho3 hg3
  have b3 : Below w.heap.size w w3 := b2.grown hg3 b2.size (fun k hk => (hlt k hk).1)
  clear hg3 hlt ho2 b2 hs2
  replace ho3 : w3.ownsRow w.heap.size 5 1 v3 (A ++ s).length ((A ++ s).map (Value.int .u8)) := by simpa using ho3
  have hAs : (A ++ s).length ≤ 21000 := by rw [List.length_append]; have := HMS.out; omega
  generalize A ++ s = AS at HL hpp ho3 hAs
  go_wp2_with fail
  refine (sfilled_any v3 AS w.heap.size w3 ho3 b3.size (by omega)).mono ?_
  rintro e w4 ⟨v4, rfl, ho4, b4⟩
  replace b4 := b3.trans b4
  clear ho3 b3
  generalize padL AS = X at HL hpp ho4
  go_wp2_with fail
  refine (withLength_any v4 X n w.heap.size w4 ho4 b4.size (by omega) (by omega)).mono ?_
  rintro e w5 ⟨v5, rfl, ho5, b5⟩
  replace b5 := b4.trans b5
  have hX5 : (X ++ leB 8 (n : Int)).length ≤ 30008 := by rw [List.length_append, leB_length]; omega
  clear ho4 b4
  generalize X ++ leB 8 (n : Int) = X5 at HL hX5 ho5
  go_wp2_with fail
  refine (withLength_any v5 X5 m w.heap.size w5 ho5 b5.size (by omega) (by omega)).mono ?_
  rintro e w6 ⟨v6, rfl, ho6, b6⟩
  replace b6 := b5.trans b6
  rw [← HL.out] at ho6
  go_wp2
  go_ret
  exact ⟨_, rfl, Sl.ofOwns ho6 (by have := HN.out; omega) HY.out, b6⟩

/-- have the key, the nonce and what is known lengths that they may have? -/
def fits (key nonce a : List Int) : Bool := decide (key.length = 32) && decide (nonce.length = 12) && decide (a.length ≤ 256)
set_option maxHeartbeats 1000000 in
theorem fit_any (vk vn va : Value) (key nonce a : List Int) (w : World) (hk : Sl w vk key) (hn : Sl w vn nonce) (ha : Sl w va a) :
    Calls Tryd.prog 49 #[vk, vn, va] w fun e w' => e = .returned (.bool (fits key nonce a)) ∧ w' = w := by
  have h1 := hk.len
  have h2 := hn.len
  have h3 := ha.len
  obtain ⟨ak, ck, rfl⟩ := hk.shape
  obtain ⟨an, cn, rfl⟩ := hn.shape
  obtain ⟨aa, ca, rfl⟩ := ha.shape
  unfold fits
  generalize key.length = n1 at h1 hk ⊢
  generalize nonce.length = n2 at h2 hn ⊢
  generalize a.length = n3 at h3 ha ⊢
  clear hk hn ha
  by_cases c1 : (n1 : Int) = 32
  · by_cases c2 : (n2 : Int) = 12
    · by_cases c3 : (n3 : Int) ≤ 256
      · go_enter Tryd.func49, Tryd.ntmps49
        go_wp2
        go_ret
        refine ⟨ret_bool ?_, rfl⟩
        simp; omega
      · go_enter Tryd.func49, Tryd.ntmps49
        go_wp2
        go_ret
        refine ⟨ret_bool ?_, rfl⟩
        simp; omega
    · go_enter Tryd.func49, Tryd.ntmps49
      go_wp2
      go_ret
      refine ⟨ret_bool ?_, rfl⟩
      simp; omega
  · go_enter Tryd.func49, Tryd.ntmps49
    go_wp2
    go_ret
    refine ⟨ret_bool ?_, rfl⟩
    simp; omega
end Go.Proofs.YtpoaabjpeigooaaDoor
/-
  The walks of the tag of what is known and sealed, and of Seal.
-/
namespace Go.Proofs.YtpoaabjpeigooaaDoor
open Go.RowKit

set_option maxHeartbeats 2000000 in
set_option maxRecDepth 100000 in
theorem stag_ok (vk vn va vs : Value) (key nonce a s : List Int) (w : World) (hk : Sl w vk key) (hn : Sl w vn nonce) (ha : Sl w va a) (hs : Sl w vs s) (lk : key.length = 32) (ln : nonce.length = 12) (la : a.length ≤ 256) (ls : s.length ≤ 2000) (ht : QTab w) :
    Calls Tryd.prog 51 #[vk, vn, va, vs] w fun e w' => ∃ v', e = .returned (.tuple #[v', .int .i64 0]) ∧ Sl w' v' (stagL key nonce a s) ∧ Below w.heap.size w w' := by
  have HT : Hid (stagL key nonce a s = tagL ((blockL (begunL key (BitVec.ofNat 32 0) nonce)).take 32) (laidL a s)) := rfl
  have hll : (laidL a s).length ≤ 4000 := by rw [laidL_length]; have := gap_lt a.length; have := gap_lt s.length; omega
  go_enter Tryd.func51, Tryd.ntmps51
  go_wp2_with fail
  refine (block_at vk vn key nonce 0 0 rfl w hk hn lk ln (by omega) ht).mono ?_
  rintro e w1 ⟨vb, rfl, g1⟩
  have sb := g1.sl
  have b1 := g1.bel
  clear g1
  have hbl := blockL_length (begunL key (BitVec.ofNat 32 0) nonce)
  generalize blockL (begunL key (BitVec.ofNat 32 0) nonce) = bs at HT sb hbl
  obtain ⟨ab, cb, rfl⟩ := sb.shape
  rw [hbl] at sb ⊢
  obtain ⟨a1, c1, hc1', s1⟩ := sb.upTo 32 (by omega)
  have hc1 : ∀ W, (Instr.slice 22 (.slice ab 64 cb) none (some (.int .i64 32)) none).run Tryd.prog W = .ok (.slice a1 32 c1) W := hc1'
  have lt : (bs.take 32).length = 32 := by rw [List.length_take]; omega
  generalize bs.take 32 = K at HT s1 lt
  have ha1 := ha.below b1
  have hs1 := hs.below b1
  clear hc1' sb hbl
  have la2 : a.length ≤ 10000 := by omega
  have ls2 : s.length ≤ 10000 := by omega
  have HLA : Hid (a.length ≤ 10000) := la2
  have HLS : Hid (s.length ≤ 10000) := ls2
  have HLL : Hid ((laidL a s).length ≤ 4000) := hll
  clear la ls la2 ls2 hll hk hn ha hs lk ln
  go_wp2_with fail
  go_region_with (first
    | (go_at_call 63; refine (laid_any _ _ a s _ (ha1.below ((Below.refl _ _).drew)) (hs1.below ((Below.refl _ _).drew)) HLA.out HLS.out).mono ?_; rintro e w2 ⟨v2, rfl, s2, hb2⟩)
    | (go_at_call 62; refine (tag_ok _ _ K _ _ (s1.below ((Below.refl _ _).drew.trans hb2)) s2 lt HLL.out).mono ?_; rintro e w3 ⟨v3, rfl, s3, hb3⟩))
  all_goals
    go_wp2
    go_ret2
    refine ⟨v3, rfl, ?_, ?_⟩
    · rw [HT.out]; exact s3
    · have b2 : Below w.heap.size w w2 := b1.trans (((Below.refl _ _).drew.trans hb2).mono b1.size)
      exact b2.trans (hb3.mono b2.size)

theorem mix1_own (vk vn vd : Value) (key nonce d : List Int) (w : World) (hk : Sl w vk key) (hn : Sl w vn nonce) (hd : Sl w vd d) (lk : key.length = 32) (ln : nonce.length = 12) (ld : d.length ≤ 2000) (ht : QTab w) :
    Calls Tryd.prog 50 #[vk, .int .i64 1, vn, vd] w fun e w' => ∃ v', e = .returned (.tuple #[v', .int .i64 0]) ∧ w'.ownsRow w.heap.size 5 1 v' (smixL key nonce d).length ((smixL key nonce d).map (Value.int .u8)) ∧ Below w.heap.size w w' :=
  mix_own vk vn vd key nonce d 1 w hk hn hd lk ln (by omega) ld ht

theorem owns_below {w w' : World} {base e : Nat} {v : Value} {n : Nat} {xs : List Value} (h : w.ownsRow base e 1 v n xs) (hb : Below w.heap.size w w') : w'.ownsRow base e 1 v n xs :=
  owns_keep h fun k hk => hb.block k (h.lt k hk).2

theorem fits_true {key nonce a : List Int} (h : fits key nonce a = true) : key.length = 32 ∧ nonce.length = 12 ∧ a.length ≤ 256 := by
  unfold fits at h
  simp at h
  omega

set_option maxHeartbeats 2000000 in
set_option maxRecDepth 100000 in
theorem seal_ok (vk vn va vp : Value) (key nonce a p : List Int) (w : World) (hk : Sl w vk key) (hn : Sl w vn nonce) (ha : Sl w va a) (hp : Sl w vp p) (hf : fits key nonce a = true) (lp : p.length ≤ 2000) (ht : QTab w) :
    Calls Tryd.prog 37 #[vk, vn, va, vp] w fun e w' => ∃ v', e = .returned (.tuple #[v', .int .i64 0]) ∧ Sl w' v' (sealL key nonce a p) ∧ Below w.heap.size w w' := by
  obtain ⟨lk, ln, la⟩ := fits_true hf
  have hpos := ht.pos
  have HS : Hid (sealL key nonce a p = smixL key nonce p ++ stagL key nonce a (smixL key nonce p)) := rfl
  have hxl := smixL_length key nonce p
  have hxb : ∀ x ∈ smixL key nonce p, 0 ≤ x ∧ x < 256 := mixL_byte _ hp.byte
  have hpl : ¬ (2000 : Int) < (p.length : Int) := by omega
  obtain ⟨ap, cp, rfl⟩ := hp.shape
  go_enter Tryd.func37, Tryd.ntmps37
  go_wp2_with fail
  refine (fit_any vk vn va key nonce a w hk hn ha).mono ?_
  rintro e w0 ⟨rfl, rfl⟩
  rw [hf]
  go_wp2_with fail
  refine (mix1_own vk vn _ key nonce p w0 hk hn hp lk ln lp ht).mono ?_
  rintro e w1 ⟨vx, rfl, o1, b1⟩
  generalize smixL key nonce p = X at HS hxl hxb o1
  have s1 : Sl w1 vx X := Sl.ofOwns o1 (by omega) hxb
  go_wp2_with fail
  refine (stag_ok vk vn va vx key nonce a X w1 (hk.below b1) (hn.below b1) (ha.below b1) s1 lk ln la (by omega) (ht.below hpos b1)).mono ?_
  rintro e w2 ⟨vt, rfl, s2, b2⟩
  have o2 := owns_below o1 b2
  have hlt := o2.lt
  have hB2 : Below w0.heap.size w0 w2 := b1.trans (b2.mono b1.size)
  have htl := stagL_length key nonce a X
  have htb := stagL_byte key nonce a X
  generalize stagL key nonce a X = T at HS s2 htl htb
  have hX2 : X.length ≤ 2000 := by omega
  clear hxl o1 s1 b1 b2 hk hn ha hp
  go_wp2_with (at_builtin; refine wpList_append_sl _ rfl _ _ 22 rfl w0.heap.size 5 Tryd.underlying22 info5 _ _ rfl rfl X T o2 s2 (by omega) hB2.size ?_)
  intro v3 w3 ho3 hg3
  replace ho3 : w3.ownsRow w0.heap.size 5 1 v3 (X ++ T).length ((X ++ T).map (Value.int .u8)) := by simpa [htl] using ho3
  have b3 : Below w0.heap.size w0 w3 := hB2.grown hg3 hB2.size (fun k hk => (hlt k hk).1)
  go_wp2
  go_ret2
  refine ⟨v3, rfl, ?_, b3⟩
  rw [HS.out]
  refine Sl.ofOwns ho3 (by rw [List.length_append]; omega) ?_
  intro x hx
  rcases List.mem_append.1 hx with h | h
  · exact hxb x h
  · exact htb x h

theorem seal_no (vk vn va vp : Value) (key nonce a p : List Int) (w : World) (hk : Sl w vk key) (hn : Sl w vn nonce) (ha : Sl w va a) (hp : Sl w vp p) (hno : fits key nonce a = false ∨ 2000 < p.length) :
    Calls Tryd.prog 37 #[vk, vn, va, vp] w fun e w' => e = .returned (.tuple #[.slice none 0 0, .int .i64 1]) ∧ w' = w := by
  have h1 := hp.len
  obtain ⟨ap, cp, rfl⟩ := hp.shape
  by_cases hf : fits key nonce a = true
  · have hpl : (2000 : Int) < (p.length : Int) := by
      rcases hno with h | h
      · rw [hf] at h; cases h
      · omega
    go_enter Tryd.func37, Tryd.ntmps37
    go_wp2_with fail
    refine (fit_any vk vn va key nonce a w hk hn ha).mono ?_
    rintro e w0 ⟨rfl, rfl⟩
    rw [hf]
    go_wp2
    go_ret2
    exact ⟨rfl, rfl⟩
  · rw [Bool.not_eq_true] at hf
    go_enter Tryd.func37, Tryd.ntmps37
    go_wp2_with fail
    refine (fit_any vk vn va key nonce a w hk hn ha).mono ?_
    rintro e w0 ⟨rfl, rfl⟩
    rw [hf]
    go_wp2
    go_ret2
    exact ⟨rfl, rfl⟩

/-- what Seal says, and what it answers -/
def sealE (key nonce a p : List Int) : Int := if fits key nonce a = true ∧ p.length ≤ 2000 then 0 else 1
def sealR (key nonce a p : List Int) : List Int := if fits key nonce a = true ∧ p.length ≤ 2000 then sealL key nonce a p else []
theorem seal_any (vk vn va vp : Value) (key nonce a p : List Int) (w : World) (hk : Sl w vk key) (hn : Sl w vn nonce) (ha : Sl w va a) (hp : Sl w vp p) (ht : QTab w) :
    Calls Tryd.prog 37 #[vk, vn, va, vp] w fun e w' => ∃ v', e = .returned (.tuple #[v', .int .i64 (sealE key nonce a p)]) ∧ Sl w' v' (sealR key nonce a p) ∧ Below w.heap.size w w' := by
  unfold sealE sealR
  by_cases h : fits key nonce a = true ∧ p.length ≤ 2000
  · rw [if_pos h, if_pos h]
    exact seal_ok vk vn va vp key nonce a p w hk hn ha hp h.1 h.2 ht
  · rw [if_neg h, if_neg h]
    refine (seal_no vk vn va vp key nonce a p w hk hn ha hp ?_).mono ?_
    · by_cases hf : fits key nonce a = true
      · exact .inr (by have : ¬ p.length ≤ 2000 := fun hp => h ⟨hf, hp⟩; omega)
      · exact .inl (by simpa using hf)
    · rintro e w1 ⟨rfl, rfl⟩
      exact ⟨_, rfl, Sl.nil _ _, Below.refl _ _⟩
end Go.Proofs.YtpoaabjpeigooaaDoor
/-
  The walk of sha.Same.
-/
namespace Go.Proofs.YtpoaabjpeigooaaDoor
open Go.RowKit



def dif (la lb : List Int) : Nat → Int
  | 0 => 0
  | k + 1 => bits .or .u8 (dif la lb k) (bits .xor .u8 (la.getD k 0) (lb.getD k 0))

theorem or_zero {a b : Nat} : a ||| b = 0 ↔ a = 0 ∧ b = 0 := by
  constructor
  · intro h
    have h1 : ∀ i, (a ||| b).testBit i = false := by intro i; rw [h]; simp
    constructor
    · apply Nat.eq_of_testBit_eq; intro i; have := h1 i; rw [Nat.testBit_or] at this; simp at this; simp [this.1]
    · apply Nat.eq_of_testBit_eq; intro i; have := h1 i; rw [Nat.testBit_or] at this; simp at this; simp [this.2]
  · rintro ⟨rfl, rfl⟩; rfl

theorem xor_zero {a b : Nat} : a ^^^ b = 0 ↔ a = b := by
  constructor
  · intro h
    have h1 : ∀ i, (a ^^^ b).testBit i = false := by intro i; rw [h]; simp
    apply Nat.eq_of_testBit_eq; intro i; have := h1 i; rw [Nat.testBit_xor] at this; simpa using this
  · rintro rfl; simp

theorem dif_zero {la lb : List Int} (ha : ∀ x ∈ la, 0 ≤ x ∧ x < 256) (hb : ∀ x ∈ lb, 0 ≤ x ∧ x < 256) (k : Nat) :
    0 ≤ dif la lb k ∧ dif la lb k < 256 ∧ (dif la lb k = 0 ↔ ∀ i, i < k → la.getD i 0 = lb.getD i 0) := by
  induction k with
  | zero => simp [dif]
  | succ k ih =>
    obtain ⟨h1, h2, h3⟩ := ih
    have hx := getD_byte ha k
    have hy := getD_byte hb k
    have e1 := u8_xor _ _ hx.1 hx.2 hy.1 hy.2
    have hlt : (la.getD k 0).toNat ^^^ (lb.getD k 0).toNat < 256 := Nat.xor_lt_two_pow (n := 8) (by omega) (by omega)
    have e2 := u8_or (dif la lb k) (((la.getD k 0).toNat ^^^ (lb.getD k 0).toNat : Nat) : Int) h1 h2 (by omega) (by omega)
    have e3 : dif la lb (k + 1) = (((dif la lb k).toNat ||| ((la.getD k 0).toNat ^^^ (lb.getD k 0).toNat) : Nat) : Int) := by
      show bits .or .u8 (dif la lb k) (bits .xor .u8 (la.getD k 0) (lb.getD k 0)) = _
      rw [e1, e2]; simp
    have hlt2 : (dif la lb k).toNat ||| ((la.getD k 0).toNat ^^^ (lb.getD k 0).toNat) < 256 := Nat.or_lt_two_pow (n := 8) (by omega) hlt
    refine ⟨by rw [e3]; omega, by rw [e3]; omega, ?_⟩
    have e4 : dif la lb (k + 1) = 0 ↔ dif la lb k = 0 ∧ la.getD k 0 = lb.getD k 0 := by
      rw [e3]
      have := @or_zero (dif la lb k).toNat ((la.getD k 0).toNat ^^^ (lb.getD k 0).toNat)
      have h5 := @xor_zero (la.getD k 0).toNat (lb.getD k 0).toNat
      rw [h5] at this
      constructor
      · intro h
        have := this.1 (by omega)
        omega
      · intro h
        have := this.2 (by omega)
        omega
    rw [e4, h3]
    constructor
    · intro h i hi
      rcases Nat.lt_or_ge i k with h' | h'
      · exact h.1 i h'
      · obtain rfl : i = k := by omega
        exact h.2
    · intro h
      exact ⟨fun i hi => h i (by omega), h k (by omega)⟩

theorem dif_all {la lb : List Int} (ha : ∀ x ∈ la, 0 ≤ x ∧ x < 256) (hb : ∀ x ∈ lb, 0 ≤ x ∧ x < 256) (hl : la.length = lb.length) : (dif la lb lb.length == 0) = decide (la = lb) := by
  rw [Bool.eq_iff_iff, decide_eq_true_iff, beq_iff_eq, (dif_zero ha hb _).2.2]
  constructor
  · intro h
    apply List.ext_getElem hl
    intro i h1 h2
    have := h i h2
    rwa [getD_at h1, getD_at h2] at this
  · rintro rfl _ _; rfl

theorem same_any (va vb : Value) (la lb : List Int) (w : World) (ha : Sl w va la) (hb : Sl w vb lb) :
    Calls Tryd.prog 57 #[va, vb] w fun e w' => e = .returned (.bool (decide (la = lb))) ∧ ∃ n, w' = w.drewN n := by
  obtain ⟨⟨a, cap, rfl, hc, hn, h1⟩, hla, hba⟩ := ha
  obtain ⟨⟨b, cap', rfl, hc', hn', h1'⟩, hlb, hbb⟩ := hb
  by_cases hl : la.length = lb.length
  · rcases h1 with rfl | ⟨ba, oa, rfl, _, hca⟩
    · obtain rfl : lb = [] := List.eq_nil_of_length_eq_zero (by simpa using hl.symm)
      go_enter Tryd.func57, Tryd.ntmps57
      go_wp2
      refine wp_loop_rounds 1 ?_
      rw [rounds_succ]
      go_wp2
      go_ret
      exact ⟨rfl, 0, rfl⟩
    · rcases h1' with rfl | ⟨bb, ob, rfl, _, hcb⟩
      · obtain rfl : la = [] := List.eq_nil_of_length_eq_zero (by simpa using hl)
        go_enter Tryd.func57, Tryd.ntmps57
        go_wp2
        refine wp_loop_rounds 1 ?_
        rw [rounds_succ]
        go_wp2
        go_ret
        exact ⟨rfl, 0, rfl⟩
      · have HD : Hid ((dif la lb lb.length == 0) = decide (la = lb)) := dif_all hba hbb hl
        go_enter Tryd.func57, Tryd.ntmps57
        go_wp2
        go_loopw [5, 14] (fun d i wr => ∃ k n : Nat, k ≤ lb.length ∧ i = .int .i64 k ∧ d = .int .u8 (dif la lb k) ∧ wr = w.drewN n) (fun _ i _ => lb.length - (intOf i).toNat)
        case atStart => exact ⟨0, 0, Nat.zero_le _, rfl, rfl, rfl⟩
        case round =>
          obtain ⟨k, n, hk, rfl, rfl, rfl⟩ := hrel
          by_cases hlt : k < lb.length
          · have hx := hca k (by omega)
            have hy := hcb k hlt
            clear hca hcb hba hbb
            have hka : k < la.length := by omega
            go_wp2
            go_quiet (fail)
            go_wp2
            go_roundw
            case rel => exact ⟨k + 1, _, by omega, by go_num, by simp only [dif, getD_at hka, getD_at hlt], rfl⟩
            case measure => simp [intOf]; omega
          · obtain rfl : k = lb.length := by omega
            clear hca hcb
            go_wp2
            go_ret
            exact ⟨ret_bool HD.out, n, rfl⟩
  · have hne : ((la.length : Int) == (lb.length : Int)) = false := by simp; omega
    have hdd : decide (la = lb) = false := decide_eq_false (fun e => hl (by rw [e]))
    go_enter Tryd.func57, Tryd.ntmps57
    go_wp2
    go_ret
    exact ⟨ret_bool hdd.symm, 0, rfl⟩

end Go.Proofs.YtpoaabjpeigooaaDoor
/-
  The walk of Open.
-/
namespace Go.Proofs.YtpoaabjpeigooaaDoor
open Go.RowKit

/-- what Open says, and what it answers -/
def openE (key nonce a d : List Int) : Int :=
  if fits key nonce a = true ∧ d.length ≤ 2016 then (if d.length < 16 then 13 else if stagL key nonce a (d.take (d.length - 16)) = d.drop (d.length - 16) then 0 else 6) else 1
def openL (key nonce a d : List Int) : List Int := if openE key nonce a d = 0 then smixL key nonce (d.take (d.length - 16)) else []

theorem open_no (vk vn va vd : Value) (key nonce a d : List Int) (w : World) (hk : Sl w vk key) (hn : Sl w vn nonce) (ha : Sl w va a) (hd : Sl w vd d) (hno : fits key nonce a = false ∨ 2016 < d.length) :
    Calls Tryd.prog 46 #[vk, vn, va, vd] w fun e w' => e = .returned (.tuple #[.slice none 0 0, .int .i64 1]) ∧ w' = w := by
  have h1 := hd.len
  obtain ⟨ap, cp, rfl⟩ := hd.shape
  by_cases hf : fits key nonce a = true
  · have hpl : (2016 : Int) < (d.length : Int) := by
      rcases hno with h | h
      · rw [hf] at h; cases h
      · omega
    go_enter Tryd.func46, Tryd.ntmps46
    go_wp2_with fail
    refine (fit_any vk vn va key nonce a w hk hn ha).mono ?_
    rintro e w0 ⟨rfl, rfl⟩
    rw [hf]
    go_wp2
    go_ret2
    exact ⟨rfl, rfl⟩
  · rw [Bool.not_eq_true] at hf
    go_enter Tryd.func46, Tryd.ntmps46
    go_wp2_with fail
    refine (fit_any vk vn va key nonce a w hk hn ha).mono ?_
    rintro e w0 ⟨rfl, rfl⟩
    rw [hf]
    go_wp2
    go_ret2
    exact ⟨rfl, rfl⟩

theorem open_short (vk vn va vd : Value) (key nonce a d : List Int) (w : World) (hk : Sl w vk key) (hn : Sl w vn nonce) (ha : Sl w va a) (hd : Sl w vd d) (hf : fits key nonce a = true) (hs : d.length < 16) :
    Calls Tryd.prog 46 #[vk, vn, va, vd] w fun e w' => e = .returned (.tuple #[.slice none 0 0, .int .i64 13]) ∧ w' = w := by
  obtain ⟨ap, cp, rfl⟩ := hd.shape
  have hpl : (d.length : Int) < 16 := by omega
  go_enter Tryd.func46, Tryd.ntmps46
  go_wp2_with fail
  refine (fit_any vk vn va key nonce a w hk hn ha).mono ?_
  rintro e w0 ⟨rfl, rfl⟩
  rw [hf]
  go_wp2
  go_ret2
  exact ⟨rfl, rfl⟩

set_option maxHeartbeats 2000000 in
set_option maxRecDepth 100000 in
theorem open_tag (vk vn va vd : Value) (key nonce a d : List Int) (w : World) (hk : Sl w vk key) (hn : Sl w vn nonce) (ha : Sl w va a) (hd : Sl w vd d) (hf : fits key nonce a = true) (m : Nat) (hm : d.length = m + 16) (hl : m ≤ 2000) (ht : QTab w) (hq : stagL key nonce a (d.take m) ≠ d.drop m) :
    Calls Tryd.prog 46 #[vk, vn, va, vd] w fun e w' => e = .returned (.tuple #[.slice none 0 0, .int .i64 6]) ∧ Below w.heap.size w w' := by
  obtain ⟨lk, ln, la⟩ := fits_true hf
  have hpos := ht.pos
  have hyd := hd.byte
  obtain ⟨ad, cd, rfl⟩ := hd.shape
  rw [hm] at hd ⊢
  obtain ⟨a1, c1, hc1, s1⟩ := hd.upTo m (by omega)
  obtain ⟨a2, c2, hc2, s2⟩ := hd.from m (by omega)
  rw [Nat.add_sub_cancel_left] at hc2 s2
  have l1 : (d.take m).length = m := by rw [List.length_take]; omega
  have y1 : ∀ x ∈ d.take m, 0 ≤ x ∧ x < 256 := fun x hx => hyd x (List.mem_of_mem_take hx)
  have HQ : Hid (stagL key nonce a (d.take m) ≠ d.drop m) := hq
  clear hq
  generalize d.take m = D at s1 l1 y1 HQ ⊢
  generalize d.drop m = L at s2 HQ
  have HL1 : Hid (D.length = m) := l1
  clear hd hm hyd l1
  go_enter Tryd.func46, Tryd.ntmps46
  go_wp2_with fail
  refine (fit_any vk vn va key nonce a w hk hn ha).mono ?_
  rintro e w0 ⟨rfl, rfl⟩
  rw [hf]
  go_wp2_with fail
  go_quiet (fail)
  have e1 : Below w0.heap.size w0 (w0.drewN nq) := below_drewN (Below.refl _ _) nq
  generalize w0.drewN nq = w1 at e1 ⊢
  replace hk := hk.below e1
  replace hn := hn.below e1
  replace ha := ha.below e1
  replace s1 := s1.below e1
  replace s2 := s2.below e1
  replace ht := ht.below hpos e1
  clear hc1 hc2
  go_wp2_with fail
  refine (stag_ok vk vn va _ key nonce a D w1 hk hn ha s1 lk ln la (by have := HL1.out; omega) ht).mono ?_
  rintro e w2 ⟨vt, rfl, st, b2⟩
  go_wp2_with fail
  refine (same_any vt _ (stagL key nonce a D) L w2 st (s2.below b2)).mono ?_
  rintro e w3 ⟨rfl, n3, rfl⟩
  have e2 : Below w2.heap.size w2 (w2.drewN n3) := below_drewN (Below.refl _ _) n3
  have e3 : Below w0.heap.size w0 (w2.drewN n3) := e1.trans ((b2.trans (e2.mono b2.size)).mono e1.size)
  rw [decide_eq_false HQ.out]
  go_wp2
  go_ret2
  exact ⟨rfl, e3⟩

set_option maxHeartbeats 2000000 in
set_option maxRecDepth 100000 in
theorem open_ok (vk vn va vd : Value) (key nonce a d : List Int) (w : World) (hk : Sl w vk key) (hn : Sl w vn nonce) (ha : Sl w va a) (hd : Sl w vd d) (hf : fits key nonce a = true) (m : Nat) (hm : d.length = m + 16) (hl : m ≤ 2000) (ht : QTab w) (hq : stagL key nonce a (d.take m) = d.drop m) :
    Calls Tryd.prog 46 #[vk, vn, va, vd] w fun e w' => ∃ v', e = .returned (.tuple #[v', .int .i64 0]) ∧ Sl w' v' (smixL key nonce (d.take m)) ∧ Below w.heap.size w w' := by
  obtain ⟨lk, ln, la⟩ := fits_true hf
  have hpos := ht.pos
  have hyd := hd.byte
  obtain ⟨ad, cd, rfl⟩ := hd.shape
  rw [hm] at hd ⊢
  obtain ⟨a1, c1, hc1, s1⟩ := hd.upTo m (by omega)
  obtain ⟨a2, c2, hc2, s2⟩ := hd.from m (by omega)
  rw [Nat.add_sub_cancel_left] at hc2 s2
  have l1 : (d.take m).length = m := by rw [List.length_take]; omega
  have y1 : ∀ x ∈ d.take m, 0 ≤ x ∧ x < 256 := fun x hx => hyd x (List.mem_of_mem_take hx)
  have HQ : Hid (stagL key nonce a (d.take m) = d.drop m) := hq
  clear hq
  generalize d.take m = D at s1 l1 y1 HQ ⊢
  generalize d.drop m = L at s2 HQ
  have HL1 : Hid (D.length = m) := l1
  clear hd hm hyd l1
  go_enter Tryd.func46, Tryd.ntmps46
  go_wp2_with fail
  refine (fit_any vk vn va key nonce a w hk hn ha).mono ?_
  rintro e w0 ⟨rfl, rfl⟩
  rw [hf]
  go_wp2_with fail
  go_quiet (fail)
  have e1 : Below w0.heap.size w0 (w0.drewN nq) := below_drewN (Below.refl _ _) nq
  generalize w0.drewN nq = w1 at e1 ⊢
  replace hk := hk.below e1
  replace hn := hn.below e1
  replace ha := ha.below e1
  replace s1 := s1.below e1
  replace s2 := s2.below e1
  replace ht := ht.below hpos e1
  clear hc1 hc2
  go_wp2_with fail
  refine (stag_ok vk vn va _ key nonce a D w1 hk hn ha s1 lk ln la (by have := HL1.out; omega) ht).mono ?_
  rintro e w2 ⟨vt, rfl, st, b2⟩
  go_wp2_with fail
  refine (same_any vt _ (stagL key nonce a D) L w2 st (s2.below b2)).mono ?_
  rintro e w3 ⟨rfl, n3, rfl⟩
  have e2 : Below w2.heap.size w2 (w2.drewN n3) := below_drewN (Below.refl _ _) n3
  have e3 : Below w0.heap.size w0 (w2.drewN n3) := e1.trans ((b2.trans (e2.mono b2.size)).mono e1.size)
  rw [decide_eq_true HQ.out]
  have hB : Below w1.heap.size w1 (w2.drewN n3) := b2.trans (e2.mono b2.size)
  replace hk := hk.below hB
  replace hn := hn.below hB
  replace s1 := s1.below hB
  replace ht := ht.below (Nat.lt_of_lt_of_le hpos e1.size) hB
  have hxl := smixL_length key nonce D
  have hxb : ∀ x ∈ smixL key nonce D, 0 ≤ x ∧ x < 256 := mixL_byte _ y1
  clear s2 st ha e2 b2
  generalize w2.drewN n3 = w3 at hk hn s1 ht e3 hB ⊢
  go_wp2_with fail
  refine (mix1_own vk vn _ key nonce D w3 hk hn s1 lk ln (by have := HL1.out; omega) ht).mono ?_
  rintro e w4 ⟨vx, rfl, o4, b4⟩
  have s4 : Sl w4 vx (smixL key nonce D) := Sl.ofOwns o4 (by have := HL1.out; omega) hxb
  have e4 : Below w0.heap.size w0 w4 := e3.trans (b4.mono e3.size)
  clear o4 hxb
  go_wp2
  go_ret2
  exact ⟨vx, rfl, s4, e4⟩

theorem open_any (vk vn va vd : Value) (key nonce a d : List Int) (w : World) (hk : Sl w vk key) (hn : Sl w vn nonce) (ha : Sl w va a) (hd : Sl w vd d) (ht : QTab w) :
    Calls Tryd.prog 46 #[vk, vn, va, vd] w fun e w' => ∃ v', e = .returned (.tuple #[v', .int .i64 (openE key nonce a d)]) ∧ Sl w' v' (openL key nonce a d) ∧ Below w.heap.size w w' := by
  unfold openL
  by_cases h : fits key nonce a = true ∧ d.length ≤ 2016
  · by_cases h16 : d.length < 16
    · have hE : openE key nonce a d = 13 := by unfold openE; rw [if_pos h, if_pos h16]
      rw [hE, if_neg (by omega)]
      refine (open_short vk vn va vd key nonce a d w hk hn ha hd h.1 h16).mono ?_
      rintro e w1 ⟨rfl, rfl⟩
      exact ⟨_, rfl, Sl.nil _ _, Below.refl _ _⟩
    · by_cases hq : stagL key nonce a (d.take (d.length - 16)) = d.drop (d.length - 16)
      · have hE : openE key nonce a d = 0 := by unfold openE; rw [if_pos h, if_neg h16, if_pos hq]
        rw [hE, if_pos rfl]
        exact open_ok vk vn va vd key nonce a d w hk hn ha hd h.1 (d.length - 16) (by omega) (by omega) ht hq
      · have hE : openE key nonce a d = 6 := by unfold openE; rw [if_pos h, if_neg h16, if_neg hq]
        rw [hE, if_neg (by omega)]
        refine (open_tag vk vn va vd key nonce a d w hk hn ha hd h.1 (d.length - 16) (by omega) (by omega) ht hq).mono ?_
        rintro e w1 ⟨rfl, b⟩
        exact ⟨_, rfl, Sl.nil _ _, b⟩
  · have hE : openE key nonce a d = 1 := by unfold openE; rw [if_neg h]
    rw [hE, if_neg (by omega)]
    refine (open_no vk vn va vd key nonce a d w hk hn ha hd ?_).mono ?_
    · by_cases hf : fits key nonce a = true
      · exact .inr (by have : ¬ d.length ≤ 2016 := fun hp => h ⟨hf, hp⟩; omega)
      · exact .inl (by simpa using hf)
    · rintro e w1 ⟨rfl, rfl⟩
      exact ⟨_, rfl, Sl.nil _ _, Below.refl _ _⟩
end Go.Proofs.YtpoaabjpeigooaaDoor
