/-
  The walk of the first bytes of a list, as a list of its own.
-/
import Derived.Test.YtpoaabjpeigooaaDoorQBase
import Derived.Test.YtpoaabjpeigooaaDoorQSeal
namespace Go.Proofs.YtpoaabjpeigooaaDoor
open Go.RowKit

theorem some_any (v : Value) (l : List Int) (m : Nat) (w : World) (h : Sl w v l) (hm : m ≤ 100000) :
    Calls Tryd.prog 19 #[v, .int .i64 m] w fun e w' => ∃ v', e = .returned v' ∧ w'.ownsRow w.heap.size 5 1 v' (l.take m).length ((l.take m).map (Value.int .u8)) ∧ Below w.heap.size w w' := by
  have hs := h
  obtain ⟨⟨a, cap, rfl, hc, hn, h1⟩, hla, hba⟩ := h
  clear h1 hba
  by_cases hlt : m < l.length
  · have hk := hs.take m (by omega)
    have hlen : (l.take m).length ≤ 100000 := by rw [List.length_take]; omega
    generalize l.take m = L at hk hlen ⊢
    go_enter Tryd.func19, Tryd.ntmps19
    go_wp2_with (at_builtin; refine wpList_append_sl _ rfl _ _ 22 rfl w.heap.size 5 Tryd.underlying22 info5 _ _ rfl rfl [] L (World.ownsRow_nil _ _ _ _) hk (by simp; omega) (Nat.le_refl _) ?_)
    intro v' w' ho hg
    go_wp2
    go_ret
    exact ⟨v', rfl, by simpa using ho, (Below.refl _ _).grown hg (Nat.le_refl _) (by simp [Value.ownBlock])⟩
  · have hk : l.take m = l := List.take_of_length_le (by omega)
    rw [hk]
    go_enter Tryd.func19, Tryd.ntmps19
    go_wp2_with (at_builtin; refine wpList_append_sl _ rfl _ _ 22 rfl w.heap.size 5 Tryd.underlying22 info5 _ _ rfl rfl [] l (World.ownsRow_nil _ _ _ _) hs (by simp; omega) (Nat.le_refl _) ?_)
    intro v' w' ho hg
    go_wp2
    go_ret
    exact ⟨v', rfl, by simpa using ho, (Below.refl _ _).grown hg (Nat.le_refl _) (by simp [Value.ownBlock])⟩
end Go.Proofs.YtpoaabjpeigooaaDoor
/-
  The walk of the list that is filled with noughts.
-/
namespace Go.Proofs.YtpoaabjpeigooaaDoor
open Go.RowKit

/-- the first n bytes, noughts behind them -/
def fillL (l : List Int) (n : Nat) : List Int := l.take n ++ List.replicate (n - (l.take n).length) 0
theorem fillL_length (l : List Int) (n : Nat) : (fillL l n).length = n := by
  rw [fillL, List.length_append, List.length_replicate, List.length_take]; omega
theorem fillL_byte {l : List Int} (h : ∀ x ∈ l, 0 ≤ x ∧ x < 256) (n : Nat) : ∀ x ∈ fillL l n, 0 ≤ x ∧ x < 256 := by
  intro x hx
  rcases List.mem_append.1 hx with h1 | h1
  · exact h x (List.mem_of_mem_take h1)
  · rw [(List.mem_replicate.1 h1).2]; omega

set_option maxHeartbeats 1000000 in
theorem fill_any (v : Value) (l : List Int) (n : Nat) (w : World) (h : Sl w v l) (hn : n ≤ 1000) :
    Calls Tryd.prog 17 #[v, .int .i64 n] w fun e w' => ∃ v', e = .returned v' ∧ w'.ownsRow w.heap.size 5 1 v' (fillL l n).length ((fillL l n).map (Value.int .u8)) ∧ Below w.heap.size w w' := by
  have hq : (l.take n).length ≤ n := by rw [List.length_take]; omega
  go_enter Tryd.func17, Tryd.ntmps17
  go_wp2_with fail
  refine (some_any v l n w h (by omega)).mono ?_
  rintro e w1 ⟨v1, rfl, ho1, hb1⟩
  have HF : Hid (fillL l n = l.take n ++ List.replicate (n - (l.take n).length) 0) := rfl
  generalize hL : l.take n = L at ho1 HF hq
  have HL : Hid (l.take n = L) := hL
  clear hL
  obtain ⟨a1, c1, rfl⟩ := owns_shape2 ho1
  go_wp2_with fail
  go_loopw [5] (fun v wr => ∃ (j : Nat) (a : Option Addr) (cap : Nat), j ≤ n - L.length ∧ v = .slice a (L.length + j) cap ∧ wr.ownsRow w.heap.size 5 1 v (L ++ List.replicate j 0).length ((L ++ List.replicate j 0).map (Value.int .u8)) ∧ Below w.heap.size w wr) (fun v _ => n - lenV v)
  case atStart => exact ⟨0, a1, c1, by omega, rfl, by simpa using ho1, hb1⟩
  case round =>
    clear ho1 hb1
    obtain ⟨j, a, cap, hj, rfl, hown, hb⟩ := hrel
    have hlt := hown.lt
    by_cases hjn : L.length + j < n
    · go_wp2_with (at_builtin; refine wpList_append_sl _ rfl _ _ 22 rfl w.heap.size 5 Tryd.underlying22 info5 _ _ rfl rfl (L ++ List.replicate j 0) [0] (hown.alloc _) (Sl.one _ _ _ rfl (by omega)) (by simp; omega) (by have := hb.size; simp; omega) ?_)
      intro v2 w2 ho2 hg2
      have ho2' : w2.ownsRow w.heap.size 5 1 v2 (L ++ List.replicate (j + 1) 0).length ((L ++ List.replicate (j + 1) 0).map (Value.int .u8)) := by rw [← replicate_snoc]; simpa using ho2
      have hb2 : Below w.heap.size w w2 := (hb.alloc hb.size _).grown hg2 (by have := hb.size; simp; omega) (fun k hk => (hlt k hk).1)
      obtain ⟨a2, c2, hv2⟩ := owns_shape2 ho2'
      rw [List.length_append, List.length_replicate] at hv2
      subst hv2
      clear ho2 hg2 hown hlt hb
      go_wp2
      go_roundw
      case rel => exact ⟨j + 1, a2, c2, by omega, rfl, ho2', hb2⟩
      case measure => simp [lenV]; omega
    · have HJ : Hid (n - L.length = j) := by unfold Hid; omega
      go_wp2
      go_ret
      refine ⟨_, rfl, ?_, hb⟩
      rw [HF.out, HJ.out]
      exact hown
end Go.Proofs.YtpoaabjpeigooaaDoor
/-
  What the keeping laws begin with: a list's first bytes, and a list filled with noughts.
-/
namespace Go.Proofs.YtpoaabjpeigooaaDoor
open Go.RowKit

theorem some_sl (v : Value) (l : List Int) (m : Nat) (w : World) (h : Sl w v l) (hm : m ≤ 100000) :
    Calls Tryd.prog 19 #[v, .int .i64 m] w fun e w' => ∃ v', e = .returned v' ∧ Sl w' v' (l.take m) ∧ Below w.heap.size w w' := by
  refine (some_any v l m w h hm).mono ?_
  rintro e w1 ⟨v1, rfl, o1, b1⟩
  exact ⟨v1, rfl, Sl.ofOwns o1 (by rw [List.length_take]; omega) (fun x hx => h.byte x (List.mem_of_mem_take hx)), b1⟩
theorem fill_sl (v : Value) (l : List Int) (n : Nat) (w : World) (h : Sl w v l) (hn : n ≤ 1000) :
    Calls Tryd.prog 17 #[v, .int .i64 n] w fun e w' => ∃ v', e = .returned v' ∧ Sl w' v' (fillL l n) ∧ Below w.heap.size w w' := by
  refine (fill_any v l n w h hn).mono ?_
  rintro e w1 ⟨v1, rfl, o1, b1⟩
  exact ⟨v1, rfl, Sl.ofOwns o1 (by rw [fillL_length]; omega) (fillL_byte h.byte n), b1⟩
end Go.Proofs.YtpoaabjpeigooaaDoor
/-
  The walk of the keeping statements' comparison.
-/
namespace Go.Proofs.YtpoaabjpeigooaaDoor
open Go.RowKit

theorem keep_same (va vb : Value) (la lb : List Int) (w : World) (ha : Sl w va la) (hb : Sl w vb lb) :
    Calls Tryd.prog 18 #[va, vb] w fun e w' => e = .returned (.bool (decide (la = lb))) ∧ w' = w := by
  have c1 := run_convert_sl (P := Tryd.prog) w 22 9 5 Tryd.underlying22 Tryd.underlying5 Tryd.underlying9 va la ha
  have c2 := run_convert_sl (P := Tryd.prog) w 22 9 5 Tryd.underlying22 Tryd.underlying5 Tryd.underlying9 vb lb hb
  have e := strOfNums_inj ha.byte hb.byte
  have H : Hid (strOfNums la = strOfNums lb ↔ la = lb) := e
  clear e
  go_enter Tryd.func18, Tryd.ntmps18
  go_wp2
  go_ret
  refine ⟨ret_bool ?_, rfl⟩
  have h := H.out
  rw [Bool.eq_iff_iff, decide_eq_true_iff, ← h, beq_iff_eq]
  exact ⟨fun e => ByteArray.ext (Array.ext' (by rw [← ba_toList, ← ba_toList, e])), fun e => by rw [e]⟩
end Go.Proofs.YtpoaabjpeigooaaDoor
/-
  The walk of a number that is picked.
-/
namespace Go.Proofs.YtpoaabjpeigooaaDoor
open Go.RowKit

def pick (n many : Int) : Int := if n < 0 then (-(n + 1)) % many else n % many

theorem pick_range (n many : Int) (hm : 0 < many) : 0 ≤ pick n many ∧ pick n many < many := by
  unfold pick
  split
  · exact ⟨Int.emod_nonneg _ (by omega), Int.emod_lt_of_pos _ hm⟩
  · exact ⟨Int.emod_nonneg _ (by omega), Int.emod_lt_of_pos _ hm⟩

theorem ret_i64 {a b : Int} (h : a = b) : Ending.returned (.int .i64 a) = .returned (.int .i64 b) := by rw [h]

theorem picked_any (n many : Int) (w : World) (h1 : -9223372036854775808 ≤ n) (h2 : n ≤ 9223372036854775807) (hm : 0 < many) (hm2 : many ≤ 9223372036854775807) :
    Calls Tryd.prog 21 #[.int .i64 n, .int .i64 many] w fun e w' => e = .returned (.int .i64 (pick n many)) ∧ w' = w := by
  by_cases hn : n < 0
  · go_enter Tryd.func21, Tryd.ntmps21
    go_wp2
    go_ret
    exact ⟨ret_i64 (by unfold pick; rw [if_pos hn, ← Int.neg_tmod, Int.tmod_eq_emod_of_nonneg (by omega)]), rfl⟩
  · go_enter Tryd.func21, Tryd.ntmps21
    go_wp2
    go_ret
    exact ⟨ret_i64 (by unfold pick; rw [if_neg (by omega)]), rfl⟩
end Go.Proofs.YtpoaabjpeigooaaDoor
/-
  What is sealed is opened, and nothing else is: in plain lists; and what the keeping laws stand on.
-/
namespace Go.Proofs.YtpoaabjpeigooaaDoor
open Go.RowKit

theorem sealL_take (key nonce a p : List Int) : (sealL key nonce a p).take p.length = smixL key nonce p := by
  rw [sealL, List.take_append_of_le_length (by rw [smixL_length]; omega), List.take_of_length_le (by rw [smixL_length]; omega)]
theorem sealL_drop (key nonce a p : List Int) : (sealL key nonce a p).drop p.length = stagL key nonce a (smixL key nonce p) := by
  have h := smixL_length key nonce p
  rw [sealL, ← h, List.drop_left]
theorem smix_twice (key nonce : List Int) {p : List Int} (hp : ∀ x ∈ p, 0 ≤ x ∧ x < 256) : smixL key nonce (smixL key nonce p) = p := mix_twice _ hp
theorem smixL_byte (key nonce : List Int) {p : List Int} (hp : ∀ x ∈ p, 0 ≤ x ∧ x < 256) : ∀ x ∈ smixL key nonce p, 0 ≤ x ∧ x < 256 := mixL_byte _ hp
theorem sealL_byte (key nonce a : List Int) {p : List Int} (hp : ∀ x ∈ p, 0 ≤ x ∧ x < 256) : ∀ x ∈ sealL key nonce a p, 0 ≤ x ∧ x < 256 := by
  intro x hx
  rcases List.mem_append.1 hx with h | h
  · exact smixL_byte key nonce hp x h
  · exact stagL_byte _ _ _ _ x h
theorem fits_of {key nonce a : List Int} (lk : key.length = 32) (ln : nonce.length = 12) (la : a.length ≤ 256) : fits key nonce a = true := by
  unfold fits
  simp
  omega
theorem open_sealed {key nonce a p : List Int} (hf : fits key nonce a = true) (lp : p.length ≤ 2000) : openE key nonce a (sealL key nonce a p) = 0 := by
  have h := sealL_length key nonce a p
  unfold openE
  rw [if_pos ⟨hf, by omega⟩, if_neg (by omega), if_pos]
  rw [h, Nat.add_sub_cancel, sealL_take, sealL_drop]
theorem open_plain {key nonce a p : List Int} (hf : fits key nonce a = true) (lp : p.length ≤ 2000) (hp : ∀ x ∈ p, 0 ≤ x ∧ x < 256) : openL key nonce a (sealL key nonce a p) = p := by
  have h := sealL_length key nonce a p
  unfold openL
  rw [if_pos (open_sealed hf lp), h, Nat.add_sub_cancel, sealL_take, smix_twice key nonce hp]
theorem openE_is {key nonce a d : List Int} (hf : fits key nonce a = true) (ld : d.length ≤ 2016) : openE key nonce a d = 0 ∧ 16 ≤ d.length ∧ stagL key nonce a (d.take (d.length - 16)) = d.drop (d.length - 16) ∨ openE key nonce a d = 6 ∨ openE key nonce a d = 13 ∧ d.length < 16 := by
  unfold openE
  rw [if_pos ⟨hf, ld⟩]
  by_cases h1 : d.length < 16
  · rw [if_pos h1]; exact .inr (.inr ⟨rfl, h1⟩)
  · rw [if_neg h1]
    by_cases h2 : stagL key nonce a (d.take (d.length - 16)) = d.drop (d.length - 16)
    · rw [if_pos h2]; exact .inl ⟨rfl, by omega, h2⟩
    · rw [if_neg h2]; exact .inr (.inl rfl)
theorem seal_opened {key nonce a d : List Int} (hE : openE key nonce a d = 0) (ht : stagL key nonce a (d.take (d.length - 16)) = d.drop (d.length - 16)) (hd : ∀ x ∈ d, 0 ≤ x ∧ x < 256) : sealL key nonce a (openL key nonce a d) = d := by
  unfold openL
  rw [if_pos hE, sealL, smix_twice key nonce (fun x hx => hd x (List.mem_of_mem_take hx)), ht, List.take_append_drop]
end Go.Proofs.YtpoaabjpeigooaaDoor
