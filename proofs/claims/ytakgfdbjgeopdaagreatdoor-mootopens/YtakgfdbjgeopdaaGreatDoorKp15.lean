/-
  The walks of sha.Draw.
-/
import Derived.Lib.SmallJoins
import Derived.Test.YtakgfdbjgeopdaaGreatDoorKp14
import Derived.Test.YtakgfdbjgeopdaaGreatDoorKp7
namespace Go.Proofs.YtakgfdbjgeopdaaGreatDoor
open Go.RowKit
set_option maxRecDepth 100000

theorem numbered_any (va vi : Value) (a i : List Int) (c : Int) (w : World) (ha : Sl w va a) (hi : Sl w vi i) (hal : a.length ≤ 1000) (hil : i.length ≤ 1000) (hc : 0 ≤ c ∧ c < 256) :
    Calls Tryz.prog 129 #[va, vi, .int .u8 c] w fun e w' => ∃ v', e = .returned v' ∧ w'.ownsRow w.heap.size 5 1 v' (a ++ i ++ [c]).length ((a ++ i ++ [c]).map (Value.int .u8)) ∧ Below w.heap.size w w' := by
  obtain ⟨i0, hi0, hz0, hz1, hz2⟩ := info_parts info5
  have hs := ha
  have hs2 := hi
  obtain ⟨⟨aa, cap, rfl, _, _, _⟩, hla, hba⟩ := ha
  obtain ⟨⟨a2, cap2, rfl, _, _, _⟩, hla2, hba2⟩ := hi
  clear hba hba2
  go_enter Tryz.func129, Tryz.ntmps129
  go_wp2_with (at_make; refine wpList_make_own _ rfl _ _ 26 rfl w.heap.size 5 i0 (.int .u8 0) 1 Tryz.underlying26 hi0 hz0 hz1 _ _ _ (a.length + i.length + 1) rfl rfl (by omega) (by rw [hz2]; omega) (by unfold maxLen; omega) (Nat.le_refl _) ?_)
  intro w1 ho1 hg1
  have hb1 : Below w.heap.size w w1 := (Below.refl _ _).grown hg1 (Nat.le_refl _) (by simp)
  have ho1' : w1.ownsRow w.heap.size 5 1 (.slice (some ⟨w.heap.size, 0, none⟩) 0 (a.length + i.length + 1)) ([] : List Int).length (([] : List Int).map (Value.int .u8)) := ho1
  clear ho1 hg1
  go_wp2_with (at_builtin; refine wpList_append_sl _ rfl _ _ 26 rfl w.heap.size 5 Tryz.underlying26 info5 _ _ rfl rfl [] a ho1' (hs.below hb1) (by simp; omega) hb1.size ?_)
  intro v2 w2 ho2 hg2
  have ho2' : w2.ownsRow w.heap.size 5 1 v2 a.length (a.map (Value.int .u8)) := by simpa using ho2
  have hb2 : Below w.heap.size w w2 := hb1.grown hg2 hb1.size (by simp [Value.ownBlock])
  have hlt2 := ho2'.lt
  clear ho1' hg2 hb1 ho2
  go_wp2_with (at_builtin; refine wpList_append_sl _ rfl _ _ 26 rfl w.heap.size 5 Tryz.underlying26 info5 _ _ rfl rfl a i ho2' (hs2.below hb2) (by omega) hb2.size ?_)
  intro v3 w3 ho3 hg3
  have ho3' : w3.ownsRow w.heap.size 5 1 v3 (a ++ i).length ((a ++ i).map (Value.int .u8)) := by simpa using ho3
  have hb3 : Below w.heap.size w w3 := hb2.grown hg3 hb2.size (fun k hk => (hlt2 k hk).1)
  have hlt3 := ho3'.lt
  clear ho2' hg3 hb2 ho3 hlt2
  go_wp2_with (at_builtin; refine wpList_append_sl _ rfl _ _ 26 rfl w.heap.size 5 Tryz.underlying26 info5 _ _ rfl rfl (a ++ i) [c] (ho3'.alloc _) (Sl.one _ _ _ rfl hc) (by simp; omega) (by have := hb3.size; simp; omega) ?_)
  intro v4 w4 ho4 hg4
  have ho4' : w4.ownsRow w.heap.size 5 1 v4 (a ++ i ++ [c]).length ((a ++ i ++ [c]).map (Value.int .u8)) := by simpa using ho4
  have hb4 : Below w.heap.size w w4 := (hb3.alloc hb3.size _).grown hg4 (by have := hb3.size; simp; omega) (fun k hk => (hlt3 k hk).1)
  clear ho3' hg4 hb3 ho4 hlt3
  go_wp2
  go_ret
  exact ⟨v4, rfl, ho4', hb4⟩

theorem Sl.grown {w w' : World} {b off n cap : Nat} {l : List Int} {row : Option Nat} (h : Sl w (.slice (some ⟨b, off, none⟩) n cap) l) (hg : w.grownBy w' row) (hne : some b ≠ row) : Sl w' (.slice (some ⟨b, off, none⟩) n cap) l := by
  obtain ⟨⟨a, cap', e, hc, hn, h1⟩, h2, h3⟩ := h
  refine ⟨⟨a, cap', e, hc, hn, ?_⟩, h2, h3⟩
  simp only [Value.slice.injEq] at e
  obtain ⟨rfl, _, _⟩ := e
  rcases h1 with h1 | ⟨b', off', e', hbs, hcell⟩
  · exact .inl h1
  · simp only [Option.some.injEq, Addr.mk.injEq, and_true] at e'
    obtain ⟨rfl, rfl⟩ := e'
    refine .inr ⟨b, off, rfl, Nat.lt_of_lt_of_le hbs hg.size, fun i hi => ?_⟩
    rw [← hcell i hi]
    exact World.cell?_of_block (w := w) (hg.block b hbs hne)

/-- the blocks that are drawn, and all of them one behind the other -/
def blk (key info : List Int) : Nat → List Int
  | 0 => []
  | i + 1 => macL key (blk key info i ++ info ++ [(i : Int) + 1])
def stream (key info : List Int) : Nat → List Int
  | 0 => []
  | i + 1 => stream key info i ++ blk key info (i + 1)
def drawL (key info : List Int) (n : Nat) : List Int := (stream key info 16).take n

theorem blk_length (key info : List Int) (i : Nat) : (blk key info (i + 1)).length = 32 := macL_length _ _
theorem blk_byte (key info : List Int) (i : Nat) : ∀ x ∈ blk key info i, 0 ≤ x ∧ x < 256 := by
  cases i with
  | zero => intro x hx; cases hx
  | succ i => exact macL_byte _ _
theorem blk_le (key info : List Int) (i : Nat) : (blk key info i).length ≤ 32 := by
  cases i with
  | zero => simp [blk]
  | succ i => rw [blk_length]; omega
theorem stream_length (key info : List Int) (i : Nat) : (stream key info i).length = 32 * i := by
  induction i with
  | zero => rfl
  | succ i ih => rw [stream, List.length_append, ih, blk_length]; omega
theorem stream_byte (key info : List Int) (i : Nat) : ∀ x ∈ stream key info i, 0 ≤ x ∧ x < 256 := by
  induction i with
  | zero => intro x hx; cases hx
  | succ i ih =>
    intro x hx
    rcases List.mem_append.1 hx with h | h
    · exact ih x h
    · exact blk_byte key info (i + 1) x h
theorem stream_take (key info : List Int) (n i j : Nat) (hn : n ≤ 32 * i) : (stream key info (i + j)).take n = (stream key info i).take n := by
  induction j with
  | zero => rfl
  | succ j ih => rw [← Nat.add_assoc, stream, List.take_append_of_le_length (by rw [stream_length]; omega), ih]
theorem draw_step (key info : List Int) (n i : Nat) : (stream key info (i + 1)).take n = (stream key info i).take n ++ (blk key info (i + 1)).take (n - 32 * i) := by
  rw [stream, List.take_append, stream_length]

set_option maxHeartbeats 1000000 in
theorem expand_any (vk vi : Value) (k i : List Int) (n : Nat) (w : World) (hk : Sl w vk k) (hi : Sl w vi i) (hkl : k.length ≤ 1000) (hil : i.length ≤ 900) (hn : n ≤ 512) (ht : TabAt w) :
    Calls Tryz.prog 82 #[vk, vi, .int .i64 n] w fun e w' => ∃ v', e = .returned v' ∧ w'.ownsRow w.heap.size 5 1 v' (drawL k i n).length ((drawL k i n).map (Value.int .u8)) ∧ Below w.heap.size w w' := by
  obtain ⟨i0, hi0, hz0, hz1, hz2⟩ := info_parts info5
  go_enter Tryz.func82, Tryz.ntmps82
  go_wp2_with (at_make; refine wpList_make_own _ rfl _ _ 26 rfl w.heap.size 5 i0 (.int .u8 0) 1 Tryz.underlying26 hi0 hz0 hz1 _ _ _ n rfl rfl (by omega) (by rw [hz2]; omega) (by unfold maxLen; omega) (Nat.le_refl _) ?_)
  intro w1 ho1 hg1
  have hb1 : Below w.heap.size w w1 := (Below.refl _ _).grown hg1 (Nat.le_refl _) (by simp)
  have ho1' : w1.ownsRow w.heap.size 5 1 (.slice (some ⟨w.heap.size, 0, none⟩) 0 n) ((stream k i 0).take n).length (((stream k i 0).take n).map (Value.int .u8)) := by simpa [stream] using ho1
  clear ho1 hg1
  go_wp2_with fail
  go_loopw [7, 8, 9] (fun v b c wr => ∃ j : Nat, j ≤ 16 ∧ c = .int .u8 ((j : Int) + 1) ∧ (∃ m cap, v = .slice (some ⟨m, 0, none⟩) (min (32 * j) n) cap) ∧ Sl wr b (blk k i j) ∧ wr.ownsRow w.heap.size 5 1 v ((stream k i j).take n).length (((stream k i j).take n).map (Value.int .u8)) ∧ Below w.heap.size w wr) (fun _ _ c _ => (17 - intOf c).toNat)
  case atStart => exact ⟨0, by omega, rfl, ⟨w.heap.size, n, by simp⟩, Sl.nil _ _, ho1', hb1⟩
  case round =>
    clear ho1' hb1
    obtain ⟨j, hj, rfl, ⟨m, cap, rfl⟩, sb, hown, hb⟩ := hrel
    have hlt := hown.lt
    by_cases hc : 32 * j < n
    · have hmin : min (32 * j) n = 32 * j := by omega
      rw [hmin] at hown hlt ⊢
      have hmw : m < wr.heap.size := (hlt m rfl).2
      have hlen : ((stream k i j).take n).length = 32 * j := by rw [List.length_take, stream_length]; omega
      have hbl := blk_le k i j
      have hj15 : j ≤ 15 := by omega
      have HB : Hid (blk k i (j + 1) = macL k (blk k i j ++ i ++ [(j : Int) + 1])) := rfl
      have HS := draw_step k i n j
      have HSS : Hid _ := HS
      have yb : ∀ x ∈ blk k i j ++ i ++ [(j : Int) + 1], 0 ≤ x ∧ x < 256 := fun x hx => by
        rcases List.mem_append.1 hx with h | h
        · rcases List.mem_append.1 h with h | h
          · exact sb.byte x h
          · exact hi.byte x h
        · obtain rfl : x = (j : Int) + 1 := by simpa using h
          omega
      clear HS hmin
      go_wp2_with fail
      refine (numbered_any _ vi (blk k i j) i ((j : Int) + 1) wr sb (hi.below hb) (by omega) (by omega) (by omega)).mono ?_
      rintro e w2 ⟨v2, rfl, ho2, hb2⟩
      have hB2 : Below w.heap.size w w2 := hb.trans (hb2.mono hb.size)
      have l2 : (blk k i j ++ i ++ [(j : Int) + 1]).length ≤ 2000 := by simp; omega
      have s2 := Sl.ofOwns ho2 (by omega) yb
      go_wp2_with fail
      refine (mac_any vk v2 k _ w2 (hk.below hB2) s2 (by omega) (by omega) (ht.below hB2)).mono ?_
      rintro e w3 ⟨v3, rfl, f3⟩
      rw [← HB.out] at f3
      obtain ⟨g3, c3, hv3, _, hc3⟩ := f3.shape
      have s3 := f3.sl
      have hb3 := f3.bel
      have l3 := blk_length k i j
      rw [l3] at hv3 hc3
      subst hv3
      clear HB f3 s2 ho2 l2 yb sb
      have ho3 := hown
      have hown3 : w3.ownsRow w.heap.size 5 1 (.slice (some ⟨m, 0, none⟩) (32 * j) cap) ((stream k i j).take n).length (((stream k i j).take n).map (Value.int .u8)) := by
        refine hown.kept (row := none) ⟨(hb2.trans (hb3.mono hb2.size)).os, (hb2.trans (hb3.mono hb2.size)).tape, (hb2.trans (hb3.mono hb2.size)).output, (hb2.trans (hb3.mono hb2.size)).size, fun q hq _ => (hb2.trans (hb3.mono hb2.size)).block q hq⟩ (.inr (by simp [Value.ownBlock]))
      have hB3 : Below w.heap.size w w3 := hB2.trans (hb3.mono hB2.size)
      have hlt3 := hown3.lt
      have HL : Hid ((stream k i (j + 1)).take n = (stream k i j).take n ++ (blk k i (j + 1)).take (n - 32 * j)) := HSS.out
      clear HSS ho3 hown hlt
      have hM : ((blk k i (j + 1)).take (n - 32 * j)).length = min (n - 32 * j) 32 := by rw [List.length_take, l3]
      have sM : Sl w3 (.slice (some ⟨g3, 0, none⟩) (min (n - 32 * j) 32) c3) ((blk k i (j + 1)).take (n - 32 * j)) := by
        by_cases hq : n - 32 * j ≤ 32
        · rw [Nat.min_eq_left hq]
          exact s3.take (n - 32 * j) (by omega)
        · rw [Nat.min_eq_right (by omega), List.take_of_length_le (by omega)]
          exact s3
      have HN := s3
      have hlt2 : ((stream k i (j + 1)).take n).length = min (32 * (j + 1)) n := by rw [List.length_take, stream_length]; omega
      have HL2 : Hid (((stream k i (j + 1)).take n).length = min (32 * (j + 1)) n) := hlt2
      clear HN hlt2
      generalize (blk k i (j + 1)).take (n - 32 * j) = M at sM hM HL
      generalize (stream k i j).take n = P at hown3 hlt3 hlen HL
      have SB : Sl w3 (.slice (some ⟨g3, 0, none⟩) 32 c3) (blk k i (j + 1)) := s3
      clear s3
      have hmin : (min (32 : Int) ((n : Int) - 32 * (j : Int))).toNat = min (n - 32 * j) 32 := by omega
      have sM' : Sl w3 (.slice (some ⟨g3, 0, none⟩) (min (32 : Int) ((n : Int) - 32 * (j : Int))).toNat c3) M := by rw [hmin]; exact sM
      have hmlt : m < w2.heap.size := Nat.lt_of_lt_of_le hmw hb2.size
      clear hmin sM
      go_wp2_with (at_builtin; refine wpList_append_sl _ rfl _ _ 26 rfl w.heap.size 5 Tryz.underlying26 info5 _ _ rfl rfl P M hown3 sM' (by omega) hB3.size ?_)
      intro v4 w4 ho4 hg4
      have ho4' : w4.ownsRow w.heap.size 5 1 v4 (P ++ M).length ((P ++ M).map (Value.int .u8)) := by simpa [hlen, hM] using ho4
      have hb4 : Below w.heap.size w w4 := hB3.grown hg4 hB3.size (fun k hk => (hlt3 k hk).1)
      have SB4 : Sl w4 (.slice (some ⟨g3, 0, none⟩) 32 c3) (blk k i (j + 1)) := SB.grown hg4 (by simp [Value.ownBlock]; omega)
      obtain ⟨g4, c4, hv4, _, _, _, _, _⟩ := owns_shape ho4' (by intro e; have := congrArg List.length e; rw [List.length_append, hlen, hM] at this; simp at this; omega)
      have hPM : (P ++ M).length = min (32 * (j + 1)) n := by rw [← HL.out]; exact HL2.out
      rw [← HL.out] at ho4'
      rw [hPM] at hv4
      subst hv4
      clear ho4 hg4 hown3 hlt3 hB3 SB sM' hM HL HL2 hPM hlen
      go_wp2
      go_roundw
      case rel => exact ⟨j + 1, by omega, by go_num, ⟨g4, c4, rfl⟩, SB4, ho4', hb4⟩
      case measure => simp [intOf]; omega
    · have hmin : min (32 * j) n = n := by omega
      rw [hmin] at hown ⊢
      have HQ : Hid (drawL k i n = (stream k i j).take n) := by
        unfold Hid drawL
        have := stream_take k i n j (16 - j) (by omega)
        rw [show j + (16 - j) = 16 by omega] at this
        exact this
      go_wp2
      go_ret
      refine ⟨_, rfl, ?_, hb⟩
      rw [HQ.out]
      exact hown

end Go.Proofs.YtakgfdbjgeopdaaGreatDoor
/-
  The walk of sha.Draw.
-/
namespace Go.Proofs.YtakgfdbjgeopdaaGreatDoor
open Go.RowKit
set_option maxRecDepth 100000

theorem drawL_length (k i : List Int) (n : Nat) (h : n ≤ 512) : (drawL k i n).length = n := by
  unfold drawL; rw [List.length_take, stream_length]; omega
theorem drawL_byte (k i : List Int) (n : Nat) : ∀ x ∈ drawL k i n, 0 ≤ x ∧ x < 256 := fun x hx => stream_byte k i 16 x (List.mem_of_mem_take hx)

theorem Draw_ok (v0 v1 v2 : Value) (l0 l1 l2 : List Int) (n : Nat) (w : World) (h0 : Sl w v0 l0) (h1 : Sl w v1 l1) (h2 : Sl w v2 l2) (hl0 : l0.length ≤ 256) (hl1 : l1.length ≤ 256) (hl2 : l2.length ≤ 256) (hn : n ≤ 512) (ht : TabAt w) :
    Calls Tryz.prog 43 #[v0, v1, v2, .int .i64 n] w fun e w' => ∃ v', e = .returned (.tuple #[v', .int .i64 0]) ∧ w'.ownsRow w.heap.size 5 1 v' (drawL (macL l1 l0) l2 n).length ((drawL (macL l1 l0) l2 n).map (Value.int .u8)) ∧ Below w.heap.size w w' := by
  have s0 := h0
  have s1 := h1
  have s2 := h2
  obtain ⟨⟨a0, c0, rfl, _, _, _⟩, _, _⟩ := h0
  obtain ⟨⟨a1, c1, rfl, _, _, _⟩, _, _⟩ := h1
  obtain ⟨⟨a2, c2, rfl, _, _, _⟩, _, _⟩ := h2
  have d0 : decide ((256 : Int) < (l0.length : Int)) = false := by simp; omega
  have d1 : decide ((256 : Int) < (l1.length : Int)) = false := by simp; omega
  have d2 : decide ((256 : Int) < (l2.length : Int)) = false := by simp; omega
  have d3 : decide ((n : Int) < 0) = false := by simp
  have d4 : decide ((512 : Int) < (n : Int)) = false := by simp; omega
  go_enter Tryz.func43, Tryz.ntmps43
  go_wp2_with fail
  refine (mac_any _ _ l1 l0 w s1 s0 (by omega) (by omega) ht).mono ?_
  rintro e w1 ⟨v1, rfl, f1⟩
  have lm := macL_length l1 l0
  go_wp2_with fail
  refine (expand_any v1 _ (macL l1 l0) l2 n w1 f1.sl (s2.below f1.bel) (by omega) (by omega) hn (ht.below f1.bel)).mono ?_
  rintro e w2 ⟨v2, rfl, ho2, hb2⟩
  go_wp2
  go_ret2
  exact ⟨v2, rfl, owns_lower ho2 f1.bel.size, f1.bel.trans (hb2.mono f1.bel.size)⟩

theorem Draw_no (a0 a1 a2 : Option Addr) (n0 n1 n2 c0 c1 c2 : Nat) (n : Int) (w : World) (hl0 : n0 ≤ 140737488351232) (hl1 : n1 ≤ 140737488351232) (hl2 : n2 ≤ 140737488351232) (hb1 : -9223372036854775808 ≤ n) (hb2 : n ≤ 9223372036854775807)
    (h : 256 < n0 ∨ 256 < n1 ∨ 256 < n2 ∨ n < 0 ∨ 512 < n) :
    Calls Tryz.prog 43 #[.slice a0 n0 c0, .slice a1 n1 c1, .slice a2 n2 c2, .int .i64 n] w fun e w' => e = .returned (.tuple #[.slice none 0 0, .int .i64 1]) ∧ w' = w := by
  by_cases h0 : 256 < n0
  · have d0 : decide ((256 : Int) < (n0 : Int)) = true := by simp; omega
    go_enter Tryz.func43, Tryz.ntmps43
    go_wp2
    go_ret2
    exact ⟨rfl, rfl⟩
  have d0 : decide ((256 : Int) < (n0 : Int)) = false := by simp; omega
  by_cases h1 : 256 < n1
  · have d1 : decide ((256 : Int) < (n1 : Int)) = true := by simp; omega
    go_enter Tryz.func43, Tryz.ntmps43
    go_wp2
    go_ret2
    exact ⟨rfl, rfl⟩
  have d1 : decide ((256 : Int) < (n1 : Int)) = false := by simp; omega
  by_cases h2 : 256 < n2
  · have d2 : decide ((256 : Int) < (n2 : Int)) = true := by simp; omega
    go_enter Tryz.func43, Tryz.ntmps43
    go_wp2
    go_ret2
    exact ⟨rfl, rfl⟩
  have d2 : decide ((256 : Int) < (n2 : Int)) = false := by simp; omega
  by_cases h3 : n < 0
  · have d3 : decide (n < 0) = true := by simp; omega
    go_enter Tryz.func43, Tryz.ntmps43
    go_wp2
    go_ret2
    exact ⟨rfl, rfl⟩
  have d3 : decide (n < 0) = false := by simp; omega
  have d4 : decide ((512 : Int) < n) = true := by simp; omega
  go_enter Tryz.func43, Tryz.ntmps43
  go_wp2
  go_ret2
  exact ⟨rfl, rfl⟩
end Go.Proofs.YtakgfdbjgeopdaaGreatDoor
/-
  The keys of clients and of who grants tokens, in plain lists. No program is named here.
-/
namespace Go.Proofs.YtakgfdbjgeopdaaGreatDoor
open Go.RowKit

/-- a client's key -/
def keyL (c : Int) : List Int := drawL (macL [99, 108, 105, 101, 110, 116] [c]) [] 32
/-- the issuer's -/
def issL : List Int := drawL (macL [105, 115, 115, 117, 101, 114] [255]) [] 32
theorem keyL_length (c : Int) : (keyL c).length = 32 := drawL_length _ _ 32 (by omega)
theorem issL_length : issL.length = 32 := drawL_length _ _ 32 (by omega)
theorem keyL_byte (c : Int) : ∀ x ∈ keyL c, 0 ≤ x ∧ x < 256 := drawL_byte _ _ _
theorem issL_byte : ∀ x ∈ issL, 0 ≤ x ∧ x < 256 := drawL_byte _ _ _
/-- six bytes of a text that is laid -/
theorem Sl.sixM (w : World) (l : List Int) (e : TypeId) (fr : Nat × Nat) {g : Nat} (hg : g = w.heap.size) (hl : l.length = 6) (hb : ∀ x ∈ l, 0 ≤ x ∧ x < 256) : Sl (w.alloc (.cells (l.map (Value.int .u8)).toArray e fr)) (.slice (some ⟨g, 0, none⟩) 6 6) l := by
  subst hg
  refine ⟨⟨_, 6, by rw [hl], by omega, by simp, .inr ⟨w.heap.size, 0, rfl, by simp, fun i hi => ?_⟩⟩, by omega, hb⟩
  rw [cell_of_row _ _ (0 + i) _ _ _ (heap_alloc_new w _)]
  simp [List.getElem?_eq_getElem hi, List.getD]
end Go.Proofs.YtakgfdbjgeopdaaGreatDoor
/-
  The walk of the factor of a key's first half.
-/
namespace Go.Proofs.YtakgfdbjgeopdaaGreatDoor
open Go.RowKit

/-- the bits of a byte of the factor that count -/
def clampAt (t : Nat) (x : Int) : Int := if t % 4 = 3 then x % 16 else if t % 4 = 0 ∧ 0 < t then x / 4 * 4 else x
def clampL (l : List Int) : List Int := (List.range 16).map fun t => clampAt t (l.getD t 0)
theorem clampL_length (l : List Int) : (clampL l).length = 16 := by simp [clampL]
theorem clampL_get (l : List Int) (t : Nat) (h : t < 16) : (clampL l).getD t 0 = clampAt t (l.getD t 0) := by
  simp [clampL, List.getD, List.getElem?_map, List.getElem?_range h]
theorem clampAt_byte (t : Nat) {x : Int} (h : 0 ≤ x ∧ x < 256) : 0 ≤ clampAt t x ∧ clampAt t x < 256 := by
  unfold clampAt
  split
  · omega
  · split <;> omega
theorem clampL_byte {l : List Int} (h : ∀ x ∈ l, 0 ≤ x ∧ x < 256) : ∀ x ∈ clampL l, 0 ≤ x ∧ x < 256 := by
  intro x hx
  obtain ⟨t, _, rfl⟩ := List.mem_map.1 hx
  exact clampAt_byte t (getD_byte h t)
theorem eq_of_getD {l m : List Int} (h : l.length = m.length) (hg : ∀ t, t < l.length → l.getD t 0 = m.getD t 0) : l = m := by
  apply List.ext_getElem h
  intro t h1 h2
  have := hg t h1
  rwa [getD_at h1, getD_at h2] at this

theorem and15 (x : Int) (h0 : 0 ≤ x) (h1 : x < 256) : bits .and .u8 x 15 = x % 16 := by
  obtain ⟨n, rfl⟩ := Int.eq_ofNat_of_zero_le h0
  rw [show (15 : Int) = ((15 : Nat) : Int) from rfl, u8_and_nat _ _ (by omega) (by omega), show (15 : Nat) = 2 ^ 4 - 1 from rfl, Nat.and_two_pow_sub_one_eq_mod]
  omega
theorem and252_nat : ∀ n : Fin 256, n.val &&& 252 = n.val / 4 * 4 := by decide +kernel
theorem and252 (x : Int) (h0 : 0 ≤ x) (h1 : x < 256) : bits .and .u8 x 252 = x / 4 * 4 := by
  obtain ⟨n, rfl⟩ := Int.eq_ofNat_of_zero_le h0
  have e : n &&& 252 = n / 4 * 4 := and252_nat ⟨n, by omega⟩
  rw [show (252 : Int) = ((252 : Nat) : Int) from rfl, u8_and_nat _ _ (by omega) (by omega), e]
  omega

/-- what stands after j bytes whose upper bits were struck -/
structure Upper (l m : List Int) (j : Nat) : Prop where
  len : m.length = 16
  at_ : ∀ t, m.getD t 0 = if t % 4 = 3 ∧ t < 3 + 4 * j then l.getD t 0 % 16 else l.getD t 0
theorem Upper.zero {l : List Int} (h : l.length = 16) : Upper l l 0 := by
  refine ⟨h, fun t => ?_⟩
  rw [if_neg (by omega)]
theorem Upper.succ {l m : List Int} {j : Nat} (h : Upper l m j) (hj : j < 4) : Upper l (m.set (3 + 4 * j) (m.getD (3 + 4 * j) 0 % 16)) (j + 1) := by
  refine ⟨by simpa using h.len, fun t => ?_⟩
  by_cases e : 3 + 4 * j = t
  · subst e
    rw [getD_set_same (by rw [h.len]; omega), h.at_, if_neg (by omega), if_pos (by omega)]
  · rw [getD_set_other e, h.at_]
    by_cases c : t % 4 = 3 ∧ t < 3 + 4 * j
    · rw [if_pos c, if_pos (by omega)]
    · rw [if_neg c, if_neg (by omega)]
/-- what stands after j bytes whose lower bits were struck, too -/
structure Lower (l m : List Int) (j : Nat) : Prop where
  len : m.length = 16
  at_ : ∀ t, t < 16 → m.getD t 0 = if t % 4 = 3 then l.getD t 0 % 16 else if t % 4 = 0 ∧ 0 < t ∧ t < 4 + 4 * j then l.getD t 0 / 4 * 4 else l.getD t 0
theorem Upper.lower {l m : List Int} (h : Upper l m 4) : Lower l m 0 := by
  refine ⟨h.len, fun t ht => ?_⟩
  rw [h.at_]
  by_cases c : t % 4 = 3
  · rw [if_pos (by omega), if_pos c]
  · rw [if_neg (by omega), if_neg c, if_neg (by omega)]
theorem Lower.succ {l m : List Int} {j : Nat} (h : Lower l m j) (hj : j < 3) : Lower l (m.set (4 + 4 * j) (m.getD (4 + 4 * j) 0 / 4 * 4)) (j + 1) := by
  refine ⟨by simpa using h.len, fun t ht => ?_⟩
  by_cases e : 4 + 4 * j = t
  · subst e
    rw [getD_set_same (by rw [h.len]; omega), h.at_ _ ht, if_neg (by omega), if_neg (by omega), if_neg (by omega), if_pos (by omega)]
  · rw [getD_set_other e, h.at_ _ ht]
    by_cases c : t % 4 = 3
    · rw [if_pos c, if_pos c]
    · rw [if_neg c, if_neg c]
      by_cases d : t % 4 = 0 ∧ 0 < t ∧ t < 4 + 4 * j
      · rw [if_pos d, if_pos (by omega)]
      · rw [if_neg d, if_neg (by omega)]
theorem Lower.clamp {l m : List Int} (h : Lower l m 3) : m = clampL l := by
  refine eq_of_getD (by rw [h.len, clampL_length]) (fun t ht => ?_)
  rw [h.len] at ht
  rw [h.at_ t ht, clampL_get l t ht, clampAt]
  by_cases c : t % 4 = 3
  · rw [if_pos c, if_pos c]
  · rw [if_neg c, if_neg c]
    by_cases d : t % 4 = 0 ∧ 0 < t
    · rw [if_pos d, if_pos (by omega)]
    · rw [if_neg d, if_neg (by omega)]
theorem Upper.byte {l m : List Int} {j : Nat} (h : Upper l m j) (hl : ∀ x ∈ l, 0 ≤ x ∧ x < 256) (t : Nat) : 0 ≤ m.getD t 0 ∧ m.getD t 0 < 256 := by
  have := getD_byte hl t
  rw [h.at_]; split <;> omega
theorem Lower.byte {l m : List Int} {j : Nat} (h : Lower l m j) (hl : ∀ x ∈ l, 0 ≤ x ∧ x < 256) (t : Nat) (ht : t < 16) : 0 ≤ m.getD t 0 ∧ m.getD t 0 < 256 := by
  have := getD_byte hl t
  rw [h.at_ t ht]; split
  · omega
  · split <;> omega

set_option maxHeartbeats 1000000 in
set_option maxRecDepth 100000 in
theorem factor_any (v : Value) (l : List Int) (w : World) (h : Sl w v l) (hl : l.length = 16) :
    Calls Tryz.prog 224 #[v] w fun e w' => ∃ r, e = .returned (.agg (nArr r)) ∧ Lim 67108864 r ∧ val r % pp = leN (clampL l) % pp ∧ Below w.heap.size w w' := by
  have hs := h
  obtain ⟨⟨a, cap, rfl, hc, hn, h1⟩, hla, hba⟩ := h
  have HBY : Hid (∀ x ∈ l, 0 ≤ x ∧ x < 256) := hba
  clear h1 hba hn hla
  have HL : Hid (l.length = 16) := hl
  go_enter Tryz.func224, Tryz.ntmps224
  go_wp2_with (refine wpList_copy_splice rfl _ _ 26 26 rfl 5 Tryz.underlying26 info5s _ _ _ _ _ _ rfl rfl (w.heap.size + 1) 0 ((List.replicate 16 (0 : Int)).map (Value.int .u8)) 294 (heap_alloc2_new _ _ _) (l.map (Value.int .u8)) (by rw [List.length_map]; exact (Nat.min_eq_left (show l.length ≤ 16 by omega)).symm) (fun hp => ⟨rfl, (hs.below (((Below.refl _ _).alloc (Nat.le_refl _) _).alloc (by simp) _)).src (by simpa using hp)⟩) (by rw [List.length_map, List.length_map, List.length_replicate]; omega) (ints_one _) (w.heap.size + 1) _ (Below.refl _ _) (Nat.le_refl _) ?_)
  intro w2 H2 hb2
  have hr2 : w2.heap[w.heap.size + 1]? = some (.cells (byA l) 294 (0, 0)) := by
    have h3 : w2.heap[w.heap.size + 1]? = some (.cells (splice ((List.replicate 16 (0 : Int)).map (Value.int .u8)) 0 (l.map (Value.int .u8))).toArray 294 (0, 0)) := H2.out
    rw [splice_zeros, hl] at h3
    simpa [byA] using h3
  have hB2 : Below w.heap.size w w2 := (((Below.refl _ _).alloc (Nat.le_refl _) _).alloc (by simp) _).trans (hb2.mono (by omega))
  have hq2 : w2.heap[w.heap.size]? = some (.cells (nArr [0, 0, 0, 0, 0]) 273 (0, 0)) := by
    rw [hb2.block _ (by omega)]; exact heap_alloc2_old _ _ _
  clear H2 hb2 hs
  go_wp2_with fail
  go_loopw [4] (fun i wr => ∃ (j : Nat) (m : List Int), j ≤ 4 ∧ i = .int .i64 (3 + 4 * (j : Int)) ∧ Upper l m j ∧ wr.heap[w.heap.size]? = some (.cells (nArr [0, 0, 0, 0, 0]) 273 (0, 0)) ∧ wr.heap[w.heap.size + 1]? = some (.cells (byA m) 294 (0, 0)) ∧ Below w.heap.size w wr) (fun i _ => 20 - (intOf i).toNat)
  case atStart => exact ⟨0, l, by omega, rfl, Upper.zero HL.out, hq2, hr2, hB2⟩
  case round =>
    clear hq2 hr2 hB2
    obtain ⟨j, m, hj, rfl, hu, hq, hr, hb⟩ := hrel
    have hm := hu.len
    by_cases hj4 : j < 4
    · have hji : 3 + 4 * (j : Int) < 16 := by omega
      have cl := (cell_of_row _ _ (3 + 4 * j) _ _ _ hr).trans (byA_get m (3 + 4 * j) (by omega))
      have fl := frozen_of_row _ _ (3 + 4 * j) _ _ hr
      have hby := hu.byte HBY.out (3 + 4 * j)
      have HS : Hid (Upper l (m.set (3 + 4 * j) (m.getD (3 + 4 * j) 0 % 16)) (j + 1)) := hu.succ hj4
      have hand := and15 (m.getD (3 + 4 * j) 0) hby.1 hby.2
      generalize m.getD (3 + 4 * j) 0 = x at cl HS hby hand
      clear hu
      go_wp2
      go_roundw
      case rel =>
        refine ⟨j + 1, _, by omega, by go_num, HS.out, ?_, byA_store hr _ _, ?_⟩
        · exact (heap_setCell_other _ _ _ _ (by simp)).trans hq
        · exact hb.setCell (p := ⟨w.heap.size + 1, 3 + 4 * j, none⟩) (by simp) _
      case measure => simp [intOf]; omega
    · have HJ : Hid (j = 4) := by unfold Hid; omega
      have hji : ¬ 3 + 4 * (j : Int) < 16 := by omega
      have hlo : Lower l m 0 := by have := HJ.out; subst this; exact hu.lower
      clear hu
      go_wp2_with fail
      go_loopw [5] (fun i wr => ∃ (j : Nat) (m : List Int), j ≤ 3 ∧ i = .int .i64 (4 + 4 * (j : Int)) ∧ Lower l m j ∧ wr.heap[w.heap.size]? = some (.cells (nArr [0, 0, 0, 0, 0]) 273 (0, 0)) ∧ wr.heap[w.heap.size + 1]? = some (.cells (byA m) 294 (0, 0)) ∧ Below w.heap.size w wr) (fun i _ => 20 - (intOf i).toNat)
      case atStart => exact ⟨0, m, by omega, rfl, hlo, hq, hr, hb⟩
      case round =>
        clear hq hr hb hlo hm
        obtain ⟨k, m, hk, rfl, hu, hq, hr, hb⟩ := hrel
        have hm := hu.len
        by_cases hk3 : k < 3
        · have hki : 4 + 4 * (k : Int) < 16 := by omega
          have cl := (cell_of_row _ _ (4 + 4 * k) _ _ _ hr).trans (byA_get m (4 + 4 * k) (by omega))
          have fl := frozen_of_row _ _ (4 + 4 * k) _ _ hr
          have hby := hu.byte HBY.out (4 + 4 * k) (by omega)
          have HS : Hid (Lower l (m.set (4 + 4 * k) (m.getD (4 + 4 * k) 0 / 4 * 4)) (k + 1)) := hu.succ hk3
          have hand := and252 (m.getD (4 + 4 * k) 0) hby.1 hby.2
          generalize m.getD (4 + 4 * k) 0 = x at cl HS hby hand
          clear hu
          go_wp2
          go_roundw
          case rel =>
            refine ⟨k + 1, _, by omega, by go_num, HS.out, ?_, byA_store hr _ _, ?_⟩
            · exact (heap_setCell_other _ _ _ _ (by simp)).trans hq
            · exact hb.setCell (p := ⟨w.heap.size + 1, 4 + 4 * k, none⟩) (by simp) _
          case measure => simp [intOf]; omega
        · have hki : ¬ 4 + 4 * (k : Int) < 16 := by omega
          have HK : Hid (k = 3) := by unfold Hid; omega
          have hmc : m = clampL l := by have := HK.out; subst this; exact hu.clamp
          have s3 : Sl wr (.slice (some ⟨w.heap.size + 1, 0, none⟩) 16 16) m := by
            refine Sl.rowOf hr hm (by omega) ?_
            rw [hmc]; exact clampL_byte HBY.out
          have HM : Hid (m = clampL l) := hmc
          have HS3 : Hid _ := s3
          have hzz : w.heap.size < wr.heap.size := (Array.getElem?_eq_some_iff.1 hq).1
          clear hu s3 hmc hr
          go_wp2_with fail
          refine (read_any _ m _ HS3.out (by omega)).mono ?_
          rintro e w4 ⟨r, rfl, lr, vr, hb4⟩
          have hq4 := (hb4.block w.heap.size hzz).trans hq
          have hB4 : Below w.heap.size w w4 := hb.trans (hb4.mono hb.size)
          have hsz2 := nInfo lr.1
          go_wp2_with ((with_reducible (refine wpList_look ?_)); (refine wpList_store_row rfl 273 _ _ rfl (w.heap.size) _ rfl rfl 273 _ hq4 hsz2 (by rw [nArr_size, nArr_size, lr.1]; rfl) (nArr_one r) ?_))
          exact bodyPost_ret (v := .agg (nArr r)) (results_cell_row rfl _ _ (w.heap.size) 273 _ (0, 0) _ rfl (setRow_heap w4 (w.heap.size) _ _ 273 _ hq4) Tryz.underlying273 rfl hsz2) rfl ⟨r, rfl, lr, by rw [vr, HM.out], below_row hB4 (Nat.le_refl _) _⟩
end Go.Proofs.YtakgfdbjgeopdaaGreatDoor
