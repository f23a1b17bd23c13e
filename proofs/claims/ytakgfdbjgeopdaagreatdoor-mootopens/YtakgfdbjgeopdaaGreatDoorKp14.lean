/-
  The walks of a Mac: a key as one block, a block with a mark mixed in, the Mac itself.
-/
import Derived.Laws.CopyOwn
import Derived.Test.YtakgfdbjgeopdaaGreatDoorKp1
import Derived.Test.YtakgfdbjgeopdaaGreatDoorKp13
namespace Go.Proofs.YtakgfdbjgeopdaaGreatDoor
open Go.RowKit
set_option maxRecDepth 100000

def fillTo (l : List Int) (n : Nat) : List Int := l ++ List.replicate (n - l.length) 0
def keyOf (l : List Int) : List Int := if 64 < l.length then dig l else l
def fk (l : List Int) : List Int := fillTo (keyOf l) 64
def markL (k : List Int) (m : Int) : List Int := k.map fun x => bits .xor .u8 x m
def macL (key b : List Int) : List Int := dig (markL (fk key) 92 ++ dig (markL (fk key) 54 ++ b))

theorem fillTo_length (l : List Int) (n : Nat) (h : l.length ≤ n) : (fillTo l n).length = n := by simp [fillTo]; omega
theorem fillTo_byte {l : List Int} (h : ∀ x ∈ l, 0 ≤ x ∧ x < 256) (n : Nat) : ∀ x ∈ fillTo l n, 0 ≤ x ∧ x < 256 := by
  intro x hx
  rcases List.mem_append.1 hx with h1 | h1
  · exact h x h1
  · rw [List.eq_of_mem_replicate h1]; omega
theorem keyOf_length (l : List Int) : (keyOf l).length ≤ 64 := by
  unfold keyOf
  split
  · rw [dig_length]; omega
  · omega
theorem keyOf_byte {l : List Int} (h : ∀ x ∈ l, 0 ≤ x ∧ x < 256) : ∀ x ∈ keyOf l, 0 ≤ x ∧ x < 256 := by
  unfold keyOf
  split
  · exact dig_byte l
  · exact h
theorem fk_length (l : List Int) : (fk l).length = 64 := fillTo_length _ _ (keyOf_length l)
theorem fk_byte {l : List Int} (h : ∀ x ∈ l, 0 ≤ x ∧ x < 256) : ∀ x ∈ fk l, 0 ≤ x ∧ x < 256 := fillTo_byte (keyOf_byte h) 64
theorem markL_length (l : List Int) (m : Int) : (markL l m).length = l.length := by simp [markL]
theorem markL_byte {l : List Int} (h : ∀ x ∈ l, 0 ≤ x ∧ x < 256) {m : Int} (hm : 0 ≤ m ∧ m < 256) : ∀ x ∈ markL l m, 0 ≤ x ∧ x < 256 := by
  intro x hx
  obtain ⟨y, hy, rfl⟩ := List.mem_map.1 hx
  have hb := h y hy
  rw [u8_xor _ _ hb.1 hb.2 hm.1 hm.2]
  have : y.toNat ^^^ m.toNat < 256 := Nat.xor_lt_two_pow (n := 8) (by omega) (by omega)
  omega
theorem macL_length (k b : List Int) : (macL k b).length = 32 := rfl
theorem macL_byte (k b : List Int) : ∀ x ∈ macL k b, 0 ≤ x ∧ x < 256 := dig_byte _

theorem info5size : (Tryz.prog.info? 5).map (·.size) = some 1 := by kernel_rfl

theorem splice_fill (l : List Int) : splice ((List.replicate 64 (0 : Int)).map (Value.int .u8)) 0 (l.map (Value.int .u8)) = (fillTo l 64).map (Value.int .u8) := by
  have e : (List.replicate 64 (0 : Int)).map (Value.int .u8) = List.replicate 64 (Value.int .u8 0) := List.map_replicate
  rw [e]
  simp only [splice, fillTo, List.take_zero, List.nil_append, List.length_map, Nat.zero_add, List.drop_replicate, List.map_append, List.map_replicate]

theorem wpList_store_rowB {P : Program} {ops : Array Oper} {rest : List Oper} {o : Oper} {a : Act} {w : World} {Q : Exit → Act → World → Prop} (hgd : o.guard = none) (ty : TypeId) (x y : Operand) (ho : o.op = .store ty x y)
    (g : Nat) (cells : Array Value) (hx : a.eval x = .pointer (some ⟨g, 0, none⟩)) (hy : a.eval y = .agg cells)
    (t : TypeId) (old : Array Value) (hg : w.heap[g]? = some (.cells old t (0, 0))) (hi : (P.info? ty).map (·.size) = some cells.size)
    (hold : old.size = cells.size) (h1 : cells.all (·.oneCell') = true) (B : Nat) (w0 : World) (hb : Below B w0 w) (hBg : B ≤ g)
    (h : ∀ w', w'.heap[g]? = some (.cells cells t (0, 0)) → Below B w0 w' → wpList P ops Q rest (a.put o.dst undef) w') : wpList P ops Q (o :: rest) a w :=
  wpList_store_row hgd ty x y ho g cells hx hy t old hg hi hold h1 (h _ (setRow_heap w g _ _ t _ hg) (below_setRowAt hb hBg _))

theorem Sl.copySrc {w : World} {sp : Option Addr} {n c : Nat} {l : List Int} (h : Sl w (.slice sp n c) l) (hp : 0 < l.length) : ∃ ad, sp = some ad ∧ ∀ (j : Nat) (v : Value), (l.map (Value.int .u8))[j]? = some v → w.cell? (ad.add j) = some v := by
  obtain ⟨⟨a, cap, e, hc, hn, h1⟩, hla, hba⟩ := h
  simp only [Value.slice.injEq] at e
  obtain ⟨rfl, rfl, rfl⟩ := e
  rcases h1 with rfl | ⟨b, off, rfl, _, hcell⟩
  · simp at hp
  · refine ⟨_, rfl, fun j v hj => ?_⟩
    have hjl : j < l.length := by
      have := (List.getElem?_eq_some_iff.1 hj).1
      simpa using this
    have hadd : (⟨b, off, none⟩ : Addr).add j = ⟨b, off + j, none⟩ := by unfold Addr.add; split <;> simp_all
    rw [hadd, hcell j hjl]
    simp [List.getElem?_eq_getElem hjl] at hj
    rw [getD_at hjl, hj]

set_option maxHeartbeats 1000000 in
set_option maxRecDepth 100000 in
theorem fullKey_any (v : Value) (l : List Int) (w : World) (h : Sl w v l) (hl : l.length ≤ 100000) (ht : TabAt w) :
    Calls Tryz.prog 130 #[v] w fun e w' => e = .returned (.agg (bArr (fk l))) ∧ Below w.heap.size w w' := by
  have hs := h
  obtain ⟨⟨a, cap, rfl, hc, hn, h1⟩, hla, hba⟩ := h
  have H1 : Hid _ := h1
  have hsz : (Tryz.prog.info? 186).map (·.size) = some (bArr (fk l)).size := by rw [bArr_size, fk_length]; kernel_rfl
  clear h1 hba
  by_cases hk : 64 < l.length
  · have ek : keyOf l = dig l := by unfold keyOf; rw [if_pos hk]
    have EK : Hid (fk l = fillTo (dig l) 64) := by unfold Hid fk; rw [ek]
    clear ek
    go_enter Tryz.func130, Tryz.ntmps130
    go_wp2_with fail
    generalize hW0 : w.alloc _ = W0
    have hb0 : Below w.heap.size w W0 := by rw [← hW0]; exact (Below.refl _ _).alloc (Nat.le_refl _) _
    have hr0 : W0.heap[w.heap.size]? = some (.cells (bArr (List.replicate 64 0)) 186 (0, 0)) := by rw [← hW0]; exact heap_alloc_new _ _
    have hs0 : W0.heap.size = w.heap.size + 1 := by rw [← hW0]; simp
    clear hW0
    refine (digest_any _ l W0 (hs.below hb0) hl (ht.below hb0)).mono ?_
    rintro e w1 ⟨v1, rfl, ho1, hb1⟩
    obtain ⟨g1, c1, hv, hgB, hgs, hcp, hcell, _⟩ := owns_shape ho1 (ne_of_length (dig_length l))
    subst hv
    have hr1 : w1.heap[w.heap.size]? = some (.cells (bArr (List.replicate 64 0)) 186 (0, 0)) := (hb1.block _ (by omega)).trans hr0
    have hB1 : Below w.heap.size w w1 := hb0.trans (hb1.mono hb0.size)
    have hz1 : w.heap.size < w1.heap.size := (Array.getElem?_eq_some_iff.1 hr1).1
    have s1 : Sl w1 (.slice (some ⟨g1, 0, none⟩) (dig l).length c1) (dig l) := Sl.ofOwns ho1 (by rw [dig_length]; omega) (dig_byte l)
    go_wp2_with (refine wpList_copy_splice rfl _ _ 26 26 rfl 5 Tryz.underlying26 info5size _ _ _ _ _ _ rfl rfl w1.heap.size 0 ((List.replicate 64 (0 : Int)).map (Value.int .u8)) 186 (heap_alloc_new _ _) ((dig l).map (Value.int .u8)) (by rw [List.length_map, dig_length]; rfl) (fun _ => ⟨rfl, (s1.below ((Below.refl _ _).alloc (Nat.le_refl _) _)).copySrc (by rw [dig_length]; omega)⟩) (by rw [List.length_map, dig_length]; simp) (ints_one _) w1.heap.size _ (Below.refl _ _) (Nat.le_refl _) ?_)
    intro w2 H2 hb2
    have hr2 : w2.heap[w1.heap.size]? = some (.cells (bArr (fk l)) 186 (0, 0)) := by
      have h3 : w2.heap[w1.heap.size]? = some (.cells (splice ((List.replicate 64 (0 : Int)).map (Value.int .u8)) 0 ((dig l).map (Value.int .u8))).toArray 186 (0, 0)) := H2.out
      rw [splice_fill] at h3
      rw [EK.out]; exact h3
    have hB2 : Below w.heap.size w w2 := (hB1.alloc hB1.size _).trans (hb2.mono (by omega))
    have hq2 : w2.heap[w.heap.size]? = some (.cells (bArr (List.replicate 64 0)) 186 (0, 0)) := by
      rw [hb2.block _ hz1, heap_alloc_old _ _ hz1]; exact hr1
    clear H2 hb2 hr1 hr0 hs0 hb0 hb1 hcell ho1 s1 hgs hgB
    go_wp2_with (first | (refine wpList_load_row rfl 186 _ rfl w1.heap.size rfl 186 _ (0, 0) _ hr2 Tryz.underlying186 rfl hsz ?_) | (refine wpList_store_row rfl 186 _ _ rfl w.heap.size _ rfl rfl 186 _ hq2 hsz (by rw [bArr_size, bArr_size, fk_length]; rfl) (bArr_one _) ?_))
    refine bodyPost_ret (v := .agg (bArr (fk l))) (results_cell_row rfl _ _ w.heap.size 186 _ (0, 0) _ rfl (setRow_heap w2 w.heap.size _ _ 186 _ hq2) Tryz.underlying186 rfl hsz) rfl ⟨rfl, below_setRowAt hB2 (Nat.le_refl _) _⟩
  · have ek : keyOf l = l := by unfold keyOf; rw [if_neg hk]
    have EK : Hid (fk l = fillTo l 64) := by unfold Hid fk; rw [ek]
    clear ek
    go_enter Tryz.func130, Tryz.ntmps130
    go_wp2_with (refine wpList_copy_splice rfl _ _ 26 26 rfl 5 Tryz.underlying26 info5size _ _ _ _ _ _ rfl rfl (w.heap.size + 1) 0 ((List.replicate 64 (0 : Int)).map (Value.int .u8)) 186 (heap_alloc2_new _ _ _) (l.map (Value.int .u8)) (by rw [List.length_map]; exact (Nat.min_eq_left (show l.length ≤ 64 by omega)).symm) (fun hp => ⟨rfl, (hs.below (((Below.refl _ _).alloc (Nat.le_refl _) _).alloc (by simp) _)).copySrc (by simpa using hp)⟩) (by rw [List.length_map, List.length_map, List.length_replicate]; omega) (ints_one _) (w.heap.size + 1) _ (Below.refl _ _) (Nat.le_refl _) ?_)
    intro w2 H2 hb2
    have hr2 : w2.heap[w.heap.size + 1]? = some (.cells (bArr (fk l)) 186 (0, 0)) := by
      have h3 : w2.heap[w.heap.size + 1]? = some (.cells (splice ((List.replicate 64 (0 : Int)).map (Value.int .u8)) 0 (l.map (Value.int .u8))).toArray 186 (0, 0)) := H2.out
      rw [splice_fill] at h3
      rw [EK.out]; exact h3
    have hB2 : Below w.heap.size w w2 := (((Below.refl _ _).alloc (Nat.le_refl _) _).alloc (by simp) _).trans (hb2.mono (by omega))
    have hq2 : w2.heap[w.heap.size]? = some (.cells (bArr (List.replicate 64 0)) 186 (0, 0)) := by
      rw [hb2.block _ (by omega)]; exact heap_alloc2_old _ _ _
    clear H2 hb2
    go_wp2_with (first | (refine wpList_load_row rfl 186 _ rfl (w.heap.size + 1) rfl 186 _ (0, 0) _ hr2 Tryz.underlying186 rfl hsz ?_) | (refine wpList_store_row rfl 186 _ _ rfl w.heap.size _ rfl rfl 186 _ hq2 hsz (by rw [bArr_size, bArr_size, fk_length]; rfl) (bArr_one _) ?_))
    refine bodyPost_ret (v := .agg (bArr (fk l))) (results_cell_row rfl _ _ w.heap.size 186 _ (0, 0) _ rfl (setRow_heap w2 w.heap.size _ _ 186 _ hq2) Tryz.underlying186 rfl hsz) rfl ⟨rfl, below_setRowAt hB2 (Nat.le_refl _) _⟩

theorem index64 (l : List Int) (hl : l.length = 64) (j : Nat) (hj : j < 64) : ∀ w, (Instr.index 186 (.agg (bArr l)) (.int .i64 (j : Int))).run Tryz.prog w = .ok (.int .u8 (l.getD j 0)) w := by
  intro w
  have hg : (bArr l)[j]? = some (.int .u8 (l.getD j 0)) := by
    simp [bArr, List.getElem?_eq_getElem (show j < l.length by omega), List.getD]
  have h0 : (0 : Int) ≤ j ∧ (j : Int) < 64 := by omega
  simp [Instr.index, run_underlying Tryz.underlying186, asIntOf, h0, part, hg]
  intro h
  omega

set_option maxHeartbeats 1000000 in
theorem marked_any (k : List Int) (m : Int) (w : World) (hk : k.length = 64) (hm : 0 ≤ m ∧ m < 256) (hb : ∀ x ∈ k, 0 ≤ x ∧ x < 256) :
    Calls Tryz.prog 132 #[.agg (bArr k), .int .u8 m] w fun e w' => ∃ v', e = .returned v' ∧ w'.ownsRow w.heap.size 5 1 v' (markL k m).length ((markL k m).map (Value.int .u8)) ∧ Below w.heap.size w w' := by
  obtain ⟨i0, hi, hz0, hz1, hz2⟩ := info_parts info5
  have hsz : (Tryz.prog.info? 186).map (·.size) = some (bArr k).size := by rw [bArr_size, hk]; kernel_rfl
  have HK : Hid (k.length = 64) := hk
  clear hk
  go_enter Tryz.func132, Tryz.ntmps132
  go_wp2_with (at_make; refine wpList_make_own _ rfl _ _ 26 rfl w.heap.size 5 i0 (.int .u8 0) 1 Tryz.underlying26 hi hz0 hz1 _ _ _ 64 rfl rfl (by omega) (by rw [hz2]; omega) (by unfold maxLen; omega) (by simp) ?_)
  intro w1 ho1 hg1
  have hb1 : Below w.heap.size w w1 := ((Below.refl _ _).alloc (Nat.le_refl _) _).grown hg1 (by simp) (by simp)
  have hrow : w1.heap[w.heap.size]? = some (.cells (bArr k) 186 (0, 0)) := by
    rw [hg1.block w.heap.size (by simp) (by simp)]
    exact heap_alloc_new _ _
  have ho1' : w1.ownsRow w.heap.size 5 1 (.slice (some ⟨w.heap.size + 1, 0, none⟩) 0 64) (markL (k.take 0) m).length ((markL (k.take 0) m).map (Value.int .u8)) := ho1
  clear ho1 hg1
  go_wp2_with (refine wpList_load_row rfl 186 _ rfl w.heap.size rfl 186 _ (0, 0) _ hrow Tryz.underlying186 rfl hsz ?_)
  go_loopw [5, 10] (fun v i wr => ∃ j : Nat, j ≤ 64 ∧ i = .int .i64 j ∧ wr.ownsRow w.heap.size 5 1 v (markL (k.take j) m).length ((markL (k.take j) m).map (Value.int .u8)) ∧ Below w.heap.size w wr) (fun _ i _ => 64 - (intOf i).toNat)
  case atStart => exact ⟨0, by omega, rfl, ho1', hb1⟩
  case round =>
    clear ho1' hb1 hrow
    obtain ⟨j, hj, rfl, hown, hbw⟩ := hrel
    have hlt := hown.lt
    by_cases hj64 : j < 64
    · have hix := index64 k HK.out j hj64
      have hlen : (markL (k.take j) m).length ≤ 64 := by rw [markL_length, List.length_take]; omega
      have HT : Hid (markL (k.take (j + 1)) m = markL (k.take j) m ++ [bits .xor .u8 (k.getD j 0) m]) := by
        unfold Hid
        have hjl : j < k.length := by rw [HK.out]; exact hj64
        rw [List.take_succ_eq_append_getElem hjl, getD_at hjl, markL, List.map_append]
        rfl
      have hxb := getD_byte hb j
      have hyb : 0 ≤ bits .xor .u8 (k.getD j 0) m ∧ bits .xor .u8 (k.getD j 0) m < 256 := by
        rw [u8_xor _ _ hxb.1 hxb.2 hm.1 hm.2]
        have : (k.getD j 0).toNat ^^^ m.toNat < 256 := Nat.xor_lt_two_pow (n := 8) (by omega) (by omega)
        omega
      have HY : Hid (0 ≤ bits .xor .u8 (k.getD j 0) m ∧ bits .xor .u8 (k.getD j 0) m < 256) := hyb
      generalize markL (k.take j) m = pre at hown HT hlen
      generalize k.getD j 0 = x at hix HT hxb hyb HY
      clear hyb hxb
      go_wp2_with (at_builtin; refine wpList_append_sl _ rfl _ _ 26 rfl w.heap.size 5 Tryz.underlying26 info5 _ _ rfl rfl pre _ (hown.alloc _) (Sl.one _ _ _ rfl HY.out) (by simp; omega) (by have := hbw.size; simp; omega) ?_)
      intro v' w' ho hg
      have ho' : w'.ownsRow w.heap.size 5 1 v' (pre ++ [bits .xor .u8 x m]).length ((pre ++ [bits .xor .u8 x m]).map (Value.int .u8)) := by simpa using ho
      have hb' : Below w.heap.size w w' := (hbw.alloc hbw.size _).grown hg (by have := hbw.size; simp; omega) (fun k hk => (hlt k hk).1)
      clear ho hg hown hlt hbw
      go_wp2
      go_roundw
      case rel => exact ⟨j + 1, by omega, by go_num, by rw [HT.out]; exact ho', hb'⟩
      case measure => simp [intOf]; omega
    · have HJ : Hid (k.take j = k) := by unfold Hid; exact List.take_of_length_le (by rw [HK.out]; omega)
      go_wp2
      go_ret
      refine ⟨u5, rfl, ?_, hbw⟩
      rw [HJ.out] at hown
      exact hown

set_option maxHeartbeats 1000000 in
set_option maxRecDepth 100000 in
theorem mac_any (vk vb : Value) (k b : List Int) (w : World) (hk : Sl w vk k) (hb : Sl w vb b) (hkl : k.length ≤ 100000) (hbl : b.length ≤ 90000) (ht : TabAt w) :
    Calls Tryz.prog 83 #[vk, vb] w fun e w' => ∃ v', e = .returned v' ∧ Fresh w w' v' (macL k b) := by
  have hsz : (Tryz.prog.info? 186).map (·.size) = some (bArr (fk k)).size := by rw [bArr_size, fk_length]; kernel_rfl
  have hfb := fk_byte hk.byte
  have hfl := fk_length k
  have HF : Hid (macL k b = dig (markL (fk k) 92 ++ dig (markL (fk k) 54 ++ b))) := rfl
  go_enter Tryz.func83, Tryz.ntmps83
  go_wp2_with fail
  refine (fullKey_any vk k w hk hkl ht).mono ?_
  rintro e w1 ⟨rfl, hb1⟩
  generalize fk k = K at hsz hfb hfl HF ⊢
  go_wp2_with (refine wpList_store_rowB rfl 186 _ _ rfl w1.heap.size _ rfl rfl 186 _ (heap_alloc_new _ _) hsz (by rw [bArr_size, hfl]; rfl) (bArr_one _) w.heap.size w (hb1.alloc hb1.size _) hb1.size ?_)
  intro w2 hrow hb2
  have hz : w1.heap.size < w2.heap.size := (Array.getElem?_eq_some_iff.1 hrow).1
  go_wp2_with (refine wpList_load_row rfl 186 _ rfl w1.heap.size rfl 186 _ (0, 0) _ hrow Tryz.underlying186 rfl hsz ?_)
  refine (marked_any K 54 w2 hfl (by omega) hfb).mono ?_
  rintro e w3 ⟨v3, rfl, ho3, hb3⟩
  have hB3 : Below w.heap.size w w3 := hb2.trans (hb3.mono hb2.size)
  have hlt3 := ho3.lt
  have lm54 : (markL K 54).length = 64 := by rw [markL_length, hfl]
  have lm92 : (markL K 92).length = 64 := by rw [markL_length, hfl]
  have bm54 := markL_byte hfb (m := 54) (by omega)
  have bm92 := markL_byte hfb (m := 92) (by omega)
  go_wp2_with (at_builtin; refine wpList_append_sl _ rfl _ _ 26 rfl w2.heap.size 5 Tryz.underlying26 info5 _ _ rfl rfl (markL K 54) b ho3 (hb.below hB3) (by omega) hb3.size ?_)
  intro v4 w4 ho4 hg4
  have hb4 : Below w2.heap.size w2 w4 := hb3.grown hg4 hb3.size (fun k hk => (hlt3 k hk).1)
  have hB4 : Below w.heap.size w w4 := hb2.trans (hb4.mono hb2.size)
  have ho4' : w4.ownsRow w2.heap.size 5 1 v4 (markL K 54 ++ b).length ((markL K 54 ++ b).map (Value.int .u8)) := by simpa [lm54] using ho4
  have by4 : ∀ x ∈ markL K 54 ++ b, 0 ≤ x ∧ x < 256 := fun x hx => by
    rcases List.mem_append.1 hx with h | h
    · exact bm54 x h
    · exact hb.byte x h
  have ly4 : (markL K 54 ++ b).length ≤ 91000 := by rw [List.length_append, lm54]; omega
  clear ho4 hg4 ho3 hlt3
  generalize markL K 54 ++ b = L4 at ho4' by4 ly4 HF
  go_wp2_with fail
  refine (digest_any v4 L4 w4 (Sl.ofOwns ho4' (by omega) by4) (by omega) (ht.below hB4)).mono ?_
  rintro e w5 ⟨v5, rfl, ho5, hb5⟩
  have hb5' : Below w2.heap.size w2 w5 := hb4.trans (hb5.mono hb4.size)
  have s5 : Sl w5 v5 (dig L4) := Sl.ofOwns ho5 (by rw [dig_length]; omega) (dig_byte L4)
  have l5 := dig_length L4
  have y5 := dig_byte L4
  generalize dig L4 = D at s5 HF l5 y5
  have hrow5 : w5.heap[w1.heap.size]? = some (.cells (bArr K) 186 (0, 0)) := (hb5'.block _ hz).trans hrow
  clear ho4' ho5
  go_wp2_with (refine wpList_load_row rfl 186 _ rfl w1.heap.size rfl 186 _ (0, 0) _ hrow5 Tryz.underlying186 rfl hsz ?_)
  refine (marked_any K 92 w5 hfl (by omega) hfb).mono ?_
  rintro e w6 ⟨v6, rfl, ho6, hb6⟩
  have hlt6 := ho6.lt
  go_wp2_with (at_builtin; refine wpList_append_sl _ rfl _ _ 26 rfl w5.heap.size 5 Tryz.underlying26 info5 _ _ rfl rfl (markL K 92) D ho6 (s5.below hb6) (by omega) hb6.size ?_)
  intro v7 w7 ho7 hg7
  have hb7 : Below w5.heap.size w5 w7 := hb6.grown hg7 hb6.size (fun k hk => (hlt6 k hk).1)
  have hB5 : Below w.heap.size w w5 := hb2.trans (hb5'.mono hb2.size)
  have hB7 : Below w.heap.size w w7 := hB5.trans (hb7.mono hB5.size)
  have ho7' : w7.ownsRow w5.heap.size 5 1 v7 (markL K 92 ++ D).length ((markL K 92 ++ D).map (Value.int .u8)) := by simpa [lm92, l5] using ho7
  have by7 : ∀ x ∈ markL K 92 ++ D, 0 ≤ x ∧ x < 256 := fun x hx => by
    rcases List.mem_append.1 hx with h | h
    · exact bm92 x h
    · exact y5 x h
  have ly7 : (markL K 92 ++ D).length ≤ 96 := by rw [List.length_append, lm92]; omega
  clear ho7 hg7 ho6 hlt6
  generalize markL K 92 ++ D = L7 at ho7' by7 ly7 HF
  go_wp2_with fail
  refine (digest_any v7 L7 w7 (Sl.ofOwns ho7' (by omega) by7) (by omega) (ht.below hB7)).mono ?_
  rintro e w8 ⟨v8, rfl, ho8, hb8⟩
  go_wp2
  go_ret
  refine ⟨v8, rfl, ?_⟩
  rw [HF.out]
  exact Fresh.ofOwns (owns_lower ho8 hB7.size) (ne_of_length (dig_length L7)) (by rw [dig_length]; omega) (dig_byte L7) (hB7.trans (hb8.mono hB7.size))
end Go.Proofs.YtakgfdbjgeopdaaGreatDoor
/-
  The walk of sha.Mac.
-/
namespace Go.Proofs.YtakgfdbjgeopdaaGreatDoor
open Go.RowKit
set_option maxRecDepth 100000

theorem Mac_ok (vk vb : Value) (k b : List Int) (w : World) (hk : Sl w vk k) (hb : Sl w vb b) (hkl : k.length ≤ 256) (hbl : b.length ≤ 2000) (ht : TabAt w) :
    Calls Tryz.prog 81 #[vk, vb] w fun e w' => ∃ v', e = .returned (.tuple #[v', .int .i64 0]) ∧ Fresh w w' v' (macL k b) := by
  have hs := hk
  have hs2 := hb
  obtain ⟨⟨a, cap, rfl, _, _, _⟩, hla, hba⟩ := hk
  obtain ⟨⟨a2, cap2, rfl, _, _, _⟩, hla2, hba2⟩ := hb
  clear hba hba2
  go_enter Tryz.func81, Tryz.ntmps81
  go_wp2_with fail
  refine (mac_any _ _ k b w hs hs2 (by omega) (by omega) ht).mono ?_
  rintro e w1 ⟨v1, rfl, hf⟩
  go_wp2
  go_ret2
  exact ⟨v1, rfl, hf⟩

theorem Mac_no (a a2 : Option Addr) (n cap n2 cap2 : Nat) (w : World) (hn2 : n ≤ 140737488351232) (hn3 : n2 ≤ 140737488351232) (h : 256 < n ∨ 2000 < n2) :
    Calls Tryz.prog 81 #[.slice a n cap, .slice a2 n2 cap2] w fun e w' => e = .returned (.tuple #[.slice none 0 0, .int .i64 1]) ∧ w' = w := by
  by_cases h1 : 256 < n
  · go_enter Tryz.func81, Tryz.ntmps81
    go_wp2
    go_ret2
    exact ⟨rfl, rfl⟩
  · have h2 : 2000 < n2 := by omega
    have hd : decide ((256 : Int) < (n : Int)) = false := by simp; omega
    go_enter Tryz.func81, Tryz.ntmps81
    go_wp2
    go_ret2
    exact ⟨rfl, rfl⟩
end Go.Proofs.YtakgfdbjgeopdaaGreatDoor
