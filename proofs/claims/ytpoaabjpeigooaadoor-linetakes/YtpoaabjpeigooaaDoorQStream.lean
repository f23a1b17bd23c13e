/-
  The walks of what is refused, and of a block of the stream.
-/
import Derived.Test.YtpoaabjpeigooaaDoorQCha
import Derived.Test.YtpoaabjpeigooaaDoorQBase
import Derived.Laws.OwnMore
import Derived.Maps.AppendAt
namespace Go.Proofs.YtpoaabjpeigooaaDoor
open Go.RowKit

/-- what is wrong with a key, a counter and a nonce -/
def chaErr (key nonce : List Int) (c : Int) : Int := if key.length ≠ 32 ∨ nonce.length ≠ 12 then 1 else if c < 0 ∨ 1073741824 < c then 2 else 0
theorem chaErr_size {key nonce : List Int} {c : Int} (h : key.length ≠ 32 ∨ nonce.length ≠ 12) : chaErr key nonce c = 1 := by unfold chaErr; rw [if_pos h]
theorem chaErr_range {key nonce : List Int} {c : Int} (hk : key.length = 32) (hn : nonce.length = 12) (h : c < 0 ∨ 1073741824 < c) : chaErr key nonce c = 2 := by unfold chaErr; rw [if_neg (by omega), if_pos h]
theorem chaErr_ok {key nonce : List Int} {c : Int} (hk : key.length = 32) (hn : nonce.length = 12) (h : 0 ≤ c ∧ c ≤ 1073741824) : chaErr key nonce c = 0 := by unfold chaErr; rw [if_neg (by omega), if_neg (by omega)]
theorem chaErr_zero {key nonce : List Int} {c : Int} (h : chaErr key nonce c = 0) : key.length = 32 ∧ nonce.length = 12 ∧ 0 ≤ c ∧ c ≤ 1073741824 := by
  unfold chaErr at h
  split at h
  · cases h
  · split at h
    · cases h
    · omega

theorem refused_any (vk vn : Value) (key nonce : List Int) (c : Int) (w : World) (hk : Sl w vk key) (hn : Sl w vn nonce) :
    Calls Tryd.prog 58 #[vk, .int .i64 c, vn] w fun e w' => e = .returned (.int .i64 (chaErr key nonce c)) ∧ w' = w := by
  obtain ⟨⟨ak, ck, rfl, _, _, _⟩, lk, _⟩ := hk
  obtain ⟨⟨an, cn, rfl, _, _, _⟩, ln, _⟩ := hn
  have H1 : Hid (key.length ≠ 32 ∨ nonce.length ≠ 12 → chaErr key nonce c = 1) := chaErr_size
  have H2 : Hid (key.length = 32 → nonce.length = 12 → (c < 0 ∨ 1073741824 < c) → chaErr key nonce c = 2) := chaErr_range
  have H3 : Hid (key.length = 32 → nonce.length = 12 → (0 ≤ c ∧ c ≤ 1073741824) → chaErr key nonce c = 0) := chaErr_ok
  generalize chaErr key nonce c = E at H1 H2 H3 ⊢
  generalize key.length = n at *
  generalize nonce.length = m at *
  go_enter Tryd.func58, Tryd.ntmps58
  by_cases h1 : (n : Int) = 32
  · by_cases h2 : (m : Int) = 12
    · by_cases h3 : c < 0
      · go_wp2
        go_ret
        exact ⟨by rw [H2.out (by omega) (by omega) (by omega)]; rfl, rfl⟩
      · by_cases h4 : 1073741824 < c
        · go_wp2
          go_ret
          exact ⟨by rw [H2.out (by omega) (by omega) (by omega)]; rfl, rfl⟩
        · go_wp2
          go_ret
          exact ⟨by rw [H3.out (by omega) (by omega) (by omega)]; rfl, rfl⟩
    · go_wp2
      go_ret
      exact ⟨by rw [H1.out (by omega)]; rfl, rfl⟩
  · go_wp2
    go_ret
    exact ⟨by rw [H1.out (by omega)]; rfl, rfl⟩

theorem block_row (w : World) (l : List Int) (o : Obj) (t : TypeId) (old : Array Value) (ho : o = .cells old t (0, 0)) {W : World} (hW : (w.alloc o).setRow w.heap.size (bArr l) = W) :
    W.heap[w.heap.size]? = some (.cells (bArr l) t (0, 0)) ∧ Below w.heap.size w W ∧ W.heap.size = w.heap.size + 1 := by
  subst hW
  subst ho
  exact ⟨setRow_heap _ _ _ _ t _ (heap_alloc_new _ _), below_setRowAt' ((Below.refl _ _).alloc (Nat.le_refl _) _) (Nat.le_refl _) _, by simp⟩

theorem Sl.ofRow {w : World} {g : Nat} {l : List Int} {t : TypeId} {fr : Nat × Nat} (h : w.heap[g]? = some (.cells (bArr l) t fr)) (hl : l.length ≤ 140737488351232) (hb : ∀ x ∈ l, 0 ≤ x ∧ x < 256) : Sl w (.slice (some ⟨g, 0, none⟩) l.length l.length) l := by
  refine ⟨⟨_, l.length, rfl, by simp, by simp, .inr ⟨g, 0, rfl, (Array.getElem?_eq_some_iff.1 h).1, fun i hi => ?_⟩⟩, hl, hb⟩
  rw [Nat.zero_add]
  exact (cell_of_row w _ i _ _ _ h).trans (bArr_get l i hi)

/-- a new list of so many bytes, which nothing that was there before shares -/
structure Got (w w' : World) (v : Value) (l : List Int) : Prop where
  sl : Sl w' v l
  bel : Below w.heap.size w w'
  new : ∀ b o n c, v = .slice (some ⟨b, o, none⟩) n c → w.heap.size ≤ b

set_option maxHeartbeats 1000000 in
set_option maxRecDepth 100000 in
theorem block_ok (vk vn : Value) (key nonce : List Int) (c : Nat) (w : World) (hk : Sl w vk key) (hn : Sl w vn nonce) (lk : key.length = 32) (ln : nonce.length = 12) (hc : c ≤ 1073741824) (ht : QTab w) :
    Calls Tryd.prog 61 #[vk, .int .i64 c, vn] w fun e w' => ∃ v', e = .returned (.tuple #[v', .int .i64 0]) ∧ Got w w' v' (blockL (begunL key (BitVec.ofNat 32 c) nonce)) := by
  go_enter Tryd.func61, Tryd.ntmps61
  go_wp2_with fail
  refine (refused_any vk vn key nonce c w hk hn).mono ?_
  rintro e w1 ⟨rfl, rfl⟩
  rw [chaErr_ok lk ln (by omega)]
  go_wp2_with fail
  refine (begun_any vk vn key nonce c w1 hk hn lk ln (by omega)).mono ?_
  rintro e w2 ⟨rfl, b2⟩
  have hl := begunL_length key (BitVec.ofNat 32 c) nonce
  generalize hus : begunL key (BitVec.ofNat 32 c) nonce = us at hl
  have HUS : Hid (begunL key (BitVec.ofNat 32 c) nonce = us) := hus
  clear hus
  go_wp2_with fail
  refine (scrambled_any us w2 hl (ht.below ht.pos b2)).mono ?_
  rintro e w3 ⟨rfl, b3⟩
  have hbl := blockL_length us
  have hbb := blockL_byte us
  generalize hbs : blockL us = bs at hbl hbb
  have HBS : Hid (blockL us = bs) := hbs
  clear hbs
  have hsz : (Tryd.prog.info? 87).map (·.size) = some (bArr bs).size := by rw [bArr_size, hbl]; kernel_rfl
  have hone : (bArr bs).all (·.oneCell') = true := by simp [bArr, Value.oneCell']
  go_wp2_with ((with_reducible (refine wpList_id ?_)); refine wpList_store_row rfl 87 _ _ rfl w3.heap.size _ rfl rfl 87 (bArr (List.replicate 64 0)) (heap_alloc_new _ _) hsz (by rw [bArr_size, bArr_size, hbl]; rfl) hone ?_)
  generalize hW4 : World.setRow _ _ _ = W4
  obtain ⟨hr, b4, _⟩ := block_row w3 bs _ 87 (bArr (List.replicate 64 0)) rfl hW4
  go_ret2
  refine ⟨_, rfl, ?_, (b2.trans (b3.mono b2.size)).trans (b4.mono (Nat.le_trans b2.size b3.size)), fun b o n c e => ?_⟩
  · rw [HUS.out, HBS.out]
    have := Sl.ofRow hr (by omega) hbb
    rw [hbl] at this
    exact this
  · have := Nat.le_trans b2.size b3.size
    injection e with e1
    injection e1 with e2
    injection e2 with e3
    omega

theorem block_no (vk vn : Value) (key nonce : List Int) (c : Int) (w : World) (hk : Sl w vk key) (hn : Sl w vn nonce) (hE : chaErr key nonce c ≠ 0) :
    Calls Tryd.prog 61 #[vk, .int .i64 c, vn] w fun e w' => e = .returned (.tuple #[.slice none 0 0, .int .i64 (chaErr key nonce c)]) ∧ w' = w := by
  go_enter Tryd.func61, Tryd.ntmps61
  go_wp2_with fail
  refine (refused_any vk vn key nonce c w hk hn).mono ?_
  rintro e w1 ⟨rfl, rfl⟩
  generalize hEE : chaErr key nonce c = E at hE
  have HE : Hid (chaErr key nonce c = E) := hEE
  clear hEE
  go_wp2
  go_ret2
  exact ⟨by rw [HE.out]; rfl, rfl⟩
end Go.Proofs.YtpoaabjpeigooaaDoor
/-
  The walk of the mixing of bytes with the stream.
-/
namespace Go.Proofs.YtpoaabjpeigooaaDoor
open Go.RowKit

theorem bx_bits {x y : Int} (hx : 0 ≤ x ∧ x < 256) (hy : 0 ≤ y ∧ y < 256) : bits .xor .u8 x y = bx x y := by
  obtain ⟨a, rfl⟩ : ∃ a : Nat, x = a := ⟨x.toNat, by omega⟩
  obtain ⟨b, rfl⟩ : ∃ b : Nat, y = b := ⟨y.toNat, by omega⟩
  rw [u8_xor_nat _ _ (by omega) (by omega)]
  rfl

theorem own_ne {w : World} {base e : Nat} {v : Value} {n : Nat} {xs : List Value} (h : w.ownsRow base e 1 v n xs) {g : Nat} {cs : Array Value} {t : TypeId} {fr : Nat × Nat} (hg : w.heap[g]? = some (.cells cs t fr)) (ht : t ≠ e) : v.ownBlock ≠ some g := by
  intro hv
  rcases h.2 with ⟨rfl, _⟩ | ⟨g', cap, cur, rfl, _, hg', _⟩
  · simp [Value.ownBlock] at hv
  · simp only [Value.ownBlock, Option.some.injEq] at hv
    subst hv
    rw [hg'] at hg
    simp only [Option.some.injEq, Obj.cells.injEq] at hg
    exact ht hg.2.1.symm

theorem owns_keep {w w' : World} {base e : Nat} {v : Value} {n : Nat} {xs : List Value} (h : w.ownsRow base e 1 v n xs) (hk : ∀ k, v.ownBlock = some k → w'.heap[k]? = w.heap[k]?) : w'.ownsRow base e 1 v n xs := by
  refine ⟨h.1, ?_⟩
  rcases h.2 with h2 | ⟨g, cap, cur, hv, hb, hg, hr⟩
  · exact .inl h2
  · exact .inr ⟨g, cap, cur, hv, hb, (hk g (by rw [hv]; rfl)).trans hg, hr⟩

theorem Sl.one2 (w : World) (b b' : Int) (e : TypeId) {g : Nat} (hg : g = w.heap.size) (hb : 0 ≤ b ∧ b < 256) (he : b' = b) : Sl (w.alloc (.cells #[.int .u8 b'] e)) (.slice (some ⟨g, 0, none⟩) 1 1) [b] := by
  subst he; exact Sl.one w b' e hg hb

theorem uw_inc (x : BitVec 32) : (uw x + 1) % (4294967296 : Int) = uw (x + 1#32) := uw_sum2 x 1#32
theorem count_succ (c : BitVec 32) (q : Nat) : c + BitVec.ofNat 32 q + 1#32 = c + BitVec.ofNat 32 (q + 1) := by
  rw [BitVec.add_assoc]
  congr 1
  apply BitVec.eq_of_toNat_eq
  simp [BitVec.toNat_add, BitVec.toNat_ofNat]

/-- a state, so many blocks further on -/
def cntL (ws : List (BitVec 32)) (q : Nat) : List (BitVec 32) := ws.set 12 (ws.getD 12 0#32 + BitVec.ofNat 32 q)
theorem cntL_length (ws : List (BitVec 32)) (q : Nat) : (cntL ws q).length = ws.length := by simp [cntL]
theorem cntL_zero (ws : List (BitVec 32)) (h : ws.length = 16) : cntL ws 0 = ws := by
  unfold cntL
  rw [show BitVec.ofNat 32 0 = 0#32 from rfl, BitVec.add_zero, List.getD, List.getElem?_eq_getElem (by omega), Option.getD_some, List.set_getElem_self]
theorem cntL_at (ws : List (BitVec 32)) (q : Nat) (h : ws.length = 16) : (cntL ws q).getD 12 0#32 = ws.getD 12 0#32 + BitVec.ofNat 32 q := by
  unfold cntL
  simp [List.getD, h]
theorem cntL_succ (ws : List (BitVec 32)) (q : Nat) (h : ws.length = 16) : (cntL ws q).set 12 ((cntL ws q).getD 12 0#32 + 1#32) = cntL ws (q + 1) := by
  rw [cntL_at ws q h, count_succ]
  unfold cntL
  rw [List.set_set]

theorem strAt_block (ws : List (BitVec 32)) (q j : Nat) (hj : j < 64) : strAt ws (64 * q + j) = (blockL (cntL ws q)).getD j 0 := by
  unfold strAt cntL
  rw [show (64 * q + j) / 64 = q by omega, show (64 * q + j) % 64 = j by omega]

set_option maxHeartbeats 2000000 in
set_option maxRecDepth 100000 in
theorem cmixed_any (ws : List (BitVec 32)) (vd : Value) (d : List Int) (w : World) (hws : ws.length = 16) (hd : Sl w vd d) (hl : d.length ≤ 100000) (ht : QTab w) :
    Calls Tryd.prog 59 #[.agg (wArr ws), vd] w fun e w' => ∃ v', e = .returned v' ∧ w'.ownsRow w.heap.size 5 1 v' (mixL ws d).length ((mixL ws d).map (Value.int .u8)) ∧ Below w.heap.size w w' := by
  obtain ⟨i0, hi, hz0, hz1, hz2⟩ := info_parts info5
  have hds := hd
  obtain ⟨⟨ad, capd, rfl, hc, hn, h1⟩, hla, hba⟩ := hd
  have hpos := ht.pos
  generalize hnn : d.length = n at *
  have HN : Hid (d.length = n) := hnn
  clear hnn h1 hn
  go_enter Tryd.func59, Tryd.ntmps59
  go_wp2_with (at_make; refine wpList_make_own _ rfl _ _ 22 rfl w.heap.size 5 i0 (.int .u8 0) 1 Tryd.underlying22 hi hz0 hz1 _ _ _ n rfl rfl (by omega) (by rw [hz2]; omega) (by unfold maxLen; omega) (by simp) ?_)
  intro w1 ho1 hg1
  have hrow : w1.heap[w.heap.size]? = some (.cells (wArr (cntL ws 0)) 77 (0, 0)) := by
    rw [hg1.block w.heap.size (by simp) (by simp), cntL_zero ws hws]
    exact heap_alloc_new _ _
  have hb1 : Below w.heap.size w w1 := ((Below.refl _ _).alloc (Nat.le_refl _) _).grown hg1 (by simp) (by simp)
  have ho1' : w1.ownsRow w.heap.size 5 1 (.slice (some ⟨w.heap.size + 1, 0, none⟩) 0 n) (mixTo ws d 0).length ((mixTo ws d 0).map (Value.int .u8)) := ho1
  clear hg1 ho1 hz0 hz1 hz2 hi
  go_wp2_with fail
  go_loopw [5] (fun v wr => ∃ (q m : Nat) (a : Option Addr) (cap : Nat), m = min (64 * q) n ∧ v = .slice a m cap ∧ wr.ownsRow w.heap.size 5 1 v (mixTo ws d m).length ((mixTo ws d m).map (Value.int .u8)) ∧ wr.heap[w.heap.size]? = some (.cells (wArr (cntL ws q)) 77 (0, 0)) ∧ Below w.heap.size w wr) (fun v _ => n - lenV v)
  case atStart => exact ⟨0, 0, _, _, by omega, rfl, ho1', hrow, hb1⟩
  case round =>
    clear ho1' hrow hb1
    obtain ⟨q, m, a, cap, hm, rfl, hown, hrow, hb⟩ := hrel
    have HM : Hid (m = min (64 * q) n) := hm
    have hmle : m ≤ n := by omega
    clear hm
    have hBlt : w.heap.size < wr.heap.size := (Array.getElem?_eq_some_iff.1 hrow).1
    by_cases hmn : m < n
    · have hmni : (m : Int) < (n : Int) := by omega
      have HM64 : Hid (m = 64 * q) := by have := HM.out; unfold Hid; omega
      have hul : (cntL ws q).length = 16 := by rw [cntL_length]; exact hws
      have HBL : Hid (∀ j, j < 64 → strAt ws (m + j) = (blockL (cntL ws q)).getD j 0) := fun j hj => by rw [HM64.out]; exact strAt_block ws q j hj
      have hsz : (Tryd.prog.info? 77).map (·.size) = some (wArr (cntL ws q)).size := by rw [wArr_size, hul]; kernel_rfl
      have HSU : Hid ((cntL ws q).set 12 ((cntL ws q).getD 12 0#32 + 1#32) = cntL ws (q + 1)) := cntL_succ ws q hws
      generalize cntL ws q = us at hrow hul HBL hsz HSU
      go_wp2_with ((with_reducible (refine wpList_id ?_)); refine wpList_load_row rfl 77 _ rfl w.heap.size rfl 77 _ (0, 0) _ hrow Tryd.underlying77 rfl hsz ?_)
      refine (scrambled_any us wr hul (ht.below hpos hb)).mono ?_
      rintro e w2 ⟨rfl, b2⟩
      have hbl := blockL_length us
      have hbb := blockL_byte us
      generalize blockL us = bs at hbl hbb HBL
      have hsz2 : (Tryd.prog.info? 87).map (·.size) = some (bArr bs).size := by rw [bArr_size, hbl]; kernel_rfl
      have hone : (bArr bs).all (·.oneCell') = true := by simp [bArr, Value.oneCell']
      have hkeep : ∀ k, Value.ownBlock (.slice a m cap) = some k → k < wr.heap.size := fun k hk => (hown.lt k hk).2
      by_cases h64 : (64 : Int) ≤ (n : Int) - (m : Int)
      · have HRr : Hid (m + 64 = min (64 * (q + 1)) n) := by have := HM64.out; unfold Hid; omega
        have hrn : m + 64 ≤ n := by omega
        have hr64 : 64 ≤ 64 := by omega
        go_wp2_with ((with_reducible (refine wpList_id ?_)); refine wpList_store_row rfl 87 _ _ rfl w2.heap.size _ rfl rfl 87 (bArr (List.replicate 64 0)) (heap_alloc_new _ _) hsz2 (by rw [bArr_size, bArr_size, hbl]; rfl) hone ?_)
        generalize hW3 : World.setRow _ _ _ = W3
        obtain ⟨hg3, b3, hs3⟩ := block_row w2 bs _ 87 (bArr (List.replicate 64 0)) rfl hW3
        clear hW3
        have b23 : Below wr.heap.size wr W3 := b2.trans (b3.mono b2.size)
        have hrow3 := (b23.block w.heap.size hBlt).trans hrow
        have hown3 := owns_keep hown (fun k hk => b23.block k (hkeep k hk))
        have hb3 : Below w.heap.size w W3 := hb.trans (b23.mono hb.size)
        have hgB : w.heap.size < w2.heap.size := Nat.lt_of_lt_of_le hBlt b2.size
        clear hown hrow hb b2 b3 b23 hkeep hs3 hsz hsz2 hone hmn hmni
        generalize w2.heap.size = g at hg3 hgB ⊢
        go_loopw [5, 27] (fun v i wr => ∃ (j : Nat) (a : Option Addr) (cap : Nat), j ≤ 64 ∧ i = .int .i64 j ∧ v = .slice a (m + j) cap ∧ wr.ownsRow w.heap.size 5 1 v (mixTo ws d (m + j)).length ((mixTo ws d (m + j)).map (Value.int .u8)) ∧ wr.heap[w.heap.size]? = some (.cells (wArr us) 77 (0, 0)) ∧ wr.heap[g]? = some (.cells (bArr bs) 87 (0, 0)) ∧ Below w.heap.size w wr) (fun _ i _ => 64 - (intOf i).toNat)
        case atStart => exact ⟨0, a, cap, by omega, rfl, rfl, hown3, hrow3, hg3, hb3⟩
        case round =>
          clear hown3 hrow3 hg3 hb3
          obtain ⟨j, a2, cap2, hj, rfl, rfl, hown, hrow, hg, hb⟩ := hrel
          by_cases hjr : j < 64
          · have hjri : (j : Int) < (64 : Int) := by omega
            have hlt := hown.lt
            have cb := (cell_of_row wr _ j _ _ _ hg).trans (bArr_get bs j (by omega))
            obtain ⟨bd, od, rfl, hbd, hcd⟩ : ∃ bd od, ad = some ⟨bd, od, none⟩ ∧ bd < w.heap.size ∧ w.cell? ⟨bd, od + (m + j), none⟩ = some (.int .u8 (d.getD (m + j) 0)) := by
              obtain ⟨⟨a', cap', e', _, _, h1'⟩, _, _⟩ := hds
              rw [HN.out] at e' h1'
              simp only [Value.slice.injEq] at e'
              obtain ⟨rfl, _, _⟩ := e'
              rcases h1' with h1' | ⟨b', o', rfl, hb', hc'⟩
              · have := HN.out; rw [h1'] at this; simp at this; omega
              · exact ⟨b', o', rfl, hb', hc' (m + j) (by omega)⟩
            have cd := (hb.cell (p := ⟨bd, od + (m + j), none⟩) hbd).trans hcd
            have y1 := getD_byte hbb j
            have y2 := getD_byte hba (m + j)
            have HV : Hid (mixTo ws d (m + (j + 1)) = mixTo ws d (m + j) ++ [bx (bs.getD j 0) (d.getD (m + j) 0)]) := by
              unfold Hid
              rw [← HBL.out j (by omega)]
              rfl
            have hml := mixTo_length ws d (m + j)
            have HBX := bx_byte y1 y2
            have HXX : Hid (bits .xor .u8 (bs.getD j 0) (d.getD (m + j) 0) = bx (bs.getD j 0) (d.getD (m + j) 0)) := bx_bits y1 y2
            have HBB : Hid (0 ≤ bx (bs.getD j 0) (d.getD (m + j) 0) ∧ bx (bs.getD j 0) (d.getD (m + j) 0) < 256) := HBX
            clear HBX hcd
            generalize bs.getD j 0 = x at cb y1 HV HXX HBB
            generalize d.getD (m + j) 0 = y at cd y2 HV HXX HBB
            generalize bx x y = xy at HV HXX HBB
            generalize mixTo ws d (m + j) = pre at hown hml HV
            go_wp2_with (at_builtin; refine wpList_append_sl _ rfl _ _ 22 rfl w.heap.size 5 Tryd.underlying22 info5 _ _ rfl rfl pre [xy] (hown.alloc _) (Sl.one2 _ _ _ _ rfl HBB.out HXX.out) (by rw [hml]; simp; omega) (by have := hb.size; simp; omega) ?_)
            intro v' w' ho hgr
            have ho' : w'.ownsRow w.heap.size 5 1 v' (pre ++ [xy]).length ((pre ++ [xy]).map (Value.int .u8)) := by simpa [hml] using ho
            have hb' : Below w.heap.size w w' := (hb.alloc hb.size _).grown hgr (by have := hb.size; simp; omega) (fun k hk => (hlt k hk).1)
            have n1 := own_ne hown hrow (by decide)
            have n2 := own_ne hown hg (by decide)
            have hBs : w.heap.size < wr.heap.size := (Array.getElem?_eq_some_iff.1 hrow).1
            have hgs : g < wr.heap.size := (Array.getElem?_eq_some_iff.1 hg).1
            have hrow' : w'.heap[w.heap.size]? = some (.cells (wArr us) 77 (0, 0)) := ((hgr.block w.heap.size (by simp; omega) n1.symm).trans (heap_alloc_old _ _ hBs)).trans hrow
            have hg' : w'.heap[g]? = some (.cells (bArr bs) 87 (0, 0)) := ((hgr.block g (by simp; omega) n2.symm).trans (heap_alloc_old _ _ hgs)).trans hg
            obtain ⟨a3, c3, hv3⟩ := owns_shape2 ho'
            rw [List.length_append, hml, List.length_singleton] at hv3
            subst hv3
            clear ho hgr hown hlt hb hrow hg cb cd n1 n2
            go_wp2
            go_roundw
            case rel => exact ⟨j + 1, a3, c3, by omega, by go_num, rfl, by rw [HV.out]; exact ho', hrow', hg', hb'⟩
            case measure => simp [intOf]; omega
          · have hjri : ¬ (j : Int) < (64 : Int) := by omega
            have HJ : Hid (j = 64) := by unfold Hid; omega
            have c12 := (cell_of_row wr _ 12 _ _ _ hrow).trans (wArr_get us 12 (by omega))
            have f12 := frozen_of_row wr _ 12 _ _ hrow
            generalize hcw : us.getD 12 0#32 = cw at c12
            have HCW : Hid (us.getD 12 0#32 = cw) := hcw
            clear hcw
            have hinc := uw_inc cw
            have n1 := own_ne hown hrow (by decide)
            go_wp2
            go_roundw
            case rel =>
              refine ⟨q + 1, m + j, a2, cap2, by rw [HJ.out]; exact HRr.out, rfl, owns_keep hown (fun k hk => heap_setCell_other _ _ _ _ (by simp; intro e; subst e; exact n1 hk)), ?_, hb.setCell (p := ⟨w.heap.size, 12, none⟩) (Nat.le_refl _) _⟩
              rw [← HSU.out, HCW.out]
              exact st_store hrow 12 _
            case measure => simp [lenV]; have := HJ.out; omega
      · obtain ⟨r, hrsub⟩ : ∃ r : Nat, (n : Int) - (m : Int) = (r : Int) := ⟨n - m, by omega⟩
        have HRr : Hid (m + r = min (64 * (q + 1)) n) := by have := HM64.out; unfold Hid; omega
        have hrn : m + r ≤ n := by omega
        have hr64 : r ≤ 64 := by omega
        have hr64i : (r : Int) ≤ 64 := by omega
        have hr0i : (0 : Int) ≤ (r : Int) := by omega
        have hr1 : 0 < r := by omega
        go_wp2_with ((with_reducible (refine wpList_id ?_)); refine wpList_store_row rfl 87 _ _ rfl w2.heap.size _ rfl rfl 87 (bArr (List.replicate 64 0)) (heap_alloc_new _ _) hsz2 (by rw [bArr_size, bArr_size, hbl]; rfl) hone ?_)
        generalize hW3 : World.setRow _ _ _ = W3
        obtain ⟨hg3, b3, hs3⟩ := block_row w2 bs _ 87 (bArr (List.replicate 64 0)) rfl hW3
        clear hW3
        have b23 : Below wr.heap.size wr W3 := b2.trans (b3.mono b2.size)
        have hrow3 := (b23.block w.heap.size hBlt).trans hrow
        have hown3 := owns_keep hown (fun k hk => b23.block k (hkeep k hk))
        have hb3 : Below w.heap.size w W3 := hb.trans (b23.mono hb.size)
        have hgB : w.heap.size < w2.heap.size := Nat.lt_of_lt_of_le hBlt b2.size
        clear hown hrow hb b2 b3 b23 hkeep hs3 hsz hsz2 hone hmn hmni
        generalize w2.heap.size = g at hg3 hgB ⊢
        go_loopw [5, 27] (fun v i wr => ∃ (j : Nat) (a : Option Addr) (cap : Nat), j ≤ r ∧ i = .int .i64 j ∧ v = .slice a (m + j) cap ∧ wr.ownsRow w.heap.size 5 1 v (mixTo ws d (m + j)).length ((mixTo ws d (m + j)).map (Value.int .u8)) ∧ wr.heap[w.heap.size]? = some (.cells (wArr us) 77 (0, 0)) ∧ wr.heap[g]? = some (.cells (bArr bs) 87 (0, 0)) ∧ Below w.heap.size w wr) (fun _ i _ => r - (intOf i).toNat)
        case atStart => exact ⟨0, a, cap, by omega, rfl, rfl, hown3, hrow3, hg3, hb3⟩
        case round =>
          clear hown3 hrow3 hg3 hb3
          obtain ⟨j, a2, cap2, hj, rfl, rfl, hown, hrow, hg, hb⟩ := hrel
          by_cases hjr : j < r
          · have hjri : (j : Int) < (r : Int) := by omega
            have hlt := hown.lt
            have cb := (cell_of_row wr _ j _ _ _ hg).trans (bArr_get bs j (by omega))
            obtain ⟨bd, od, rfl, hbd, hcd⟩ : ∃ bd od, ad = some ⟨bd, od, none⟩ ∧ bd < w.heap.size ∧ w.cell? ⟨bd, od + (m + j), none⟩ = some (.int .u8 (d.getD (m + j) 0)) := by
              obtain ⟨⟨a', cap', e', _, _, h1'⟩, _, _⟩ := hds
              rw [HN.out] at e' h1'
              simp only [Value.slice.injEq] at e'
              obtain ⟨rfl, _, _⟩ := e'
              rcases h1' with h1' | ⟨b', o', rfl, hb', hc'⟩
              · have := HN.out; rw [h1'] at this; simp at this; omega
              · exact ⟨b', o', rfl, hb', hc' (m + j) (by omega)⟩
            have cd := (hb.cell (p := ⟨bd, od + (m + j), none⟩) hbd).trans hcd
            have y1 := getD_byte hbb j
            have y2 := getD_byte hba (m + j)
            have HV : Hid (mixTo ws d (m + (j + 1)) = mixTo ws d (m + j) ++ [bx (bs.getD j 0) (d.getD (m + j) 0)]) := by
              unfold Hid
              rw [← HBL.out j (by omega)]
              rfl
            have hml := mixTo_length ws d (m + j)
            have HBX := bx_byte y1 y2
            have HXX : Hid (bits .xor .u8 (bs.getD j 0) (d.getD (m + j) 0) = bx (bs.getD j 0) (d.getD (m + j) 0)) := bx_bits y1 y2
            have HBB : Hid (0 ≤ bx (bs.getD j 0) (d.getD (m + j) 0) ∧ bx (bs.getD j 0) (d.getD (m + j) 0) < 256) := HBX
            clear HBX hcd
            generalize bs.getD j 0 = x at cb y1 HV HXX HBB
            generalize d.getD (m + j) 0 = y at cd y2 HV HXX HBB
            generalize bx x y = xy at HV HXX HBB
            generalize mixTo ws d (m + j) = pre at hown hml HV
            go_wp2_with (at_builtin; refine wpList_append_sl _ rfl _ _ 22 rfl w.heap.size 5 Tryd.underlying22 info5 _ _ rfl rfl pre [xy] (hown.alloc _) (Sl.one2 _ _ _ _ rfl HBB.out HXX.out) (by rw [hml]; simp; omega) (by have := hb.size; simp; omega) ?_)
            intro v' w' ho hgr
            have ho' : w'.ownsRow w.heap.size 5 1 v' (pre ++ [xy]).length ((pre ++ [xy]).map (Value.int .u8)) := by simpa [hml] using ho
            have hb' : Below w.heap.size w w' := (hb.alloc hb.size _).grown hgr (by have := hb.size; simp; omega) (fun k hk => (hlt k hk).1)
            have n1 := own_ne hown hrow (by decide)
            have n2 := own_ne hown hg (by decide)
            have hBs : w.heap.size < wr.heap.size := (Array.getElem?_eq_some_iff.1 hrow).1
            have hgs : g < wr.heap.size := (Array.getElem?_eq_some_iff.1 hg).1
            have hrow' : w'.heap[w.heap.size]? = some (.cells (wArr us) 77 (0, 0)) := ((hgr.block w.heap.size (by simp; omega) n1.symm).trans (heap_alloc_old _ _ hBs)).trans hrow
            have hg' : w'.heap[g]? = some (.cells (bArr bs) 87 (0, 0)) := ((hgr.block g (by simp; omega) n2.symm).trans (heap_alloc_old _ _ hgs)).trans hg
            obtain ⟨a3, c3, hv3⟩ := owns_shape2 ho'
            rw [List.length_append, hml, List.length_singleton] at hv3
            subst hv3
            clear ho hgr hown hlt hb hrow hg cb cd n1 n2
            go_wp2
            go_roundw
            case rel => exact ⟨j + 1, a3, c3, by omega, by go_num, rfl, by rw [HV.out]; exact ho', hrow', hg', hb'⟩
            case measure => simp [intOf]; omega
          · have hjri : ¬ (j : Int) < (r : Int) := by omega
            have HJ : Hid (j = r) := by unfold Hid; omega
            have c12 := (cell_of_row wr _ 12 _ _ _ hrow).trans (wArr_get us 12 (by omega))
            have f12 := frozen_of_row wr _ 12 _ _ hrow
            generalize hcw : us.getD 12 0#32 = cw at c12
            have HCW : Hid (us.getD 12 0#32 = cw) := hcw
            clear hcw
            have hinc := uw_inc cw
            have n1 := own_ne hown hrow (by decide)
            go_wp2
            go_roundw
            case rel =>
              refine ⟨q + 1, m + j, a2, cap2, by rw [HJ.out]; exact HRr.out, rfl, owns_keep hown (fun k hk => heap_setCell_other _ _ _ _ (by simp; intro e; subst e; exact n1 hk)), ?_, hb.setCell (p := ⟨w.heap.size, 12, none⟩) (Nat.le_refl _) _⟩
              rw [← HSU.out, HCW.out]
              exact st_store hrow 12 _
            case measure => simp [lenV]; have := HJ.out; omega
    · have hmni : ¬ (m : Int) < (n : Int) := by omega
      have HMN : Hid (n = m) := by unfold Hid; omega
      go_wp2
      go_ret
      refine ⟨_, rfl, ?_, hb⟩
      unfold mixL
      rw [HN.out, HMN.out]
      exact hown

/-- what is mixed is a row of the call's own -/
theorem mix_own (vk vn vd : Value) (key nonce d : List Int) (c : Nat) (w : World) (hk : Sl w vk key) (hn : Sl w vn nonce) (hd : Sl w vd d) (lk : key.length = 32) (ln : nonce.length = 12) (hc : c ≤ 1073741824) (ld : d.length ≤ 2000) (ht : QTab w) :
    Calls Tryd.prog 50 #[vk, .int .i64 c, vn, vd] w fun e w' => ∃ v', e = .returned (.tuple #[v', .int .i64 0]) ∧ w'.ownsRow w.heap.size 5 1 v' (mixL (begunL key (BitVec.ofNat 32 c) nonce) d).length ((mixL (begunL key (BitVec.ofNat 32 c) nonce) d).map (Value.int .u8)) ∧ Below w.heap.size w w' := by
  have hds := hd
  obtain ⟨⟨ad, capd, rfl, hcd, hnd, h1⟩, hla, hba⟩ := hd
  clear h1
  have ldi : (d.length : Int) ≤ 2000 := by omega
  go_enter Tryd.func50, Tryd.ntmps50
  go_wp2_with fail
  refine (refused_any vk vn key nonce c w hk hn).mono ?_
  rintro e w1 ⟨rfl, rfl⟩
  rw [chaErr_ok lk ln (by omega)]
  go_wp2_with fail
  refine (begun_any vk vn key nonce c w1 hk hn lk ln (by omega)).mono ?_
  rintro e w2 ⟨rfl, b2⟩
  have hl := begunL_length key (BitVec.ofNat 32 c) nonce
  generalize hus : begunL key (BitVec.ofNat 32 c) nonce = us at hl
  have HUS : Hid (begunL key (BitVec.ofNat 32 c) nonce = us) := hus
  clear hus
  go_wp2_with fail
  refine (cmixed_any us _ d w2 hl (hds.below b2) (by omega) (ht.below ht.pos b2)).mono ?_
  rintro e w3 ⟨v3, rfl, ho3, b3⟩
  go_wp2
  go_ret2
  refine ⟨v3, rfl, ?_, b2.trans (b3.mono b2.size)⟩
  rw [HUS.out]
  exact owns_lower ho3 b2.size

theorem mix_ok (vk vn vd : Value) (key nonce d : List Int) (c : Nat) (w : World) (hk : Sl w vk key) (hn : Sl w vn nonce) (hd : Sl w vd d) (lk : key.length = 32) (ln : nonce.length = 12) (hc : c ≤ 1073741824) (ld : d.length ≤ 2000) (ht : QTab w) :
    Calls Tryd.prog 50 #[vk, .int .i64 c, vn, vd] w fun e w' => ∃ v', e = .returned (.tuple #[v', .int .i64 0]) ∧ Got w w' v' (mixL (begunL key (BitVec.ofNat 32 c) nonce) d) := by
  have hba := hd.byte
  refine (mix_own vk vn vd key nonce d c w hk hn hd lk ln hc ld ht).mono ?_
  rintro e w3 ⟨v3, rfl, ho3, b3⟩
  exact ⟨v3, rfl, Sl.ofOwns ho3 (by rw [mixL_length]; omega) (mixL_byte _ hba), b3, fun b o n c e => (ho3.lt b (by rw [e]; rfl)).1⟩

theorem mix_no (vk vn vd : Value) (key nonce : List Int) (c : Int) (w : World) (hk : Sl w vk key) (hn : Sl w vn nonce) (hE : chaErr key nonce c ≠ 0) :
    Calls Tryd.prog 50 #[vk, .int .i64 c, vn, vd] w fun e w' => e = .returned (.tuple #[.slice none 0 0, .int .i64 (chaErr key nonce c)]) ∧ w' = w := by
  go_enter Tryd.func50, Tryd.ntmps50
  go_wp2_with fail
  refine (refused_any vk vn key nonce c w hk hn).mono ?_
  rintro e w1 ⟨rfl, rfl⟩
  generalize hEE : chaErr key nonce c = E at hE
  have HE : Hid (chaErr key nonce c = E) := hEE
  clear hEE
  go_wp2
  go_ret2
  exact ⟨by rw [HE.out]; rfl, rfl⟩

theorem mix_long (vk vn vd : Value) (key nonce d : List Int) (c : Int) (w : World) (hk : Sl w vk key) (hn : Sl w vn nonce) (hd : Sl w vd d) (hE : chaErr key nonce c = 0) (ld : 2000 < d.length) :
    Calls Tryd.prog 50 #[vk, .int .i64 c, vn, vd] w fun e w' => e = .returned (.tuple #[.slice none 0 0, .int .i64 1]) ∧ w' = w := by
  obtain ⟨⟨ad, capd, rfl, hcd, hnd, h1⟩, hla, hba⟩ := hd
  clear h1
  have ldi : (2000 : Int) < (d.length : Int) := by omega
  go_enter Tryd.func50, Tryd.ntmps50
  go_wp2_with fail
  refine (refused_any vk vn key nonce c w hk hn).mono ?_
  rintro e w1 ⟨rfl, rfl⟩
  rw [hE]
  go_wp2
  go_ret2
  exact ⟨rfl, rfl⟩
end Go.Proofs.YtpoaabjpeigooaaDoor
/-
  Laws of the stream of bytes, and of lists in memory. No program is named here.
-/
namespace Go.Proofs.YtpoaabjpeigooaaDoor
open Go.RowKit

theorem getD_drop (l : List Int) (k i : Nat) : (l.drop k).getD i 0 = l.getD (k + i) 0 := by
  simp [List.getD, List.getElem?_drop]
theorem getD_take (l : List Int) (k i : Nat) (hi : i < k) : (l.take k).getD i 0 = l.getD i 0 := by
  simp [List.getD, hi]
theorem Sl.cut {w : World} {a : Option Addr} {n cap : Nat} {l : List Int} (h : Sl w (.slice a n cap) l) (lo hi : Nat) (hlo : lo ≤ hi) (hhi : hi ≤ l.length) : Sl w (sliced a lo hi cap 1) ((l.take hi).drop lo) := by
  have hd := (h.take hi hhi).len
  have hb := h.byte
  obtain ⟨⟨a', cap', e, hc, hn, h1⟩, hla, hba⟩ := h
  simp only [Value.slice.injEq] at e
  obtain ⟨rfl, rfl, rfl⟩ := e
  have hl : ((l.take hi).drop lo).length = hi - lo := by rw [List.length_drop, List.length_take]; omega
  have hbb : ∀ x ∈ (l.take hi).drop lo, 0 ≤ x ∧ x < 256 := fun x hx => hb x (List.mem_of_mem_take (List.mem_of_mem_drop hx))
  cases a with
  | none =>
    have c0 := hn rfl
    subst c0
    have h0 : l.length = 0 := by omega
    refine ⟨⟨_, _, by rw [hl]; rfl, by omega, fun _ => by omega, .inl (List.eq_nil_of_length_eq_zero (by omega))⟩, by omega, hbb⟩
  | some ad =>
    refine ⟨⟨_, _, by rw [hl]; rfl, by omega, (by intro h; split at h <;> simp at h), ?_⟩, by omega, hbb⟩
    rcases Nat.eq_or_lt_of_le hlo with he | hlt
    · exact .inl (List.eq_nil_of_length_eq_zero (by omega))
    · rcases h1 with rfl | ⟨b, off, e2, hbs, hcell⟩
      · simp at hhi; omega
      · simp only [Option.some.injEq] at e2
        subst e2
        refine .inr ⟨b, off + lo, ?_, hbs, fun i hi2 => ?_⟩
        · rw [if_neg (by omega)]
          simp [Addr.add]
        · rw [hl] at hi2
          rw [Nat.add_assoc, hcell (lo + i) (by omega), getD_drop, getD_take _ _ _ (by omega)]

theorem size5s (w : World) : (Go.sizeOf 5).run Tryd.prog w = .ok 1 w := by
  obtain ⟨i, hi, _, hsz, _⟩ := info_parts info5
  simp [sizeOf, typeInfo, hi, hsz]

set_option maxRecDepth 100000 in
theorem cut_lh (a : Option Addr) (n cap lo hi : Nat) (hlo : lo ≤ hi) (hhi : hi ≤ cap) : ∀ W, (Instr.slice 22 (.slice a n cap) (some (.int .i64 (lo : Int))) (some (.int .i64 (hi : Int))) none).run Tryd.prog W = .ok (sliced a lo hi cap 1) W := by
  intro W
  rw [run_slice_lh (P := Tryd.prog) W 22 a n cap Tryd.underlying22 .i64 .i64 _ _ (by omega) (by omega) (by omega)]
  have e : Tryd.prog.elem 22 = 5 := by kernel_rfl
  rw [e, size5s]
  simp [Result.andThen]
set_option maxRecDepth 100000 in
theorem cut_l (a : Option Addr) (n cap lo : Nat) (hlo : lo ≤ n) : ∀ W, (Instr.slice 22 (.slice a n cap) (some (.int .i64 (lo : Int))) none none).run Tryd.prog W = .ok (sliced a lo n cap 1) W := by
  intro W
  rw [run_slice_l (P := Tryd.prog) W 22 a n cap Tryd.underlying22 .i64 _ (by omega) (by omega)]
  have e : Tryd.prog.elem 22 = 5 := by kernel_rfl
  rw [e, size5s]
  simp [Result.andThen]
set_option maxRecDepth 100000 in
theorem cut_h (a : Option Addr) (n cap hi : Nat) (hhi : hi ≤ cap) : ∀ W, (Instr.slice 22 (.slice a n cap) none (some (.int .i64 (hi : Int))) none).run Tryd.prog W = .ok (sliced a 0 hi cap 1) W := by
  intro W
  rw [run_slice_h (P := Tryd.prog) W 22 a n cap Tryd.underlying22 .i64 _ (by omega) (by omega)]
  have e : Tryd.prog.elem 22 = 5 := by kernel_rfl
  rw [e, size5s]
  simp [Result.andThen]

theorem Sl.grownC {w w' : World} {v : Value} {l : List Int} {row : Option Nat} (h : Sl w v l) (hg : w.grownBy w' row) (hv : ∀ b o n c, v = .slice (some ⟨b, o, none⟩) n c → some b ≠ row) : Sl w' v l := by
  obtain ⟨⟨a, cap, rfl, hc, hn, h1⟩, h2, h3⟩ := h
  refine ⟨⟨a, cap, rfl, hc, hn, ?_⟩, h2, h3⟩
  rcases h1 with h1 | ⟨b, off, rfl, hbs, hcell⟩
  · exact .inl h1
  · refine .inr ⟨b, off, rfl, Nat.lt_of_lt_of_le hbs hg.size, fun i hi => ?_⟩
    rw [← hcell i hi]
    exact World.cell?_of_block (w := w) (hg.block b hbs (hv _ _ _ _ rfl))

/-- bytes appended to a row of the call's own, and where the row lies then -/
theorem wpList_append_at {P : Program} (w : World) {ops : Array Oper} {rest : List Oper} {o : Oper} {a : Act} {Q : Exit → Act → World → Prop} (hgd : o.guard = none) (s x : Operand) (t : TypeId)
    (ho : o.op = .call { callee := .builtin .append, args := #[s, x], argTypes := #[t, t] })
    (base e : Nat) (ht : P.underlying t = some (.slice e)) (hinfo : (P.info? e).map (fun i => (i.zero, i.size, i.bytes)) = some (some (.int .u8 0), 1, 1))
    (v u : Value) (hs : a.eval s = v) (hx : a.eval x = u) (l m : List Int) (hown : w.ownsRow base e 1 v l.length (l.map (Value.int .u8))) (hu : Sl w u m)
    (hlen : l.length + m.length ≤ 140737488355328) (hbase : base ≤ w.heap.size)
    (h : ∀ v' w', w'.ownsRow base e 1 v' (l ++ m).length ((l ++ m).map (Value.int .u8)) → w.grownBy w' v.ownBlock → (v'.ownBlock = v.ownBlock ∨ v'.ownBlock = some w.heap.size) → wpList P ops Q rest (a.put o.dst v') w') : wpList P ops Q (o :: rest) a w := by
  refine wpList_plain hgd fun K hK => ?_
  have hrun : ∃ v' w', (Builtin.append_ #[t, t] o.type #[v, u]).run P w = .ok v' w' ∧ w'.ownsRow base e 1 v' (l ++ m).length ((l ++ m).map (Value.int .u8)) ∧ w.grownBy w' v.ownBlock ∧ (v'.ownBlock = v.ownBlock ∨ v'.ownBlock = some w.heap.size) := by
    obtain ⟨i, hi, hz, hsz, hby⟩ := info_parts hinfo
    obtain ⟨⟨a, cap, rfl, hc, hn, h1⟩, _, _⟩ := hu
    cases a with
    | none =>
      have hc0 := hn rfl
      subst hc0
      have hm : m = [] := List.eq_nil_of_length_eq_zero (by omega)
      subst hm
      exact ⟨v, w, run_append_owned_none (P := P) (w := w) base t o.type e i 1 ht hi v l.length _ hown, by simpa using hown, ⟨rfl, rfl, rfl, Nat.le_refl _, fun _ _ _ => rfl⟩, .inl rfl⟩
    | some ad =>
      have hcells : ∀ j u, (m.map (Value.int .u8))[j]? = some u → w.cell? (ad.add j) = some u := by
        intro j u hj
        rcases h1 with rfl | ⟨b, off, hab, _, hcell⟩
        · simp at hj
        · obtain rfl : ad = ⟨b, off, none⟩ := by simpa using hab
          have hjl : j < m.length := by
            have := (List.getElem?_eq_some_iff.1 hj).1
            simpa using this
          have hadd : (⟨b, off, none⟩ : Addr).add j = ⟨b, off + j, none⟩ := by unfold Addr.add; split <;> simp_all
          rw [hadd, hcell j hjl]
          simp [List.getElem?_eq_getElem hjl] at hj
          rw [getD_at hjl, hj]
      obtain ⟨v', w', hr, ho, hg, _, h5⟩ := run_append_own_at (P := P) w base t o.type e i (.int .u8 0) 1 1 ht hi hz hsz hby rfl (by decide) v l.length _ hown ad m.length cap (m.map (Value.int .u8)) (by simp) hcells (ints_one m)
        (by unfold maxLen; omega) (by omega) hbase
      exact ⟨v', w', hr, by simpa using ho, hg, h5⟩
  obtain ⟨v', w', hrun, r1, r2, r3⟩ := hrun
  unfold Oper.wp execOp
  simp only [ho, resolve, invoke, builtin, Sem.run_bind, Sem.run_pure, Result.andThen_ok, List.map_toArray, List.map_cons, List.map_nil, hs, hx, hrun]
  exact hK _ _ (h v' w' r1 r2 r3)

theorem made_zeros (n : Nat) : (madeCells #[Value.int .u8 0] n).toList = (List.replicate n (0 : Int)).map (Value.int .u8) := by
  rw [toList_madeCells_one, List.map_replicate]

theorem Sl.made {w : World} {base n : Nat} {v : Value} (h : w.ownsRow base 5 1 v n (madeCells #[Value.int .u8 0] n).toList) (hn : n ≤ 140737488351232) : Sl w v (List.replicate n 0) := by
  rw [made_zeros] at h
  refine Sl.ofOwns (base := base) (e := 5) ?_ (by rw [List.length_replicate]; exact hn) (fun x hx => by rw [(List.mem_replicate.1 hx).2]; omega)
  rw [List.length_replicate]
  exact h

theorem getD_zeros (n i : Nat) : (List.replicate n (0 : Int)).getD i 0 = 0 := by
  rcases Nat.lt_or_ge i n with h | h
  · rw [getD_at (by rw [List.length_replicate]; exact h), List.getElem_replicate]
  · rw [getD_past (by rw [List.length_replicate]; exact h)]

/-- the bytes of the stream, as they are -/
theorem mixZ_at (s : List (BitVec 32)) (n i : Nat) (hi : i < n) : (mixL s (List.replicate n 0)).getD i 0 = strAt s i := by
  rw [mixL, List.length_replicate, mixTo_at _ _ _ _ hi, getD_zeros, bx_zero (strAt_byte s i).1]

/-- the state of the next counter -/
theorem strAt_next (key nonce : List Int) (c i : Nat) : strAt (begunL key (BitVec.ofNat 32 (c + 1)) nonce) i = strAt (begunL key (BitVec.ofNat 32 c) nonce) (64 + i) := by
  unfold strAt
  rw [begunL_at, begunL_at, begunL_counter, begunL_counter]
  rw [show (64 + i) / 64 = i / 64 + 1 by omega, show (64 + i) % 64 = i % 64 by omega]
  have e : BitVec.ofNat 32 (c + 1) + BitVec.ofNat 32 (i / 64) = BitVec.ofNat 32 c + BitVec.ofNat 32 (i / 64 + 1) := by
    apply BitVec.eq_of_toNat_eq
    simp [BitVec.toNat_add, BitVec.toNat_ofNat]
    omega
  rw [e]
theorem strAt_on (key nonce : List Int) (c q i : Nat) : strAt (begunL key (BitVec.ofNat 32 (c + q)) nonce) i = strAt (begunL key (BitVec.ofNat 32 c) nonce) (64 * q + i) := by
  induction q generalizing i with
  | zero => simp
  | succ q ih =>
    rw [← Nat.add_assoc, strAt_next, ih]
    congr 1
    omega
theorem strAt_first (key nonce : List Int) (c i : Nat) (hi : i < 64) : strAt (begunL key (BitVec.ofNat 32 c) nonce) i = (blockL (begunL key (BitVec.ofNat 32 c) nonce)).getD i 0 := by
  unfold strAt
  rw [begunL_at, begunL_counter, show i / 64 = 0 by omega, show i % 64 = i by omega, show BitVec.ofNat 32 0 = 0#32 from rfl, BitVec.add_zero]

theorem getD_app_left (l m : List Int) (i : Nat) (hi : i < l.length) : (l ++ m).getD i 0 = l.getD i 0 := by
  simp [List.getD, List.getElem?_append_left hi]
theorem getD_app_right (l m : List Int) (i : Nat) (hi : l.length ≤ i) : (l ++ m).getD i 0 = m.getD (i - l.length) 0 := by
  simp [List.getD, List.getElem?_append_right hi]

theorem mix_step (key nonce : List Int) (c m : Nat) : (mixL (begunL key (BitVec.ofNat 32 c) nonce) (List.replicate (64 + m) 0)).drop 64 = mixL (begunL key (BitVec.ofNat 32 (c + 1)) nonce) (List.replicate m 0) := by
  have l1 := mixL_length (begunL key (BitVec.ofNat 32 c) nonce) (List.replicate (64 + m) 0)
  have l2 := mixL_length (begunL key (BitVec.ofNat 32 (c + 1)) nonce) (List.replicate m 0)
  rw [List.length_replicate] at l1 l2
  refine list_ext (by rw [List.length_drop, l1, l2]; omega) fun i hi => ?_
  rw [List.length_drop, l1] at hi
  rw [getD_drop, mixZ_at _ _ _ (by omega), mixZ_at _ _ _ (by omega), strAt_next]

theorem mix_at (vk vn vd : Value) (key nonce d : List Int) (x : Int) (c : Nat) (hx : x = (c : Int)) (w : World) (hk : Sl w vk key) (hn : Sl w vn nonce) (hd : Sl w vd d) (lk : key.length = 32) (ln : nonce.length = 12) (hc : c ≤ 1073741824) (ld : d.length ≤ 2000) (ht : QTab w) :
    Calls Tryd.prog 50 #[vk, .int .i64 x, vn, vd] w fun e w' => ∃ v', e = .returned (.tuple #[v', .int .i64 0]) ∧ Got w w' v' (mixL (begunL key (BitVec.ofNat 32 c) nonce) d) := by
  subst hx
  exact mix_ok vk vn vd key nonce d c w hk hn hd lk ln hc ld ht
theorem block_at (vk vn : Value) (key nonce : List Int) (x : Int) (c : Nat) (hx : x = (c : Int)) (w : World) (hk : Sl w vk key) (hn : Sl w vn nonce) (lk : key.length = 32) (ln : nonce.length = 12) (hc : c ≤ 1073741824) (ht : QTab w) :
    Calls Tryd.prog 61 #[vk, .int .i64 x, vn] w fun e w' => ∃ v', e = .returned (.tuple #[v', .int .i64 0]) ∧ Got w w' v' (blockL (begunL key (BitVec.ofNat 32 c) nonce)) := by
  subst hx
  exact block_ok vk vn key nonce c w hk hn lk ln hc ht

/-- the first k parts of d, each mixed from its own block on, one behind the other -/
theorem mix_parts (key nonce d : List Int) (c q : Nat) (hq : 64 * q < d.length) :
    mixTo (begunL key (BitVec.ofNat 32 c) nonce) d (64 * q) ++ mixL (begunL key (BitVec.ofNat 32 (c + q)) nonce) ((d.take (min (64 * q + 64) d.length)).drop (64 * q)) = mixTo (begunL key (BitVec.ofNat 32 c) nonce) d (min (64 * (q + 1)) d.length) := by
  have l1 := mixTo_length (begunL key (BitVec.ofNat 32 c) nonce) d (64 * q)
  have l2 : ((d.take (min (64 * q + 64) d.length)).drop (64 * q)).length = min (64 * q + 64) d.length - 64 * q := by rw [List.length_drop, List.length_take]; omega
  have l3 := mixL_length (begunL key (BitVec.ofNat 32 (c + q)) nonce) ((d.take (min (64 * q + 64) d.length)).drop (64 * q))
  rw [l2] at l3
  refine list_ext (by rw [List.length_append, l1, l3, mixTo_length]; omega) fun i hi => ?_
  rw [List.length_append, l1, l3] at hi
  rw [mixTo_at _ _ _ i (by omega)]
  rcases Nat.lt_or_ge i (64 * q) with h | h
  · rw [getD_app_left _ _ _ (by rw [l1]; exact h), mixTo_at _ _ _ _ h]
  · rw [getD_app_right _ _ _ (by rw [l1]; exact h), l1, mixL, mixTo_at _ _ _ _ (by rw [l2]; omega), strAt_on, getD_drop, getD_take _ _ _ (by omega), show 64 * q + (i - 64 * q) = i by omega]

/-- the stream as blocks, one behind the other -/
def blocksL (key nonce : List Int) (c : Nat) : Nat → List Int
  | 0 => []
  | q + 1 => blocksL key nonce c q ++ blockL (begunL key (BitVec.ofNat 32 (c + q)) nonce)
theorem blocksL_length (key nonce : List Int) (c q : Nat) : (blocksL key nonce c q).length = 64 * q := by
  induction q with
  | zero => rfl
  | succ q ih => rw [blocksL, List.length_append, ih, blockL_length]; omega
theorem blocksL_byte (key nonce : List Int) (c q : Nat) : ∀ x ∈ blocksL key nonce c q, 0 ≤ x ∧ x < 256 := by
  induction q with
  | zero => intro x hx; cases hx
  | succ q ih =>
    intro x hx
    rcases List.mem_append.1 hx with h | h
    · exact ih x h
    · exact blockL_byte _ x h
theorem blocksL_at (key nonce : List Int) (c q i : Nat) (hi : i < 64 * q) : (blocksL key nonce c q).getD i 0 = strAt (begunL key (BitVec.ofNat 32 c) nonce) i := by
  induction q with
  | zero => omega
  | succ q ih =>
    have hl := blocksL_length key nonce c q
    rw [blocksL]
    rcases Nat.lt_or_ge i (64 * q) with h | h
    · rw [getD_app_left _ _ _ (by rw [hl]; exact h), ih h]
    · rw [getD_app_right _ _ _ (by rw [hl]; exact h), hl, ← strAt_first _ _ _ _ (by omega), strAt_on, show 64 * q + (i - 64 * q) = i by omega]
theorem blocks_all (key nonce : List Int) (c q n : Nat) (hn : n ≤ 64 * q) : mixL (begunL key (BitVec.ofNat 32 c) nonce) (List.replicate n 0) = (blocksL key nonce c q).take n := by
  have l1 := mixL_length (begunL key (BitVec.ofNat 32 c) nonce) (List.replicate n 0)
  rw [List.length_replicate] at l1
  refine list_ext (by rw [l1, List.length_take, blocksL_length]; omega) fun i hi => ?_
  rw [l1] at hi
  rw [mixZ_at _ _ _ hi, getD_take _ _ _ hi, blocksL_at _ _ _ _ _ (by omega)]

end Go.Proofs.YtpoaabjpeigooaaDoor
/-
  Slices that are cut, as one equation each.
-/
namespace Go.Proofs.YtpoaabjpeigooaaDoor
open Go.RowKit

theorem getD_dropped (l : List Int) (n i : Nat) : (l.drop n).getD i 0 = l.getD (n + i) 0 := by simp [List.getD]
theorem getD_taken (l : List Int) (n i : Nat) (h : i < n) : (l.take n).getD i 0 = l.getD i 0 := by simp [List.getD, h]

theorem Sl.window {w : World} {a : Option Addr} {n cap : Nat} {l : List Int} (h : Sl w (.slice a n cap) l) (lo hi : Nat) (hlo : lo ≤ hi) (hhi : hi ≤ l.length) : Sl w (sliced a lo hi cap 1) ((l.take hi).drop lo) := by
  have hd := (h.take hi hhi).len
  have hb := h.byte
  obtain ⟨⟨a', cap', e, hc, hn, h1⟩, hla, hba⟩ := h
  simp only [Value.slice.injEq] at e
  obtain ⟨rfl, rfl, rfl⟩ := e
  have hl : ((l.take hi).drop lo).length = hi - lo := by rw [List.length_drop, List.length_take]; omega
  have hbb : ∀ x ∈ (l.take hi).drop lo, 0 ≤ x ∧ x < 256 := fun x hx => hb x (List.mem_of_mem_take (List.mem_of_mem_drop hx))
  cases a with
  | none =>
    have c0 := hn rfl
    subst c0
    have h0 : l.length = 0 := by omega
    refine ⟨⟨_, _, by rw [hl]; rfl, by omega, fun _ => by omega, .inl (List.eq_nil_of_length_eq_zero (by omega))⟩, by omega, hbb⟩
  | some ad =>
    refine ⟨⟨_, _, by rw [hl]; rfl, by omega, (by intro h; split at h <;> simp at h), ?_⟩, by omega, hbb⟩
    rcases Nat.eq_or_lt_of_le hlo with he | hlt
    · exact .inl (List.eq_nil_of_length_eq_zero (by omega))
    · rcases h1 with rfl | ⟨b, off, e2, hbs, hcell⟩
      · simp at hhi; omega
      · simp only [Option.some.injEq] at e2
        subst e2
        refine .inr ⟨b, off + lo, ?_, hbs, fun i hi2 => ?_⟩
        · rw [if_neg (by omega)]
          simp [Addr.add]
        · rw [hl] at hi2
          rw [Nat.add_assoc, hcell (lo + i) (by omega), getD_dropped, getD_taken _ _ _ (by omega)]

theorem size5w (w : World) : (Go.sizeOf 5).run Tryd.prog w = .ok 1 w := by
  obtain ⟨i, hi, _, hsz, _⟩ := info_parts info5
  simp [sizeOf, typeInfo, hi, hsz]

set_option maxRecDepth 100000 in
theorem Sl.upTo {w : World} {a : Option Addr} {n cap : Nat} {l : List Int} (h : Sl w (.slice a n cap) l) (hi : Nat) (hhi : hi ≤ l.length) :
    ∃ a' c', (∀ W, (Instr.slice 22 (.slice a n cap) none (some (.int .i64 (hi : Int))) none).run Tryd.prog W = .ok (.slice a' hi c') W) ∧ Sl w (.slice a' hi c') (l.take hi) := by
  have hw := h.window 0 hi (by omega) hhi
  obtain ⟨⟨a', cap', e, hc, hn, h1⟩, hla, hba⟩ := h
  simp only [Value.slice.injEq] at e
  obtain ⟨rfl, rfl, rfl⟩ := e
  refine ⟨_, _, fun W => ?_, by simpa [sliced] using hw⟩
  rw [run_slice_h (P := Tryd.prog) W 22 a _ cap Tryd.underlying22 .i64 _ (by omega) (by omega)]
  have e : Tryd.prog.elem 22 = 5 := by kernel_rfl
  rw [e, size5w]
  simp [Result.andThen, sliced]
set_option maxRecDepth 100000 in
theorem Sl.from {w : World} {a : Option Addr} {n cap : Nat} {l : List Int} (h : Sl w (.slice a n cap) l) (lo : Nat) (hlo : lo ≤ l.length) :
    ∃ a' c', (∀ W, (Instr.slice 22 (.slice a n cap) (some (.int .i64 (lo : Int))) none none).run Tryd.prog W = .ok (.slice a' (n - lo) c') W) ∧ Sl w (.slice a' (n - lo) c') (l.drop lo) := by
  have hw := h.window lo l.length hlo (Nat.le_refl _)
  obtain ⟨⟨a', cap', e, hc, hn, h1⟩, hla, hba⟩ := h
  simp only [Value.slice.injEq] at e
  obtain ⟨rfl, rfl, rfl⟩ := e
  refine ⟨_, _, fun W => ?_, by simpa [sliced] using hw⟩
  rw [run_slice_l (P := Tryd.prog) W 22 a _ cap Tryd.underlying22 .i64 _ (by omega) (by omega)]
  have e : Tryd.prog.elem 22 = 5 := by kernel_rfl
  rw [e, size5w]
  simp [Result.andThen, sliced]
end Go.Proofs.YtpoaabjpeigooaaDoor
