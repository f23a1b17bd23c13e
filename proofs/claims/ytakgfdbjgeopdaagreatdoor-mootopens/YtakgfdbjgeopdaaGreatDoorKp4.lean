/-
  The walk of the mixing of bytes with the stream.
-/
import Derived.Test.YtakgfdbjgeopdaaGreatDoorKp1
import Derived.Test.YtakgfdbjgeopdaaGreatDoorKp3
namespace Go.Proofs.YtakgfdbjgeopdaaGreatDoor
open Go.RowKit

theorem bx_bits {x y : Int} (hx : 0 ≤ x ∧ x < 256) (hy : 0 ≤ y ∧ y < 256) : bits .xor .u8 x y = bx x y := by
  obtain ⟨a, rfl⟩ : ∃ a : Nat, x = a := ⟨x.toNat, by omega⟩
  obtain ⟨b, rfl⟩ : ∃ b : Nat, y = b := ⟨y.toNat, by omega⟩
  rw [u8_xor_nat _ _ (by omega) (by omega)]
  rfl

theorem own_ne {w : World} {base e : Nat} {v : Value} {n : Nat} {xs : List Value} (h : w.ownsRow base e 1 v n xs) {g : Nat} {cs : Array Value} {t : TypeId} {fr : Nat × Nat} (hg : w.heap[g]? = some (.cells cs t fr)) (ht : t ≠ e) : v.ownBlock ≠ some g := by
  intro hv
  rcases h.2 with ⟨rfl, _⟩ | ⟨g', cap, cur, rfl, _, hg', _⟩
  · simp [Value.ownBlock] at hv
  · simp only [Value.ownBlock, Option.some.injEq] at hv
    subst hv
    rw [hg'] at hg
    simp only [Option.some.injEq, Obj.cells.injEq] at hg
    exact ht hg.2.1.symm

theorem owns_keep {w w' : World} {base e : Nat} {v : Value} {n : Nat} {xs : List Value} (h : w.ownsRow base e 1 v n xs) (hk : ∀ k, v.ownBlock = some k → w'.heap[k]? = w.heap[k]?) : w'.ownsRow base e 1 v n xs := by
  refine ⟨h.1, ?_⟩
  rcases h.2 with h2 | ⟨g, cap, cur, hv, hb, hg, hr⟩
  · exact .inl h2
  · exact .inr ⟨g, cap, cur, hv, hb, (hk g (by rw [hv]; rfl)).trans hg, hr⟩

theorem Sl.one2 (w : World) (b b' : Int) (e : TypeId) {g : Nat} (hg : g = w.heap.size) (hb : 0 ≤ b ∧ b < 256) (he : b' = b) : Sl (w.alloc (.cells #[.int .u8 b'] e)) (.slice (some ⟨g, 0, none⟩) 1 1) [b] := by
  subst he; exact Sl.one w b' e hg hb

theorem uw_inc (x : BitVec 32) : (uw x + 1) % (4294967296 : Int) = uw (x + 1#32) := uw_sum2 x 1#32
theorem count_succ (c : BitVec 32) (q : Nat) : c + BitVec.ofNat 32 q + 1#32 = c + BitVec.ofNat 32 (q + 1) := by
  rw [BitVec.add_assoc]
  congr 1
  apply BitVec.eq_of_toNat_eq
  simp [BitVec.toNat_add, BitVec.toNat_ofNat]

/-- a state, so many blocks further on -/
def cntL (ws : List (BitVec 32)) (q : Nat) : List (BitVec 32) := ws.set 12 (ws.getD 12 0#32 + BitVec.ofNat 32 q)
theorem cntL_length (ws : List (BitVec 32)) (q : Nat) : (cntL ws q).length = ws.length := by simp [cntL]
theorem cntL_zero (ws : List (BitVec 32)) (h : ws.length = 16) : cntL ws 0 = ws := by
  unfold cntL
  rw [show BitVec.ofNat 32 0 = 0#32 from rfl, BitVec.add_zero, List.getD, List.getElem?_eq_getElem (by omega), Option.getD_some, List.set_getElem_self]
theorem cntL_at (ws : List (BitVec 32)) (q : Nat) (h : ws.length = 16) : (cntL ws q).getD 12 0#32 = ws.getD 12 0#32 + BitVec.ofNat 32 q := by
  unfold cntL
  simp [List.getD, h]
theorem cntL_succ (ws : List (BitVec 32)) (q : Nat) (h : ws.length = 16) : (cntL ws q).set 12 ((cntL ws q).getD 12 0#32 + 1#32) = cntL ws (q + 1) := by
  rw [cntL_at ws q h, count_succ]
  unfold cntL
  rw [List.set_set]

theorem strAt_block (ws : List (BitVec 32)) (q j : Nat) (hj : j < 64) : strAt ws (64 * q + j) = (blockL (cntL ws q)).getD j 0 := by
  unfold strAt cntL
  rw [show (64 * q + j) / 64 = q by omega, show (64 * q + j) % 64 = j by omega]

set_option maxHeartbeats 2000000 in
set_option maxRecDepth 100000 in
theorem cmixed_any (ws : List (BitVec 32)) (vd : Value) (d : List Int) (w : World) (hws : ws.length = 16) (hd : Sl w vd d) (hl : d.length ≤ 100000) (ht : QTab w) :
    Calls Tryz.prog 180 #[.agg (wArr ws), vd] w fun e w' => ∃ v', e = .returned v' ∧ w'.ownsRow w.heap.size 5 1 v' (mixL ws d).length ((mixL ws d).map (Value.int .u8)) ∧ Below w.heap.size w w' := by
  obtain ⟨i0, hi, hz0, hz1, hz2⟩ := info_parts info5
  have hds := hd
  obtain ⟨⟨ad, capd, rfl, hc, hn, h1⟩, hla, hba⟩ := hd
  have hpos := ht.pos
  generalize hnn : d.length = n at *
  have HN : Hid (d.length = n) := hnn
  clear hnn h1 hn
  go_enter Tryz.func180, Tryz.ntmps180
  go_wp2_with (at_make; refine wpList_make_own _ rfl _ _ 26 rfl w.heap.size 5 i0 (.int .u8 0) 1 Tryz.underlying26 hi hz0 hz1 _ _ _ n rfl rfl (by omega) (by rw [hz2]; omega) (by unfold maxLen; omega) (by simp) ?_)
  intro w1 ho1 hg1
  have hrow : w1.heap[w.heap.size]? = some (.cells (wArr (cntL ws 0)) 233 (0, 0)) := by
    rw [hg1.block w.heap.size (by simp) (by simp), cntL_zero ws hws]
    exact heap_alloc_new _ _
  have hb1 : Below w.heap.size w w1 := ((Below.refl _ _).alloc (Nat.le_refl _) _).grown hg1 (by simp) (by simp)
  have ho1' : w1.ownsRow w.heap.size 5 1 (.slice (some ⟨w.heap.size + 1, 0, none⟩) 0 n) (mixTo ws d 0).length ((mixTo ws d 0).map (Value.int .u8)) := ho1
  clear hg1 ho1 hz0 hz1 hz2 hi
  go_wp2_with fail
  go_loopw [5] (fun v wr => ∃ (q m : Nat) (a : Option Addr) (cap : Nat), m = min (64 * q) n ∧ v = .slice a m cap ∧ wr.ownsRow w.heap.size 5 1 v (mixTo ws d m).length ((mixTo ws d m).map (Value.int .u8)) ∧ wr.heap[w.heap.size]? = some (.cells (wArr (cntL ws q)) 233 (0, 0)) ∧ Below w.heap.size w wr) (fun v _ => n - lenV v)
  case atStart => exact ⟨0, 0, _, _, by omega, rfl, ho1', hrow, hb1⟩
  case round =>
    clear ho1' hrow hb1
    obtain ⟨q, m, a, cap, hm, rfl, hown, hrow, hb⟩ := hrel
    have HM : Hid (m = min (64 * q) n) := hm
    have hmle : m ≤ n := by omega
    clear hm
    have hBlt : w.heap.size < wr.heap.size := (Array.getElem?_eq_some_iff.1 hrow).1
    by_cases hmn : m < n
    · have hmni : (m : Int) < (n : Int) := by omega
      have HM64 : Hid (m = 64 * q) := by have := HM.out; unfold Hid; omega
      have hul : (cntL ws q).length = 16 := by rw [cntL_length]; exact hws
      have HBL : Hid (∀ j, j < 64 → strAt ws (m + j) = (blockL (cntL ws q)).getD j 0) := fun j hj => by rw [HM64.out]; exact strAt_block ws q j hj
      have hsz : (Tryz.prog.info? 233).map (·.size) = some (wArr (cntL ws q)).size := by rw [wArr_size, hul]; kernel_rfl
      have HSU : Hid ((cntL ws q).set 12 ((cntL ws q).getD 12 0#32 + 1#32) = cntL ws (q + 1)) := cntL_succ ws q hws
      generalize cntL ws q = us at hrow hul HBL hsz HSU
      go_wp2_with ((with_reducible (refine wpList_id ?_)); refine wpList_load_row rfl 233 _ rfl w.heap.size rfl 233 _ (0, 0) _ hrow Tryz.underlying233 rfl hsz ?_)
      refine (scrambled_any us wr hul (ht.below hpos hb)).mono ?_
      rintro e w2 ⟨rfl, b2⟩
      have hbl := blockL_length us
      have hbb := blockL_byte us
      generalize blockL us = bs at hbl hbb HBL
      have hsz2 : (Tryz.prog.info? 186).map (·.size) = some (bArr bs).size := by rw [bArr_size, hbl]; kernel_rfl
      have hone : (bArr bs).all (·.oneCell') = true := by simp [bArr, Value.oneCell']
      have hkeep : ∀ k, Value.ownBlock (.slice a m cap) = some k → k < wr.heap.size := fun k hk => (hown.lt k hk).2
      by_cases h64 : (64 : Int) ≤ (n : Int) - (m : Int)
      · have HRr : Hid (m + 64 = min (64 * (q + 1)) n) := by have := HM64.out; unfold Hid; omega
        have hrn : m + 64 ≤ n := by omega
        have hr64 : 64 ≤ 64 := by omega
        go_wp2_with ((with_reducible (refine wpList_id ?_)); refine wpList_store_row rfl 186 _ _ rfl w2.heap.size _ rfl rfl 186 (bArr (List.replicate 64 0)) (heap_alloc_new _ _) hsz2 (by rw [bArr_size, bArr_size, hbl]; rfl) hone ?_)
        generalize hW3 : World.setRow _ _ _ = W3
        obtain ⟨hg3, b3, hs3⟩ := block_row w2 bs _ 186 (bArr (List.replicate 64 0)) rfl hW3
        clear hW3
        have b23 : Below wr.heap.size wr W3 := b2.trans (b3.mono b2.size)
        have hrow3 := (b23.block w.heap.size hBlt).trans hrow
        have hown3 := owns_keep hown (fun k hk => b23.block k (hkeep k hk))
        have hb3 : Below w.heap.size w W3 := hb.trans (b23.mono hb.size)
        have hgB : w.heap.size < w2.heap.size := Nat.lt_of_lt_of_le hBlt b2.size
        clear hown hrow hb b2 b3 b23 hkeep hs3 hsz hsz2 hone hmn hmni
        generalize w2.heap.size = g at hg3 hgB ⊢
        go_loopw [5, 27] (fun v i wr => ∃ (j : Nat) (a : Option Addr) (cap : Nat), j ≤ 64 ∧ i = .int .i64 j ∧ v = .slice a (m + j) cap ∧ wr.ownsRow w.heap.size 5 1 v (mixTo ws d (m + j)).length ((mixTo ws d (m + j)).map (Value.int .u8)) ∧ wr.heap[w.heap.size]? = some (.cells (wArr us) 233 (0, 0)) ∧ wr.heap[g]? = some (.cells (bArr bs) 186 (0, 0)) ∧ Below w.heap.size w wr) (fun _ i _ => 64 - (intOf i).toNat)
        case atStart => exact ⟨0, a, cap, by omega, rfl, rfl, hown3, hrow3, hg3, hb3⟩
        case round =>
          clear hown3 hrow3 hg3 hb3
          obtain ⟨j, a2, cap2, hj, rfl, rfl, hown, hrow, hg, hb⟩ := hrel
          by_cases hjr : j < 64
          · have hjri : (j : Int) < (64 : Int) := by omega
            have hlt := hown.lt
            have cb := (cell_of_row wr _ j _ _ _ hg).trans (bArr_get bs j (by omega))
            obtain ⟨bd, od, rfl, hbd, hcd⟩ : ∃ bd od, ad = some ⟨bd, od, none⟩ ∧ bd < w.heap.size ∧ w.cell? ⟨bd, od + (m + j), none⟩ = some (.int .u8 (d.getD (m + j) 0)) := by
              obtain ⟨⟨a', cap', e', _, _, h1'⟩, _, _⟩ := hds
              rw [HN.out] at e' h1'
              simp only [Value.slice.injEq] at e'
              obtain ⟨rfl, _, _⟩ := e'
              rcases h1' with h1' | ⟨b', o', rfl, hb', hc'⟩
              · have := HN.out; rw [h1'] at this; simp at this; omega
              · exact ⟨b', o', rfl, hb', hc' (m + j) (by omega)⟩
            have cd := (hb.cell (p := ⟨bd, od + (m + j), none⟩) hbd).trans hcd
            have y1 := getD_byte hbb j
            have y2 := getD_byte hba (m + j)
            have HV : Hid (mixTo ws d (m + (j + 1)) = mixTo ws d (m + j) ++ [bx (bs.getD j 0) (d.getD (m + j) 0)]) := by
              unfold Hid
              rw [← HBL.out j (by omega)]
              rfl
            have hml := mixTo_length ws d (m + j)
            have HBX := bx_byte y1 y2
            have HXX : Hid (bits .xor .u8 (bs.getD j 0) (d.getD (m + j) 0) = bx (bs.getD j 0) (d.getD (m + j) 0)) := bx_bits y1 y2
            have HBB : Hid (0 ≤ bx (bs.getD j 0) (d.getD (m + j) 0) ∧ bx (bs.getD j 0) (d.getD (m + j) 0) < 256) := HBX
            clear HBX hcd
            generalize bs.getD j 0 = x at cb y1 HV HXX HBB
            generalize d.getD (m + j) 0 = y at cd y2 HV HXX HBB
            generalize bx x y = xy at HV HXX HBB
            generalize mixTo ws d (m + j) = pre at hown hml HV
            go_wp2_with (at_builtin; refine wpList_append_sl _ rfl _ _ 26 rfl w.heap.size 5 Tryz.underlying26 info5 _ _ rfl rfl pre [xy] (hown.alloc _) (Sl.one2 _ _ _ _ rfl HBB.out HXX.out) (by rw [hml]; simp; omega) (by have := hb.size; simp; omega) ?_)
            intro v' w' ho hgr
            have ho' : w'.ownsRow w.heap.size 5 1 v' (pre ++ [xy]).length ((pre ++ [xy]).map (Value.int .u8)) := by simpa [hml] using ho
            have hb' : Below w.heap.size w w' := (hb.alloc hb.size _).grown hgr (by have := hb.size; simp; omega) (fun k hk => (hlt k hk).1)
            have n1 := own_ne hown hrow (by decide)
            have n2 := own_ne hown hg (by decide)
            have hBs : w.heap.size < wr.heap.size := (Array.getElem?_eq_some_iff.1 hrow).1
            have hgs : g < wr.heap.size := (Array.getElem?_eq_some_iff.1 hg).1
            have hrow' : w'.heap[w.heap.size]? = some (.cells (wArr us) 233 (0, 0)) := ((hgr.block w.heap.size (by simp; omega) n1.symm).trans (heap_alloc_old _ _ hBs)).trans hrow
            have hg' : w'.heap[g]? = some (.cells (bArr bs) 186 (0, 0)) := ((hgr.block g (by simp; omega) n2.symm).trans (heap_alloc_old _ _ hgs)).trans hg
            obtain ⟨a3, c3, hv3⟩ := owns_shape2 ho'
            rw [List.length_append, hml, List.length_singleton] at hv3
            subst hv3
            clear ho hgr hown hlt hb hrow hg cb cd n1 n2
            go_wp2
            go_roundw
            case rel => exact ⟨j + 1, a3, c3, by omega, by go_num, rfl, by rw [HV.out]; exact ho', hrow', hg', hb'⟩
            case measure => simp [intOf]; omega
          · have hjri : ¬ (j : Int) < (64 : Int) := by omega
            have HJ : Hid (j = 64) := by unfold Hid; omega
            have c12 := (cell_of_row wr _ 12 _ _ _ hrow).trans (wArr_get us 12 (by omega))
            have f12 := frozen_of_row wr _ 12 _ _ hrow
            generalize hcw : us.getD 12 0#32 = cw at c12
            have HCW : Hid (us.getD 12 0#32 = cw) := hcw
            clear hcw
            have hinc := uw_inc cw
            have n1 := own_ne hown hrow (by decide)
            go_wp2
            go_roundw
            case rel =>
              refine ⟨q + 1, m + j, a2, cap2, by rw [HJ.out]; exact HRr.out, rfl, owns_keep hown (fun k hk => heap_setCell_other _ _ _ _ (by simp; intro e; subst e; exact n1 hk)), ?_, hb.setCell (p := ⟨w.heap.size, 12, none⟩) (Nat.le_refl _) _⟩
              rw [← HSU.out, HCW.out]
              exact st_store hrow 12 _
            case measure => simp [lenV]; have := HJ.out; omega
      · obtain ⟨r, hrsub⟩ : ∃ r : Nat, (n : Int) - (m : Int) = (r : Int) := ⟨n - m, by omega⟩
        have HRr : Hid (m + r = min (64 * (q + 1)) n) := by have := HM64.out; unfold Hid; omega
        have hrn : m + r ≤ n := by omega
        have hr64 : r ≤ 64 := by omega
        have hr64i : (r : Int) ≤ 64 := by omega
        have hr0i : (0 : Int) ≤ (r : Int) := by omega
        have hr1 : 0 < r := by omega
        go_wp2_with ((with_reducible (refine wpList_id ?_)); refine wpList_store_row rfl 186 _ _ rfl w2.heap.size _ rfl rfl 186 (bArr (List.replicate 64 0)) (heap_alloc_new _ _) hsz2 (by rw [bArr_size, bArr_size, hbl]; rfl) hone ?_)
        generalize hW3 : World.setRow _ _ _ = W3
        obtain ⟨hg3, b3, hs3⟩ := block_row w2 bs _ 186 (bArr (List.replicate 64 0)) rfl hW3
        clear hW3
        have b23 : Below wr.heap.size wr W3 := b2.trans (b3.mono b2.size)
        have hrow3 := (b23.block w.heap.size hBlt).trans hrow
        have hown3 := owns_keep hown (fun k hk => b23.block k (hkeep k hk))
        have hb3 : Below w.heap.size w W3 := hb.trans (b23.mono hb.size)
        have hgB : w.heap.size < w2.heap.size := Nat.lt_of_lt_of_le hBlt b2.size
        clear hown hrow hb b2 b3 b23 hkeep hs3 hsz hsz2 hone hmn hmni
        generalize w2.heap.size = g at hg3 hgB ⊢
        go_loopw [5, 27] (fun v i wr => ∃ (j : Nat) (a : Option Addr) (cap : Nat), j ≤ r ∧ i = .int .i64 j ∧ v = .slice a (m + j) cap ∧ wr.ownsRow w.heap.size 5 1 v (mixTo ws d (m + j)).length ((mixTo ws d (m + j)).map (Value.int .u8)) ∧ wr.heap[w.heap.size]? = some (.cells (wArr us) 233 (0, 0)) ∧ wr.heap[g]? = some (.cells (bArr bs) 186 (0, 0)) ∧ Below w.heap.size w wr) (fun _ i _ => r - (intOf i).toNat)
        case atStart => exact ⟨0, a, cap, by omega, rfl, rfl, hown3, hrow3, hg3, hb3⟩
        case round =>
          clear hown3 hrow3 hg3 hb3
          obtain ⟨j, a2, cap2, hj, rfl, rfl, hown, hrow, hg, hb⟩ := hrel
          by_cases hjr : j < r
          · have hjri : (j : Int) < (r : Int) := by omega
            have hlt := hown.lt
            have cb := (cell_of_row wr _ j _ _ _ hg).trans (bArr_get bs j (by omega))
            obtain ⟨bd, od, rfl, hbd, hcd⟩ : ∃ bd od, ad = some ⟨bd, od, none⟩ ∧ bd < w.heap.size ∧ w.cell? ⟨bd, od + (m + j), none⟩ = some (.int .u8 (d.getD (m + j) 0)) := by
              obtain ⟨⟨a', cap', e', _, _, h1'⟩, _, _⟩ := hds
              rw [HN.out] at e' h1'
              simp only [Value.slice.injEq] at e'
              obtain ⟨rfl, _, _⟩ := e'
              rcases h1' with h1' | ⟨b', o', rfl, hb', hc'⟩
              · have := HN.out; rw [h1'] at this; simp at this; omega
              · exact ⟨b', o', rfl, hb', hc' (m + j) (by omega)⟩
            have cd := (hb.cell (p := ⟨bd, od + (m + j), none⟩) hbd).trans hcd
            have y1 := getD_byte hbb j
            have y2 := getD_byte hba (m + j)
            have HV : Hid (mixTo ws d (m + (j + 1)) = mixTo ws d (m + j) ++ [bx (bs.getD j 0) (d.getD (m + j) 0)]) := by
              unfold Hid
              rw [← HBL.out j (by omega)]
              rfl
            have hml := mixTo_length ws d (m + j)
            have HBX := bx_byte y1 y2
            have HXX : Hid (bits .xor .u8 (bs.getD j 0) (d.getD (m + j) 0) = bx (bs.getD j 0) (d.getD (m + j) 0)) := bx_bits y1 y2
            have HBB : Hid (0 ≤ bx (bs.getD j 0) (d.getD (m + j) 0) ∧ bx (bs.getD j 0) (d.getD (m + j) 0) < 256) := HBX
            clear HBX hcd
            generalize bs.getD j 0 = x at cb y1 HV HXX HBB
            generalize d.getD (m + j) 0 = y at cd y2 HV HXX HBB
            generalize bx x y = xy at HV HXX HBB
            generalize mixTo ws d (m + j) = pre at hown hml HV
            go_wp2_with (at_builtin; refine wpList_append_sl _ rfl _ _ 26 rfl w.heap.size 5 Tryz.underlying26 info5 _ _ rfl rfl pre [xy] (hown.alloc _) (Sl.one2 _ _ _ _ rfl HBB.out HXX.out) (by rw [hml]; simp; omega) (by have := hb.size; simp; omega) ?_)
            intro v' w' ho hgr
            have ho' : w'.ownsRow w.heap.size 5 1 v' (pre ++ [xy]).length ((pre ++ [xy]).map (Value.int .u8)) := by simpa [hml] using ho
            have hb' : Below w.heap.size w w' := (hb.alloc hb.size _).grown hgr (by have := hb.size; simp; omega) (fun k hk => (hlt k hk).1)
            have n1 := own_ne hown hrow (by decide)
            have n2 := own_ne hown hg (by decide)
            have hBs : w.heap.size < wr.heap.size := (Array.getElem?_eq_some_iff.1 hrow).1
            have hgs : g < wr.heap.size := (Array.getElem?_eq_some_iff.1 hg).1
            have hrow' : w'.heap[w.heap.size]? = some (.cells (wArr us) 233 (0, 0)) := ((hgr.block w.heap.size (by simp; omega) n1.symm).trans (heap_alloc_old _ _ hBs)).trans hrow
            have hg' : w'.heap[g]? = some (.cells (bArr bs) 186 (0, 0)) := ((hgr.block g (by simp; omega) n2.symm).trans (heap_alloc_old _ _ hgs)).trans hg
            obtain ⟨a3, c3, hv3⟩ := owns_shape2 ho'
            rw [List.length_append, hml, List.length_singleton] at hv3
            subst hv3
            clear ho hgr hown hlt hb hrow hg cb cd n1 n2
            go_wp2
            go_roundw
            case rel => exact ⟨j + 1, a3, c3, by omega, by go_num, rfl, by rw [HV.out]; exact ho', hrow', hg', hb'⟩
            case measure => simp [intOf]; omega
          · have hjri : ¬ (j : Int) < (r : Int) := by omega
            have HJ : Hid (j = r) := by unfold Hid; omega
            have c12 := (cell_of_row wr _ 12 _ _ _ hrow).trans (wArr_get us 12 (by omega))
            have f12 := frozen_of_row wr _ 12 _ _ hrow
            generalize hcw : us.getD 12 0#32 = cw at c12
            have HCW : Hid (us.getD 12 0#32 = cw) := hcw
            clear hcw
            have hinc := uw_inc cw
            have n1 := own_ne hown hrow (by decide)
            go_wp2
            go_roundw
            case rel =>
              refine ⟨q + 1, m + j, a2, cap2, by rw [HJ.out]; exact HRr.out, rfl, owns_keep hown (fun k hk => heap_setCell_other _ _ _ _ (by simp; intro e; subst e; exact n1 hk)), ?_, hb.setCell (p := ⟨w.heap.size, 12, none⟩) (Nat.le_refl _) _⟩
              rw [← HSU.out, HCW.out]
              exact st_store hrow 12 _
            case measure => simp [lenV]; have := HJ.out; omega
    · have hmni : ¬ (m : Int) < (n : Int) := by omega
      have HMN : Hid (n = m) := by unfold Hid; omega
      go_wp2
      go_ret
      refine ⟨_, rfl, ?_, hb⟩
      unfold mixL
      rw [HN.out, HMN.out]
      exact hown

/-- what is mixed is a row of the call's own -/
theorem mix_own (vk vn vd : Value) (key nonce d : List Int) (c : Nat) (w : World) (hk : Sl w vk key) (hn : Sl w vn nonce) (hd : Sl w vd d) (lk : key.length = 32) (ln : nonce.length = 12) (hc : c ≤ 1073741824) (ld : d.length ≤ 2000) (ht : QTab w) :
    Calls Tryz.prog 137 #[vk, .int .i64 c, vn, vd] w fun e w' => ∃ v', e = .returned (.tuple #[v', .int .i64 0]) ∧ w'.ownsRow w.heap.size 5 1 v' (mixL (begunL key (BitVec.ofNat 32 c) nonce) d).length ((mixL (begunL key (BitVec.ofNat 32 c) nonce) d).map (Value.int .u8)) ∧ Below w.heap.size w w' := by
  have hds := hd
  obtain ⟨⟨ad, capd, rfl, hcd, hnd, h1⟩, hla, hba⟩ := hd
  clear h1
  have ldi : (d.length : Int) ≤ 2000 := by omega
  go_enter Tryz.func137, Tryz.ntmps137
  go_wp2_with fail
  refine (refused_any vk vn key nonce c w hk hn).mono ?_
  rintro e w1 ⟨rfl, rfl⟩
  rw [chaErr_ok lk ln (by omega)]
  go_wp2_with fail
  refine (begun_any vk vn key nonce c w1 hk hn lk ln (by omega)).mono ?_
  rintro e w2 ⟨rfl, b2⟩
  have hl := begunL_length key (BitVec.ofNat 32 c) nonce
  generalize hus : begunL key (BitVec.ofNat 32 c) nonce = us at hl
  have HUS : Hid (begunL key (BitVec.ofNat 32 c) nonce = us) := hus
  clear hus
  go_wp2_with fail
  refine (cmixed_any us _ d w2 hl (hds.below b2) (by omega) (ht.below ht.pos b2)).mono ?_
  rintro e w3 ⟨v3, rfl, ho3, b3⟩
  go_wp2
  go_ret2
  refine ⟨v3, rfl, ?_, b2.trans (b3.mono b2.size)⟩
  rw [HUS.out]
  exact owns_lower ho3 b2.size

theorem mix_ok (vk vn vd : Value) (key nonce d : List Int) (c : Nat) (w : World) (hk : Sl w vk key) (hn : Sl w vn nonce) (hd : Sl w vd d) (lk : key.length = 32) (ln : nonce.length = 12) (hc : c ≤ 1073741824) (ld : d.length ≤ 2000) (ht : QTab w) :
    Calls Tryz.prog 137 #[vk, .int .i64 c, vn, vd] w fun e w' => ∃ v', e = .returned (.tuple #[v', .int .i64 0]) ∧ Got w w' v' (mixL (begunL key (BitVec.ofNat 32 c) nonce) d) := by
  have hba := hd.byte
  refine (mix_own vk vn vd key nonce d c w hk hn hd lk ln hc ld ht).mono ?_
  rintro e w3 ⟨v3, rfl, ho3, b3⟩
  exact ⟨v3, rfl, Sl.ofOwns ho3 (by rw [mixL_length]; omega) (mixL_byte _ hba), b3, fun b o n c e => (ho3.lt b (by rw [e]; rfl)).1⟩

theorem mix_no (vk vn vd : Value) (key nonce : List Int) (c : Int) (w : World) (hk : Sl w vk key) (hn : Sl w vn nonce) (hE : chaErr key nonce c ≠ 0) :
    Calls Tryz.prog 137 #[vk, .int .i64 c, vn, vd] w fun e w' => e = .returned (.tuple #[.slice none 0 0, .int .i64 (chaErr key nonce c)]) ∧ w' = w := by
  go_enter Tryz.func137, Tryz.ntmps137
  go_wp2_with fail
  refine (refused_any vk vn key nonce c w hk hn).mono ?_
  rintro e w1 ⟨rfl, rfl⟩
  generalize hEE : chaErr key nonce c = E at hE
  have HE : Hid (chaErr key nonce c = E) := hEE
  clear hEE
  go_wp2
  go_ret2
  exact ⟨by rw [HE.out]; rfl, rfl⟩

theorem mix_long (vk vn vd : Value) (key nonce d : List Int) (c : Int) (w : World) (hk : Sl w vk key) (hn : Sl w vn nonce) (hd : Sl w vd d) (hE : chaErr key nonce c = 0) (ld : 2000 < d.length) :
    Calls Tryz.prog 137 #[vk, .int .i64 c, vn, vd] w fun e w' => e = .returned (.tuple #[.slice none 0 0, .int .i64 1]) ∧ w' = w := by
  obtain ⟨⟨ad, capd, rfl, hcd, hnd, h1⟩, hla, hba⟩ := hd
  clear h1
  have ldi : (2000 : Int) < (d.length : Int) := by omega
  go_enter Tryz.func137, Tryz.ntmps137
  go_wp2_with fail
  refine (refused_any vk vn key nonce c w hk hn).mono ?_
  rintro e w1 ⟨rfl, rfl⟩
  rw [hE]
  go_wp2
  go_ret2
  exact ⟨rfl, rfl⟩
end Go.Proofs.YtakgfdbjgeopdaaGreatDoor
/-
  Numbers in limbs of 26 bits, and Poly1305 in plain numbers. No program is named here.
-/
namespace Go.Proofs.YtakgfdbjgeopdaaGreatDoor
open Go.RowKit

def nArr (l : List Int) : Array Value := (l.map (Value.int .u64)).toArray
theorem nArr_size (l : List Int) : (nArr l).size = l.length := by simp [nArr]
theorem nArr_get (l : List Int) (i : Nat) (h : i < l.length) : (nArr l)[i]? = some (.int .u64 (l.getD i 0)) := by
  simp [nArr, List.getD, List.getElem?_eq_getElem h]
theorem nArr_set (l : List Int) (i : Nat) (x : Int) : (nArr l).setIfInBounds i (.int .u64 x) = nArr (l.set i x) := by
  apply Array.ext'
  simp [nArr, List.map_set]
theorem n_store {w : World} {g : Nat} {l : List Int} {t : TypeId} (h : w.heap[g]? = some (.cells (nArr l) t (0, 0))) (k : Nat) (x : Int) :
    (w.setCell ⟨g, k, none⟩ (.int .u64 x)).heap[g]? = some (.cells (nArr (l.set k x)) t (0, 0)) := by
  rw [heap_setCell_same _ _ _ _ _ _ h, nArr_set]
theorem nArr_one (l : List Int) : (nArr l).all (·.oneCell') = true := by simp [nArr, Value.oneCell']

theorem list5 : ∀ (S : List Int), S.length = 5 → ∃ a b c d e, S = [a, b, c, d, e]
  | [a, b, c, d, e], _ => ⟨a, b, c, d, e, rfl⟩

/-- the number that limbs are -/
def val : List Int → Int
  | [] => 0
  | x :: l => x + 67108864 * val l

/-- five limbs, each below a bound -/
def Lim (B : Int) (l : List Int) : Prop := l.length = 5 ∧ ∀ j, 0 ≤ l.getD j 0 ∧ l.getD j 0 < B
theorem Lim.of5 {B a b c d e : Int} (ha : 0 ≤ a ∧ a < B) (hb : 0 ≤ b ∧ b < B) (hc : 0 ≤ c ∧ c < B) (hd : 0 ≤ d ∧ d < B) (he : 0 ≤ e ∧ e < B) : Lim B [a, b, c, d, e] := by
  refine ⟨rfl, fun j => ?_⟩
  match j with
  | 0 => exact ha
  | 1 => exact hb
  | 2 => exact hc
  | 3 => exact hd
  | 4 => exact he
  | j + 5 => simp [List.getD]; omega
theorem Lim.split {B : Int} {l : List Int} (h : Lim B l) : ∃ a b c d e, l = [a, b, c, d, e] ∧ (0 ≤ a ∧ a < B) ∧ (0 ≤ b ∧ b < B) ∧ (0 ≤ c ∧ c < B) ∧ (0 ≤ d ∧ d < B) ∧ (0 ≤ e ∧ e < B) := by
  obtain ⟨a, b, c, d, e, rfl⟩ := list5 l h.1
  exact ⟨a, b, c, d, e, rfl, h.2 0, h.2 1, h.2 2, h.2 3, h.2 4⟩
theorem Lim.mono {B C : Int} {l : List Int} (h : Lim B l) (hBC : B ≤ C) : Lim C l := ⟨h.1, fun j => ⟨(h.2 j).1, by have := (h.2 j).2; omega⟩⟩

theorem val5 (a b c d e : Int) : val [a, b, c, d, e] = a + 67108864 * b + 4503599627370496 * c + 302231454903657293676544 * d + 20282409603651670423947251286016 * e := by
  simp only [val]; omega

/-- what stands after k rounds of carrying -/
structure Carr (l m : List Int) (k : Nat) (o : Int) : Prop where
  len : m.length = 5
  sum : val m + o * 67108864 ^ k = val l
  done : ∀ j, j < k → 0 ≤ m.getD j 0 ∧ m.getD j 0 < 67108864
  rest : ∀ j, k ≤ j → m.getD j 0 = l.getD j 0
  lo : 0 ≤ o
  hi : o < 274877906944

theorem Carr.zero {l : List Int} (h : l.length = 5) : Carr l l 0 0 := ⟨h, by omega, fun _ h => by omega, fun _ _ => rfl, by omega, by omega⟩

theorem Carr.succ {l m : List Int} {k : Nat} {o : Int} (h : Carr l m k o) (hl : Lim 9223372036854775808 l) (hk : k < 5) :
    Carr l (m.set k ((m.getD k 0 + o) % 67108864)) (k + 1) ((m.getD k 0 + o) / 67108864) := by
  obtain ⟨l0, l1, l2, l3, l4, rfl, b0, b1, b2, b3, b4⟩ := hl.split
  obtain ⟨m0, m1, m2, m3, m4, rfl⟩ := list5 m h.len
  have hs := h.sum
  have hd := h.done
  have hr := h.rest
  have h1 := h.lo
  have h2 := h.hi
  rw [val5] at hs
  rw [val5] at hs
  obtain rfl | rfl | rfl | rfl | rfl : k = 0 ∨ k = 1 ∨ k = 2 ∨ k = 3 ∨ k = 4 := by omega
  · have e0 : m0 = l0 := hr 0 (by omega)
    have e1 : m1 = l1 := hr 1 (by omega)
    have e2 : m2 = l2 := hr 2 (by omega)
    have e3 : m3 = l3 := hr 3 (by omega)
    have e4 : m4 = l4 := hr 4 (by omega)
    simp only [List.set_cons_zero, List.getD_cons_zero]
    refine ⟨rfl, ?_, fun j hj => ?_, fun j hj => ?_, by omega, by omega⟩
    · rw [val5, val5]; omega
    · obtain rfl : j = 0 := by omega
      simp only [List.getD_cons_zero]; omega
    · obtain ⟨j, rfl⟩ : ∃ i, j = i + 1 := ⟨j - 1, by omega⟩
      have := hr (j + 1) (by omega)
      simpa using this
  · have e1 : m1 = l1 := hr 1 (by omega)
    have d0 : 0 ≤ m0 ∧ m0 < 67108864 := hd 0 (by omega)
    simp only [List.set_cons_zero, List.set_cons_succ, List.getD_cons_zero, List.getD_cons_succ]
    refine ⟨rfl, ?_, fun j hj => ?_, fun j hj => ?_, by omega, by omega⟩
    · rw [val5, val5]; omega
    · obtain rfl | rfl : j = 0 ∨ j = 1 := by omega
      · exact d0
      · simp only [List.getD_cons_zero, List.getD_cons_succ]; omega
    · obtain ⟨j, rfl⟩ : ∃ i, j = i + 2 := ⟨j - 2, by omega⟩
      have := hr (j + 2) (by omega)
      simpa using this
  · have e1 : m2 = l2 := hr 2 (by omega)
    have d0 : 0 ≤ m0 ∧ m0 < 67108864 := hd 0 (by omega)
    have d1 : 0 ≤ m1 ∧ m1 < 67108864 := hd 1 (by omega)
    simp only [List.set_cons_zero, List.set_cons_succ, List.getD_cons_zero, List.getD_cons_succ]
    refine ⟨rfl, ?_, fun j hj => ?_, fun j hj => ?_, by omega, by omega⟩
    · rw [val5, val5]; omega
    · obtain rfl | rfl | rfl : j = 0 ∨ j = 1 ∨ j = 2 := by omega
      · exact d0
      · exact d1
      · simp only [List.getD_cons_zero, List.getD_cons_succ]; omega
    · obtain ⟨j, rfl⟩ : ∃ i, j = i + 3 := ⟨j - 3, by omega⟩
      have := hr (j + 3) (by omega)
      simpa using this
  · have e1 : m3 = l3 := hr 3 (by omega)
    have d0 : 0 ≤ m0 ∧ m0 < 67108864 := hd 0 (by omega)
    have d1 : 0 ≤ m1 ∧ m1 < 67108864 := hd 1 (by omega)
    have d2 : 0 ≤ m2 ∧ m2 < 67108864 := hd 2 (by omega)
    simp only [List.set_cons_zero, List.set_cons_succ, List.getD_cons_zero, List.getD_cons_succ]
    refine ⟨rfl, ?_, fun j hj => ?_, fun j hj => ?_, by omega, by omega⟩
    · rw [val5, val5]; omega
    · obtain rfl | rfl | rfl | rfl : j = 0 ∨ j = 1 ∨ j = 2 ∨ j = 3 := by omega
      · exact d0
      · exact d1
      · exact d2
      · simp only [List.getD_cons_zero, List.getD_cons_succ]; omega
    · obtain ⟨j, rfl⟩ : ∃ i, j = i + 4 := ⟨j - 4, by omega⟩
      have := hr (j + 4) (by omega)
      simpa using this
  · have e1 : m4 = l4 := hr 4 (by omega)
    have d0 : 0 ≤ m0 ∧ m0 < 67108864 := hd 0 (by omega)
    have d1 : 0 ≤ m1 ∧ m1 < 67108864 := hd 1 (by omega)
    have d2 : 0 ≤ m2 ∧ m2 < 67108864 := hd 2 (by omega)
    have d3 : 0 ≤ m3 ∧ m3 < 67108864 := hd 3 (by omega)
    simp only [List.set_cons_zero, List.set_cons_succ, List.getD_cons_zero, List.getD_cons_succ]
    refine ⟨rfl, ?_, fun j hj => ?_, fun j hj => ?_, by omega, by omega⟩
    · rw [val5, val5]; omega
    · obtain rfl | rfl | rfl | rfl | rfl : j = 0 ∨ j = 1 ∨ j = 2 ∨ j = 3 ∨ j = 4 := by omega
      · exact d0
      · exact d1
      · exact d2
      · exact d3
      · simp only [List.getD_cons_zero, List.getD_cons_succ]; omega
    · obtain ⟨j, rfl⟩ : ∃ i, j = i + 5 := ⟨j - 5, by omega⟩
      simp [List.getD]

theorem Carr.five {l m : List Int} {o : Int} (h : Carr l m 5 o) : Lim 67108864 m ∧ val m + 1361129467683753853853498429727072845824 * o = val l := by
  refine ⟨⟨h.len, fun j => ?_⟩, ?_⟩
  · by_cases hj : j < 5
    · exact h.done j hj
    · rw [getD_past (by have := h.len; omega)]; omega
  · have := h.sum; omega

def pp : Int := 1361129467683753853853498429727072845819
end Go.Proofs.YtakgfdbjgeopdaaGreatDoor
