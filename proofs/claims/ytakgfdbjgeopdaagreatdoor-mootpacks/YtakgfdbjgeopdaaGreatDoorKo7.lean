/-
  The walks of carrying.
-/
import Derived.Laws.ResultCell
import Derived.Test.YtakgfdbjgeopdaaGreatDoorKo6
import Derived.Test.YtakgfdbjgeopdaaGreatDoorKo2
namespace Go.Proofs.YtakgfdbjgeopdaaGreatDoor
open Go.RowKit

theorem and26 (x : Int) (h0 : 0 ≤ x) (h1 : x < 18446744073709551616) : bits .and .u64 x 67108863 = x % 67108864 := by
  obtain ⟨n, rfl⟩ := Int.eq_ofNat_of_zero_le h0
  rw [show (67108863 : Int) = ((67108863 : Nat) : Int) from rfl, u64_and_nat _ _ (by omega) (by omega), show (67108863 : Nat) = 2 ^ 26 - 1 from rfl, Nat.and_two_pow_sub_one_eq_mod]
  omega

theorem nInfo {l : List Int} (h : l.length = 5) : (Tryz.prog.info? 273).map (·.size) = some (nArr l).size := by rw [nArr_size, h]; kernel_rfl

theorem below_row {B : Nat} {a w : World} (h : Below B a w) {g : Nat} (hg : B ≤ g) (cs : Array Value) : Below B a (w.setRow g cs) :=
  h.trans ⟨rfl, rfl, rfl, by simp, fun k hk => setRow_other w g k cs (by omega)⟩

theorem results_cell_row_tmp {P : Program} {fn : Func} {p u : Tmp} {ty : TypeId} (h : fn.results = #[.cell p ty, .tmp u]) (tmps : Array Value) (w : World) (g : Nat) (t : TypeId) (cs : Array Value) (fr : Nat × Nat) (d : TypeDesc)
    (hp : tmps.getD p undef = .pointer (some ⟨g, 0, none⟩)) (hg : w.heap[g]? = some (.cells cs t fr))
    (hu : P.underlying ty = some d) (hd : (match d with | .struct _ | .array _ _ => true | _ => false) = true) (hi : (P.info? ty).map (·.size) = some cs.size) {v : Value} (hv : tmps.getD u undef = v) :
    (results fn tmps).run P w = .ok (.tuple #[.agg cs, v]) w := by
  have hp' : tmps[p]?.getD undef = .pointer (some ⟨g, 0, none⟩) := by simpa using hp
  rw [results_cell_tmp h, hv]
  simp [hp', asAddr, run_loadVar_row w g t ty cs fr d hg hu hd hi]

/-- for a look at what a goal is, ahead of a law -/
theorem wpList_look {P : Program} {ops : Array Oper} {Q : Exit → Act → World → Prop} {l : List Oper} {a : Act} {w : World} (h : wpList P ops Q l a w) : wpList P ops Q l a w := h

set_option maxHeartbeats 1000000 in
set_option maxRecDepth 100000 in
theorem once_any (l : List Int) (w : World) (hl : Lim 9223372036854775808 l) :
    Calls Tryz.prog 256 #[.agg (nArr l)] w fun e w' => ∃ m o, e = .returned (.tuple #[.agg (nArr m), .int .u64 o]) ∧ Carr l m 5 o ∧ Below w.heap.size w w' := by
  have h5 := hl.1
  have hsz := nInfo h5
  go_enter Tryz.func256, Tryz.ntmps256
  go_wp2_with fail
  go_loopw [4, 6] (fun o i wr => ∃ (k : Nat) (m : List Int) (ov : Int), k ≤ 5 ∧ i = .int .i64 k ∧ o = .int .u64 ov ∧ Carr l m k ov ∧ wr.heap[w.heap.size]? = some (.cells (nArr m) 273 (0, 0)) ∧ wr.heap[w.heap.size + 1]? = some (.cells (nArr [0, 0, 0, 0, 0]) 273 (0, 0)) ∧ Below w.heap.size w wr) (fun _ i _ => 5 - (intOf i).toNat)
  case atStart => 
    refine ⟨0, l, 0, by omega, rfl, rfl, Carr.zero h5, ?_, ?_, ?_⟩
    · exact heap_alloc2_old _ _ _
    · exact heap_alloc2_new _ _ _
    · exact ((Below.refl _ _).alloc (Nat.le_refl _) _).alloc (by simp) _
  case round =>
    obtain ⟨k, m, ov, hk, rfl, rfl, hc, hn, hr, hb⟩ := hrel
    by_cases hk5 : k < 5
    · have hki : (k : Int) < 5 := by omega
      have cn := (cell_of_row wr _ k _ _ _ hn).trans (nArr_get m k (by rw [hc.len]; omega))
      have fn := frozen_of_row wr _ k _ _ hn
      have hs := hc.succ hl hk5
      have o1 := hc.lo
      have o2 := hc.hi
      have e1 : m.getD k 0 = l.getD k 0 := hc.rest k (by omega)
      have b1 := hl.2 k
      rw [← e1] at b1
      have HS : Hid (Carr l (m.set k ((m.getD k 0 + ov) % 67108864)) (k + 1) ((m.getD k 0 + ov) / 67108864)) := hs
      clear hs hc e1
      generalize m.getD k 0 = x at cn HS b1
      obtain ⟨b1, b2⟩ := b1
      have ha := and26 (x + ov) (by omega) (by omega)
      go_wp2
      go_roundw
      case rel =>
        refine ⟨k + 1, _, _, by omega, by go_num, rfl, HS.out, ?_, ?_, ?_⟩
        · have h1 := n_store (n_store hn k (x + ov)) k ((x + ov) % 67108864)
          rw [List.set_set] at h1
          exact h1
        · rw [heap_setCell_other _ _ _ _ (by simp), heap_setCell_other _ _ _ _ (by simp)]; exact hr
        · exact (hb.setCell (p := ⟨w.heap.size, k, none⟩) (Nat.le_refl _) _).setCell (p := ⟨w.heap.size, k, none⟩) (Nat.le_refl _) _
      case measure => simp [intOf]; omega
    · have HK : Hid (k = 5) := by unfold Hid; omega
      have hki : ¬ (k : Int) < 5 := by omega
      have hsz1 := nInfo hc.len
      go_wp2_with ((with_reducible (refine wpList_look ?_)); first
        | (refine wpList_load_row rfl 273 _ rfl w.heap.size rfl 273 _ (0, 0) _ hn Tryz.underlying273 rfl hsz1 ?_)
        | (refine wpList_store_row rfl 273 _ _ rfl (w.heap.size + 1) _ rfl rfl 273 _ hr hsz1 (by rw [nArr_size, nArr_size, hc.len]; rfl) (nArr_one m) ?_))
      refine bodyPost_ret (v := .tuple #[.agg (nArr m), .int .u64 ov]) (results_cell_row_tmp rfl _ _ (w.heap.size + 1) 273 _ (0, 0) _ rfl (setRow_heap wr (w.heap.size + 1) _ _ 273 _ hr) Tryz.underlying273 rfl hsz1 rfl) rfl ⟨m, ov, rfl, by have := HK.out; subst this; exact hc, below_row hb (by omega) _⟩

/-- what stands after so many of the three rounds -/
def Rnd : Nat → List Int → Prop
  | 0, m => Lim 1152921504606846976 m
  | 1, m => Lim 274877906944 m ∧ val m < 1361129467683753853853498429727072845824 + 274877906944
  | 2, m => Lim 274877906944 m ∧ val m < 1361129467683753853853498429727072845824
  | _, m => Lim 67108864 m
theorem Rnd.lim : ∀ {k : Nat} {m : List Int}, Rnd k m → Lim 9223372036854775808 m
  | 0, _, h => Lim.mono h (by omega)
  | 1, _, h => Lim.mono h.1 (by omega)
  | 2, _, h => Lim.mono h.1 (by omega)
  | _ + 3, _, h => Lim.mono (B := 67108864) h (by omega)
theorem mod_pp (a b o : Int) (h : a + 1361129467683753853853498429727072845824 * o = b) : (a + 5 * o) % pp = b % pp := by
  rw [← h, show a + 1361129467683753853853498429727072845824 * o = a + 5 * o + pp * o by unfold pp; omega, Int.add_mul_emod_self_left]
theorem Rnd.succ {k : Nat} {l m : List Int} {o : Int} (h : Rnd k l) (hk : k < 3) (hc : Carr l m 5 o) : Rnd (k + 1) (m.set 0 (m.getD 0 0 + o * 5)) ∧ val (m.set 0 (m.getD 0 0 + o * 5)) % pp = val l % pp ∧ 0 ≤ m.getD 0 0 ∧ m.getD 0 0 < 67108864 ∧ 0 ≤ o ∧ o < 274877906944 := by
  obtain ⟨h1, h2⟩ := hc.five
  obtain ⟨m0, m1, m2, m3, m4, rfl, b0, b1, b2, b3, b4⟩ := h1.split
  have o1 := hc.lo
  have o2 := hc.hi
  simp only [List.set_cons_zero, List.getD_cons_zero]
  have hm := mod_pp _ _ _ h2
  rw [val5] at h2
  have e : val [m0 + o * 5, m1, m2, m3, m4] = val [m0, m1, m2, m3, m4] + 5 * o := by rw [val5, val5]; omega
  rw [← e] at hm
  refine ⟨?_, hm, b0.1, b0.2, o1, o2⟩
  obtain rfl | rfl | rfl : k = 0 ∨ k = 1 ∨ k = 2 := by omega
  · obtain ⟨l0, l1, l2, l3, l4, rfl, c0, c1, c2, c3, c4⟩ := Lim.split h
    rw [val5] at h2
    refine ⟨Lim.of5 (by omega) (by omega) (by omega) (by omega) (by omega), ?_⟩
    rw [val5]; omega
  · obtain ⟨h3, h4⟩ := h
    obtain ⟨l0, l1, l2, l3, l4, rfl, c0, c1, c2, c3, c4⟩ := Lim.split h3
    rw [val5] at h2 h4
    refine ⟨Lim.of5 (by omega) (by omega) (by omega) (by omega) (by omega), ?_⟩
    rw [val5]; omega
  · obtain ⟨h3, h4⟩ := h
    have ho : o = 0 := by omega
    subst ho
    show Lim 67108864 _
    exact Lim.of5 (by omega) (by omega) (by omega) (by omega) (by omega)

set_option maxHeartbeats 1000000 in
set_option maxRecDepth 100000 in
theorem carried_any (l : List Int) (w : World) (hl : Lim 1152921504606846976 l) :
    Calls Tryz.prog 255 #[.agg (nArr l)] w fun e w' => ∃ m, e = .returned (.agg (nArr m)) ∧ Lim 67108864 m ∧ val m % pp = val l % pp ∧ Below w.heap.size w w' := by
  have h5 := hl.1
  have hsz := nInfo h5
  go_enter Tryz.func255, Tryz.ntmps255
  go_wp2_with fail
  go_loopw [4] (fun i wr => ∃ (k : Nat) (m : List Int), k ≤ 3 ∧ i = .int .i64 k ∧ Rnd k m ∧ val m % pp = val l % pp ∧ wr.heap[w.heap.size]? = some (.cells (nArr m) 273 (0, 0)) ∧ wr.heap[w.heap.size + 1]? = some (.cells (nArr [0, 0, 0, 0, 0]) 273 (0, 0)) ∧ w.heap.size + 2 ≤ wr.heap.size ∧ Below w.heap.size w wr) (fun i _ => 3 - (intOf i).toNat)
  case atStart => 
    refine ⟨0, l, by omega, rfl, hl, rfl, ?_, ?_, by simp, ?_⟩
    · exact heap_alloc2_old _ _ _
    · exact heap_alloc2_new _ _ _
    · exact ((Below.refl _ _).alloc (Nat.le_refl _) _).alloc (by simp) _
  case round =>
    obtain ⟨k, m, hk, rfl, hc, hv, hn, hr, hz, hb⟩ := hrel
    have hm5 := hc.lim.1
    have hsz1 := nInfo hm5
    by_cases hk3 : k < 3
    · have hki : (k : Int) < 3 := by omega
      go_wp2_with ((with_reducible (refine wpList_look ?_)); refine wpList_load_row rfl 273 _ rfl w.heap.size rfl 273 _ (0, 0) _ hn Tryz.underlying273 rfl hsz1 ?_)
      refine (once_any m wr hc.lim).mono ?_
      rintro e w1 ⟨m1, o, rfl, hc1, hb1⟩
      obtain ⟨hs, hv1, x1, x2, o1, o2⟩ := hc.succ hk3 hc1
      have hl1 := hc1.len
      have hsz2 := nInfo hl1
      have hn1 := (hb1.block w.heap.size (by omega)).trans hn
      have hr1 := (hb1.block (w.heap.size + 1) (by omega)).trans hr
      have hz1 := hb1.size
      have hB1 : Below w.heap.size w w1 := hb.trans (hb1.mono (by omega))
      have hn2 := setRow_heap w1 w.heap.size (nArr m) (nArr m1) 273 (0, 0) hn1
      have hr2 : (w1.setRow w.heap.size (nArr m1)).heap[w.heap.size + 1]? = some (.cells (nArr [0, 0, 0, 0, 0]) 273 (0, 0)) := (setRow_other _ _ _ _ (by omega)).trans hr1
      have hB2 : Below w.heap.size w (w1.setRow w.heap.size (nArr m1)) := below_row hB1 (Nat.le_refl _) _
      have hz2 : (w1.setRow w.heap.size (nArr m1)).heap.size = w1.heap.size := by simp
      have cn := (cell_of_row _ _ 0 _ _ _ hn2).trans (nArr_get m1 0 (by omega))
      have fn := frozen_of_row _ _ 0 _ _ hn2
      have hs' : Hid (Rnd (k + 1) (m1.set 0 (m1.getD 0 0 + o * 5))) := hs
      have hv' : Hid (val (m1.set 0 (m1.getD 0 0 + o * 5)) % pp = val m % pp) := hv1
      have hst : Hid (((w1.setRow w.heap.size (nArr m1)).setCell ⟨w.heap.size, 0, none⟩ (.int .u64 (m1.getD 0 0 + o * 5))).heap[w.heap.size]? = some (.cells (nArr (m1.set 0 (m1.getD 0 0 + o * 5))) 273 (0, 0))) := n_store hn2 0 _
      clear hb hn hr hb1 hr1 hB1 hc hc1 hs hv1
      generalize m1.getD 0 0 = x at cn hs' hv' hst x1 x2
      go_wp2_with ((with_reducible (refine wpList_look ?_)); refine wpList_store_row rfl 273 _ _ rfl w.heap.size _ rfl rfl 273 _ hn1 hsz2 (by rw [nArr_size, nArr_size, hl1, hm5]) (nArr_one m1) ?_)
      go_roundw
      case rel =>
        refine ⟨k + 1, _, by omega, by go_num, hs'.out, hv'.out.trans hv, hst.out, ?_, ?_, ?_⟩
        · rw [heap_setCell_other _ _ _ _ (by simp)]; exact hr2
        · simp; omega
        · exact hB2.setCell (p := ⟨w.heap.size, 0, none⟩) (Nat.le_refl _) _
      case measure => simp [intOf]; omega
    · have hki : ¬ (k : Int) < 3 := by omega
      have hc3 : Lim 67108864 m := by
        obtain rfl : k = 3 := by omega
        exact hc
      go_wp2_with ((with_reducible (refine wpList_look ?_)); first
        | (refine wpList_load_row rfl 273 _ rfl w.heap.size rfl 273 _ (0, 0) _ hn Tryz.underlying273 rfl hsz1 ?_)
        | (refine wpList_store_row rfl 273 _ _ rfl (w.heap.size + 1) _ rfl rfl 273 _ hr hsz1 (by rw [nArr_size, nArr_size, hm5]; rfl) (nArr_one m) ?_))
      refine bodyPost_ret (v := .agg (nArr m)) (results_cell_row rfl _ _ (w.heap.size + 1) 273 _ (0, 0) _ rfl (setRow_heap wr (w.heap.size + 1) _ _ 273 _ hr) Tryz.underlying273 rfl hsz1) rfl ⟨m, rfl, hc3, hv, below_row hb (by omega) _⟩
end Go.Proofs.YtakgfdbjgeopdaaGreatDoor
/-
  The walks of sums, products and least numbers.
-/
namespace Go.Proofs.YtakgfdbjgeopdaaGreatDoor
open Go.RowKit

theorem wrapU (n : Int) : IntKind.u64.wrap n = n % 18446744073709551616 := by simp [IntKind.wrap, IntKind.bits, IntKind.signed]

theorem index5 (S : List Int) (hS : S.length = 5) (j : Nat) (hj : j < 5) : ∀ w, (Instr.index 273 (.agg (nArr S)) (.int .i64 (j : Int))).run Tryz.prog w = .ok (.int .u64 (S.getD j 0)) w := by
  intro w
  obtain ⟨a, b, c, d, e, rfl⟩ := list5 S hS
  obtain rfl | rfl | rfl | rfl | rfl : j = 0 ∨ j = 1 ∨ j = 2 ∨ j = 3 ∨ j = 4 := by omega
  all_goals kernel_rfl

theorem alloc3 (w : World) (o1 o2 o3 : Obj) : (((w.alloc o1).alloc o2).alloc o3).heap[w.heap.size]? = some o1 ∧ (((w.alloc o1).alloc o2).alloc o3).heap[w.heap.size + 1]? = some o2 ∧ (((w.alloc o1).alloc o2).alloc o3).heap[w.heap.size + 1 + 1]? = some o3 ∧ Below w.heap.size w (((w.alloc o1).alloc o2).alloc o3) := by
  refine ⟨?_, ?_, ?_, (((Below.refl _ _).alloc (Nat.le_refl _) _).alloc (by simp) _).alloc (by simp; omega) _⟩
  · rw [heap_alloc_old _ _ (by simp; omega)]; exact heap_alloc2_old w o1 o2
  · rw [heap_alloc_old _ _ (by simp)]; exact heap_alloc2_new w o1 o2
  · have := heap_alloc_new ((w.alloc o1).alloc o2) o3
    simpa using this
theorem alloc4 (w : World) (o1 o2 o3 o4 : Obj) : ((((w.alloc o1).alloc o2).alloc o3).alloc o4).heap[w.heap.size]? = some o1 ∧ ((((w.alloc o1).alloc o2).alloc o3).alloc o4).heap[w.heap.size + 1]? = some o2 ∧ ((((w.alloc o1).alloc o2).alloc o3).alloc o4).heap[w.heap.size + 1 + 1]? = some o3 ∧ ((((w.alloc o1).alloc o2).alloc o3).alloc o4).heap[w.heap.size + 1 + 1 + 1]? = some o4 ∧ Below w.heap.size w ((((w.alloc o1).alloc o2).alloc o3).alloc o4) := by
  obtain ⟨h1, h2, h3, hb⟩ := alloc3 w o1 o2 o3
  refine ⟨?_, ?_, ?_, ?_, hb.alloc (by simp; omega) _⟩
  · rw [heap_alloc_old _ _ (by simp; omega)]; exact h1
  · rw [heap_alloc_old _ _ (by simp)]; exact h2
  · rw [heap_alloc_old _ _ (by simp)]; exact h3
  · have := heap_alloc_new (((w.alloc o1).alloc o2).alloc o3) o4
    simpa using this

set_option maxHeartbeats 1000000 in
set_option maxRecDepth 100000 in
theorem plus_any (l m : List Int) (w : World) (hl : Lim 67108864 l) (hm : Lim 67108864 m) :
    Calls Tryz.prog 245 #[.agg (nArr l), .agg (nArr m)] w fun e w' => ∃ r, e = .returned (.agg (nArr r)) ∧ Lim 134217728 r ∧ val r = val l + val m ∧ Below w.heap.size w w' := by
  have h5 := hl.1
  have hszm := nInfo hm.1
  go_enter Tryz.func245, Tryz.ntmps245
  go_wp2_with ((with_reducible (refine wpList_look ?_)); (refine wpList_load_row rfl 273 _ rfl (w.heap.size + 1) rfl 273 _ (0, 0) _ (alloc3 w _ _ _).2.1 Tryz.underlying273 rfl hszm ?_))
  go_loopw [8] (fun i wr => ∃ (k : Nat) (r : List Int), k ≤ 5 ∧ i = .int .i64 k ∧ Adds l m r k ∧ wr.heap[w.heap.size]? = some (.cells (nArr r) 273 (0, 0)) ∧ wr.heap[w.heap.size + 1 + 1]? = some (.cells (nArr [0, 0, 0, 0, 0]) 273 (0, 0)) ∧ Below w.heap.size w wr) (fun i _ => 5 - (intOf i).toNat)
  case atStart => exact ⟨0, l, by omega, rfl, Adds.zero h5, (alloc3 w _ _ _).1, (alloc3 w _ _ _).2.2.1, (alloc3 w _ _ _).2.2.2⟩
  case round =>
    obtain ⟨k, r, hk, rfl, hc, hn, hr, hb⟩ := hrel
    have hr5 := hc.len
    by_cases hk5 : k < 5
    · have hki : (k : Int) < 5 := by omega
      have hix := index5 m hm.1 k hk5
      have cn := (cell_of_row wr _ k _ _ _ hn).trans (nArr_get r k (by omega))
      have fn := frozen_of_row wr _ k _ _ hn
      have HS : Hid (Adds l m (r.set k (r.getD k 0 + m.getD k 0)) (k + 1)) := hc.succ hk5
      have b1 := hl.2 k
      rw [← hc.rest k (by omega)] at b1
      have b2 := hm.2 k
      generalize r.getD k 0 = x at cn HS b1
      generalize m.getD k 0 = y at hix HS b2
      obtain ⟨b1, b3⟩ := b1
      obtain ⟨b2, b4⟩ := b2
      go_wp2
      go_roundw
      case rel =>
        refine ⟨k + 1, _, by omega, by go_num, HS.out, n_store hn k _, ?_, ?_⟩
        · rw [heap_setCell_other _ _ _ _ (by simp; omega)]; exact hr
        · exact hb.setCell (p := ⟨w.heap.size, k, none⟩) (Nat.le_refl _) _
      case measure => simp [intOf]; omega
    · have HK : Hid (k = 5) := by unfold Hid; omega
      have hki : ¬ (k : Int) < 5 := by omega
      have hsz1 := nInfo hr5
      go_wp2_with ((with_reducible (refine wpList_look ?_)); first
        | (refine wpList_load_row rfl 273 _ rfl (w.heap.size) rfl 273 _ (0, 0) _ hn Tryz.underlying273 rfl hsz1 ?_)
        | (refine wpList_store_row rfl 273 _ _ rfl (w.heap.size + 1 + 1) _ rfl rfl 273 _ hr hsz1 (by rw [nArr_size, nArr_size, hr5]; rfl) (nArr_one r) ?_))
      have hc5 : Adds l m r 5 := by have := HK.out; subst this; exact hc
      refine bodyPost_ret (v := .agg (nArr r)) (results_cell_row rfl _ _ (w.heap.size + 1 + 1) 273 _ (0, 0) _ rfl (setRow_heap wr (w.heap.size + 1 + 1) _ _ 273 _ hr) Tryz.underlying273 rfl hsz1) rfl ⟨r, rfl, (hc5.five hl hm).1, (hc5.five hl hm).2, below_row hb (by omega) _⟩

set_option maxHeartbeats 2000000 in
set_option maxRecDepth 100000 in
theorem times_any (n m : List Int) (w : World) (hn : Lim 134217728 n) (hm : Lim 67108864 m) :
    Calls Tryz.prog 247 #[.agg (nArr n), .agg (nArr m)] w fun e w' => ∃ r, e = .returned (.agg (nArr r)) ∧ Lim 67108864 r ∧ val r % pp = (val n * val m) % pp ∧ Below w.heap.size w w' := by
  have hszn := nInfo hn.1
  have hszm := nInfo hm.1
  go_enter Tryz.func247, Tryz.ntmps247
  go_wp2_with ((with_reducible (refine wpList_look ?_)); (refine wpList_load_row rfl 273 _ rfl (w.heap.size) rfl 273 _ (0, 0) _ (alloc4 w _ _ _ _).1 Tryz.underlying273 rfl hszn ?_))
  go_loopw [11] (fun i wr => ∃ (k : Nat) (r : List Int), k ≤ 5 ∧ i = .int .i64 k ∧ Prods n m r k 0 ∧ wr.heap[w.heap.size + 1]? = some (.cells (nArr m) 273 (0, 0)) ∧ wr.heap[w.heap.size + 1 + 1]? = some (.cells (nArr [0, 0, 0, 0, 0]) 273 (0, 0)) ∧ wr.heap[w.heap.size + 1 + 1 + 1]? = some (.cells (nArr r) 273 (0, 0)) ∧ Below w.heap.size w wr) (fun i _ => 5 - (intOf i).toNat)
  case atStart => exact ⟨0, _, by omega, rfl, Prods.zero n m, (alloc4 w _ _ _ _).2.1, (alloc4 w _ _ _ _).2.2.1, (alloc4 w _ _ _ _).2.2.2.1, (alloc4 w _ _ _ _).2.2.2.2⟩
  case round =>
    obtain ⟨k, r, hk, rfl, hc, hm1, hz, ho, hb⟩ := hrel
    have hr5 := hc.len
    by_cases hk5 : k < 5
    · have hki : (k : Int) < 5 := by omega
      have hix := index5 n hn.1 k hk5
      obtain ⟨x, hx⟩ : ∃ x, n.getD k 0 = x := ⟨_, rfl⟩
      rw [hx] at hix
      have HX : Hid (n.getD k 0 = x) := hx
      clear hx
      go_wp2_with ((with_reducible (refine wpList_look ?_)); (refine wpList_load_row rfl 273 _ rfl (w.heap.size + 1) rfl 273 _ (0, 0) _ hm1 Tryz.underlying273 rfl hszm ?_))
      go_loopw [16] (fun i wr => ∃ (j : Nat) (r : List Int), j ≤ 5 ∧ i = .int .i64 j ∧ Prods n m r k j ∧ wr.heap[w.heap.size + 1]? = some (.cells (nArr m) 273 (0, 0)) ∧ wr.heap[w.heap.size + 1 + 1]? = some (.cells (nArr [0, 0, 0, 0, 0]) 273 (0, 0)) ∧ wr.heap[w.heap.size + 1 + 1 + 1]? = some (.cells (nArr r) 273 (0, 0)) ∧ Below w.heap.size w wr) (fun i _ => 5 - (intOf i).toNat)
      case atStart => exact ⟨0, r, by omega, rfl, hc, hm1, hz, ho, hb⟩
      case round =>
        clear hix
        clear hc hm1 hz ho hb hr5
        obtain ⟨j, r, hj, rfl, hc, hm1, hz, ho, hb⟩ := hrel
        have hr5 := hc.len
        by_cases hj5 : j < 5
        · have hji : (j : Int) < 5 := by omega
          have hix := index5 m hm.1 j hj5
          have hxy := prod_bound (hn.2 k) (hm.2 j)
          rw [HX.out] at hxy
          by_cases hs : k + j < 5
          · have hsi : (k : Int) + (j : Int) < 5 := by omega
            have cn := (cell_of_row _ _ (k + j) _ _ _ ho).trans (nArr_get r (k + j) (by omega))
            have fn := frozen_of_row _ _ (k + j) _ _ ho
            have HS : Hid (Prods n m (r.set (k + j) (r.getD (k + j) 0 + x * m.getD j 0)) k (j + 1)) := by rw [← HX.out]; exact hc.low_step hn hm hs
            have b1 := hc.low (k + j)
            have b2 : r.getD (k + j) 0 ≤ 1152921504606846976 := by have := hc.high (k + j); omega
            generalize r.getD (k + j) 0 = z at cn HS b1 b2
            generalize m.getD j 0 = y at hix HS hxy
            obtain ⟨xy1, xy2⟩ := hxy
            have e1 : IntKind.u64.wrap (x * y) = x * y := by rw [wrapU]; omega
            have e2 : IntKind.u64.wrap (z + x * y) = z + x * y := by rw [wrapU]; omega
            clear hc
            go_wp2
            go_roundw
            case rel =>
              refine ⟨j + 1, _, by omega, by go_num, HS.out, ?_, ?_, n_store ho (k + j) _, ?_⟩
              · rw [heap_setCell_other _ _ _ _ (by simp)]; exact hm1
              · rw [heap_setCell_other _ _ _ _ (by simp)]; exact hz
              · exact hb.setCell (p := ⟨w.heap.size + 1 + 1 + 1, k + j, none⟩) (by simp; omega) _
            case measure => simp [intOf]; omega
          · have hsi : ¬ (k : Int) + (j : Int) < 5 := by omega
            have cn := (cell_of_row _ _ (k + j - 5) _ _ _ ho).trans (nArr_get r (k + j - 5) (by omega))
            have fn := frozen_of_row _ _ (k + j - 5) _ _ ho
            have HS : Hid (Prods n m (r.set (k + j - 5) (r.getD (k + j - 5) 0 + x * m.getD j 0 * 5)) k (j + 1)) := by rw [← HX.out]; exact hc.high_step hn hm (by omega) hk5 hj5
            have b1 := hc.low (k + j - 5)
            have b2 : r.getD (k + j - 5) 0 ≤ 1152921504606846976 := by have := hc.high (k + j - 5); omega
            generalize r.getD (k + j - 5) 0 = z at cn HS b1 b2
            generalize m.getD j 0 = y at hix HS hxy
            obtain ⟨xy1, xy2⟩ := hxy
            have e1 : IntKind.u64.wrap (x * y) = x * y := by rw [wrapU]; omega
            have e3 : IntKind.u64.wrap (x * y * 5) = x * y * 5 := by rw [wrapU]; omega
            have e2 : IntKind.u64.wrap (z + x * y * 5) = z + x * y * 5 := by rw [wrapU]; omega
            clear hc
            obtain ⟨t, ht⟩ : ∃ t : Nat, k + j = t + 5 := ⟨k + j - 5, by omega⟩
            have e4 : (k : Int) + (j : Int) - 5 = (t : Int) := by omega
            have ht' : k + j - 5 = t := by omega
            rw [ht'] at cn fn HS
            go_wp2
            go_roundw
            case rel =>
              refine ⟨j + 1, _, by omega, by go_num, HS.out, ?_, ?_, n_store ho t _, ?_⟩
              · rw [heap_setCell_other _ _ _ _ (by simp)]; exact hm1
              · rw [heap_setCell_other _ _ _ _ (by simp)]; exact hz
              · exact hb.setCell (p := ⟨w.heap.size + 1 + 1 + 1, t, none⟩) (by simp; omega) _
            case measure => simp [intOf]; omega
        · have HJ : Hid (j = 5) := by unfold Hid; omega
          have hji : ¬ (j : Int) < 5 := by omega
          go_wp2
          go_roundw
          case rel => exact ⟨k + 1, r, by omega, by go_num, by have := HJ.out; subst this; exact hc.row hm.1, hm1, hz, ho, hb⟩
          case measure => simp [intOf]; omega
    · have HK : Hid (k = 5) := by unfold Hid; omega
      have hki : ¬ (k : Int) < 5 := by omega
      have hsz1 := nInfo hr5
      have hc5 : Prods n m r 5 0 := by have := HK.out; subst this; exact hc
      obtain ⟨l5, v5⟩ := hc5.five hn.1
      have hzz : w.heap.size + 1 + 1 < wr.heap.size := (Array.getElem?_eq_some_iff.1 hz).1
      clear hc hc5 hm1
      go_wp2_with ((with_reducible (refine wpList_look ?_)); (refine wpList_load_row rfl 273 _ rfl (w.heap.size + 1 + 1 + 1) rfl 273 _ (0, 0) _ ho Tryz.underlying273 rfl hsz1 ?_))
      refine (carried_any r wr l5).mono ?_
      rintro e w1 ⟨r1, rfl, l1, v1, hb1⟩
      have hz1 := (hb1.block (w.heap.size + 1 + 1) hzz).trans hz
      have hB1 : Below w.heap.size w w1 := hb.trans (hb1.mono hb.size)
      have hsz2 := nInfo l1.1
      go_wp2_with ((with_reducible (refine wpList_look ?_)); (refine wpList_store_row rfl 273 _ _ rfl (w.heap.size + 1 + 1) _ rfl rfl 273 _ hz1 hsz2 (by rw [nArr_size, nArr_size, l1.1]; rfl) (nArr_one r1) ?_))
      refine bodyPost_ret (v := .agg (nArr r1)) (results_cell_row rfl _ _ (w.heap.size + 1 + 1) 273 _ (0, 0) _ rfl (setRow_heap w1 (w.heap.size + 1 + 1) _ _ 273 _ hz1) Tryz.underlying273 rfl hsz2) rfl ⟨r1, rfl, l1, v1.trans v5, below_row hB1 (by omega) _⟩
end Go.Proofs.YtakgfdbjgeopdaaGreatDoor
