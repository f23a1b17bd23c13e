/-
  The walk of all pieces' number.
-/
import Derived.Deep.RegionWith
import Derived.Test.YtakgfdbjgeopdaaGreatDoorKo6
import Derived.Test.YtakgfdbjgeopdaaGreatDoorKo8
import Derived.Test.YtakgfdbjgeopdaaGreatDoorKo1
namespace Go.Proofs.YtakgfdbjgeopdaaGreatDoor
open Go.RowKit

theorem Sl.lenOf {w : World} {a : Option Addr} {n c : Nat} {l : List Int} (h : Sl w (.slice a n c) l) : n = l.length := by
  obtain ⟨⟨a', c', e, _⟩, _⟩ := h
  simp only [Value.slice.injEq] at e
  exact e.2.1

def lenS : Value → Nat
  | .slice _ n _ => n
  | _ => 0
theorem store5 {w : World} {g : Nat} {old : Array Value} (t : List Int) (hg : w.heap[g]? = some (.cells old 273 (0, 0))) (ho : old.size = 5) (ht : t.length = 5) : (storeCells ⟨g, 0, none⟩ (nArr t).toList).run Tryz.prog w = .ok () (w.setRow g (nArr t)) := by
  have := run_storeCells_from (P := Tryz.prog) g 273 (nArr t).toList 0 old w hg (by simp [nArr_size]; omega) (fun v hv => by simp [nArr] at hv; obtain ⟨x, _, rfl⟩ := hv; rfl)
  rw [this]
  simp [nArr]

/-- a region that may be walked in several orders, all of which end alike but for three numbers on the way -/
theorem region_merge3 {P : Program} {id : Nat} {ops : Array Oper} {K : Act → World → Prop} {Q : Exit → Act → World → Prop} {a : Act} {w : World} (R : List Int → List Int → List Int → World → Prop) {A : List Int → List Int → List Int → Act}
    (hreg : ∀ K' : Act → World → Prop, Hid (∀ x y z W2, R x y z W2 → K' (A x y z) W2) → (Code.region id ops true).wp P (Exit.then K' Q) a w) (hrest : ∀ x y z W2, R x y z W2 → K (A x y z) W2) : (Code.region id ops true).wp P (Exit.then K Q) a w := hreg K hrest

set_option maxHeartbeats 4000000 in
set_option maxRecDepth 100000 in
theorem gathered_any (rl : List Int) (R : Int) (v : Value) (l : List Int) (w : World) (h : Sl w v l) (hl : l.length ≤ 4000) (hr : Lim 67108864 rl) (hR : val rl % pp = R % pp) :
    Calls Tryz.prog 223 #[.agg (nArr rl), v] w fun e w' => ∃ r, e = .returned (.agg (nArr r)) ∧ Lim 67108864 r ∧ val r = accN R l ∧ Below w.heap.size w w' := by
  obtain ⟨a0, c0, rfl⟩ : ∃ a c, v = .slice a l.length c := by
    obtain ⟨⟨a, c, e, _⟩, _⟩ := h
    exact ⟨a, c, e⟩
  have HR : Hid (val rl % pp = R % pp) := hR
  clear hR
  go_enter Tryz.func223, Tryz.ntmps223
  go_wp2_with fail
  go_loopw [1] (fun dv wr => ∃ (k : Nat) (nl : List Int) (a : Option Addr) (c : Nat), 16 * k ≤ l.length + 15 ∧ dv = .slice a (l.length - 16 * k) c ∧ Sl w dv (l.drop (16 * k)) ∧ Lim 67108864 nl ∧ val nl % pp = accK R l k % pp ∧ wr.heap[w.heap.size]? = some (.cells (nArr rl) 273 (0, 0)) ∧ wr.heap[w.heap.size + 1]? = some (.cells (nArr [0, 0, 0, 0, 0]) 273 (0, 0)) ∧ wr.heap[w.heap.size + 1 + 1]? = some (.cells (nArr nl) 273 (0, 0)) ∧ Below w.heap.size w wr) (fun dv _ => lenS dv)
  case atStart =>
    obtain ⟨s1, s2, s3, s4⟩ := alloc3 w (.cells (nArr rl) 273 (0, 0)) (.cells (nArr [0, 0, 0, 0, 0]) 273 (0, 0)) (.cells (nArr [0, 0, 0, 0, 0]) 273 (0, 0))
    exact ⟨0, [0, 0, 0, 0, 0], a0, c0, by omega, rfl, h, Lim.of5 (by omega) (by omega) (by omega) (by omega) (by omega), rfl, s1, s2, s3, s4⟩
  case round =>
    clear h
    obtain ⟨k, nl, a, c, hk, rfl, hs, hln, hvn, hrr, hz, hn, hb⟩ := hrel
    by_cases hk16 : 16 * k < l.length
    · obtain ⟨n, hne⟩ : ∃ n, l.length - 16 * k = n := ⟨_, rfl⟩
      have HNE : Hid (l.length - 16 * k = n) := hne
      have hn0 : 0 < n := by omega
      have hn0i : (0 : Int) < (n : Int) := by omega
      rw [hne] at hs ⊢
      have hlen : (l.drop (16 * k)).length = n := by rw [List.length_drop]; exact hne
      obtain ⟨n0, n1, n2, n3, n4, rfl, _⟩ := hln.split
      obtain ⟨r0, r1, r2, r3, r4, rfl, _⟩ := hr.split
      have kn0 := (cell_of_row _ _ 0 _ _ _ hn).trans (nArr_get _ 0 (by simp))
      have kn1 := (cell_of_row _ _ 1 _ _ _ hn).trans (nArr_get _ 1 (by simp))
      have kn2 := (cell_of_row _ _ 2 _ _ _ hn).trans (nArr_get _ 2 (by simp))
      have kn3 := (cell_of_row _ _ 3 _ _ _ hn).trans (nArr_get _ 3 (by simp))
      have kn4 := (cell_of_row _ _ 4 _ _ _ hn).trans (nArr_get _ 4 (by simp))
      have kr0 := (cell_of_row _ _ 0 _ _ _ hrr).trans (nArr_get _ 0 (by simp))
      have kr1 := (cell_of_row _ _ 1 _ _ _ hrr).trans (nArr_get _ 1 (by simp))
      have kr2 := (cell_of_row _ _ 2 _ _ _ hrr).trans (nArr_get _ 2 (by simp))
      have kr3 := (cell_of_row _ _ 3 _ _ _ hrr).trans (nArr_get _ 3 (by simp))
      have kr4 := (cell_of_row _ _ 4 _ _ _ hrr).trans (nArr_get _ 4 (by simp))
      simp only [List.getD_cons_zero, List.getD_cons_succ] at kn0 kn1 kn2 kn3 kn4 kr0 kr1 kr2 kr3 kr4
      have hzn : w.heap.size + 1 + 1 < wr.heap.size := (Array.getElem?_eq_some_iff.1 hn).1
      have hzr : w.heap.size < wr.heap.size := by omega
      have HN : Hid _ := hn
      have HRR : Hid _ := hrr
      have HZ : Hid _ := hz
      have HB : Hid _ := hb
      have HVN : Hid (val [n0, n1, n2, n3, n4] % pp = accK R l k % pp) := hvn
      clear hn hrr hz hb hvn hne
      obtain ⟨sz, hmin, hsz1, hsz2⟩ : ∃ sz : Nat, (if (n : Int) < 16 then (n : Int) else 16) = (sz : Int) ∧ sz ≤ n ∧ ((sz = 16) ∨ (sz = n ∧ n < 16)) := by
        by_cases h16 : (n : Int) < 16
        · exact ⟨n, by rw [if_pos h16], by omega, .inr ⟨rfl, by omega⟩⟩
        · exact ⟨16, by rw [if_neg h16]; rfl, by omega, .inl rfl⟩
      obtain ⟨a1, c1, hc1, st⟩ := hs.upTo sz (by omega)
      obtain ⟨a2, c2, hc2, sd⟩ := hs.from sz (by omega)
      have hpl : ((l.drop (16 * k)).take sz).length ≤ 16 := by rw [List.length_take]; omega
      have HP : Hid ((l.drop (16 * k)).take sz = piece l k) := by
        unfold Hid piece
        rcases hsz2 with rfl | ⟨rfl, h16⟩
        · rfl
        · rw [List.take_of_length_le (by omega), List.take_of_length_le (by omega)]
      have HD : Hid ((l.drop (16 * k)).drop sz = l.drop (16 * (k + 1)) ∧ n - sz = l.length - 16 * (k + 1)) := by
        unfold Hid
        have := HNE.out
        rw [List.drop_drop]
        rcases hsz2 with rfl | ⟨rfl, h16⟩
        · exact ⟨by congr 1, by omega⟩
        · refine ⟨?_, by omega⟩
          rw [List.drop_eq_nil_of_le (by omega), List.drop_eq_nil_of_le (by omega)]
      have HSZ : Hid (1 ≤ sz) := by unfold Hid; omega
      clear hsz2
      go_wp2_with fail
      apply region_merge3 (fun m1 s1 t1 W => Lim 67108864 t1 ∧ val t1 % pp = accK R l (k + 1) % pp ∧ W.heap[w.heap.size]? = some (.cells (nArr [r0, r1, r2, r3, r4]) 273 (0, 0)) ∧ W.heap[w.heap.size + 1]? = some (.cells (nArr [0, 0, 0, 0, 0]) 273 (0, 0)) ∧ W.heap[w.heap.size + 1 + 1]? = some (.cells (nArr t1) 273 (0, 0)) ∧ Below w.heap.size w W)
      · intro K2 HK2
        go_region_with (first
          | (go_at_call 246; refine (pmarked_any _ _ _ (st.below HB.out.drew) hpl).mono ?_; rintro e w2 ⟨m1, rfl, lm1, vm1, hb2⟩; have hzn2 : w.heap.size + 1 + 1 < w2.heap.size := Nat.lt_of_lt_of_le hzn hb2.size; have hzr2 : w.heap.size < w2.heap.size := Nat.lt_of_lt_of_le hzr hb2.size; have ln0 := (hb2.cell (p := ⟨w.heap.size + 1 + 1, 0, none⟩) hzn).trans kn0; have ln1 := (hb2.cell (p := ⟨w.heap.size + 1 + 1, 1, none⟩) hzn).trans kn1; have ln2 := (hb2.cell (p := ⟨w.heap.size + 1 + 1, 2, none⟩) hzn).trans kn2; have ln3 := (hb2.cell (p := ⟨w.heap.size + 1 + 1, 3, none⟩) hzn).trans kn3; have ln4 := (hb2.cell (p := ⟨w.heap.size + 1 + 1, 4, none⟩) hzn).trans kn4; have lr0 := (hb2.cell (p := ⟨w.heap.size, 0, none⟩) hzr).trans kr0; have lr1 := (hb2.cell (p := ⟨w.heap.size, 1, none⟩) hzr).trans kr1; have lr2 := (hb2.cell (p := ⟨w.heap.size, 2, none⟩) hzr).trans kr2; have lr3 := (hb2.cell (p := ⟨w.heap.size, 3, none⟩) hzr).trans kr3; have lr4 := (hb2.cell (p := ⟨w.heap.size, 4, none⟩) hzr).trans kr4)
          | (go_at_call 245; refine (plus_any [n0, n1, n2, n3, n4] m1 _ hln lm1).mono ?_; rintro e w3 ⟨s1, rfl, ls1, vs1, hb3⟩; have hzn3 : w.heap.size + 1 + 1 < w3.heap.size := Nat.lt_of_lt_of_le hzn2 hb3.size; have mr0 := (hb3.cell (p := ⟨w.heap.size, 0, none⟩) hzr2).trans lr0; have mr1 := (hb3.cell (p := ⟨w.heap.size, 1, none⟩) hzr2).trans lr1; have mr2 := (hb3.cell (p := ⟨w.heap.size, 2, none⟩) hzr2).trans lr2; have mr3 := (hb3.cell (p := ⟨w.heap.size, 3, none⟩) hzr2).trans lr3; have mr4 := (hb3.cell (p := ⟨w.heap.size, 4, none⟩) hzr2).trans lr4)
          | (go_at_call 247; refine (times_any s1 [r0, r1, r2, r3, r4] _ ls1 hr).mono ?_; rintro e w4 ⟨t1, rfl, lt1, vt1, hb4⟩; have hst := store5 t1 ((hb4.block _ hzn3).trans ((hb3.block _ hzn2).trans ((hb2.block _ hzn).trans HN.out))) rfl lt1.1; have hs5 : (nArr t1).size = 5 := by rw [nArr_size]; exact lt1.1))
        all_goals
          refine HK2.out m1 s1 t1 _ ⟨lt1, ?_, ?_, ?_, ?_, ?_⟩
          · rw [HP.out] at vm1
            exact acc_step HVN.out vm1 vs1 HR.out vt1
          · exact (setRow_other _ _ _ _ (by omega)).trans ((hb4.block _ (by omega)).trans ((hb3.block _ (by omega)).trans ((hb2.block _ hzr).trans HRR.out)))
          · exact (setRow_other _ _ _ _ (by omega)).trans ((hb4.block _ (by omega)).trans ((hb3.block _ (by omega)).trans ((hb2.block _ (Nat.lt_of_succ_lt hzn)).trans HZ.out)))
          · exact setRow_heap _ _ _ _ 273 _ ((hb4.block _ hzn3).trans ((hb3.block _ hzn2).trans ((hb2.block _ hzn).trans HN.out)))
          · exact below_row (((HB.out.drew.trans (hb2.mono (Nat.le_of_lt hzr))).trans (hb3.mono (Nat.le_of_lt hzr2))).trans (hb4.mono (by omega))) (by omega) _
      intro m1 s1 t1 W hW
      obtain ⟨lt1, vt1, q1, q2, q3, q4⟩ := hW
      clear kn0 kn1 kn2 kn3 kn4 kr0 kr1 kr2 kr3 kr4 st hc1 hpl
      go_wp2
      go_roundw
      case rel =>
        obtain ⟨d1, d2⟩ := HD.out
        rw [d1] at sd
        exact ⟨k + 1, t1, a2, c2, by omega, by rw [d2], sd, lt1, vt1, q1, q2, q3, q4⟩
      case measure => have := HSZ.out; simp [lenS]; omega
    · have HK : Hid (k = pieces l) := by unfold Hid pieces; omega
      have hzero : l.length - 16 * k = 0 := by omega
      rw [hzero]
      have hsz1 := nInfo hln.1
      have hzz : w.heap.size + 1 < wr.heap.size := (Array.getElem?_eq_some_iff.1 hz).1
      have HV : Hid (val nl % pp = accK R l k % pp) := hvn
      clear hvn hs
      go_wp2_with ((with_reducible (refine wpList_look ?_)); (refine wpList_load_row rfl 273 _ rfl (w.heap.size + 1 + 1) rfl 273 _ (0, 0) _ hn Tryz.underlying273 rfl hsz1 ?_))
      refine (least_any nl wr hln).mono ?_
      rintro e w1 ⟨r1, rfl, l1, v1, hb1⟩
      have hz1 := (hb1.block (w.heap.size + 1) hzz).trans hz
      have hB1 : Below w.heap.size w w1 := hb.trans (hb1.mono hb.size)
      have hsz2 := nInfo l1.1
      go_wp2_with ((with_reducible (refine wpList_look ?_)); (refine wpList_store_row rfl 273 _ _ rfl (w.heap.size + 1) _ rfl rfl 273 _ hz1 hsz2 (by rw [nArr_size, nArr_size, l1.1]; rfl) (nArr_one r1) ?_))
      refine bodyPost_ret (v := .agg (nArr r1)) (results_cell_row rfl _ _ (w.heap.size + 1) 273 _ (0, 0) _ rfl (setRow_heap w1 (w.heap.size + 1) _ _ 273 _ hz1) Tryz.underlying273 rfl hsz2) rfl ⟨r1, rfl, l1, ?_, below_row hB1 (by omega) _⟩
      have hK := HK.out
      subst hK
      rw [v1, HV.out]
      have := accK_range R l (pieces l)
      exact Int.emod_eq_of_lt this.1 this.2
end Go.Proofs.YtakgfdbjgeopdaaGreatDoor
/-
  Channels, in plain lists: their cells, which numbers were met, what may be, what taking a number makes; and the heads of numbers. No program is named here.
-/
namespace Go.Proofs.YtakgfdbjgeopdaaGreatDoor
open Go.RowKit
set_option linter.unusedVariables false

theorem ret_num {a b : Int} (h : a = b) : Ending.returned (.int .i64 a) = .returned (.int .i64 b) := by rw [h]
/-- the cells of a channel: its key, how much was sent, its top, and which numbers below the top were met -/
def chA (k : Value) (s t : Int) (l : List Bool) : Array Value := (k :: .int .i64 s :: .int .i64 t :: l.map Value.bool).toArray
theorem chA_size (k : Value) (s t : Int) (l : List Bool) : (chA k s t l).size = l.length + 3 := by simp [chA]
theorem chA_key (k : Value) (s t : Int) (l : List Bool) : (chA k s t l)[0]? = some k := by simp [chA]
theorem chA_sent (k : Value) (s t : Int) (l : List Bool) : (chA k s t l)[1]? = some (.int .i64 s) := by simp [chA]
theorem chA_top (k : Value) (s t : Int) (l : List Bool) : (chA k s t l)[2]? = some (.int .i64 t) := by simp [chA]
theorem chA_seen (k : Value) (s t : Int) (l : List Bool) (i : Nat) (hi : i < l.length) : (chA k s t l)[3 + i]? = some (.bool (l.getD i false)) := by
  rw [Nat.add_comm]
  simp [chA, List.getD, List.getElem?_eq_getElem hi]
theorem eight (l : List Bool) (hl : l.length = 8) : ∃ b0 b1 b2 b3 b4 b5 b6 b7, l = [b0, b1, b2, b3, b4, b5, b6, b7] := by
  match l, hl with
  | [b0, b1, b2, b3, b4, b5, b6, b7], _ => exact ⟨b0, b1, b2, b3, b4, b5, b6, b7, rfl⟩
theorem chA_cells {w : World} {g : Nat} {k : Value} {s t : Int} {b0 b1 b2 b3 b4 b5 b6 b7 : Bool} {ty : TypeId} {fr : Nat × Nat} (h : w.heap[g]? = some (.cells (chA k s t [b0, b1, b2, b3, b4, b5, b6, b7]) ty fr)) :
    w.cell? ⟨g, 0, none⟩ = some k ∧ w.cell? ⟨g, 1, none⟩ = some (.int .i64 s) ∧ w.cell? ⟨g, 2, none⟩ = some (.int .i64 t) ∧ w.cell? ⟨g, 3, none⟩ = some (.bool b0) ∧ w.cell? ⟨g, 4, none⟩ = some (.bool b1) ∧ w.cell? ⟨g, 5, none⟩ = some (.bool b2) ∧ w.cell? ⟨g, 6, none⟩ = some (.bool b3) ∧ w.cell? ⟨g, 7, none⟩ = some (.bool b4) ∧ w.cell? ⟨g, 8, none⟩ = some (.bool b5) ∧ w.cell? ⟨g, 9, none⟩ = some (.bool b6) ∧ w.cell? ⟨g, 10, none⟩ = some (.bool b7) :=
  ⟨cell_of_row _ _ 0 _ _ _ h, cell_of_row _ _ 1 _ _ _ h, cell_of_row _ _ 2 _ _ _ h, cell_of_row _ _ 3 _ _ _ h, cell_of_row _ _ 4 _ _ _ h, cell_of_row _ _ 5 _ _ _ h, cell_of_row _ _ 6 _ _ _ h, cell_of_row _ _ 7 _ _ _ h, cell_of_row _ _ 8 _ _ _ h, cell_of_row _ _ 9 _ _ _ h, cell_of_row _ _ 10 _ _ _ h⟩
/-- the cells of a window -/
def wA (t : Int) (l : List Bool) : Array Value := (.int .i64 t :: l.map Value.bool).toArray
theorem wA_size (t : Int) (l : List Bool) : (wA t l).size = l.length + 1 := by simp [wA]
theorem wA_top (t : Int) (l : List Bool) : (wA t l)[0]? = some (.int .i64 t) := by simp [wA]
theorem wA_seen (t : Int) (l : List Bool) (i : Nat) (hi : i < l.length) : (wA t l)[1 + i]? = some (.bool (l.getD i false)) := by
  rw [Nat.add_comm]
  simp [wA, List.getD, List.getElem?_eq_getElem hi]
theorem wA_one (t : Int) (l : List Bool) : (wA t l).all (·.oneCell') = true := by simp [wA, Value.oneCell']
theorem wA_cells {w : World} {g : Nat} {t : Int} {b0 b1 b2 b3 b4 b5 b6 b7 : Bool} {ty : TypeId} {fr : Nat × Nat} (h : w.heap[g]? = some (.cells (wA t [b0, b1, b2, b3, b4, b5, b6, b7]) ty fr)) :
    w.cell? ⟨g, 0, none⟩ = some (.int .i64 t) ∧ w.cell? ⟨g, 1, none⟩ = some (.bool b0) ∧ w.cell? ⟨g, 2, none⟩ = some (.bool b1) ∧ w.cell? ⟨g, 3, none⟩ = some (.bool b2) ∧ w.cell? ⟨g, 4, none⟩ = some (.bool b3) ∧ w.cell? ⟨g, 5, none⟩ = some (.bool b4) ∧ w.cell? ⟨g, 6, none⟩ = some (.bool b5) ∧ w.cell? ⟨g, 7, none⟩ = some (.bool b6) ∧ w.cell? ⟨g, 8, none⟩ = some (.bool b7) :=
  ⟨cell_of_row _ _ 0 _ _ _ h, cell_of_row _ _ 1 _ _ _ h, cell_of_row _ _ 2 _ _ _ h, cell_of_row _ _ 3 _ _ _ h, cell_of_row _ _ 4 _ _ _ h, cell_of_row _ _ 5 _ _ _ h, cell_of_row _ _ 6 _ _ _ h, cell_of_row _ _ 7 _ _ _ h, cell_of_row _ _ 8 _ _ _ h⟩
/-- the numbers that were met, of the first k places -/
def metL (t : Int) (l : List Bool) : Nat → List Int
  | 0 => []
  | k + 1 => if l.getD k false then metL t l k ++ [t - 8 + (k : Int)] else metL t l k
theorem metL_length (t : Int) (l : List Bool) (k : Nat) : (metL t l k).length ≤ k := by
  induction k with
  | zero => simp [metL]
  | succ k ih =>
    rw [metL]
    split
    · rw [List.length_append, List.length_singleton]; omega
    · omega
/-- was the number x met? -/
def metB (t : Int) (l : List Bool) (x : Int) : Bool := decide (t - 8 ≤ x) && decide (x < t) && l.getD (x - (t - 8)).toNat false
theorem metB_at (t : Int) (l : List Bool) (k : Nat) (hk : k < 8) : metB t l (t - 8 + k) = l.getD k false := by
  unfold metB
  rw [decide_eq_true (by omega), decide_eq_true (by omega), show (t - 8 + (k : Int) - (t - 8)).toNat = k by omega]
  simp
theorem metB_lt {t : Int} {l : List Bool} {x : Int} (h : metB t l x = true) : t - 8 ≤ x ∧ x < t := by
  unfold metB at h
  simp at h
  omega
theorem metB_of {t : Int} {l : List Bool} {x : Int} (h1 : t - 8 ≤ x) (h2 : x < t) : metB t l x = l.getD (x - (t - 8)).toNat false := by
  unfold metB
  rw [decide_eq_true h1, decide_eq_true h2]
  simp
theorem metB_ge {t : Int} {l : List Bool} {x : Int} (h : t ≤ x) : metB t l x = false := by
  unfold metB
  rw [decide_eq_false (show ¬ x < t by omega)]
  simp
theorem metB_low {t : Int} {l : List Bool} {x : Int} (h : x < t - 8) : metB t l x = false := by
  unfold metB
  rw [decide_eq_false (show ¬ t - 8 ≤ x by omega)]
  simp

/-- a channel that may be -/
structure OkC (key : List Int) (s t : Int) (l : List Bool) : Prop where
  key : key.length = 32
  s0 : 0 ≤ s
  s1 : s ≤ 1073741824
  t0 : 0 ≤ t
  t1 : t ≤ 1073741824
  low : ∀ i : Nat, i < 8 → l.getD i false = true → 0 ≤ t - 8 + (i : Int)
  top : t = 0 ∨ l.getD 7 false = true
theorem okC_iff (key : List Int) (s t : Int) (l : List Bool) : OkC key s t l ↔ (key.length = 32 ∧ 0 ≤ s ∧ s ≤ 1073741824 ∧ 0 ≤ t ∧ t ≤ 1073741824 ∧ (∀ i, i < 8 → l.getD i false = true → 0 ≤ t - 8 + (i : Int)) ∧ (t = 0 ∨ l.getD 7 false = true)) :=
  ⟨fun h => ⟨h.1, h.2, h.3, h.4, h.5, h.6, h.7⟩, fun h => ⟨h.1, h.2.1, h.2.2.1, h.2.2.2.1, h.2.2.2.2.1, h.2.2.2.2.2.1, h.2.2.2.2.2.2⟩⟩
instance (key : List Int) (s t : Int) (l : List Bool) : Decidable (OkC key s t l) := decidable_of_iff _ (okC_iff key s t l).symm
/-- what a window may be -/
def mayB (t : Int) (l : List Bool) : Bool := ((List.range 8).all fun i => !l.getD i false || decide (0 ≤ t - 8 + (i : Int))) && (decide (t = 0) || l.getD 7 false)
theorem mayB_iff (t : Int) (l : List Bool) : mayB t l = true ↔ ((∀ i : Nat, i < 8 → l.getD i false = true → 0 ≤ t - 8 + (i : Int)) ∧ (t = 0 ∨ l.getD 7 false = true)) := by
  unfold mayB
  rw [Bool.and_eq_true, Bool.or_eq_true, List.all_eq_true]
  constructor
  · rintro ⟨h1, h2⟩
    refine ⟨fun i hi hb => ?_, h2.imp of_decide_eq_true id⟩
    have h := h1 i (List.mem_range.2 hi)
    rw [hb] at h
    simpa using h
  · rintro ⟨h1, h2⟩
    refine ⟨fun i hi => ?_, h2.imp decide_eq_true id⟩
    cases hb : l.getD i false with
    | true => simpa using h1 i (List.mem_range.1 hi) hb
    | false => rfl
/-- what Check says -/
def checkE (key : List Int) (s t : Int) (l : List Bool) : Int := if OkC key s t l then 0 else 5

/-- is a number old? -/
def oldB (t : Int) (l : List Bool) (n : Int) : Bool := decide (n < t) && (decide (n < t - 8) || metB t l n)
/-- behind taking the number n -/
def takT (t n : Int) : Int := if t ≤ n then n + 1 else t
def takS (t : Int) (l : List Bool) (n : Int) : List Bool := (List.range 8).map fun k : Nat => decide (takT t n - 8 + (k : Int) = n) || metB t l (takT t n - 8 + (k : Int))
theorem takS_length (t : Int) (l : List Bool) (n : Int) : (takS t l n).length = 8 := by simp [takS]
theorem takS_at (t : Int) (l : List Bool) (n : Int) (k : Nat) (hk : k < 8) : (takS t l n).getD k false = (decide (takT t n - 8 + (k : Int) = n) || metB t l (takT t n - 8 + (k : Int))) := by
  simp [takS, List.getD, hk]
theorem takT_le (t n : Int) : t ≤ takT t n ∧ n < takT t n := by unfold takT; split <;> omega
theorem metB_take (t : Int) (l : List Bool) (n x : Int) : metB (takT t n) (takS t l n) x = (decide (takT t n - 8 ≤ x) && (decide (x = n) || metB t l x)) := by
  have ht := takT_le t n
  by_cases h1 : takT t n - 8 ≤ x
  · by_cases h2 : x < takT t n
    · rw [metB_of h1 h2, takS_at _ _ _ _ (by omega), show takT t n - 8 + ((x - (takT t n - 8)).toNat : Int) = x by omega, decide_eq_true h1]
      simp
    · rw [metB_ge (by omega), metB_ge (show t ≤ x by omega), decide_eq_false (show ¬ x = n by omega)]
      simp
  · rw [metB_low (by omega), decide_eq_false h1]
    simp

/-- what may be may be behind taking too -/
theorem OkC.take {key : List Int} {s t : Int} {l : List Bool} (h : OkC key s t l) (n : Int) (h0 : 0 ≤ n) (h1 : n < 1073741824) : OkC key s (takT t n) (takS t l n) := by
  have ht := takT_le t n
  have hT : takT t n ≤ 1073741824 := by have := h.t1; unfold takT; split <;> omega
  refine ⟨h.1, h.2, h.3, by have := h.t0; omega, hT, ?_, .inr ?_⟩
  · intro i hi hm
    rw [takS_at _ _ _ _ hi] at hm
    rw [Bool.or_eq_true] at hm
    rcases hm with hm | hm
    · have := of_decide_eq_true hm
      omega
    · have hb := metB_lt hm
      rw [metB_of hb.1 hb.2] at hm
      have := h.low _ (by omega) hm
      omega
  · rw [takS_at _ _ _ _ (by omega)]
    by_cases hc : t ≤ n
    · have : takT t n = n + 1 := by unfold takT; rw [if_pos hc]
      rw [decide_eq_true (by omega)]
      simp
    · have hT2 : takT t n = t := by unfold takT; rw [if_neg hc]
      rw [hT2, metB_at t l 7 (by omega)]
      rcases h.top with h7 | h7
      · have := h.t0; omega
      · rw [h7]; simp
theorem OkC.sent {key : List Int} {s t : Int} {l : List Bool} (h : OkC key s t l) (s' : Int) (h0 : 0 ≤ s') (h1 : s' ≤ 1073741824) : OkC key s' t l := ⟨h.1, h0, h1, h.4, h.5, h.6, h.7⟩
def noB : List Bool := List.replicate 8 false
theorem noB_length : noB.length = 8 := rfl
theorem noB_at (k : Nat) : noB.getD k false = false := by
  rw [noB, List.getD_eq_getElem?_getD, List.getElem?_replicate]
  split <;> rfl
theorem metB_no (t x : Int) : metB t noB x = false := by unfold metB; rw [noB_at]; simp
theorem OkC.new {key : List Int} (hk : key.length = 32) (s : Int) (h0 : 0 ≤ s) (h1 : s ≤ 1073741824) : OkC key s 0 noB :=
  ⟨hk, h0, h1, by omega, by omega, (fun i _ h => by rw [noB_at] at h; exact absurd h (by simp)), .inl rfl⟩
theorem oldB_ge {t : Int} {l : List Bool} {n : Int} (h : t ≤ n) : oldB t l n = false := by unfold oldB; rw [decide_eq_false (by omega)]; simp
theorem oldB_of {t : Int} {l : List Bool} {n : Int} (h : t - 8 ≤ n) : oldB t l n = metB t l n := by
  by_cases h2 : n < t
  · unfold oldB; rw [decide_eq_true h2, decide_eq_false (show ¬ n < t - 8 by omega)]; simp
  · rw [oldB_ge (by omega), metB_ge (by omega)]
theorem oldB_low {t : Int} {l : List Bool} {n : Int} (h : n < t - 8) : oldB t l n = true := by unfold oldB; rw [decide_eq_true (show n < t by omega), decide_eq_true h]; simp

/-- the head of a number, the nonce of a head, the number of a head -/
def headL (n : Int) : List Int := [n / 16777216 % 256, n / 65536 % 256, n / 256 % 256, n % 256]
def nonceL (h : List Int) : List Int := List.replicate 8 0 ++ h
def numL (h : List Int) : Int := 16777216 * h.getD 0 0 + 65536 * h.getD 1 0 + 256 * h.getD 2 0 + h.getD 3 0
theorem headL_length (n : Int) : (headL n).length = 4 := rfl
theorem headL_byte (n : Int) : ∀ x ∈ headL n, 0 ≤ x ∧ x < 256 := by
  intro x hx
  simp only [headL, List.mem_cons, List.not_mem_nil, or_false] at hx
  rcases hx with rfl | rfl | rfl | rfl <;> omega
theorem nonceL_length {h : List Int} (hh : h.length = 4) : (nonceL h).length = 12 := by simp [nonceL, hh]
theorem nonceL_byte {h : List Int} (hb : ∀ x ∈ h, 0 ≤ x ∧ x < 256) : ∀ x ∈ nonceL h, 0 ≤ x ∧ x < 256 := by
  intro x hx
  rcases List.mem_append.1 hx with h1 | h1
  · rw [(List.mem_replicate.1 h1).2]; omega
  · exact hb x h1
theorem numL_head (n : Int) (h0 : 0 ≤ n) (h1 : n < 4294967296) : numL (headL n) = n := by
  show 16777216 * (n / 16777216 % 256) + 65536 * (n / 65536 % 256) + 256 * (n / 256 % 256) + n % 256 = n
  omega
theorem four (h : List Int) (hh : h.length = 4) : ∃ a b c d, h = [a, b, c, d] := by
  match h, hh with
  | [a, b, c, d], _ => exact ⟨a, b, c, d, rfl⟩
theorem headL_num {h : List Int} (hh : h.length = 4) (hb : ∀ x ∈ h, 0 ≤ x ∧ x < 256) : headL (numL h) = h := by
  obtain ⟨a, b, c, d, rfl⟩ := four h hh
  have h1 := hb a (by simp)
  have h2 := hb b (by simp)
  have h3 := hb c (by simp)
  have h4 := hb d (by simp)
  show [(16777216 * a + 65536 * b + 256 * c + d) / 16777216 % 256, (16777216 * a + 65536 * b + 256 * c + d) / 65536 % 256, (16777216 * a + 65536 * b + 256 * c + d) / 256 % 256, (16777216 * a + 65536 * b + 256 * c + d) % 256] = [a, b, c, d]
  congr 1
  · omega
  congr 1
  · omega
  congr 1
  · omega
  congr 1
  omega
theorem numL_range {h : List Int} (hh : h.length = 4) (hb : ∀ x ∈ h, 0 ≤ x ∧ x < 256) : 0 ≤ numL h ∧ numL h < 4294967296 := by
  obtain ⟨a, b, c, d, rfl⟩ := four h hh
  have h1 := hb a (by simp)
  have h2 := hb b (by simp)
  have h3 := hb c (by simp)
  have h4 := hb d (by simp)
  show 0 ≤ 16777216 * a + 65536 * b + 256 * c + d ∧ 16777216 * a + 65536 * b + 256 * c + d < 4294967296
  omega

end Go.Proofs.YtakgfdbjgeopdaaGreatDoor
