/-
  The walk of all pieces' number.
-/
import Derived.Test.YtpoaabjpeigooaaDoorQPolyA
import Derived.Test.YtpoaabjpeigooaaDoorQStream
import Derived.Deep.RegionWith
import Derived.Deep.OwnRows
namespace Go.Proofs.YtpoaabjpeigooaaDoor
open Go.RowKit

theorem Sl.lenOf {w : World} {a : Option Addr} {n c : Nat} {l : List Int} (h : Sl w (.slice a n c) l) : n = l.length := by
  obtain ⟨⟨a', c', e, _⟩, _⟩ := h
  simp only [Value.slice.injEq] at e
  exact e.2.1

def lenS : Value → Nat
  | .slice _ n _ => n
  | _ => 0
theorem store5 {w : World} {g : Nat} {old : Array Value} (t : List Int) (hg : w.heap[g]? = some (.cells old 94 (0, 0))) (ho : old.size = 5) (ht : t.length = 5) : (storeCells ⟨g, 0, none⟩ (nArr t).toList).run Tryd.prog w = .ok () (w.setRow g (nArr t)) := by
  have := run_storeCells_from (P := Tryd.prog) g 94 (nArr t).toList 0 old w hg (by simp [nArr_size]; omega) (fun v hv => by simp [nArr] at hv; obtain ⟨x, _, rfl⟩ := hv; rfl)
  rw [this]
  simp [nArr]

/-- a region that may be walked in several orders, all of which end alike but for three numbers on the way -/
theorem region_merge3 {P : Program} {id : Nat} {ops : Array Oper} {K : Act → World → Prop} {Q : Exit → Act → World → Prop} {a : Act} {w : World} (R : List Int → List Int → List Int → World → Prop) {A : List Int → List Int → List Int → Act}
    (hreg : ∀ K' : Act → World → Prop, Hid (∀ x y z W2, R x y z W2 → K' (A x y z) W2) → (Code.region id ops true).wp P (Exit.then K' Q) a w) (hrest : ∀ x y z W2, R x y z W2 → K (A x y z) W2) : (Code.region id ops true).wp P (Exit.then K Q) a w := hreg K hrest

set_option maxHeartbeats 4000000 in
set_option maxRecDepth 100000 in
theorem gathered_any (rl : List Int) (R : Int) (v : Value) (l : List Int) (w : World) (h : Sl w v l) (hl : l.length ≤ 4000) (hr : Lim 67108864 rl) (hR : val rl % pp = R % pp) :
    Calls Tryd.prog 74 #[.agg (nArr rl), v] w fun e w' => ∃ r, e = .returned (.agg (nArr r)) ∧ Lim 67108864 r ∧ val r = accN R l ∧ Below w.heap.size w w' := by
  obtain ⟨a0, c0, rfl⟩ : ∃ a c, v = .slice a l.length c := by
    obtain ⟨⟨a, c, e, _⟩, _⟩ := h
    exact ⟨a, c, e⟩
  have HR : Hid (val rl % pp = R % pp) := hR
  clear hR
  go_enter Tryd.func74, Tryd.ntmps74
  go_wp2_with fail
  go_loopw [1] (fun dv wr => ∃ (k : Nat) (nl : List Int) (a : Option Addr) (c : Nat), 16 * k ≤ l.length + 15 ∧ dv = .slice a (l.length - 16 * k) c ∧ Sl w dv (l.drop (16 * k)) ∧ Lim 67108864 nl ∧ val nl % pp = accK R l k % pp ∧ wr.heap[w.heap.size]? = some (.cells (nArr rl) 94 (0, 0)) ∧ wr.heap[w.heap.size + 1]? = some (.cells (nArr [0, 0, 0, 0, 0]) 94 (0, 0)) ∧ wr.heap[w.heap.size + 1 + 1]? = some (.cells (nArr nl) 94 (0, 0)) ∧ Below w.heap.size w wr) (fun dv _ => lenS dv)
  case atStart =>
    obtain ⟨s1, s2, s3, s4⟩ := alloc3 w (.cells (nArr rl) 94 (0, 0)) (.cells (nArr [0, 0, 0, 0, 0]) 94 (0, 0)) (.cells (nArr [0, 0, 0, 0, 0]) 94 (0, 0))
    exact ⟨0, [0, 0, 0, 0, 0], a0, c0, by omega, rfl, h, Lim.of5 (by omega) (by omega) (by omega) (by omega) (by omega), rfl, s1, s2, s3, s4⟩
  case round =>
    clear h
    obtain ⟨k, nl, a, c, hk, rfl, hs, hln, hvn, hrr, hz, hn, hb⟩ := hrel
    by_cases hk16 : 16 * k < l.length
    · obtain ⟨n, hne⟩ : ∃ n, l.length - 16 * k = n := ⟨_, rfl⟩
      have HNE : Hid (l.length - 16 * k = n) := hne
      have hn0 : 0 < n := by omega
      have hn0i : (0 : Int) < (n : Int) := by omega
      rw [hne] at hs ⊢
      have hlen : (l.drop (16 * k)).length = n := by rw [List.length_drop]; exact hne
      obtain ⟨n0, n1, n2, n3, n4, rfl, _⟩ := hln.split
      obtain ⟨r0, r1, r2, r3, r4, rfl, _⟩ := hr.split
      have kn0 := (cell_of_row _ _ 0 _ _ _ hn).trans (nArr_get _ 0 (by simp))
      have kn1 := (cell_of_row _ _ 1 _ _ _ hn).trans (nArr_get _ 1 (by simp))
      have kn2 := (cell_of_row _ _ 2 _ _ _ hn).trans (nArr_get _ 2 (by simp))
      have kn3 := (cell_of_row _ _ 3 _ _ _ hn).trans (nArr_get _ 3 (by simp))
      have kn4 := (cell_of_row _ _ 4 _ _ _ hn).trans (nArr_get _ 4 (by simp))
      have kr0 := (cell_of_row _ _ 0 _ _ _ hrr).trans (nArr_get _ 0 (by simp))
      have kr1 := (cell_of_row _ _ 1 _ _ _ hrr).trans (nArr_get _ 1 (by simp))
      have kr2 := (cell_of_row _ _ 2 _ _ _ hrr).trans (nArr_get _ 2 (by simp))
      have kr3 := (cell_of_row _ _ 3 _ _ _ hrr).trans (nArr_get _ 3 (by simp))
      have kr4 := (cell_of_row _ _ 4 _ _ _ hrr).trans (nArr_get _ 4 (by simp))
      simp only [List.getD_cons_zero, List.getD_cons_succ] at kn0 kn1 kn2 kn3 kn4 kr0 kr1 kr2 kr3 kr4
      have hzn : w.heap.size + 1 + 1 < wr.heap.size := (Array.getElem?_eq_some_iff.1 hn).1
      have hzr : w.heap.size < wr.heap.size := by omega
      have HN : Hid _ := hn
      have HRR : Hid _ := hrr
      have HZ : Hid _ := hz
      have HB : Hid _ := hb
      have HVN : Hid (val [n0, n1, n2, n3, n4] % pp = accK R l k % pp) := hvn
      clear hn hrr hz hb hvn hne
      obtain ⟨sz, hmin, hsz1, hsz2⟩ : ∃ sz : Nat, (if (n : Int) < 16 then (n : Int) else 16) = (sz : Int) ∧ sz ≤ n ∧ ((sz = 16) ∨ (sz = n ∧ n < 16)) := by
        by_cases h16 : (n : Int) < 16
        · exact ⟨n, by rw [if_pos h16], by omega, .inr ⟨rfl, by omega⟩⟩
        · exact ⟨16, by rw [if_neg h16]; rfl, by omega, .inl rfl⟩
      obtain ⟨a1, c1, hc1, st⟩ := hs.upTo sz (by omega)
      obtain ⟨a2, c2, hc2, sd⟩ := hs.from sz (by omega)
      have hpl : ((l.drop (16 * k)).take sz).length ≤ 16 := by rw [List.length_take]; omega
      have HP : Hid ((l.drop (16 * k)).take sz = piece l k) := by
        unfold Hid piece
        rcases hsz2 with rfl | ⟨rfl, h16⟩
        · rfl
        · rw [List.take_of_length_le (by omega), List.take_of_length_le (by omega)]
      have HD : Hid ((l.drop (16 * k)).drop sz = l.drop (16 * (k + 1)) ∧ n - sz = l.length - 16 * (k + 1)) := by
        unfold Hid
        have := HNE.out
        rw [List.drop_drop]
        rcases hsz2 with rfl | ⟨rfl, h16⟩
        · exact ⟨by congr 1, by omega⟩
        · refine ⟨?_, by omega⟩
          rw [List.drop_eq_nil_of_le (by omega), List.drop_eq_nil_of_le (by omega)]
      have HSZ : Hid (1 ≤ sz) := by unfold Hid; omega
      clear hsz2
      go_wp2_with fail
      apply region_merge3 (fun m1 s1 t1 W => Lim 67108864 t1 ∧ val t1 % pp = accK R l (k + 1) % pp ∧ W.heap[w.heap.size]? = some (.cells (nArr [r0, r1, r2, r3, r4]) 94 (0, 0)) ∧ W.heap[w.heap.size + 1]? = some (.cells (nArr [0, 0, 0, 0, 0]) 94 (0, 0)) ∧ W.heap[w.heap.size + 1 + 1]? = some (.cells (nArr t1) 94 (0, 0)) ∧ Below w.heap.size w W)
      · intro K2 HK2
        go_region_with (first
          | (go_at_call 84; refine (pmarked_any _ _ _ (st.below HB.out.drew) hpl).mono ?_; rintro e w2 ⟨m1, rfl, lm1, vm1, hb2⟩; have hzn2 : w.heap.size + 1 + 1 < w2.heap.size := Nat.lt_of_lt_of_le hzn hb2.size; have hzr2 : w.heap.size < w2.heap.size := Nat.lt_of_lt_of_le hzr hb2.size; have ln0 := (hb2.cell (p := ⟨w.heap.size + 1 + 1, 0, none⟩) hzn).trans kn0; have ln1 := (hb2.cell (p := ⟨w.heap.size + 1 + 1, 1, none⟩) hzn).trans kn1; have ln2 := (hb2.cell (p := ⟨w.heap.size + 1 + 1, 2, none⟩) hzn).trans kn2; have ln3 := (hb2.cell (p := ⟨w.heap.size + 1 + 1, 3, none⟩) hzn).trans kn3; have ln4 := (hb2.cell (p := ⟨w.heap.size + 1 + 1, 4, none⟩) hzn).trans kn4; have lr0 := (hb2.cell (p := ⟨w.heap.size, 0, none⟩) hzr).trans kr0; have lr1 := (hb2.cell (p := ⟨w.heap.size, 1, none⟩) hzr).trans kr1; have lr2 := (hb2.cell (p := ⟨w.heap.size, 2, none⟩) hzr).trans kr2; have lr3 := (hb2.cell (p := ⟨w.heap.size, 3, none⟩) hzr).trans kr3; have lr4 := (hb2.cell (p := ⟨w.heap.size, 4, none⟩) hzr).trans kr4)
          | (go_at_call 83; refine (plus_any [n0, n1, n2, n3, n4] m1 _ hln lm1).mono ?_; rintro e w3 ⟨s1, rfl, ls1, vs1, hb3⟩; have hzn3 : w.heap.size + 1 + 1 < w3.heap.size := Nat.lt_of_lt_of_le hzn2 hb3.size; have mr0 := (hb3.cell (p := ⟨w.heap.size, 0, none⟩) hzr2).trans lr0; have mr1 := (hb3.cell (p := ⟨w.heap.size, 1, none⟩) hzr2).trans lr1; have mr2 := (hb3.cell (p := ⟨w.heap.size, 2, none⟩) hzr2).trans lr2; have mr3 := (hb3.cell (p := ⟨w.heap.size, 3, none⟩) hzr2).trans lr3; have mr4 := (hb3.cell (p := ⟨w.heap.size, 4, none⟩) hzr2).trans lr4)
          | (go_at_call 85; refine (times_any s1 [r0, r1, r2, r3, r4] _ ls1 hr).mono ?_; rintro e w4 ⟨t1, rfl, lt1, vt1, hb4⟩; have hst := store5 t1 ((hb4.block _ hzn3).trans ((hb3.block _ hzn2).trans ((hb2.block _ hzn).trans HN.out))) rfl lt1.1; have hs5 : (nArr t1).size = 5 := by rw [nArr_size]; exact lt1.1))
        all_goals
          refine HK2.out m1 s1 t1 _ ⟨lt1, ?_, ?_, ?_, ?_, ?_⟩
          · rw [HP.out] at vm1
            exact acc_step HVN.out vm1 vs1 HR.out vt1
          · exact (setRow_other _ _ _ _ (by omega)).trans ((hb4.block _ (by omega)).trans ((hb3.block _ (by omega)).trans ((hb2.block _ hzr).trans HRR.out)))
          · exact (setRow_other _ _ _ _ (by omega)).trans ((hb4.block _ (by omega)).trans ((hb3.block _ (by omega)).trans ((hb2.block _ (Nat.lt_of_succ_lt hzn)).trans HZ.out)))
          · exact setRow_heap _ _ _ _ 94 _ ((hb4.block _ hzn3).trans ((hb3.block _ hzn2).trans ((hb2.block _ hzn).trans HN.out)))
          · exact below_row (((HB.out.drew.trans (hb2.mono (Nat.le_of_lt hzr))).trans (hb3.mono (Nat.le_of_lt hzr2))).trans (hb4.mono (by omega))) (by omega) _
      intro m1 s1 t1 W hW
      obtain ⟨lt1, vt1, q1, q2, q3, q4⟩ := hW
      clear kn0 kn1 kn2 kn3 kn4 kr0 kr1 kr2 kr3 kr4 st hc1 hpl
      go_wp2
      go_roundw
      case rel =>
        obtain ⟨d1, d2⟩ := HD.out
        rw [d1] at sd
        exact ⟨k + 1, t1, a2, c2, by omega, by rw [d2], sd, lt1, vt1, q1, q2, q3, q4⟩
      case measure => have := HSZ.out; simp [lenS]; omega
    · have HK : Hid (k = pieces l) := by unfold Hid pieces; omega
      have hzero : l.length - 16 * k = 0 := by omega
      rw [hzero]
      have hsz1 := nInfo hln.1
      have hzz : w.heap.size + 1 < wr.heap.size := (Array.getElem?_eq_some_iff.1 hz).1
      have HV : Hid (val nl % pp = accK R l k % pp) := hvn
      clear hvn hs
      go_wp2_with ((with_reducible (refine wpList_look ?_)); (refine wpList_load_row rfl 94 _ rfl (w.heap.size + 1 + 1) rfl 94 _ (0, 0) _ hn Tryd.underlying94 rfl hsz1 ?_))
      refine (least_any nl wr hln).mono ?_
      rintro e w1 ⟨r1, rfl, l1, v1, hb1⟩
      have hz1 := (hb1.block (w.heap.size + 1) hzz).trans hz
      have hB1 : Below w.heap.size w w1 := hb.trans (hb1.mono hb.size)
      have hsz2 := nInfo l1.1
      go_wp2_with ((with_reducible (refine wpList_look ?_)); (refine wpList_store_row rfl 94 _ _ rfl (w.heap.size + 1) _ rfl rfl 94 _ hz1 hsz2 (by rw [nArr_size, nArr_size, l1.1]; rfl) (nArr_one r1) ?_))
      refine bodyPost_ret (v := .agg (nArr r1)) (results_cell_row rfl _ _ (w.heap.size + 1) 94 _ (0, 0) _ rfl (setRow_heap w1 (w.heap.size + 1) _ _ 94 _ hz1) Tryd.underlying94 rfl hsz2) rfl ⟨r1, rfl, l1, ?_, below_row hB1 (by omega) _⟩
      have hK := HK.out
      subst hK
      rw [v1, HV.out]
      have := accK_range R l (pieces l)
      exact Int.emod_eq_of_lt this.1 this.2
end Go.Proofs.YtpoaabjpeigooaaDoor
/-
  The walk of the factor of a key's first half.
-/
namespace Go.Proofs.YtpoaabjpeigooaaDoor
open Go.RowKit

/-- the bits of a byte of the factor that count -/
def clampAt (t : Nat) (x : Int) : Int := if t % 4 = 3 then x % 16 else if t % 4 = 0 ∧ 0 < t then x / 4 * 4 else x
def clampL (l : List Int) : List Int := (List.range 16).map fun t => clampAt t (l.getD t 0)
theorem clampL_length (l : List Int) : (clampL l).length = 16 := by simp [clampL]
theorem clampL_get (l : List Int) (t : Nat) (h : t < 16) : (clampL l).getD t 0 = clampAt t (l.getD t 0) := by
  simp [clampL, List.getD, List.getElem?_map, List.getElem?_range h]
theorem clampAt_byte (t : Nat) {x : Int} (h : 0 ≤ x ∧ x < 256) : 0 ≤ clampAt t x ∧ clampAt t x < 256 := by
  unfold clampAt
  split
  · omega
  · split <;> omega
theorem clampL_byte {l : List Int} (h : ∀ x ∈ l, 0 ≤ x ∧ x < 256) : ∀ x ∈ clampL l, 0 ≤ x ∧ x < 256 := by
  intro x hx
  obtain ⟨t, _, rfl⟩ := List.mem_map.1 hx
  exact clampAt_byte t (getD_byte h t)
theorem eq_of_getD {l m : List Int} (h : l.length = m.length) (hg : ∀ t, t < l.length → l.getD t 0 = m.getD t 0) : l = m := by
  apply List.ext_getElem h
  intro t h1 h2
  have := hg t h1
  rwa [getD_at h1, getD_at h2] at this

theorem and15 (x : Int) (h0 : 0 ≤ x) (h1 : x < 256) : bits .and .u8 x 15 = x % 16 := by
  obtain ⟨n, rfl⟩ := Int.eq_ofNat_of_zero_le h0
  rw [show (15 : Int) = ((15 : Nat) : Int) from rfl, u8_and_nat _ _ (by omega) (by omega), show (15 : Nat) = 2 ^ 4 - 1 from rfl, Nat.and_two_pow_sub_one_eq_mod]
  omega
theorem and252_nat : ∀ n : Fin 256, n.val &&& 252 = n.val / 4 * 4 := by decide +kernel
theorem and252 (x : Int) (h0 : 0 ≤ x) (h1 : x < 256) : bits .and .u8 x 252 = x / 4 * 4 := by
  obtain ⟨n, rfl⟩ := Int.eq_ofNat_of_zero_le h0
  have e : n &&& 252 = n / 4 * 4 := and252_nat ⟨n, by omega⟩
  rw [show (252 : Int) = ((252 : Nat) : Int) from rfl, u8_and_nat _ _ (by omega) (by omega), e]
  omega

/-- what stands after j bytes whose upper bits were struck -/
structure Upper (l m : List Int) (j : Nat) : Prop where
  len : m.length = 16
  at_ : ∀ t, m.getD t 0 = if t % 4 = 3 ∧ t < 3 + 4 * j then l.getD t 0 % 16 else l.getD t 0
theorem Upper.zero {l : List Int} (h : l.length = 16) : Upper l l 0 := by
  refine ⟨h, fun t => ?_⟩
  rw [if_neg (by omega)]
theorem Upper.succ {l m : List Int} {j : Nat} (h : Upper l m j) (hj : j < 4) : Upper l (m.set (3 + 4 * j) (m.getD (3 + 4 * j) 0 % 16)) (j + 1) := by
  refine ⟨by simpa using h.len, fun t => ?_⟩
  by_cases e : 3 + 4 * j = t
  · subst e
    rw [getD_set_same (by rw [h.len]; omega), h.at_, if_neg (by omega), if_pos (by omega)]
  · rw [getD_set_other e, h.at_]
    by_cases c : t % 4 = 3 ∧ t < 3 + 4 * j
    · rw [if_pos c, if_pos (by omega)]
    · rw [if_neg c, if_neg (by omega)]
/-- what stands after j bytes whose lower bits were struck, too -/
structure Lower (l m : List Int) (j : Nat) : Prop where
  len : m.length = 16
  at_ : ∀ t, t < 16 → m.getD t 0 = if t % 4 = 3 then l.getD t 0 % 16 else if t % 4 = 0 ∧ 0 < t ∧ t < 4 + 4 * j then l.getD t 0 / 4 * 4 else l.getD t 0
theorem Upper.lower {l m : List Int} (h : Upper l m 4) : Lower l m 0 := by
  refine ⟨h.len, fun t ht => ?_⟩
  rw [h.at_]
  by_cases c : t % 4 = 3
  · rw [if_pos (by omega), if_pos c]
  · rw [if_neg (by omega), if_neg c, if_neg (by omega)]
theorem Lower.succ {l m : List Int} {j : Nat} (h : Lower l m j) (hj : j < 3) : Lower l (m.set (4 + 4 * j) (m.getD (4 + 4 * j) 0 / 4 * 4)) (j + 1) := by
  refine ⟨by simpa using h.len, fun t ht => ?_⟩
  by_cases e : 4 + 4 * j = t
  · subst e
    rw [getD_set_same (by rw [h.len]; omega), h.at_ _ ht, if_neg (by omega), if_neg (by omega), if_neg (by omega), if_pos (by omega)]
  · rw [getD_set_other e, h.at_ _ ht]
    by_cases c : t % 4 = 3
    · rw [if_pos c, if_pos c]
    · rw [if_neg c, if_neg c]
      by_cases d : t % 4 = 0 ∧ 0 < t ∧ t < 4 + 4 * j
      · rw [if_pos d, if_pos (by omega)]
      · rw [if_neg d, if_neg (by omega)]
theorem Lower.clamp {l m : List Int} (h : Lower l m 3) : m = clampL l := by
  refine eq_of_getD (by rw [h.len, clampL_length]) (fun t ht => ?_)
  rw [h.len] at ht
  rw [h.at_ t ht, clampL_get l t ht, clampAt]
  by_cases c : t % 4 = 3
  · rw [if_pos c, if_pos c]
  · rw [if_neg c, if_neg c]
    by_cases d : t % 4 = 0 ∧ 0 < t
    · rw [if_pos d, if_pos (by omega)]
    · rw [if_neg d, if_neg (by omega)]
theorem Upper.byte {l m : List Int} {j : Nat} (h : Upper l m j) (hl : ∀ x ∈ l, 0 ≤ x ∧ x < 256) (t : Nat) : 0 ≤ m.getD t 0 ∧ m.getD t 0 < 256 := by
  have := getD_byte hl t
  rw [h.at_]; split <;> omega
theorem Lower.byte {l m : List Int} {j : Nat} (h : Lower l m j) (hl : ∀ x ∈ l, 0 ≤ x ∧ x < 256) (t : Nat) (ht : t < 16) : 0 ≤ m.getD t 0 ∧ m.getD t 0 < 256 := by
  have := getD_byte hl t
  rw [h.at_ t ht]; split
  · omega
  · split <;> omega

set_option maxHeartbeats 1000000 in
set_option maxRecDepth 100000 in
theorem factor_any (v : Value) (l : List Int) (w : World) (h : Sl w v l) (hl : l.length = 16) :
    Calls Tryd.prog 75 #[v] w fun e w' => ∃ r, e = .returned (.agg (nArr r)) ∧ Lim 67108864 r ∧ val r % pp = leN (clampL l) % pp ∧ Below w.heap.size w w' := by
  have hs := h
  obtain ⟨⟨a, cap, rfl, hc, hn, h1⟩, hla, hba⟩ := h
  have HBY : Hid (∀ x ∈ l, 0 ≤ x ∧ x < 256) := hba
  clear h1 hba hn hla
  have HL : Hid (l.length = 16) := hl
  go_enter Tryd.func75, Tryd.ntmps75
  go_wp2_with (refine wpList_copy_splice rfl _ _ 22 22 rfl 5 Tryd.underlying22 info5s _ _ _ _ _ _ rfl rfl (w.heap.size + 1) 0 ((List.replicate 16 (0 : Int)).map (Value.int .u8)) 106 (heap_alloc2_new _ _ _) (l.map (Value.int .u8)) (by rw [List.length_map]; exact (Nat.min_eq_left (show l.length ≤ 16 by omega)).symm) (fun hp => ⟨rfl, (hs.below (((Below.refl _ _).alloc (Nat.le_refl _) _).alloc (by simp) _)).src (by simpa using hp)⟩) (by rw [List.length_map, List.length_map, List.length_replicate]; omega) (ints_one _) (w.heap.size + 1) _ (Below.refl _ _) (Nat.le_refl _) ?_)
  intro w2 H2 hb2
  have hr2 : w2.heap[w.heap.size + 1]? = some (.cells (byA l) 106 (0, 0)) := by
    have h3 : w2.heap[w.heap.size + 1]? = some (.cells (splice ((List.replicate 16 (0 : Int)).map (Value.int .u8)) 0 (l.map (Value.int .u8))).toArray 106 (0, 0)) := H2.out
    rw [splice_zeros, hl] at h3
    simpa [byA] using h3
  have hB2 : Below w.heap.size w w2 := (((Below.refl _ _).alloc (Nat.le_refl _) _).alloc (by simp) _).trans (hb2.mono (by omega))
  have hq2 : w2.heap[w.heap.size]? = some (.cells (nArr [0, 0, 0, 0, 0]) 94 (0, 0)) := by
    rw [hb2.block _ (by omega)]; exact heap_alloc2_old _ _ _
  clear H2 hb2 hs
  go_wp2_with fail
  go_loopw [4] (fun i wr => ∃ (j : Nat) (m : List Int), j ≤ 4 ∧ i = .int .i64 (3 + 4 * (j : Int)) ∧ Upper l m j ∧ wr.heap[w.heap.size]? = some (.cells (nArr [0, 0, 0, 0, 0]) 94 (0, 0)) ∧ wr.heap[w.heap.size + 1]? = some (.cells (byA m) 106 (0, 0)) ∧ Below w.heap.size w wr) (fun i _ => 20 - (intOf i).toNat)
  case atStart => exact ⟨0, l, by omega, rfl, Upper.zero HL.out, hq2, hr2, hB2⟩
  case round =>
    clear hq2 hr2 hB2
    obtain ⟨j, m, hj, rfl, hu, hq, hr, hb⟩ := hrel
    have hm := hu.len
    by_cases hj4 : j < 4
    · have hji : 3 + 4 * (j : Int) < 16 := by omega
      have cl := (cell_of_row _ _ (3 + 4 * j) _ _ _ hr).trans (byA_get m (3 + 4 * j) (by omega))
      have fl := frozen_of_row _ _ (3 + 4 * j) _ _ hr
      have hby := hu.byte HBY.out (3 + 4 * j)
      have HS : Hid (Upper l (m.set (3 + 4 * j) (m.getD (3 + 4 * j) 0 % 16)) (j + 1)) := hu.succ hj4
      have hand := and15 (m.getD (3 + 4 * j) 0) hby.1 hby.2
      generalize m.getD (3 + 4 * j) 0 = x at cl HS hby hand
      clear hu
      go_wp2
      go_roundw
      case rel =>
        refine ⟨j + 1, _, by omega, by go_num, HS.out, ?_, byA_store hr _ _, ?_⟩
        · exact (heap_setCell_other _ _ _ _ (by simp)).trans hq
        · exact hb.setCell (p := ⟨w.heap.size + 1, 3 + 4 * j, none⟩) (by simp) _
      case measure => simp [intOf]; omega
    · have HJ : Hid (j = 4) := by unfold Hid; omega
      have hji : ¬ 3 + 4 * (j : Int) < 16 := by omega
      have hlo : Lower l m 0 := by have := HJ.out; subst this; exact hu.lower
      clear hu
      go_wp2_with fail
      go_loopw [5] (fun i wr => ∃ (j : Nat) (m : List Int), j ≤ 3 ∧ i = .int .i64 (4 + 4 * (j : Int)) ∧ Lower l m j ∧ wr.heap[w.heap.size]? = some (.cells (nArr [0, 0, 0, 0, 0]) 94 (0, 0)) ∧ wr.heap[w.heap.size + 1]? = some (.cells (byA m) 106 (0, 0)) ∧ Below w.heap.size w wr) (fun i _ => 20 - (intOf i).toNat)
      case atStart => exact ⟨0, m, by omega, rfl, hlo, hq, hr, hb⟩
      case round =>
        clear hq hr hb hlo hm
        obtain ⟨k, m, hk, rfl, hu, hq, hr, hb⟩ := hrel
        have hm := hu.len
        by_cases hk3 : k < 3
        · have hki : 4 + 4 * (k : Int) < 16 := by omega
          have cl := (cell_of_row _ _ (4 + 4 * k) _ _ _ hr).trans (byA_get m (4 + 4 * k) (by omega))
          have fl := frozen_of_row _ _ (4 + 4 * k) _ _ hr
          have hby := hu.byte HBY.out (4 + 4 * k) (by omega)
          have HS : Hid (Lower l (m.set (4 + 4 * k) (m.getD (4 + 4 * k) 0 / 4 * 4)) (k + 1)) := hu.succ hk3
          have hand := and252 (m.getD (4 + 4 * k) 0) hby.1 hby.2
          generalize m.getD (4 + 4 * k) 0 = x at cl HS hby hand
          clear hu
          go_wp2
          go_roundw
          case rel =>
            refine ⟨k + 1, _, by omega, by go_num, HS.out, ?_, byA_store hr _ _, ?_⟩
            · exact (heap_setCell_other _ _ _ _ (by simp)).trans hq
            · exact hb.setCell (p := ⟨w.heap.size + 1, 4 + 4 * k, none⟩) (by simp) _
          case measure => simp [intOf]; omega
        · have hki : ¬ 4 + 4 * (k : Int) < 16 := by omega
          have HK : Hid (k = 3) := by unfold Hid; omega
          have hmc : m = clampL l := by have := HK.out; subst this; exact hu.clamp
          have s3 : Sl wr (.slice (some ⟨w.heap.size + 1, 0, none⟩) 16 16) m := by
            refine Sl.rowOf hr hm (by omega) ?_
            rw [hmc]; exact clampL_byte HBY.out
          have HM : Hid (m = clampL l) := hmc
          have HS3 : Hid _ := s3
          have hzz : w.heap.size < wr.heap.size := (Array.getElem?_eq_some_iff.1 hq).1
          clear hu s3 hmc hr
          go_wp2_with fail
          refine (read_any _ m _ HS3.out (by omega)).mono ?_
          rintro e w4 ⟨r, rfl, lr, vr, hb4⟩
          have hq4 := (hb4.block w.heap.size hzz).trans hq
          have hB4 : Below w.heap.size w w4 := hb.trans (hb4.mono hb.size)
          have hsz2 := nInfo lr.1
          go_wp2_with ((with_reducible (refine wpList_look ?_)); (refine wpList_store_row rfl 94 _ _ rfl (w.heap.size) _ rfl rfl 94 _ hq4 hsz2 (by rw [nArr_size, nArr_size, lr.1]; rfl) (nArr_one r) ?_))
          exact bodyPost_ret (v := .agg (nArr r)) (results_cell_row rfl _ _ (w.heap.size) 94 _ (0, 0) _ rfl (setRow_heap w4 (w.heap.size) _ _ 94 _ hq4) Tryd.underlying94 rfl hsz2) rfl ⟨r, rfl, lr, by rw [vr, HM.out], below_row hB4 (Nat.le_refl _) _⟩
end Go.Proofs.YtpoaabjpeigooaaDoor
/-
  The walk of a number's bytes.
-/
namespace Go.Proofs.YtpoaabjpeigooaaDoor
open Go.RowKit

theorem or_low (a b : Int) (k : Nat) (m : Int) (hm : m = 2 ^ k) (ha : 0 ≤ a) (ha2 : a < m) (hb : 0 ≤ b) (hs : a + b * m < 18446744073709551616) : bits .or .u64 a (b * m) = a + b * m := by
  obtain ⟨x, rfl⟩ := Int.eq_ofNat_of_zero_le ha
  obtain ⟨y, rfl⟩ := Int.eq_ofNat_of_zero_le hb
  have e : (y : Int) * m = ((2 ^ k * y : Nat) : Int) := by rw [hm, Int.natCast_mul, Int.natCast_pow, Int.mul_comm]; rfl
  rw [e] at hs ⊢
  have hx : x < 2 ^ k := by
    have : ((x : Nat) : Int) < ((2 ^ k : Nat) : Int) := by rw [Int.natCast_pow]; rw [hm] at ha2; exact ha2
    omega
  have h1 := Nat.two_pow_add_eq_or_of_lt hx y
  rw [u64_or_nat _ _ (by omega) (by omega), Nat.or_comm, ← h1]
  omega

theorem ret_u8 {a b : Int} (h : a = b) : Ending.returned (.int .u8 a) = .returned (.int .u8 b) := by rw [h]

set_option maxHeartbeats 4000000 in
set_option maxRecDepth 100000 in
theorem byteAt_any (n : List Int) (i : Nat) (w : World) (hn : Lim 67108864 n) (hi : i < 16) :
    Calls Tryd.prog 82 #[.agg (nArr n), .int .i64 i] w fun e w' => e = .returned (.int .u8 (byteN (val n) i)) ∧ Below w.heap.size w w' := by
  obtain ⟨a, b, c, d, e, rfl, ⟨a1, a2⟩, ⟨b1, b2⟩, ⟨c1, c2⟩, ⟨d1, d2⟩, ⟨e1, e2⟩⟩ := hn.split
  have hs : (w.alloc (.cells (nArr [a, b, c, d, e]) 94 (0, 0))).heap[w.heap.size]? = some (.cells (nArr [a, b, c, d, e]) 94 (0, 0)) := heap_alloc_new _ _
  have k0 := (cell_of_row _ _ 0 _ _ _ hs).trans (nArr_get _ 0 (by simp))
  have k1 := (cell_of_row _ _ 1 _ _ _ hs).trans (nArr_get _ 1 (by simp))
  have k2 := (cell_of_row _ _ 2 _ _ _ hs).trans (nArr_get _ 2 (by simp))
  have k3 := (cell_of_row _ _ 3 _ _ _ hs).trans (nArr_get _ 3 (by simp))
  have k4 := (cell_of_row _ _ 4 _ _ _ hs).trans (nArr_get _ 4 (by simp))
  simp only [List.getD_cons_zero, List.getD_cons_succ] at k0 k1 k2 k3 k4
  have HV : Hid (val [a, b, c, d, e] = a + 67108864 * b + 4503599627370496 * c + 302231454903657293676544 * d + 20282409603651670423947251286016 * e) := val5 a b c d e
  generalize nArr [a, b, c, d, e] = arr at k0 k1 k2 k3 k4 ⊢
  generalize val [a, b, c, d, e] = V at HV ⊢
  clear hn hs
  obtain rfl | rfl | rfl | rfl | rfl | rfl | rfl | rfl | rfl | rfl | rfl | rfl | rfl | rfl | rfl | rfl : i = 0 ∨ i = 1 ∨ i = 2 ∨ i = 3 ∨ i = 4 ∨ i = 5 ∨ i = 6 ∨ i = 7 ∨ i = 8 ∨ i = 9 ∨ i = 10 ∨ i = 11 ∨ i = 12 ∨ i = 13 ∨ i = 14 ∨ i = 15 := by omega
  all_goals
    go_enter Tryd.func82, Tryd.ntmps82
    go_wp2
    go_ret
    refine ⟨ret_u8 ?_, (Below.refl _ _).alloc (Nat.le_refl _) _⟩
    have hV := HV.out
    clear HV k0 k1 k2 k3 k4
    unfold byteN
    first
      | rw [or_low _ _ 2 4 rfl (by omega) (by omega) (by omega) (by omega)]
      | rw [or_low _ _ 4 16 rfl (by omega) (by omega) (by omega) (by omega)]
      | rw [or_low _ _ 6 64 rfl (by omega) (by omega) (by omega) (by omega)]
      | skip
    subst hV
    simp only [Int.reducePow]
    omega
end Go.Proofs.YtpoaabjpeigooaaDoor
/-
  The walk of the tag: a number's lowest bytes and a key's last half, added.
-/
namespace Go.Proofs.YtpoaabjpeigooaaDoor
open Go.RowKit

/-- a region that may be walked in several orders, all of which end alike -/
theorem region_merge0 {P : Program} {id : Nat} {ops : Array Oper} {K : Act → World → Prop} {Q : Exit → Act → World → Prop} {a : Act} {w : World} (R : World → Prop) {A : Act}
    (hreg : ∀ K' : Act → World → Prop, Hid (∀ W2, R W2 → K' A W2) → (Code.region id ops true).wp P (Exit.then K' Q) a w) (hrest : ∀ W2, R W2 → K A W2) : (Code.region id ops true).wp P (Exit.then K Q) a w := hreg K hrest

set_option maxHeartbeats 2000000 in
set_option maxRecDepth 100000 in
theorem together_any (nl : List Int) (v : Value) (s : List Int) (w : World) (h : Sl w v s) (hl : s.length = 16) (hn : Lim 67108864 nl) :
    Calls Tryd.prog 73 #[.agg (nArr nl), v] w fun e w' => ∃ v', e = .returned v' ∧ Sl w' v' (leB 16 (val nl + leN s)) ∧ Below w.heap.size w w' := by
  obtain ⟨⟨a, cap, rfl, hc, hn0, h1⟩, hla, hba⟩ := h
  rcases h1 with rfl | ⟨B, off, rfl, hB, hcell⟩
  · simp at hl
  have HC : Hid (∀ i, i < 16 → w.cell? ⟨B, off + i, none⟩ = some (.int .u8 (s.getD i 0))) := fun i hi => hcell i (by omega)
  have HBY : Hid (∀ x ∈ s, 0 ≤ x ∧ x < 256) := hba
  have HS16 : Hid (s.length = 16) := hl
  rw [hl] at hc ⊢
  clear hcell hba hn0 hla
  obtain ⟨n0, n1, n2, n3, n4, rfl, _⟩ := hn.split
  obtain ⟨V, hV⟩ : ∃ V, val [n0, n1, n2, n3, n4] = V := ⟨_, rfl⟩
  have HV : Hid (val [n0, n1, n2, n3, n4] = V) := hV
  rw [hV]
  clear hV
  obtain ⟨i0, hi0, hz0, hz1, hz2⟩ := info_parts info5
  go_enter Tryd.func73, Tryd.ntmps73
  go_wp2_with (at_make; refine wpList_make_row _ rfl _ _ 22 rfl 5 i0 (.int .u8 0) Tryd.underlying22 hi0 hz0 hz1 rfl _ _ 16 rfl rfl (by rw [hz2]; omega) (by omega) ?_)
  clear hi0 hz0 hz1 hz2
  go_loopw [6, 11] (fun cv i wr => ∃ (k : Nat), k ≤ 16 ∧ i = .int .i64 k ∧ cv = .int .i64 (carP (fun j => byteN V j + s.getD j 0) k) ∧ wr.heap[w.heap.size]? = some (.cells (nArr [n0, n1, n2, n3, n4]) 94 (0, 0)) ∧ wr.heap[w.heap.size + 1]? = some (.cells (byA (tagP (V + leN s) k)) 5 (0, 0)) ∧ Below w.heap.size w wr) (fun _ i _ => 16 - (intOf i).toNat)
  case atStart =>
    refine ⟨0, by omega, rfl, by rw [carP_zero], ?_, ?_, ?_⟩
    · exact heap_alloc2_old _ _ _
    · have e : madeCells #[Value.int .u8 0] 16 = byA (tagP (V + leN s) 0) := by rw [tagP_zero]; kernel_rfl
      rw [e]; exact heap_alloc2_new _ _ _
    · exact ((Below.refl _ _).alloc (Nat.le_refl _) _).alloc (by simp) _
  case round =>
    obtain ⟨k, hk, rfl, rfl, hr, ht, hb⟩ := hrel
    by_cases hk16 : k < 16
    · have hki : (k : Int) < 16 := by omega
      have kn0 := (cell_of_row _ _ 0 _ _ _ hr).trans (nArr_get _ 0 (by simp))
      have kn1 := (cell_of_row _ _ 1 _ _ _ hr).trans (nArr_get _ 1 (by simp))
      have kn2 := (cell_of_row _ _ 2 _ _ _ hr).trans (nArr_get _ 2 (by simp))
      have kn3 := (cell_of_row _ _ 3 _ _ _ hr).trans (nArr_get _ 3 (by simp))
      have kn4 := (cell_of_row _ _ 4 _ _ _ hr).trans (nArr_get _ 4 (by simp))
      simp only [List.getD_cons_zero, List.getD_cons_succ] at kn0 kn1 kn2 kn3 kn4
      have hzr : w.heap.size + 1 < wr.heap.size := (Array.getElem?_eq_some_iff.1 ht).1
      have hBr : B < wr.heap.size := by omega
      have ch := (hb.cell (p := ⟨B, off + k, none⟩) hB).trans (HC.out k hk16)
      have hby : ∀ j, 0 ≤ byteN V j + s.getD j 0 ∧ byteN V j + s.getD j 0 < 1000 := fun j => by
        have b1 := byteN_range V j
        have b2 := getD_byte HBY.out j
        omega
      have hcr := carP_range (fun j => byteN V j + s.getD j 0) hby k
      have HCS : Hid (carP (fun j => byteN V j + s.getD j 0) (k + 1) = (carP (fun j => byteN V j + s.getD j 0) k + (byteN V k + s.getD k 0)) / 256) := carP_succ _ k
      have HCB : Hid ((carP (fun j => byteN V j + s.getD j 0) k + (byteN V k + s.getD k 0)) % 256 = byteN (V + leN s) k) := carP_sum V s k hk16 (by rw [HS16.out]; omega)
      have b1 := byteN_range V k
      have b2 := getD_byte HBY.out k
      have hat := byteAt_any [n0, n1, n2, n3, n4] k
      rw [HV.out] at hat
      have HAT : Hid (∀ W, Calls Tryd.prog 82 #[.agg (nArr [n0, n1, n2, n3, n4]), .int .i64 k] W fun e w' => e = .returned (.int .u8 (byteN V k)) ∧ Below W.heap.size W w') := fun W => hat W hn hk16
      have HT : Hid _ := ht
      have HR : Hid _ := hr
      have HB : Hid _ := hb
      clear hat hby ht hr hb
      have htl := tagP_length (V + leN s) k
      have HTS : Hid ((tagP (V + leN s) k).set k (byteN (V + leN s) k) = tagP (V + leN s) (k + 1)) := tagP_succ _ k hk16
      generalize carP (fun j => byteN V j + s.getD j 0) k = cy at HCS HCB hcr
      generalize byteN V k = x at HCS HCB b1 HAT
      generalize s.getD k 0 = y at HCS HCB b2 ch
      obtain ⟨x1, x2⟩ := b1
      obtain ⟨y1, y2⟩ := b2
      obtain ⟨z1, z2⟩ := hcr
      go_wp2_with fail
      apply region_merge0 (fun W => Below wr.heap.size wr W)
      · intro K2 HK2
        go_region_with (go_at_call 82; refine (HAT.out _).mono ?_; rintro e w2 ⟨rfl, hb2⟩; have ch2 := (hb2.cell (p := ⟨B, off + k, none⟩) hBr).trans ch)
        all_goals exact HK2.out _ ((Below.refl _ _).drew.trans hb2)
      intro W hW
      have ht := (hW.block _ hzr).trans HT.out
      have hr := (hW.block _ (by omega)).trans HR.out
      have ct := (cell_of_row _ _ k _ _ _ ht).trans (byA_get _ k (by omega))
      have ft := frozen_of_row _ _ k _ _ ht
      have hB2 : Below w.heap.size w W := HB.out.trans (hW.mono HB.out.size)
      clear kn0 kn1 kn2 kn3 kn4 ch
      generalize (tagP (V + leN s) k).getD k 0 = c0 at ct
      go_wp2
      go_roundw
      case rel =>
        refine ⟨k + 1, by omega, by go_num, ?_, ?_, ?_, ?_⟩
        · rw [HCS.out]
        · exact (heap_setCell_other _ _ _ _ (by simp)).trans hr
        · have h1 := byA_store ht k (byteN (V + leN s) k)
          rw [HTS.out, ← HCB.out] at h1
          exact h1
        · exact hB2.setCell (p := ⟨w.heap.size + 1, k, none⟩) (by simp) _
      case measure => simp [intOf]; omega
    · have hki : ¬ (k : Int) < 16 := by omega
      have HK : Hid (k = 16) := by unfold Hid; omega
      go_wp2
      go_ret
      have hK := HK.out
      subst hK
      rw [tagP_all] at ht
      exact ⟨_, rfl, Sl.rowOf ht (leB_length _ _) (by rw [leB_length]; omega) (leB_byte _ _), hb⟩
end Go.Proofs.YtpoaabjpeigooaaDoor
/-
  The walk of the tag.
-/
namespace Go.Proofs.YtpoaabjpeigooaaDoor
open Go.RowKit

/-- the tag of data under a key -/
def tagL (key data : List Int) : List Int := leB 16 (accN (leN (clampL (key.take 16))) data + leN (key.drop 16))
theorem tagL_length (key data : List Int) : (tagL key data).length = 16 := leB_length _ _
theorem tagL_byte (key data : List Int) : ∀ x ∈ tagL key data, 0 ≤ x ∧ x < 256 := leB_byte _ _

theorem Sl.aShape {w : World} {v : Value} {l : List Int} (h : Sl w v l) : ∃ a c, v = .slice a l.length c := by
  obtain ⟨⟨a, cap, e, _⟩, _⟩ := h
  exact ⟨a, cap, e⟩

set_option maxHeartbeats 2000000 in
set_option maxRecDepth 100000 in
theorem tag_ok (vk vd : Value) (key data : List Int) (w : World) (hk : Sl w vk key) (hd : Sl w vd data) (lk : key.length = 32) (ld : data.length ≤ 4000) :
    Calls Tryd.prog 62 #[vk, vd] w fun e w' => ∃ v', e = .returned (.tuple #[v', .int .i64 0]) ∧ Sl w' v' (tagL key data) ∧ Below w.heap.size w w' := by
  obtain ⟨ak, ck, rfl⟩ := hk.aShape
  obtain ⟨ad, cd, rfl⟩ := hd.aShape
  rw [lk] at hk ⊢
  obtain ⟨a1, c1, hc1', s1⟩ := hk.upTo 16 (by omega)
  obtain ⟨a2, c2, hc2', s2⟩ := hk.from 16 (by omega)
  have hc1 : ∀ W, (Instr.slice 22 (.slice ak 32 ck) none (some (.int .i64 16)) none).run Tryd.prog W = .ok (.slice a1 16 c1) W := hc1'
  have hc2 : ∀ W, (Instr.slice 22 (.slice ak 32 ck) (some (.int .i64 16)) none none).run Tryd.prog W = .ok (.slice a2 16 c2) W := hc2'
  clear hc1' hc2'
  have lt : (key.take 16).length = 16 := by rw [List.length_take]; omega
  have lr : (key.drop 16).length = 16 := by rw [List.length_drop]; omega
  have ldi : ¬ (4000 : Int) < (data.length : Int) := by omega
  have HT : Hid (tagL key data = leB 16 (accN (leN (clampL (key.take 16))) data + leN (key.drop 16))) := rfl
  generalize key.take 16 = K1 at s1 lt HT
  generalize key.drop 16 = K2 at s2 lr HT
  clear hk lk
  have hdl : Hid (data.length ≤ 4000) := ld
  go_enter Tryd.func62, Tryd.ntmps62
  go_wp2_with fail
  go_region_with (first
    | (go_at_call 75; refine (factor_any _ K1 _ (s1.below ((Below.refl _ _).drew)) lt).mono ?_; rintro e w2 ⟨r1, rfl, l1, v1, hb2⟩)
    | (go_at_call 74; refine (gathered_any r1 (leN (clampL K1)) _ data _ (hd.below ((Below.refl _ _).drew.trans hb2)) hdl.out l1 v1).mono ?_; rintro e w3 ⟨n1, rfl, l3, v3, hb3⟩)
    | (go_at_call 73; refine (together_any n1 _ K2 _ (s2.below (((Below.refl _ _).drew.trans hb2).trans (hb3.mono hb2.size))) lr l3).mono ?_; rintro e w4 ⟨v4, rfl, s4, hb4⟩))
  all_goals
    go_wp2
    go_ret2
    refine ⟨v4, rfl, ?_, ?_⟩
    · rw [HT.out, ← v3]; exact s4
    · have b3 : Below w.heap.size w w3 := ((Below.refl _ _).drew.trans hb2).trans (hb3.mono hb2.size)
      exact b3.trans (hb4.mono b3.size)

theorem tag_no (vk vd : Value) (key data : List Int) (w : World) (hk : Sl w vk key) (hd : Sl w vd data) (hno : key.length ≠ 32 ∨ 4000 < data.length) :
    Calls Tryd.prog 62 #[vk, vd] w fun e w' => e = .returned (.tuple #[.slice none 0 0, .int .i64 1]) ∧ w' = w := by
  obtain ⟨ak, ck, rfl⟩ := hk.aShape
  obtain ⟨ad, cd, rfl⟩ := hd.aShape
  have h1 := hk.len
  have h2 := hd.len
  by_cases lk : key.length = 32
  · have ld : (4000 : Int) < (data.length : Int) := by omega
    rw [lk] at *
    clear hk hd
    go_enter Tryd.func62, Tryd.ntmps62
    go_wp2
    go_ret2
    exact ⟨rfl, rfl⟩
  · have lki : ¬ (key.length : Int) = 32 := by omega
    clear hk hd
    go_enter Tryd.func62, Tryd.ntmps62
    go_wp2
    go_ret2
    exact ⟨rfl, rfl⟩
end Go.Proofs.YtpoaabjpeigooaaDoor
