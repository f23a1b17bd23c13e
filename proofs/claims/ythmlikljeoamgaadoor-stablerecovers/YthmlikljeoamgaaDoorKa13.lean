/-
  The walk of the program's own Check: which acceptors may be.
-/
import Derived.Laws.CopyRow
import Derived.Test.YthmlikljeoamgaaDoorKa12
import Derived.Test.YthmlikljeoamgaaDoorKa6
namespace Go.Proofs.YthmlikljeoamgaaDoor
open Go.RowKit
set_option linter.unusedVariables false

set_option maxRecDepth 100000 in
theorem neq_bal (a b a' b' : Int) : ∀ w, (binOp .neq 26 (.agg #[.int .i64 a, .int .i64 b]) (.agg #[.int .i64 a', .int .i64 b'])).run Tryd.prog w = .ok (.bool (!decide (a = a' ∧ b = b'))) w := by
  intro w
  rw [run_neq_struct, run_equalIn_agg w 9999 _ _ _ (by kernel_rfl) (by kernel_rfl)]
  unfold Program.fieldsOf
  rw [Tryd.underlying26]
  have h3 := Tryd.underlying3
  simp [Op.eqFields, go_sem, h3]
  repeat' split
  all_goals simp_all
/-- the lowest slot that the next vote may be for -/
def NextS (l : List Vt) (n : Int) : Prop := 0 ≤ n ∧ n ≤ 40 ∧ ∀ s : Int, 0 ≤ s → (n ≤ s ↔ ∀ u ∈ l, u.slot < s)
theorem NextS.nil : NextS [] 0 := ⟨by omega, by omega, fun s hs => ⟨fun _ u hu => (List.not_mem_nil hu).elim, fun _ => hs⟩⟩
theorem NextS.snoc {l : List Vt} {n : Int} (h : NextS l n) {v : Vt} (h0 : 0 ≤ v.slot) (h1 : v.slot ≤ 39) (hv : n ≤ v.slot) : NextS (l ++ [v]) (v.slot + 1) := by
  refine ⟨by omega, by omega, fun s hs => ⟨fun g u hu => ?_, fun g => ?_⟩⟩
  · rcases List.mem_append.1 hu with hu | hu
    · exact (h.2.2 s hs).1 (by omega) u hu
    · obtain rfl : u = v := by simpa using hu
      omega
  · have := g v (by simp)
    omega
set_option maxHeartbeats 4000000 in
set_option maxRecDepth 100000 in
theorem check_acc (p : Bal) (x : Value) (l : List Vt) (w : World) (h : Sv w x l) (ht : NTab w) :
    Calls Tryd.prog 40 #[.agg (acA p x)] w fun e w' => e = .returned (.int .i64 (accE ⟨p, l⟩)) ∧ Below w.heap.size w w' := by
  obtain ⟨pr, pn⟩ := p
  have hlen := h.len
  obtain ⟨ax, cp, rfl⟩ := h.shape
  obtain ⟨M, hM⟩ : ∃ M, l.length = M := ⟨_, rfl⟩
  have HM : Hid (l.length = M) := hM
  rw [hM] at h hlen ⊢
  clear hM
  have bb : Below w.heap.size w (w.alloc (.cells #[.int .i64 pr, .int .i64 pn, .slice ax M cp] 41)) := (Below.refl _ _).alloc (Nat.le_refl _) _
  have rr := heap_alloc_new w (.cells #[.int .i64 pr, .int .i64 pn, .slice ax M cp] 41)
  simp only [acA]
  generalize hW : w.alloc (.cells #[.int .i64 pr, .int .i64 pn, .slice ax M cp] 41) = W0 at bb rr
  have ltA0 : w.heap.size < W0.heap.size := (Array.getElem?_eq_some_iff.1 rr).1
  have a0 : W0.cell? ⟨w.heap.size, 0, none⟩ = some (.int .i64 pr) := cell_of_row _ _ 0 _ _ _ rr
  have a1 : W0.cell? ⟨w.heap.size, 1, none⟩ = some (.int .i64 pn) := cell_of_row _ _ 1 _ _ _ rr
  have a2 : W0.cell? ⟨w.heap.size, 2, none⟩ = some (.slice ax M cp) := cell_of_row _ _ 2 _ _ _ rr
  have hq := neq_bal pr pn 0 0
  clear rr
  go_enter Tryd.func40, Tryd.ntmps40
  by_cases hz : pr = 0 ∧ pn = 0
  · have HP : Hid (PrMay ⟨pr, pn⟩) := .inr hz
    rw [decide_eq_true hz] at hq
    obtain ⟨rfl, rfl⟩ := hz
    go_wp2_with fail
    clear hW hq
    have ltA1 := ltA0
    have d1 := bb
    have h1 := h.below bb
    have t1 := ht.below bb
    clear ltA0 bb
    go_loopw [3, 19] (fun nv iv wr => ∃ (j : Nat) (n : Int), j ≤ M ∧ iv = .int .i64 (j : Int) ∧ nv = .int .i64 n ∧ OkV ⟨0, 0⟩ (l.take j) ∧ NextS (l.take j) n ∧ Below W0.heap.size W0 wr) (fun _ iv _ => ((M : Int) - intOf iv).toNat)
    case atStart => exact ⟨0, 0, by omega, rfl, rfl, ⟨fun v hv => (List.not_mem_nil hv).elim, trivial⟩, NextS.nil, Below.refl _ _⟩
    case round =>
      obtain ⟨j, n, hj, rfl, rfl, hok, hnx, hbel⟩ := hrel
      have HK : Hid (OkV ⟨0, 0⟩ (l.take j)) := hok
      have HN : Hid (NextS (l.take j) n) := hnx
      have hn0 := hnx.1
      have hn1 := hnx.2.1
      clear hok hnx
      have a0r := (hbel.cell (p := ⟨w.heap.size, 0, none⟩) ltA1).trans a0
      have a1r := (hbel.cell (p := ⟨w.heap.size, 1, none⟩) ltA1).trans a1
      have a2r := (hbel.cell (p := ⟨w.heap.size, 2, none⟩) ltA1).trans a2
      have hr1 := h1.below hbel
      have tr := t1.below hbel
      have dr := d1.trans (hbel.mono d1.size)
      have ltAr : w.heap.size < wr.heap.size := Nat.lt_of_lt_of_le ltA1 hbel.size
      by_cases hjM : j < M
      · have hji : (j : Int) < (M : Int) := by omega
        obtain ⟨v, hv⟩ : ∃ v, l[j]? = some v := ⟨_, List.getElem?_eq_getElem (by have := HM.out; omega)⟩
        obtain ⟨b, off, hax, ltb, hrg⟩ := hr1.spot j v hv
        subst hax
        have hix := runIndexV b off M cp j hjM
        have hsz := sizeVt v
        have HT : Hid (l.take (j + 1) = l.take j ++ [v]) := take_snocV l j v hv
        obtain ⟨vs, ⟨vr, vn⟩, ⟨vk, vc, vq, vm, vx⟩⟩ := v
        have HBad : Hid (AccMay ⟨⟨0, 0⟩, l⟩ → VtMay ⟨vs, ⟨vr, vn⟩, ⟨vk, vc, vq, vm, vx⟩⟩ ∧ ¬ Bal.lt ⟨0, 0⟩ ⟨vr, vn⟩ ∧ ∀ u ∈ l.take j, u.slot < vs) := fun g => by
          have g2 : OkV ⟨0, 0⟩ (l.take (j + 1) ++ l.drop (j + 1)) := by rw [List.take_append_drop]; exact g.2
          have g3 := g2.left
          rw [HT.out] at g3
          exact (HK.out.snoc _).1 g3
        clear hv
        simp only [vtC] at hrg hsz
        have bN : Below wr.heap.size wr (wr.alloc (.cells #[.int .i64 0, .int .i64 0, .int .i64 0, .int .i64 0, .int .i64 0, .int .i64 0, .int .i64 0, .int .i64 0] 36)) := (Below.refl _ _).alloc (Nat.le_refl _) _
        have rN := heap_alloc_new wr (.cells #[.int .i64 0, .int .i64 0, .int .i64 0, .int .i64 0, .int .i64 0, .int .i64 0, .int .i64 0, .int .i64 0] 36)
        have hsz2 : (Tryd.prog.info? 36).map (·.size) = some (#[.int .i64 vs, .int .i64 vr, .int .i64 vn, .int .i64 vk, .int .i64 vc, .int .i64 vq, .int .i64 vm, .int .i64 vx] : Array Value).size := hsz
        have hone : (#[.int .i64 vs, .int .i64 vr, .int .i64 vn, .int .i64 vk, .int .i64 vc, .int .i64 vq, .int .i64 vm, .int .i64 vx] : Array Value).all (·.oneCell') = true := by simp [Value.oneCell']
        generalize hWN : wr.alloc (.cells #[.int .i64 0, .int .i64 0, .int .i64 0, .int .i64 0, .int .i64 0, .int .i64 0, .int .i64 0, .int .i64 0] 36) = WN at bN rN
        go_upto_region 7 with ((with_reducible (refine pxLook ?_)); first | (refine wpList_load_mid rfl 36 (.tmp 21) rfl b (off + 8 * j) rfl [.int .i64 vs, .int .i64 vr, .int .i64 vn, .int .i64 vk, .int .i64 vc, .int .i64 vq, .int .i64 vm, .int .i64 vx] _ hrg Tryd.underlying36 rfl hsz ?_) | (refine wpList_store_row rfl 36 (.tmp 5) (.tmp 22) rfl wr.heap.size (#[.int .i64 vs, .int .i64 vr, .int .i64 vn, .int .i64 vk, .int .i64 vc, .int .i64 vq, .int .i64 vm, .int .i64 vx]) rfl rfl 36 _ rN hsz2 rfl hone ?_))
        clear hWN
        have q := setRow_heap WN wr.heap.size _ (#[.int .i64 vs, .int .i64 vr, .int .i64 vn, .int .i64 vk, .int .i64 vc, .int .i64 vq, .int .i64 vm, .int .i64 vx]) 36 _ rN
        replace bN := oBelow_rowP bN (Nat.le_refl _) (#[.int .i64 vs, .int .i64 vr, .int .i64 vn, .int .i64 vk, .int .i64 vc, .int .i64 vq, .int .i64 vm, .int .i64 vx])
        generalize WN.setRow wr.heap.size (#[.int .i64 vs, .int .i64 vr, .int .i64 vn, .int .i64 vk, .int .i64 vc, .int .i64 vq, .int .i64 vm, .int .i64 vx]) = W at q bN ⊢
        have dW := dr.trans (bN.mono dr.size)
        have eW := hbel.trans (bN.mono hbel.size)
        have ltG : wr.heap.size < W.heap.size := (Array.getElem?_eq_some_iff.1 q).1
        have ltA : w.heap.size < W.heap.size := by omega
        have rA0 := (bN.cell (p := ⟨w.heap.size, 0, none⟩) ltAr).trans a0r
        have rA1 := (bN.cell (p := ⟨w.heap.size, 1, none⟩) ltAr).trans a1r
        have tW := tr.below bN
        clear rN a0r a1r a2r hrg hix hsz2 bN hr1 tr
        generalize wr.heap.size = G at q ltG ⊢
        go_wp2_with ((with_reducible (refine pxLook ?_)); refine wpList_load_row rfl 36 _ rfl G rfl 36 _ (0, 0) _ q Tryd.underlying36 rfl hsz ?_)
        refine (mayV_any ⟨vs, ⟨vr, vn⟩, ⟨vk, vc, vq, vm, vx⟩⟩ W tW).mono ?_
        rintro e W2 ⟨rfl, b2⟩
        have d2 := dW.trans (b2.mono dW.size)
        have e2 := eW.trans (b2.mono eW.size)
        have q2 := (b2.block _ ltG).trans q
        have x0 : W2.cell? ⟨G, 0, none⟩ = some (.int .i64 vs) := cell_of_row _ _ 0 _ _ _ q2
        have x1 : W2.cell? ⟨G, 1, none⟩ = some (.int .i64 vr) := cell_of_row _ _ 1 _ _ _ q2
        have x2 : W2.cell? ⟨G, 2, none⟩ = some (.int .i64 vn) := cell_of_row _ _ 2 _ _ _ q2
        replace rA0 := (b2.cell (p := ⟨w.heap.size, 0, none⟩) ltA).trans rA0
        replace rA1 := (b2.cell (p := ⟨w.heap.size, 1, none⟩) ltA).trans rA1
        have ltG2 : G < W2.heap.size := Nat.lt_of_lt_of_le ltG b2.size
        clear b2 q eW dW tW ltG
        by_cases hv : VtMay ⟨vs, ⟨vr, vn⟩, ⟨vk, vc, vq, vm, vx⟩⟩
        · rw [decide_eq_true hv]
          by_cases hs : vs < n
          · have HE : Hid (5 = accE ⟨⟨0, 0⟩, l⟩) := (if_neg (fun g => by
              have g1 := (HBad.out g).2.2
              have g2 := (HN.out.2.2 vs hv.1.1).2 g1
              omega)).symm
            clear hv
            go_wp2
            go_ret
            exact ⟨ret_num HE.out, d2⟩
          · have hs' : n ≤ vs := by omega
            go_wp2_with fail
            refine (belowB_any ⟨0, 0⟩ ⟨vr, vn⟩ W2).mono ?_
            rintro e W3 ⟨rfl, b3⟩
            have d3 := d2.trans (b3.mono d2.size)
            have e3 := e2.trans (b3.mono e2.size)
            have x0 := (b3.cell (p := ⟨G, 0, none⟩) ltG2).trans x0
            by_cases hb : Bal.lt ⟨0, 0⟩ ⟨vr, vn⟩
            · rw [decide_eq_true hb]
              have HE : Hid (5 = accE ⟨⟨0, 0⟩, l⟩) := (if_neg (fun g => (HBad.out g).2.1 hb)).symm
              clear hv hb
              go_wp2
              go_ret
              exact ⟨ret_num HE.out, d3⟩
            · rw [decide_eq_false hb]
              have hv1 : 0 ≤ vs := hv.1.1
              have hv2 : vs ≤ 39 := hv.1.2
              have HK2 : Hid (OkV ⟨0, 0⟩ (l.take (j + 1))) := by unfold Hid; rw [HT.out]; exact (HK.out.snoc _).2 ⟨hv, hb, (HN.out.2.2 vs hv1).1 hs'⟩
              have HN2 : Hid (NextS (l.take (j + 1)) (vs + 1)) := by unfold Hid; rw [HT.out]; exact HN.out.snoc (v := ⟨vs, ⟨vr, vn⟩, ⟨vk, vc, vq, vm, vx⟩⟩) hv1 hv2 hs'
              clear hv hb HBad HK HN HT
              go_wp2
              go_roundw
              case rel => exact ⟨j + 1, vs + 1, by omega, by go_num, by go_num, HK2.out, HN2.out, e3⟩
              case measure => simp [intOf]; omega
        · rw [decide_eq_false hv]
          have HE : Hid (5 = accE ⟨⟨0, 0⟩, l⟩) := (if_neg (fun g => hv (HBad.out g).1)).symm
          clear hv
          go_wp2
          go_ret
          exact ⟨ret_num HE.out, d2⟩
      · obtain rfl : j = M := by omega
        have HE : Hid (0 = accE ⟨⟨0, 0⟩, l⟩) := by
          have g := HK.out
          rw [List.take_of_length_le (by have := HM.out; omega)] at g
          exact (if_pos ⟨HP.out, g.1, g.2⟩).symm
        go_wp2
        go_ret
        exact ⟨ret_num HE.out, dr⟩
  · rw [decide_eq_false hz] at hq
    go_wp2_with fail
    clear hW hq
    refine (mayB_any ⟨pr, pn⟩ _).mono ?_
    rintro e w1 ⟨rfl, b1⟩
    have d1 := bb.trans (b1.mono bb.size)
    replace a0 := (b1.cell (p := ⟨w.heap.size, 0, none⟩) ltA0).trans a0
    replace a1 := (b1.cell (p := ⟨w.heap.size, 1, none⟩) ltA0).trans a1
    replace a2 := (b1.cell (p := ⟨w.heap.size, 2, none⟩) ltA0).trans a2
    have ltA1 : w.heap.size < w1.heap.size := Nat.lt_of_lt_of_le ltA0 b1.size
    have h1 := h.below d1
    have t1 := ht.below d1
    clear b1 bb ltA0
    by_cases hp : BalMay ⟨pr, pn⟩
    · have HP : Hid (PrMay ⟨pr, pn⟩) := .inl hp
      rw [decide_eq_true hp]
      clear hp hz
      go_wp2_with fail
      go_loopw [3, 19] (fun nv iv wr => ∃ (j : Nat) (n : Int), j ≤ M ∧ iv = .int .i64 (j : Int) ∧ nv = .int .i64 n ∧ OkV ⟨pr, pn⟩ (l.take j) ∧ NextS (l.take j) n ∧ Below w1.heap.size w1 wr) (fun _ iv _ => ((M : Int) - intOf iv).toNat)
      case atStart => exact ⟨0, 0, by omega, rfl, rfl, ⟨fun v hv => (List.not_mem_nil hv).elim, trivial⟩, NextS.nil, Below.refl _ _⟩
      case round =>
        obtain ⟨j, n, hj, rfl, rfl, hok, hnx, hbel⟩ := hrel
        have HK : Hid (OkV ⟨pr, pn⟩ (l.take j)) := hok
        have HN : Hid (NextS (l.take j) n) := hnx
        have hn0 := hnx.1
        have hn1 := hnx.2.1
        clear hok hnx
        have a0r := (hbel.cell (p := ⟨w.heap.size, 0, none⟩) ltA1).trans a0
        have a1r := (hbel.cell (p := ⟨w.heap.size, 1, none⟩) ltA1).trans a1
        have a2r := (hbel.cell (p := ⟨w.heap.size, 2, none⟩) ltA1).trans a2
        have hr1 := h1.below hbel
        have tr := t1.below hbel
        have dr := d1.trans (hbel.mono d1.size)
        have ltAr : w.heap.size < wr.heap.size := Nat.lt_of_lt_of_le ltA1 hbel.size
        by_cases hjM : j < M
        · have hji : (j : Int) < (M : Int) := by omega
          obtain ⟨v, hv⟩ : ∃ v, l[j]? = some v := ⟨_, List.getElem?_eq_getElem (by have := HM.out; omega)⟩
          obtain ⟨b, off, hax, ltb, hrg⟩ := hr1.spot j v hv
          subst hax
          have hix := runIndexV b off M cp j hjM
          have hsz := sizeVt v
          have HT : Hid (l.take (j + 1) = l.take j ++ [v]) := take_snocV l j v hv
          obtain ⟨vs, ⟨vr, vn⟩, ⟨vk, vc, vq, vm, vx⟩⟩ := v
          have HBad : Hid (AccMay ⟨⟨pr, pn⟩, l⟩ → VtMay ⟨vs, ⟨vr, vn⟩, ⟨vk, vc, vq, vm, vx⟩⟩ ∧ ¬ Bal.lt ⟨pr, pn⟩ ⟨vr, vn⟩ ∧ ∀ u ∈ l.take j, u.slot < vs) := fun g => by
            have g2 : OkV ⟨pr, pn⟩ (l.take (j + 1) ++ l.drop (j + 1)) := by rw [List.take_append_drop]; exact g.2
            have g3 := g2.left
            rw [HT.out] at g3
            exact (HK.out.snoc _).1 g3
          clear hv
          simp only [vtC] at hrg hsz
          have bN : Below wr.heap.size wr (wr.alloc (.cells #[.int .i64 0, .int .i64 0, .int .i64 0, .int .i64 0, .int .i64 0, .int .i64 0, .int .i64 0, .int .i64 0] 36)) := (Below.refl _ _).alloc (Nat.le_refl _) _
          have rN := heap_alloc_new wr (.cells #[.int .i64 0, .int .i64 0, .int .i64 0, .int .i64 0, .int .i64 0, .int .i64 0, .int .i64 0, .int .i64 0] 36)
          have hsz2 : (Tryd.prog.info? 36).map (·.size) = some (#[.int .i64 vs, .int .i64 vr, .int .i64 vn, .int .i64 vk, .int .i64 vc, .int .i64 vq, .int .i64 vm, .int .i64 vx] : Array Value).size := hsz
          have hone : (#[.int .i64 vs, .int .i64 vr, .int .i64 vn, .int .i64 vk, .int .i64 vc, .int .i64 vq, .int .i64 vm, .int .i64 vx] : Array Value).all (·.oneCell') = true := by simp [Value.oneCell']
          generalize hWN : wr.alloc (.cells #[.int .i64 0, .int .i64 0, .int .i64 0, .int .i64 0, .int .i64 0, .int .i64 0, .int .i64 0, .int .i64 0] 36) = WN at bN rN
          go_upto_region 7 with ((with_reducible (refine pxLook ?_)); first | (refine wpList_load_mid rfl 36 (.tmp 21) rfl b (off + 8 * j) rfl [.int .i64 vs, .int .i64 vr, .int .i64 vn, .int .i64 vk, .int .i64 vc, .int .i64 vq, .int .i64 vm, .int .i64 vx] _ hrg Tryd.underlying36 rfl hsz ?_) | (refine wpList_store_row rfl 36 (.tmp 5) (.tmp 22) rfl wr.heap.size (#[.int .i64 vs, .int .i64 vr, .int .i64 vn, .int .i64 vk, .int .i64 vc, .int .i64 vq, .int .i64 vm, .int .i64 vx]) rfl rfl 36 _ rN hsz2 rfl hone ?_))
          clear hWN
          have q := setRow_heap WN wr.heap.size _ (#[.int .i64 vs, .int .i64 vr, .int .i64 vn, .int .i64 vk, .int .i64 vc, .int .i64 vq, .int .i64 vm, .int .i64 vx]) 36 _ rN
          replace bN := oBelow_rowP bN (Nat.le_refl _) (#[.int .i64 vs, .int .i64 vr, .int .i64 vn, .int .i64 vk, .int .i64 vc, .int .i64 vq, .int .i64 vm, .int .i64 vx])
          generalize WN.setRow wr.heap.size (#[.int .i64 vs, .int .i64 vr, .int .i64 vn, .int .i64 vk, .int .i64 vc, .int .i64 vq, .int .i64 vm, .int .i64 vx]) = W at q bN ⊢
          have dW := dr.trans (bN.mono dr.size)
          have eW := hbel.trans (bN.mono hbel.size)
          have ltG : wr.heap.size < W.heap.size := (Array.getElem?_eq_some_iff.1 q).1
          have ltA : w.heap.size < W.heap.size := by omega
          have rA0 := (bN.cell (p := ⟨w.heap.size, 0, none⟩) ltAr).trans a0r
          have rA1 := (bN.cell (p := ⟨w.heap.size, 1, none⟩) ltAr).trans a1r
          have tW := tr.below bN
          clear rN a0r a1r a2r hrg hix hsz2 bN hr1 tr
          generalize wr.heap.size = G at q ltG ⊢
          go_wp2_with ((with_reducible (refine pxLook ?_)); refine wpList_load_row rfl 36 _ rfl G rfl 36 _ (0, 0) _ q Tryd.underlying36 rfl hsz ?_)
          refine (mayV_any ⟨vs, ⟨vr, vn⟩, ⟨vk, vc, vq, vm, vx⟩⟩ W tW).mono ?_
          rintro e W2 ⟨rfl, b2⟩
          have d2 := dW.trans (b2.mono dW.size)
          have e2 := eW.trans (b2.mono eW.size)
          have q2 := (b2.block _ ltG).trans q
          have x0 : W2.cell? ⟨G, 0, none⟩ = some (.int .i64 vs) := cell_of_row _ _ 0 _ _ _ q2
          have x1 : W2.cell? ⟨G, 1, none⟩ = some (.int .i64 vr) := cell_of_row _ _ 1 _ _ _ q2
          have x2 : W2.cell? ⟨G, 2, none⟩ = some (.int .i64 vn) := cell_of_row _ _ 2 _ _ _ q2
          replace rA0 := (b2.cell (p := ⟨w.heap.size, 0, none⟩) ltA).trans rA0
          replace rA1 := (b2.cell (p := ⟨w.heap.size, 1, none⟩) ltA).trans rA1
          have ltG2 : G < W2.heap.size := Nat.lt_of_lt_of_le ltG b2.size
          clear b2 q eW dW tW ltG
          by_cases hv : VtMay ⟨vs, ⟨vr, vn⟩, ⟨vk, vc, vq, vm, vx⟩⟩
          · rw [decide_eq_true hv]
            by_cases hs : vs < n
            · have HE : Hid (5 = accE ⟨⟨pr, pn⟩, l⟩) := (if_neg (fun g => by
                have g1 := (HBad.out g).2.2
                have g2 := (HN.out.2.2 vs hv.1.1).2 g1
                omega)).symm
              clear hv
              go_wp2
              go_ret
              exact ⟨ret_num HE.out, d2⟩
            · have hs' : n ≤ vs := by omega
              go_wp2_with fail
              refine (belowB_any ⟨pr, pn⟩ ⟨vr, vn⟩ W2).mono ?_
              rintro e W3 ⟨rfl, b3⟩
              have d3 := d2.trans (b3.mono d2.size)
              have e3 := e2.trans (b3.mono e2.size)
              have x0 := (b3.cell (p := ⟨G, 0, none⟩) ltG2).trans x0
              by_cases hb : Bal.lt ⟨pr, pn⟩ ⟨vr, vn⟩
              · rw [decide_eq_true hb]
                have HE : Hid (5 = accE ⟨⟨pr, pn⟩, l⟩) := (if_neg (fun g => (HBad.out g).2.1 hb)).symm
                clear hv hb
                go_wp2
                go_ret
                exact ⟨ret_num HE.out, d3⟩
              · rw [decide_eq_false hb]
                have hv1 : 0 ≤ vs := hv.1.1
                have hv2 : vs ≤ 39 := hv.1.2
                have HK2 : Hid (OkV ⟨pr, pn⟩ (l.take (j + 1))) := by unfold Hid; rw [HT.out]; exact (HK.out.snoc _).2 ⟨hv, hb, (HN.out.2.2 vs hv1).1 hs'⟩
                have HN2 : Hid (NextS (l.take (j + 1)) (vs + 1)) := by unfold Hid; rw [HT.out]; exact HN.out.snoc (v := ⟨vs, ⟨vr, vn⟩, ⟨vk, vc, vq, vm, vx⟩⟩) hv1 hv2 hs'
                clear hv hb HBad HK HN HT
                go_wp2
                go_roundw
                case rel => exact ⟨j + 1, vs + 1, by omega, by go_num, by go_num, HK2.out, HN2.out, e3⟩
                case measure => simp [intOf]; omega
          · rw [decide_eq_false hv]
            have HE : Hid (5 = accE ⟨⟨pr, pn⟩, l⟩) := (if_neg (fun g => hv (HBad.out g).1)).symm
            clear hv
            go_wp2
            go_ret
            exact ⟨ret_num HE.out, d2⟩
        · obtain rfl : j = M := by omega
          have HE : Hid (0 = accE ⟨⟨pr, pn⟩, l⟩) := by
            have g := HK.out
            rw [List.take_of_length_le (by have := HM.out; omega)] at g
            exact (if_pos ⟨HP.out, g.1, g.2⟩).symm
          go_wp2
          go_ret
          exact ⟨ret_num HE.out, dr⟩
    · rw [decide_eq_false hp]
      have HE : Hid (5 = accE ⟨⟨pr, pn⟩, l⟩) := (if_neg (fun g => g.1.elim hp hz)).symm
      clear hp hz
      go_wp2
      go_ret
      exact ⟨ret_num HE.out, d1⟩
end Go.Proofs.YthmlikljeoamgaaDoor
/-
  The walk of the program's own copy of votes.
-/
namespace Go.Proofs.YthmlikljeoamgaaDoor
open Go.RowKit
set_option linter.unusedVariables false

/-- the cells of a slice of votes, one by one -/
theorem Sv.cells {w : World} {ad : Addr} {n cap : Nat} {m : List Vt} (h : Sv w (.slice (some ad) n cap) m) : ∀ j u, (vtL m)[j]? = some u → w.cell? (ad.add j) = some u := by
  intro j u hj
  obtain ⟨⟨a, cp, e, hc, hn, h1⟩, _⟩ := h
  simp only [Value.slice.injEq] at e
  obtain ⟨rfl, rfl, rfl⟩ := e
  rcases h1 with rfl | ⟨b, off, hab, _, hcell⟩
  · simp [vtL] at hj
  · obtain rfl : ad = ⟨b, off, none⟩ := by simpa using hab
    obtain ⟨v, h2, h3⟩ := vtL_at m j u hj
    have hadd : (⟨b, off, none⟩ : Addr).add j = ⟨b, off + j, none⟩ := by unfold Addr.add; split <;> simp_all
    rw [hadd]
    have h4 := hcell (j / 8) v h2 (j % 8) u h3
    rwa [show off + 8 * (j / 8) + j % 8 = off + j by omega] at h4
/-- votes copied into a row of the call's own that is as long -/
theorem run_copy_vt {P : Program} (w : World) (base dT sT ty e : Nat) (hu : P.underlying dT = some (.slice e)) (hs : (P.info? e).map (·.size) = some 8) (g n : Nat) (xs : List Value) (hown : w.ownsRow base e 8 (.slice (some ⟨g, 0, none⟩) n n) n xs) (u : Value) (m : List Vt) (hm : m.length = n) (hv : Sv w u m) :
    ∃ w', (Builtin.copy_ #[dT, sT] ty #[.slice (some ⟨g, 0, none⟩) n n, u]).run P w = .ok (goInt n) w' ∧ w'.ownsRow base e 8 (.slice (some ⟨g, 0, none⟩) n n) n (vtL m) ∧ Below g w w' := by
  obtain ⟨i, hq, hi⟩ : ∃ i, P.info? e = some i ∧ i.size = 8 := by
    cases hq : P.info? e with
    | none => rw [hq] at hs; cases hs
    | some i => rw [hq] at hs; exact ⟨i, rfl, by simpa using hs⟩
  rcases hown.2 with ⟨h0, _⟩ | ⟨g', cap, cur, hvv, hbg, hg, hnc, hcm, hcs, ht⟩
  · cases h0
  · simp only [Value.slice.injEq, Option.some.injEq, Addr.mk.injEq] at hvv
    obtain ⟨⟨rfl, _⟩, _, rfl⟩ := hvv
    have hv2 := hv
    obtain ⟨⟨a, cp, rfl, hc, hn, h1⟩, _⟩ := hv
    rw [hm] at hv2 ⊢
    cases a with
    | none =>
      have hc0 := hn rfl
      subst hc0
      have hm0 : n = 0 := by omega
      subst hm0
      have hmn : m = [] := List.eq_nil_of_length_eq_zero hm
      subst hmn
      refine ⟨w, ?_, ⟨rfl, .inr ⟨g, 0, cur, rfl, hbg, hg, hnc, hcm, hcs, by simp [vtL]⟩⟩, Below.refl _ _⟩
      simp [Builtin.copy_, run_underlying hu, Builtin.lenOf, Builtin.firstCells, sizeOf, typeInfo, hq, storeCells]
    | some ad =>
      have hl := run_firstCells_some (P := P) w 8 n ad n cp (vtL m) (by rw [vtL_length, hm]) hv2.cells
      have hst := run_storeCells_at P g 0 e (vtL m) 0 cur w hg (by rw [vtL_length, hm]; omega) (vtL_one m)
      have hfull : (cur.toList.take (0 + 0) ++ vtL m ++ cur.toList.drop (0 + 0 + (vtL m).length)) = vtL m := by
        rw [vtL_length, hm, List.drop_eq_nil_of_le (by rw [Array.length_toList]; omega)]
        simp
      rw [hfull] at hst
      refine ⟨w.setRow g (vtL m).toArray, ?_, ⟨by rw [vtL_length, hm], .inr ⟨g, n, (vtL m).toArray, rfl, hbg, setRow_heap w g cur _ e _ hg, Nat.le_refl _, hcm, by simp [vtL_length, hm], ?_⟩⟩, ?_⟩
      · simp [Builtin.copy_, run_underlying hu, Builtin.lenOf, sizeOf, typeInfo, hq, hi, hl, hst]
      · rw [List.take_of_length_le (by simp [vtL_length, hm])]
      · exact ⟨rfl, rfl, rfl, by simp, fun k hk => setRow_other w g k _ (by omega)⟩
theorem wpList_copy_vt {P : Program} (w : World) {ops : Array Oper} {rest : List Oper} {o : Oper} {a : Act} {Q : Exit → Act → World → Prop} (hgd : o.guard = none) (d s : Operand) (dT sT : TypeId)
    (ho : o.op = .call { callee := .builtin .copy, args := #[d, s], argTypes := #[dT, sT] })
    (base e : Nat) (hu : P.underlying dT = some (.slice e)) (hs : (P.info? e).map (·.size) = some 8) (g n : Nat) (xs : List Value) (hd : a.eval d = .slice (some ⟨g, 0, none⟩) n n) (hown : w.ownsRow base e 8 (.slice (some ⟨g, 0, none⟩) n n) n xs) (u : Value) (hu' : a.eval s = u) (m : List Vt) (hm : m.length = n) (hv : Sv w u m)
    (h : ∀ w', w'.ownsRow base e 8 (.slice (some ⟨g, 0, none⟩) n n) n (vtL m) → Below g w w' → wpList P ops Q rest (a.put o.dst (goInt n)) w') : wpList P ops Q (o :: rest) a w := by
  refine wpList_plain hgd fun K hK => ?_
  obtain ⟨w', hrun, r1, r2⟩ := run_copy_vt (P := P) w base dT sT o.type e hu hs g n xs hown u m hm hv
  unfold Oper.wp execOp
  simp only [ho, resolve, invoke, builtin, Sem.run_bind, Sem.run_pure, Result.andThen_ok, List.map_toArray, List.map_cons, List.map_nil, hd, hu', hrun]
  exact hK _ _ (h w' r1 r2)
/-- votes made, so many -/
theorem wpList_make_vt {P : Program} (w : World) {ops : Array Oper} {rest : List Oper} {o : Oper} {a : Act} {Q : Exit → Act → World → Prop}
    (hg : o.guard = none) (l c : Operand) (t : TypeId) (hop : o.op = Op.makeSlice t l c) (base : Nat) (e : TypeId) (h1 : P.underlying t = some (.slice e)) (hinfo : (P.info? e).map (fun i => (i.zero, i.size, i.bytes)) = some (some zVt, 8, 64))
    (n : Nat) (hl : a.eval l = .int .i64 (n : Int)) (hc : a.eval c = .int .i64 (n : Int)) (hn : n ≤ 2199023255488) (b4 : base ≤ w.heap.size)
    (hK : ∀ w', Hid (∃ xs, w'.ownsRow base e 8 (.slice (some ⟨w.heap.size, 0, none⟩) n n) n xs) → w.grownBy w' none → wpList P ops Q rest (a.put o.dst (.slice (some ⟨w.heap.size, 0, none⟩) n n)) w') : wpList P ops Q (o :: rest) a w := by
  obtain ⟨i0, hi, hz0, hz1, hz2⟩ := info_parts hinfo
  refine wpList_make_full w hg l c t hop base e i0 zVt 8 h1 hi hz0 hz1 _ _ _ _ n hl hc rfl rfl (by rw [hz2]; omega) (by unfold maxLen; omega) b4 (fun w' o1 g1 => hK w' ⟨_, o1⟩ g1)
theorem ownsRow_base {w : World} {b b' e k8 : Nat} {v : Value} {n : Nat} {xs : List Value} (h : w.ownsRow b e k8 v n xs) (hb : b' ≤ b) : w.ownsRow b' e k8 v n xs := by
  refine ⟨h.1, ?_⟩
  rcases h.2 with h2 | ⟨g, cap, cur, hv, hbg, hr⟩
  · exact .inl h2
  · exact .inr ⟨g, cap, cur, hv, Nat.le_trans hb hbg, hr⟩
theorem vt8 : (Tryd.prog.info? 36).map (·.size) = some 8 := by kernel_rfl

set_option maxHeartbeats 1000000 in
set_option maxRecDepth 100000 in
theorem copyOf_any (x : Value) (l : List Vt) (w : World) (h : Sv w x l) :
    Calls Tryd.prog 43 #[x] w fun e w' => ∃ x', e = .returned x' ∧ w'.ownsRow w.heap.size 36 8 x' l.length (vtL l) ∧ Below w.heap.size w w' := by
  have hlen := h.len
  obtain ⟨a, cp, rfl⟩ := h.shape
  obtain ⟨N, hN⟩ : ∃ N, l.length = N := ⟨_, rfl⟩
  have HN : Hid (l.length = N) := hN
  rw [hN] at h hlen ⊢
  clear hN
  go_enter Tryd.func43, Tryd.ntmps43
  go_wp2_with ((with_reducible (refine pxLook ?_)); at_make; refine wpList_make_vt _ rfl _ _ 39 rfl w.heap.size 36 Tryd.underlying39 infoVt N rfl rfl hlen (Nat.le_refl _) ?_)
  intro w1 o1 g1
  have b1 : Below w.heap.size w w1 := (Below.refl _ _).grown g1 (Nat.le_refl _) (fun k hk => by cases hk)
  have h1 := h.below b1
  obtain ⟨xs, o1⟩ := o1.out
  have HO : Hid (w1.ownsRow w.heap.size 36 8 (.slice (some ⟨w.heap.size, 0, none⟩) N N) N xs) := o1
  clear o1
  go_wp2_with ((with_reducible (refine pxLook ?_)); refine wpList_copy_vt _ rfl _ _ 39 39 rfl w.heap.size 36 Tryd.underlying39 vt8 w.heap.size N _ rfl HO.out _ rfl l HN.out h1 ?_)
  intro w2 o2 b2
  have HO2 : Hid (w2.ownsRow w.heap.size 36 8 (.slice (some ⟨w.heap.size, 0, none⟩) N N) N (vtL l)) := o2
  have d2 := b1.trans b2
  clear o2 HO
  go_wp2
  go_ret
  exact ⟨_, rfl, HO2.out, d2⟩
end Go.Proofs.YthmlikljeoamgaaDoor
