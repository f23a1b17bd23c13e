/-
  The walk of the program's own Check: which acceptors may be.
-/
import Derived.Test.YthmlikljeoamgabDoorKb16
import Derived.Test.YthmlikljeoamgabDoorKb8
namespace Go.Proofs.YthmlikljeoamgabDoor
open Go.RowKit
set_option linter.unusedVariables false

set_option maxRecDepth 100000 in
theorem neq_bal (a b a' b' : Int) : ∀ w, (binOp .neq 30 (.agg #[.int .i64 a, .int .i64 b]) (.agg #[.int .i64 a', .int .i64 b'])).run Tryd.prog w = .ok (.bool (!decide (a = a' ∧ b = b'))) w := by
  intro w
  rw [run_neq_struct, run_equalIn_agg w 9999 _ _ _ (by kernel_rfl) (by kernel_rfl)]
  unfold Program.fieldsOf
  rw [Tryd.underlying30]
  have h3 := Tryd.underlying3
  simp [Op.eqFields, go_sem, h3]
  repeat' split
  all_goals simp_all
/-- the lowest slot that the next vote may be for -/
def NextS (l : List Vt) (n : Int) : Prop := 0 ≤ n ∧ n ≤ 40 ∧ ∀ s : Int, 0 ≤ s → (n ≤ s ↔ ∀ u ∈ l, u.slot < s)
theorem NextS.nil : NextS [] 0 := ⟨by omega, by omega, fun s hs => ⟨fun _ u hu => (List.not_mem_nil hu).elim, fun _ => hs⟩⟩
theorem NextS.snoc {l : List Vt} {n : Int} (h : NextS l n) {v : Vt} (h0 : 0 ≤ v.slot) (h1 : v.slot ≤ 39) (hv : n ≤ v.slot) : NextS (l ++ [v]) (v.slot + 1) := by
  refine ⟨by omega, by omega, fun s hs => ⟨fun g u hu => ?_, fun g => ?_⟩⟩
  · rcases List.mem_append.1 hu with hu | hu
    · exact (h.2.2 s hs).1 (by omega) u hu
    · obtain rfl : u = v := by simpa using hu
      omega
  · have := g v (by simp)
    omega
set_option maxHeartbeats 4000000 in
set_option maxRecDepth 100000 in
theorem check_acc (p : Bal) (x : Value) (l : List Vt) (w : World) (h : Sv w x l) (ht : NTab w) :
    Calls Tryd.prog 25 #[.agg (acA p x)] w fun e w' => e = .returned (.int .i64 (accE ⟨p, l⟩)) ∧ Below w.heap.size w w' := by
  obtain ⟨pr, pn⟩ := p
  have hlen := h.len
  obtain ⟨ax, cp, rfl⟩ := h.shape
  obtain ⟨M, hM⟩ : ∃ M, l.length = M := ⟨_, rfl⟩
  have HM : Hid (l.length = M) := hM
  rw [hM] at h hlen ⊢
  clear hM
  have bb : Below w.heap.size w (w.alloc (.cells #[.int .i64 pr, .int .i64 pn, .slice ax M cp] 33)) := (Below.refl _ _).alloc (Nat.le_refl _) _
  have rr := heap_alloc_new w (.cells #[.int .i64 pr, .int .i64 pn, .slice ax M cp] 33)
  simp only [acA]
  generalize hW : w.alloc (.cells #[.int .i64 pr, .int .i64 pn, .slice ax M cp] 33) = W0 at bb rr
  have ltA0 : w.heap.size < W0.heap.size := (Array.getElem?_eq_some_iff.1 rr).1
  have a0 : W0.cell? ⟨w.heap.size, 0, none⟩ = some (.int .i64 pr) := cell_of_row _ _ 0 _ _ _ rr
  have a1 : W0.cell? ⟨w.heap.size, 1, none⟩ = some (.int .i64 pn) := cell_of_row _ _ 1 _ _ _ rr
  have a2 : W0.cell? ⟨w.heap.size, 2, none⟩ = some (.slice ax M cp) := cell_of_row _ _ 2 _ _ _ rr
  have hq := neq_bal pr pn 0 0
  clear rr
  go_enter Tryd.func25, Tryd.ntmps25
  by_cases hz : pr = 0 ∧ pn = 0
  · have HP : Hid (PrMay ⟨pr, pn⟩) := .inr hz
    rw [decide_eq_true hz] at hq
    obtain ⟨rfl, rfl⟩ := hz
    go_wp2_with fail
    clear hW hq
    have ltA1 := ltA0
    have d1 := bb
    have h1 := h.below bb
    have t1 := ht.below bb
    clear ltA0 bb
    go_loopw [3, 19] (fun nv iv wr => ∃ (j : Nat) (n : Int), j ≤ M ∧ iv = .int .i64 (j : Int) ∧ nv = .int .i64 n ∧ OkV ⟨0, 0⟩ (l.take j) ∧ NextS (l.take j) n ∧ Below W0.heap.size W0 wr) (fun _ iv _ => ((M : Int) - intOf iv).toNat)
    case atStart => exact ⟨0, 0, by omega, rfl, rfl, ⟨fun v hv => (List.not_mem_nil hv).elim, trivial⟩, NextS.nil, Below.refl _ _⟩
    case round =>
      obtain ⟨j, n, hj, rfl, rfl, hok, hnx, hbel⟩ := hrel
      have HK : Hid (OkV ⟨0, 0⟩ (l.take j)) := hok
      have HN : Hid (NextS (l.take j) n) := hnx
      have hn0 := hnx.1
      have hn1 := hnx.2.1
      clear hok hnx
      have a0r := (hbel.cell (p := ⟨w.heap.size, 0, none⟩) ltA1).trans a0
      have a1r := (hbel.cell (p := ⟨w.heap.size, 1, none⟩) ltA1).trans a1
      have a2r := (hbel.cell (p := ⟨w.heap.size, 2, none⟩) ltA1).trans a2
      have hr1 := h1.below hbel
      have tr := t1.below hbel
      have dr := d1.trans (hbel.mono d1.size)
      have ltAr : w.heap.size < wr.heap.size := Nat.lt_of_lt_of_le ltA1 hbel.size
      by_cases hjM : j < M
      · have hji : (j : Int) < (M : Int) := by omega
        obtain ⟨v, hv⟩ : ∃ v, l[j]? = some v := ⟨_, List.getElem?_eq_getElem (by have := HM.out; omega)⟩
        obtain ⟨b, off, hax, ltb, hrg⟩ := hr1.spot j v hv
        subst hax
        have hix := runIndexV b off M cp j hjM
        have hsz := sizeVt v
        have HT : Hid (l.take (j + 1) = l.take j ++ [v]) := take_snocV l j v hv
        obtain ⟨vs, ⟨vr, vn⟩, ⟨vk, vc, vq, vm, vx⟩⟩ := v
        have HBad : Hid (AccMay ⟨⟨0, 0⟩, l⟩ → VtMay ⟨vs, ⟨vr, vn⟩, ⟨vk, vc, vq, vm, vx⟩⟩ ∧ ¬ Bal.lt ⟨0, 0⟩ ⟨vr, vn⟩ ∧ ∀ u ∈ l.take j, u.slot < vs) := fun g => by
          have g2 : OkV ⟨0, 0⟩ (l.take (j + 1) ++ l.drop (j + 1)) := by rw [List.take_append_drop]; exact g.2
          have g3 := g2.left
          rw [HT.out] at g3
          exact (HK.out.snoc _).1 g3
        clear hv
        simp only [vtC] at hrg hsz
        have bN : Below wr.heap.size wr (wr.alloc (.cells #[.int .i64 0, .int .i64 0, .int .i64 0, .int .i64 0, .int .i64 0, .int .i64 0, .int .i64 0, .int .i64 0] 57)) := (Below.refl _ _).alloc (Nat.le_refl _) _
        have rN := heap_alloc_new wr (.cells #[.int .i64 0, .int .i64 0, .int .i64 0, .int .i64 0, .int .i64 0, .int .i64 0, .int .i64 0, .int .i64 0] 57)
        have hsz2 : (Tryd.prog.info? 57).map (·.size) = some (#[.int .i64 vs, .int .i64 vr, .int .i64 vn, .int .i64 vk, .int .i64 vc, .int .i64 vq, .int .i64 vm, .int .i64 vx] : Array Value).size := hsz
        have hone : (#[.int .i64 vs, .int .i64 vr, .int .i64 vn, .int .i64 vk, .int .i64 vc, .int .i64 vq, .int .i64 vm, .int .i64 vx] : Array Value).all (·.oneCell') = true := by simp [Value.oneCell']
        generalize hWN : wr.alloc (.cells #[.int .i64 0, .int .i64 0, .int .i64 0, .int .i64 0, .int .i64 0, .int .i64 0, .int .i64 0, .int .i64 0] 57) = WN at bN rN
        go_upto_region 7 with ((with_reducible (refine pxLook ?_)); first | (refine wpList_load_mid rfl 57 (.tmp 21) rfl b (off + 8 * j) rfl [.int .i64 vs, .int .i64 vr, .int .i64 vn, .int .i64 vk, .int .i64 vc, .int .i64 vq, .int .i64 vm, .int .i64 vx] _ hrg Tryd.underlying57 rfl hsz ?_) | (refine wpList_store_row rfl 57 (.tmp 5) (.tmp 22) rfl wr.heap.size (#[.int .i64 vs, .int .i64 vr, .int .i64 vn, .int .i64 vk, .int .i64 vc, .int .i64 vq, .int .i64 vm, .int .i64 vx]) rfl rfl 57 _ rN hsz2 rfl hone ?_))
        clear hWN
        have q := setRow_heap WN wr.heap.size _ (#[.int .i64 vs, .int .i64 vr, .int .i64 vn, .int .i64 vk, .int .i64 vc, .int .i64 vq, .int .i64 vm, .int .i64 vx]) 57 _ rN
        replace bN := oBelow_rowP bN (Nat.le_refl _) (#[.int .i64 vs, .int .i64 vr, .int .i64 vn, .int .i64 vk, .int .i64 vc, .int .i64 vq, .int .i64 vm, .int .i64 vx])
        generalize WN.setRow wr.heap.size (#[.int .i64 vs, .int .i64 vr, .int .i64 vn, .int .i64 vk, .int .i64 vc, .int .i64 vq, .int .i64 vm, .int .i64 vx]) = W at q bN ⊢
        have dW := dr.trans (bN.mono dr.size)
        have eW := hbel.trans (bN.mono hbel.size)
        have ltG : wr.heap.size < W.heap.size := (Array.getElem?_eq_some_iff.1 q).1
        have ltA : w.heap.size < W.heap.size := by omega
        have rA0 := (bN.cell (p := ⟨w.heap.size, 0, none⟩) ltAr).trans a0r
        have rA1 := (bN.cell (p := ⟨w.heap.size, 1, none⟩) ltAr).trans a1r
        have tW := tr.below bN
        clear rN a0r a1r a2r hrg hix hsz2 bN hr1 tr
        generalize wr.heap.size = G at q ltG ⊢
        go_wp2_with ((with_reducible (refine pxLook ?_)); refine wpList_load_row rfl 57 _ rfl G rfl 57 _ (0, 0) _ q Tryd.underlying57 rfl hsz ?_)
        refine (mayV_any ⟨vs, ⟨vr, vn⟩, ⟨vk, vc, vq, vm, vx⟩⟩ W tW).mono ?_
        rintro e W2 ⟨rfl, b2⟩
        have d2 := dW.trans (b2.mono dW.size)
        have e2 := eW.trans (b2.mono eW.size)
        have q2 := (b2.block _ ltG).trans q
        have x0 : W2.cell? ⟨G, 0, none⟩ = some (.int .i64 vs) := cell_of_row _ _ 0 _ _ _ q2
        have x1 : W2.cell? ⟨G, 1, none⟩ = some (.int .i64 vr) := cell_of_row _ _ 1 _ _ _ q2
        have x2 : W2.cell? ⟨G, 2, none⟩ = some (.int .i64 vn) := cell_of_row _ _ 2 _ _ _ q2
        replace rA0 := (b2.cell (p := ⟨w.heap.size, 0, none⟩) ltA).trans rA0
        replace rA1 := (b2.cell (p := ⟨w.heap.size, 1, none⟩) ltA).trans rA1
        have ltG2 : G < W2.heap.size := Nat.lt_of_lt_of_le ltG b2.size
        clear b2 q eW dW tW ltG
        by_cases hv : VtMay ⟨vs, ⟨vr, vn⟩, ⟨vk, vc, vq, vm, vx⟩⟩
        · rw [decide_eq_true hv]
          by_cases hs : vs < n
          · have HE : Hid (5 = accE ⟨⟨0, 0⟩, l⟩) := (if_neg (fun g => by
              have g1 := (HBad.out g).2.2
              have g2 := (HN.out.2.2 vs hv.1.1).2 g1
              omega)).symm
            clear hv
            go_wp2
            go_ret
            exact ⟨ret_num HE.out, d2⟩
          · have hs' : n ≤ vs := by omega
            go_wp2_with fail
            refine (belowB_any ⟨0, 0⟩ ⟨vr, vn⟩ W2).mono ?_
            rintro e W3 ⟨rfl, b3⟩
            have d3 := d2.trans (b3.mono d2.size)
            have e3 := e2.trans (b3.mono e2.size)
            have x0 := (b3.cell (p := ⟨G, 0, none⟩) ltG2).trans x0
            by_cases hb : Bal.lt ⟨0, 0⟩ ⟨vr, vn⟩
            · rw [decide_eq_true hb]
              have HE : Hid (5 = accE ⟨⟨0, 0⟩, l⟩) := (if_neg (fun g => (HBad.out g).2.1 hb)).symm
              clear hv hb
              go_wp2
              go_ret
              exact ⟨ret_num HE.out, d3⟩
            · rw [decide_eq_false hb]
              have hv1 : 0 ≤ vs := hv.1.1
              have hv2 : vs ≤ 39 := hv.1.2
              have HK2 : Hid (OkV ⟨0, 0⟩ (l.take (j + 1))) := by unfold Hid; rw [HT.out]; exact (HK.out.snoc _).2 ⟨hv, hb, (HN.out.2.2 vs hv1).1 hs'⟩
              have HN2 : Hid (NextS (l.take (j + 1)) (vs + 1)) := by unfold Hid; rw [HT.out]; exact HN.out.snoc (v := ⟨vs, ⟨vr, vn⟩, ⟨vk, vc, vq, vm, vx⟩⟩) hv1 hv2 hs'
              clear hv hb HBad HK HN HT
              go_wp2
              go_roundw
              case rel => exact ⟨j + 1, vs + 1, by omega, by go_num, by go_num, HK2.out, HN2.out, e3⟩
              case measure => simp [intOf]; omega
        · rw [decide_eq_false hv]
          have HE : Hid (5 = accE ⟨⟨0, 0⟩, l⟩) := (if_neg (fun g => hv (HBad.out g).1)).symm
          clear hv
          go_wp2
          go_ret
          exact ⟨ret_num HE.out, d2⟩
      · obtain rfl : j = M := by omega
        have HE : Hid (0 = accE ⟨⟨0, 0⟩, l⟩) := by
          have g := HK.out
          rw [List.take_of_length_le (by have := HM.out; omega)] at g
          exact (if_pos ⟨HP.out, g.1, g.2⟩).symm
        go_wp2
        go_ret
        exact ⟨ret_num HE.out, dr⟩
  · rw [decide_eq_false hz] at hq
    go_wp2_with fail
    clear hW hq
    refine (mayB_any ⟨pr, pn⟩ _).mono ?_
    rintro e w1 ⟨rfl, b1⟩
    have d1 := bb.trans (b1.mono bb.size)
    replace a0 := (b1.cell (p := ⟨w.heap.size, 0, none⟩) ltA0).trans a0
    replace a1 := (b1.cell (p := ⟨w.heap.size, 1, none⟩) ltA0).trans a1
    replace a2 := (b1.cell (p := ⟨w.heap.size, 2, none⟩) ltA0).trans a2
    have ltA1 : w.heap.size < w1.heap.size := Nat.lt_of_lt_of_le ltA0 b1.size
    have h1 := h.below d1
    have t1 := ht.below d1
    clear b1 bb ltA0
    by_cases hp : BalMay ⟨pr, pn⟩
    · have HP : Hid (PrMay ⟨pr, pn⟩) := .inl hp
      rw [decide_eq_true hp]
      clear hp hz
      go_wp2_with fail
      go_loopw [3, 19] (fun nv iv wr => ∃ (j : Nat) (n : Int), j ≤ M ∧ iv = .int .i64 (j : Int) ∧ nv = .int .i64 n ∧ OkV ⟨pr, pn⟩ (l.take j) ∧ NextS (l.take j) n ∧ Below w1.heap.size w1 wr) (fun _ iv _ => ((M : Int) - intOf iv).toNat)
      case atStart => exact ⟨0, 0, by omega, rfl, rfl, ⟨fun v hv => (List.not_mem_nil hv).elim, trivial⟩, NextS.nil, Below.refl _ _⟩
      case round =>
        obtain ⟨j, n, hj, rfl, rfl, hok, hnx, hbel⟩ := hrel
        have HK : Hid (OkV ⟨pr, pn⟩ (l.take j)) := hok
        have HN : Hid (NextS (l.take j) n) := hnx
        have hn0 := hnx.1
        have hn1 := hnx.2.1
        clear hok hnx
        have a0r := (hbel.cell (p := ⟨w.heap.size, 0, none⟩) ltA1).trans a0
        have a1r := (hbel.cell (p := ⟨w.heap.size, 1, none⟩) ltA1).trans a1
        have a2r := (hbel.cell (p := ⟨w.heap.size, 2, none⟩) ltA1).trans a2
        have hr1 := h1.below hbel
        have tr := t1.below hbel
        have dr := d1.trans (hbel.mono d1.size)
        have ltAr : w.heap.size < wr.heap.size := Nat.lt_of_lt_of_le ltA1 hbel.size
        by_cases hjM : j < M
        · have hji : (j : Int) < (M : Int) := by omega
          obtain ⟨v, hv⟩ : ∃ v, l[j]? = some v := ⟨_, List.getElem?_eq_getElem (by have := HM.out; omega)⟩
          obtain ⟨b, off, hax, ltb, hrg⟩ := hr1.spot j v hv
          subst hax
          have hix := runIndexV b off M cp j hjM
          have hsz := sizeVt v
          have HT : Hid (l.take (j + 1) = l.take j ++ [v]) := take_snocV l j v hv
          obtain ⟨vs, ⟨vr, vn⟩, ⟨vk, vc, vq, vm, vx⟩⟩ := v
          have HBad : Hid (AccMay ⟨⟨pr, pn⟩, l⟩ → VtMay ⟨vs, ⟨vr, vn⟩, ⟨vk, vc, vq, vm, vx⟩⟩ ∧ ¬ Bal.lt ⟨pr, pn⟩ ⟨vr, vn⟩ ∧ ∀ u ∈ l.take j, u.slot < vs) := fun g => by
            have g2 : OkV ⟨pr, pn⟩ (l.take (j + 1) ++ l.drop (j + 1)) := by rw [List.take_append_drop]; exact g.2
            have g3 := g2.left
            rw [HT.out] at g3
            exact (HK.out.snoc _).1 g3
          clear hv
          simp only [vtC] at hrg hsz
          have bN : Below wr.heap.size wr (wr.alloc (.cells #[.int .i64 0, .int .i64 0, .int .i64 0, .int .i64 0, .int .i64 0, .int .i64 0, .int .i64 0, .int .i64 0] 57)) := (Below.refl _ _).alloc (Nat.le_refl _) _
          have rN := heap_alloc_new wr (.cells #[.int .i64 0, .int .i64 0, .int .i64 0, .int .i64 0, .int .i64 0, .int .i64 0, .int .i64 0, .int .i64 0] 57)
          have hsz2 : (Tryd.prog.info? 57).map (·.size) = some (#[.int .i64 vs, .int .i64 vr, .int .i64 vn, .int .i64 vk, .int .i64 vc, .int .i64 vq, .int .i64 vm, .int .i64 vx] : Array Value).size := hsz
          have hone : (#[.int .i64 vs, .int .i64 vr, .int .i64 vn, .int .i64 vk, .int .i64 vc, .int .i64 vq, .int .i64 vm, .int .i64 vx] : Array Value).all (·.oneCell') = true := by simp [Value.oneCell']
          generalize hWN : wr.alloc (.cells #[.int .i64 0, .int .i64 0, .int .i64 0, .int .i64 0, .int .i64 0, .int .i64 0, .int .i64 0, .int .i64 0] 57) = WN at bN rN
          go_upto_region 7 with ((with_reducible (refine pxLook ?_)); first | (refine wpList_load_mid rfl 57 (.tmp 21) rfl b (off + 8 * j) rfl [.int .i64 vs, .int .i64 vr, .int .i64 vn, .int .i64 vk, .int .i64 vc, .int .i64 vq, .int .i64 vm, .int .i64 vx] _ hrg Tryd.underlying57 rfl hsz ?_) | (refine wpList_store_row rfl 57 (.tmp 5) (.tmp 22) rfl wr.heap.size (#[.int .i64 vs, .int .i64 vr, .int .i64 vn, .int .i64 vk, .int .i64 vc, .int .i64 vq, .int .i64 vm, .int .i64 vx]) rfl rfl 57 _ rN hsz2 rfl hone ?_))
          clear hWN
          have q := setRow_heap WN wr.heap.size _ (#[.int .i64 vs, .int .i64 vr, .int .i64 vn, .int .i64 vk, .int .i64 vc, .int .i64 vq, .int .i64 vm, .int .i64 vx]) 57 _ rN
          replace bN := oBelow_rowP bN (Nat.le_refl _) (#[.int .i64 vs, .int .i64 vr, .int .i64 vn, .int .i64 vk, .int .i64 vc, .int .i64 vq, .int .i64 vm, .int .i64 vx])
          generalize WN.setRow wr.heap.size (#[.int .i64 vs, .int .i64 vr, .int .i64 vn, .int .i64 vk, .int .i64 vc, .int .i64 vq, .int .i64 vm, .int .i64 vx]) = W at q bN ⊢
          have dW := dr.trans (bN.mono dr.size)
          have eW := hbel.trans (bN.mono hbel.size)
          have ltG : wr.heap.size < W.heap.size := (Array.getElem?_eq_some_iff.1 q).1
          have ltA : w.heap.size < W.heap.size := by omega
          have rA0 := (bN.cell (p := ⟨w.heap.size, 0, none⟩) ltAr).trans a0r
          have rA1 := (bN.cell (p := ⟨w.heap.size, 1, none⟩) ltAr).trans a1r
          have tW := tr.below bN
          clear rN a0r a1r a2r hrg hix hsz2 bN hr1 tr
          generalize wr.heap.size = G at q ltG ⊢
          go_wp2_with ((with_reducible (refine pxLook ?_)); refine wpList_load_row rfl 57 _ rfl G rfl 57 _ (0, 0) _ q Tryd.underlying57 rfl hsz ?_)
          refine (mayV_any ⟨vs, ⟨vr, vn⟩, ⟨vk, vc, vq, vm, vx⟩⟩ W tW).mono ?_
          rintro e W2 ⟨rfl, b2⟩
          have d2 := dW.trans (b2.mono dW.size)
          have e2 := eW.trans (b2.mono eW.size)
          have q2 := (b2.block _ ltG).trans q
          have x0 : W2.cell? ⟨G, 0, none⟩ = some (.int .i64 vs) := cell_of_row _ _ 0 _ _ _ q2
          have x1 : W2.cell? ⟨G, 1, none⟩ = some (.int .i64 vr) := cell_of_row _ _ 1 _ _ _ q2
          have x2 : W2.cell? ⟨G, 2, none⟩ = some (.int .i64 vn) := cell_of_row _ _ 2 _ _ _ q2
          replace rA0 := (b2.cell (p := ⟨w.heap.size, 0, none⟩) ltA).trans rA0
          replace rA1 := (b2.cell (p := ⟨w.heap.size, 1, none⟩) ltA).trans rA1
          have ltG2 : G < W2.heap.size := Nat.lt_of_lt_of_le ltG b2.size
          clear b2 q eW dW tW ltG
          by_cases hv : VtMay ⟨vs, ⟨vr, vn⟩, ⟨vk, vc, vq, vm, vx⟩⟩
          · rw [decide_eq_true hv]
            by_cases hs : vs < n
            · have HE : Hid (5 = accE ⟨⟨pr, pn⟩, l⟩) := (if_neg (fun g => by
                have g1 := (HBad.out g).2.2
                have g2 := (HN.out.2.2 vs hv.1.1).2 g1
                omega)).symm
              clear hv
              go_wp2
              go_ret
              exact ⟨ret_num HE.out, d2⟩
            · have hs' : n ≤ vs := by omega
              go_wp2_with fail
              refine (belowB_any ⟨pr, pn⟩ ⟨vr, vn⟩ W2).mono ?_
              rintro e W3 ⟨rfl, b3⟩
              have d3 := d2.trans (b3.mono d2.size)
              have e3 := e2.trans (b3.mono e2.size)
              have x0 := (b3.cell (p := ⟨G, 0, none⟩) ltG2).trans x0
              by_cases hb : Bal.lt ⟨pr, pn⟩ ⟨vr, vn⟩
              · rw [decide_eq_true hb]
                have HE : Hid (5 = accE ⟨⟨pr, pn⟩, l⟩) := (if_neg (fun g => (HBad.out g).2.1 hb)).symm
                clear hv hb
                go_wp2
                go_ret
                exact ⟨ret_num HE.out, d3⟩
              · rw [decide_eq_false hb]
                have hv1 : 0 ≤ vs := hv.1.1
                have hv2 : vs ≤ 39 := hv.1.2
                have HK2 : Hid (OkV ⟨pr, pn⟩ (l.take (j + 1))) := by unfold Hid; rw [HT.out]; exact (HK.out.snoc _).2 ⟨hv, hb, (HN.out.2.2 vs hv1).1 hs'⟩
                have HN2 : Hid (NextS (l.take (j + 1)) (vs + 1)) := by unfold Hid; rw [HT.out]; exact HN.out.snoc (v := ⟨vs, ⟨vr, vn⟩, ⟨vk, vc, vq, vm, vx⟩⟩) hv1 hv2 hs'
                clear hv hb HBad HK HN HT
                go_wp2
                go_roundw
                case rel => exact ⟨j + 1, vs + 1, by omega, by go_num, by go_num, HK2.out, HN2.out, e3⟩
                case measure => simp [intOf]; omega
          · rw [decide_eq_false hv]
            have HE : Hid (5 = accE ⟨⟨pr, pn⟩, l⟩) := (if_neg (fun g => hv (HBad.out g).1)).symm
            clear hv
            go_wp2
            go_ret
            exact ⟨ret_num HE.out, d2⟩
        · obtain rfl : j = M := by omega
          have HE : Hid (0 = accE ⟨⟨pr, pn⟩, l⟩) := by
            have g := HK.out
            rw [List.take_of_length_le (by have := HM.out; omega)] at g
            exact (if_pos ⟨HP.out, g.1, g.2⟩).symm
          go_wp2
          go_ret
          exact ⟨ret_num HE.out, dr⟩
    · rw [decide_eq_false hp]
      have HE : Hid (5 = accE ⟨⟨pr, pn⟩, l⟩) := (if_neg (fun g => g.1.elim hp hz)).symm
      clear hp hz
      go_wp2
      go_ret
      exact ⟨ret_num HE.out, d1⟩
end Go.Proofs.YthmlikljeoamgabDoor
