/-
  The walk of the program's own look at a tape, record by record.
-/
import Derived.Test.YthmlikljeoamgabDoorKb14
import Derived.Test.YthmlikljeoamgabDoorKb32
import Derived.Test.YthmlikljeoamgabDoorKb11
import Derived.Test.YthmlikljeoamgabDoorKb6
namespace Go.Proofs.YthmlikljeoamgabDoor
open Go.RowKit
set_option linter.unusedVariables false

set_option maxHeartbeats 2000000 in
set_option maxRecDepth 100000 in
theorem played_any (v : Value) (d : List Int) (w : World) (h : Sl w v d) (hT : TabAt w) (hN : NTab w) :
    Calls Tryd.prog 23 #[v] w fun e w' => ∃ y, e = .returned (.tuple #[.agg (acA (recN d).2.p y), .int .i64 ((recN d).1 : Int)]) ∧ Sv w' y (recN d).2.vs ∧ Below w.heap.size w w' := by
  have hlen := h.len
  obtain ⟨ax, cp, rfl⟩ := h.shapeT
  obtain ⟨M, hM⟩ : ∃ M, d.length = M := ⟨_, rfl⟩
  have HM : Hid (d.length = M) := hM
  rw [hM] at h hlen ⊢
  clear hM
  obtain ⟨W0, hW0⟩ : ∃ W0, (w.alloc (.cells #[.int .i64 0, .int .i64 0, .slice none 0 0] 33)).alloc (.cells #[.int .i64 0, .int .i64 0, .slice none 0 0] 33) = W0 := ⟨_, rfl⟩
  have r0_r : W0.heap[w.heap.size]? = some (.cells #[.int .i64 0, .int .i64 0, .slice none 0 0] 33) := by rw [← hW0]; exact t_alloc2_0 _ _ _
  have r0_a : W0.heap[w.heap.size + 1]? = some (.cells #[.int .i64 0, .int .i64 0, .slice none 0 0] 33) := by rw [← hW0]; exact t_alloc2_1 _ _ _
  have bb : Below w.heap.size w W0 := by rw [← hW0]; exact t_allocB2 _ _ _
  have l0_r : w.heap.size < W0.heap.size := (Array.getElem?_eq_some_iff.1 r0_r).1
  have l0_a : (w.heap.size + 1) < W0.heap.size := (Array.getElem?_eq_some_iff.1 r0_a).1
  go_enter Tryd.func23, Tryd.ntmps23
  have z0 : Hid (w.heap.size + 1 < W0.heap.size) := l0_a
  go_wp2_with fail
  clear hW0
  go_loopw [5] (fun pl wr => ∃ (n k K : Nat) (cr cn : Int) (L : List Vt) (ay : Option Addr) (cy : Nat), pl = .int .i64 (n : Int) ∧ Hid (itR d k = (n, ⟨⟨cr, cn⟩, L⟩) ∧ 5 * k ≤ n ∧ L.length = K) ∧ n ≤ M ∧ wr.heap[w.heap.size + 1]? = some (.cells #[.int .i64 cr, .int .i64 cn, .slice ay K cy] 33) ∧ Sv wr (.slice ay K cy) L ∧ wr.heap[w.heap.size]? = some (.cells #[.int .i64 0, .int .i64 0, .slice none 0 0] 33) ∧ Below w.heap.size w wr) (fun pl _ => M - (intOf pl).toNat)
  case atStart => exact ⟨0, 0, 0, 0, 0, [], none, 0, rfl, ⟨rfl, by omega, rfl⟩, by omega, r0_a, ⟨⟨none, 0, rfl, by simp, fun _ => rfl, .inl rfl⟩, by simp⟩, r0_r, bb⟩
  case round =>
    clear r0_r r0_a l0_r l0_a bb z0
    obtain ⟨n, k, K, cr, cn, L, ay, cy, rfl, HI, hnM, ra, sv, rr, bel⟩ := hrel
    have lr : w.heap.size < wr.heap.size := (Array.getElem?_eq_some_iff.1 rr).1
    have la : w.heap.size + 1 < wr.heap.size := (Array.getElem?_eq_some_iff.1 ra).1
    have sd := h.below bel
    have tT := hT.below bel
    have tN := hN.below bel
    obtain ⟨a1, c1, r1, s1⟩ := sd.from n (by rw [HM.out]; exact hnM)
    obtain ⟨m, hm⟩ : ∃ m, M - n = m := ⟨_, rfl⟩
    rw [hm] at r1 s1
    have Hm : Hid (M - n = m) := hm
    clear hm
    go_wp2_with fail
    refine (firstBody_any (.slice a1 m c1) (d.drop n) wr s1 tT).mono ?_
    rintro e w1 ⟨ab, nb, cb, rfl, sb, bw1⟩
    have d1 := bel.trans (bw1.mono bel.size)
    have tt1_0 := tT.below bw1
    have tt1_1 := tN.below bw1
    have rw1_r := (bw1.block _ lr).trans rr
    have lw1_r := Nat.lt_of_lt_of_le lr bw1.size
    have rw1_a := (bw1.block _ la).trans ra
    have lw1_a := Nat.lt_of_lt_of_le la bw1.size
    have sl1_d := sd.below bw1
    have sl1_v := sv.below bw1
    clear tT tN lr rr la ra sd sv
    clear bw1
    clear r1 s1
    have HST : Hid (∀ a, stepL (d.drop n) a = (fbO (d.drop n)).bind fun b => (doneB a b).map fun c => (c, b.length + 5)) := fun a => stepL_fb _ a
    have HFL : Hid (∀ b, fbO (d.drop n) = some b → b.length + 5 ≤ (d.drop n).length) := fun b h => (fbO_len h).1
    cases hO : fbO (d.drop n) with
    | none =>
      have HS : Hid (stepL (d.drop n) ⟨⟨cr, cn⟩, L⟩ = none) := by unfold Hid; rw [HST.out, hO]; rfl
      have HR : Hid (recN d = (n, ⟨⟨cr, cn⟩, L⟩)) := recN_of HI.out.1 (by have := HI.out.2.1; have := HM.out; omega) HS.out
      have onR : (#[.int .i64 cr, .int .i64 cn, .slice ay K cy] : Array Value).all (·.oneCell') = true := by simp [Value.oneCell']
      clear HST HFL hO HS sb
      simp only [Option.isSome_none]
      go_wp2_with (first | ((with_reducible (refine tpLook ?_)); (refine wpList_load_row rfl 33 _ rfl (w.heap.size + 1) rfl 33 _ (0, 0) _ rw1_a Tryd.underlying33 rfl acSz3 ?_)) | ((with_reducible (refine tpLook ?_)); (refine wpList_store_row rfl 33 (.tmp 2) (.tmp 19) rfl w.heap.size #[.int .i64 cr, .int .i64 cn, .slice ay K cy] rfl rfl 33 _ rw1_r acSz3 rfl onR ?_)))
      have qR := setRow_heap w1 w.heap.size _ (#[.int .i64 cr, .int .i64 cn, .slice ay K cy]) 33 _ rw1_r
      have dR := tBelow_row d1 (Nat.le_refl _) (#[.int .i64 cr, .int .i64 cn, .slice ay K cy])
      have sR := sl1_v.otherRow rw1_r (by simp) (#[.int .i64 cr, .int .i64 cn, .slice ay K cy])
      refine bodyPost_ret (tRow2 rfl _ _ w.heap.size 33 _ (0, 0) _ rfl qR Tryd.underlying33 rfl acSz3) rfl ?_
      rw [HR.out]
      exact ⟨_, rfl, sR, dR⟩
    | some b =>
      rw [hO] at sb
      simp only [Option.isSome_some, Option.getD_some] at sb ⊢
      have hnb : nb = b.length := by obtain ⟨x1, x2, hx⟩ := sb.shapeT; simp only [Value.slice.injEq] at hx; exact hx.2.1
      have hbl := HFL.out b hO
      rw [List.length_drop, HM.out, ← hnb] at hbl
      have HNB : Hid (nb = b.length) := hnb
      have HS : Hid (stepL (d.drop n) ⟨⟨cr, cn⟩, L⟩ = (doneB ⟨⟨cr, cn⟩, L⟩ b).map fun c => (c, b.length + 5)) := by unfold Hid; rw [HST.out, hO]; rfl
      clear HST HFL hO hnb
      go_wp2_with ((with_reducible (refine tpLook ?_)); (refine wpList_load_row rfl 33 _ rfl (w.heap.size + 1) rfl 33 _ (0, 0) _ rw1_a Tryd.underlying33 rfl acSz3 ?_))
      have HDB : Hid (doneB ⟨⟨cr, cn⟩, L⟩ b = if donE ⟨⟨cr, cn⟩, L⟩ b = 0 then some (donA ⟨⟨cr, cn⟩, L⟩ b) else none) := doneB_eq _ b
      refine (done_any ⟨cr, cn⟩ (.slice ay K cy) L (.slice ab nb cb) b w1 sl1_v sb tt1_1).mono ?_
      rintro e w2 ⟨y2, rfl, sy2, bw2⟩
      obtain ⟨⟨⟨er, en⟩, L2⟩, hA⟩ : ∃ A2, donA ⟨⟨cr, cn⟩, L⟩ b = A2 := ⟨_, rfl⟩
      obtain ⟨E2, hE⟩ : ∃ E2, donE ⟨⟨cr, cn⟩, L⟩ b = E2 := ⟨_, rfl⟩
      obtain ⟨K2, hK2⟩ : ∃ K2, L2.length = K2 := ⟨_, rfl⟩
      rw [hA] at sy2 HDB
      rw [hE] at HDB
      rw [hA, hE]
      clear hA hE
      obtain ⟨a2, c2, hy2⟩ := sy2.shape
      simp only at hy2
      have HK2 : Hid (L2.length = K2) := hK2
      rw [hK2] at hy2
      subst hy2
      clear hK2
      simp only [acA]
      have d2 := d1.trans (bw2.mono d1.size)
      have tt2_0 := tt1_0.below bw2
      have tt2_1 := tt1_1.below bw2
      have rw2_r := (bw2.block _ lw1_r).trans rw1_r
      have lw2_r := Nat.lt_of_lt_of_le lw1_r bw2.size
      have rw2_a := (bw2.block _ lw1_a).trans rw1_a
      have lw2_a := Nat.lt_of_lt_of_le lw1_a bw2.size
      have sl2_d := sl1_d.below bw2
      have sl2_v := sl1_v.below bw2
      have sl2_b := sb.below bw2
      clear tt1_0 tt1_1 lw1_r rw1_r lw1_a rw1_a sl1_d sl1_v sb
      clear bw2
      have bN3 : Below w2.heap.size w2 (w2.alloc (.cells #[.int .i64 0, .int .i64 0, .slice none 0 0] 33)) := (Below.refl _ _).alloc (Nat.le_refl _) _
      have rN3 := heap_alloc_new w2 (.cells #[.int .i64 0, .int .i64 0, .slice none 0 0] 33)
      have on3 : (#[.int .i64 er, .int .i64 en, .slice a2 K2 c2] : Array Value).all (·.oneCell') = true := by simp [Value.oneCell']
      generalize hN3 : w2.alloc (.cells #[.int .i64 0, .int .i64 0, .slice none 0 0] 33) = N3 at bN3 rN3
      go_upto_region 7 with ((with_reducible (refine tpLook ?_)); (refine wpList_store_row rfl 33 (.tmp 8) (.tmp 25) rfl w2.heap.size #[.int .i64 er, .int .i64 en, .slice a2 K2 c2] rfl rfl 33 _ rN3 acSz3 rfl on3 ?_))
      clear hN3
      have qN3 := setRow_heap N3 w2.heap.size _ (#[.int .i64 er, .int .i64 en, .slice a2 K2 c2]) 33 _ rN3
      replace bN3 := tBelow_row bN3 (Nat.le_refl _) (#[.int .i64 er, .int .i64 en, .slice a2 K2 c2])
      generalize N3.setRow w2.heap.size (#[.int .i64 er, .int .i64 en, .slice a2 K2 c2]) = W3 at qN3 bN3 ⊢
      have lN3 : w2.heap.size < W3.heap.size := (Array.getElem?_eq_some_iff.1 qN3).1
      clear rN3 on3
      have d3 := d2.trans (bN3.mono d2.size)
      have tt3_0 := tt2_0.below bN3
      have tt3_1 := tt2_1.below bN3
      have rw3_r := (bN3.block _ lw2_r).trans rw2_r
      have lw3_r := Nat.lt_of_lt_of_le lw2_r bN3.size
      have rw3_a := (bN3.block _ lw2_a).trans rw2_a
      have lw3_a := Nat.lt_of_lt_of_le lw2_a bN3.size
      have sl3_d := sl2_d.below bN3
      have sl3_v := sl2_v.below bN3
      have sl3_b := sl2_b.below bN3
      have sl3_y2 := sy2.below bN3
      clear tt2_0 tt2_1 lw2_r rw2_r lw2_a rw2_a sl2_d sl2_v sl2_b sy2
      obtain ⟨gX, hgX⟩ : ∃ g, g = w2.heap.size := ⟨_, rfl⟩
      rw [← hgX] at qN3 lN3 ⊢
      clear hgX bN3
      by_cases h1 : E2 = 0
      · subst h1
        have HS2 : Hid (stepL (d.drop n) ⟨⟨cr, cn⟩, L⟩ = some (⟨⟨er, en⟩, L2⟩, nb + 5)) := by unfold Hid; rw [HS.out, HDB.out, if_pos rfl, HNB.out]; rfl
        have HI2 : Hid (itR d (k + 1) = (n + (nb + 5), ⟨⟨er, en⟩, L2⟩) ∧ 5 * (k + 1) ≤ n + (nb + 5) ∧ L2.length = K2) := ⟨by rw [itR, HI.out.1]; exact nextR_some HS2.out, by have := HI.out.2.1; omega, HK2.out⟩
        have hsum : (n : Int) + 5 + (nb : Int) = ((n + (nb + 5) : Nat) : Int) := by omega
        have hnb2 : n + nb + 5 ≤ M := by omega
        have HX : Hid (n + (nb + 5) ≤ M) := by unfold Hid; omega
        have onA : (#[.int .i64 er, .int .i64 en, .slice a2 K2 c2] : Array Value).all (·.oneCell') = true := by simp [Value.oneCell']
        clear HS HDB HI HS2 hbl HNB
        go_wp2_with (first | ((with_reducible (refine tpLook ?_)); (refine wpList_load_row rfl 33 _ rfl gX rfl 33 _ (0, 0) _ qN3 Tryd.underlying33 rfl acSz3 ?_)) | ((with_reducible (refine tpLook ?_)); (refine wpList_store_row rfl 33 (.tmp 4) (.tmp 31) rfl (w.heap.size + 1) #[.int .i64 er, .int .i64 en, .slice a2 K2 c2] rfl rfl 33 _ rw3_a acSz3 rfl onA ?_)))
        have qA := setRow_heap W3 (w.heap.size + 1) _ (#[.int .i64 er, .int .i64 en, .slice a2 K2 c2]) 33 _ rw3_a
        have dA := tBelow_row d3 (show w.heap.size ≤ w.heap.size + 1 by omega) (#[.int .i64 er, .int .i64 en, .slice a2 K2 c2])
        have sA := sl3_y2.otherRow rw3_a (by simp) (#[.int .i64 er, .int .i64 en, .slice a2 K2 c2])
        have rA := (setRow_other W3 (w.heap.size + 1) w.heap.size (#[.int .i64 er, .int .i64 en, .slice a2 K2 c2]) (by omega)).trans rw3_r
        go_roundw
        case rel => exact ⟨n + (nb + 5), k + 1, K2, er, en, L2, a2, c2, congrArg (Value.int .i64) (by omega), HI2, HX.out, qA, sA, rA, dA⟩
        case measure => simp [intOf]; omega
      · have HS2 : Hid (stepL (d.drop n) ⟨⟨cr, cn⟩, L⟩ = none) := by unfold Hid; rw [HS.out, HDB.out, if_neg h1]; rfl
        have h1b : (E2 == 0) = false := by simpa using h1
        have HR : Hid (recN d = (n, ⟨⟨cr, cn⟩, L⟩)) := recN_of HI.out.1 (by have := HI.out.2.1; have := HM.out; omega) HS2.out
        have onR : (#[.int .i64 cr, .int .i64 cn, .slice ay K cy] : Array Value).all (·.oneCell') = true := by simp [Value.oneCell']
        clear HS HDB h1 HS2 HNB
        go_wp2_with (first | ((with_reducible (refine tpLook ?_)); (refine wpList_load_row rfl 33 _ rfl (w.heap.size + 1) rfl 33 _ (0, 0) _ rw3_a Tryd.underlying33 rfl acSz3 ?_)) | ((with_reducible (refine tpLook ?_)); (refine wpList_store_row rfl 33 (.tmp 2) (.tmp 29) rfl w.heap.size #[.int .i64 cr, .int .i64 cn, .slice ay K cy] rfl rfl 33 _ rw3_r acSz3 rfl onR ?_)))
        have qR := setRow_heap W3 w.heap.size _ (#[.int .i64 cr, .int .i64 cn, .slice ay K cy]) 33 _ rw3_r
        have dR := tBelow_row d3 (Nat.le_refl _) (#[.int .i64 cr, .int .i64 cn, .slice ay K cy])
        have sR := sl3_v.otherRow rw3_r (by simp) (#[.int .i64 cr, .int .i64 cn, .slice ay K cy])
        refine bodyPost_ret (tRow2 rfl _ _ w.heap.size 33 _ (0, 0) _ rfl qR Tryd.underlying33 rfl acSz3) rfl ?_
        rw [HR.out]
        exact ⟨_, rfl, sR, dR⟩
end Go.Proofs.YthmlikljeoamgabDoor
/-
  What Recover and Repair answer, in plain lists. No program is named here.
-/
namespace Go.Proofs.YthmlikljeoamgabDoor
open Go.RowKit
set_option linter.unusedVariables false

/-- what Recover answers -/
def rcvA (d : List Int) (s : Int) : Acc := if TapB d s then (recN d).2 else a0
def rcvN (d : List Int) (s : Int) : Int := if TapB d s then ((recN d).1 : Int) else 0
/-- what Repair answers -/
def repD (d : List Int) (s : Int) : List Int := if TapB d s then d.take (recN d).1 else []
def repS (d : List Int) (s : Int) : Int := if TapB d s then (if ((recN d).1 : Int) < s then ((recN d).1 : Int) else s) else 0
end Go.Proofs.YthmlikljeoamgabDoor
/-
  The walk of the program's own Recover.
-/
namespace Go.Proofs.YthmlikljeoamgabDoor
open Go.RowKit
set_option linter.unusedVariables false

set_option maxHeartbeats 2000000 in
set_option maxRecDepth 100000 in
theorem recover_any (x : Value) (d : List Int) (s : Int) (w : World) (h : Sl w x d) (hT : TabAt w) (hN : NTab w) :
    Calls Tryd.prog 9 #[.agg (tpA x s)] w fun e w' => ∃ y, e = .returned (.tuple #[.agg (acA (rcvA d s).p y), .int .i64 (rcvN d s), .int .i64 (synE d s)]) ∧ Sv w' y (rcvA d s).vs ∧ Below w.heap.size w w' := by
  have hlen := h.len
  obtain ⟨ax, cp, rfl⟩ := h.shapeT
  obtain ⟨M, hM⟩ : ∃ M, d.length = M := ⟨_, rfl⟩
  have HM : Hid (d.length = M) := hM
  rw [hM] at h hlen ⊢
  clear hM
  simp only [tpA]
  obtain ⟨W0, hW0⟩ : ∃ W0, (w.alloc (.cells #[.slice ax M cp, .int .i64 s] 25)).alloc (.cells #[.int .i64 0, .int .i64 0, .slice none 0 0] 33) = W0 := ⟨_, rfl⟩
  have r0_p : W0.heap[w.heap.size]? = some (.cells #[.slice ax M cp, .int .i64 s] 25) := by rw [← hW0]; exact t_alloc2_0 _ _ _
  have r0_r : W0.heap[w.heap.size + 1]? = some (.cells #[.int .i64 0, .int .i64 0, .slice none 0 0] 33) := by rw [← hW0]; exact t_alloc2_1 _ _ _
  have bb : Below w.heap.size w W0 := by rw [← hW0]; exact t_allocB2 _ _ _
  have l0_p : w.heap.size < W0.heap.size := (Array.getElem?_eq_some_iff.1 r0_p).1
  have l0_r : (w.heap.size + 1) < W0.heap.size := (Array.getElem?_eq_some_iff.1 r0_r).1
  have t0_0 := hT.below bb
  have t0_1 := hN.below bb
  have sl0_x := h.below bb
  go_enter Tryd.func9, Tryd.ntmps9
  go_wp2_with ((with_reducible (refine tpLook ?_)); (refine wpList_load_row rfl 25 _ rfl w.heap.size rfl 25 _ (0, 0) _ r0_p Tryd.underlying25 rfl tpSize ?_))
  clear hW0
  refine (mayT_any (.slice ax M cp) d s W0 sl0_x).mono ?_
  rintro e w1 ⟨rfl, bw1⟩
  have d1 := bb.trans (bw1.mono bb.size)
  have tt1_0 := t0_0.below bw1
  have tt1_1 := t0_1.below bw1
  have rw1_p := (bw1.block _ l0_p).trans r0_p
  have lw1_p := Nat.lt_of_lt_of_le l0_p bw1.size
  have rw1_r := (bw1.block _ l0_r).trans r0_r
  have lw1_r := Nat.lt_of_lt_of_le l0_r bw1.size
  have sl1_x := sl0_x.below bw1
  clear t0_0 t0_1 l0_p r0_p l0_r r0_r sl0_x
  clear bw1
  have hRB : w.heap.size + 1 < w1.heap.size := lw1_r
  have hRC := d1.size
  by_cases h1 : TapB d s
  · rw [decide_eq_true h1]
    obtain ⟨⟨n, ⟨⟨cr, cn⟩, L⟩⟩, hR⟩ : ∃ R, recN d = R := ⟨_, rfl⟩
    have HE : Hid (synE d s = 0 ∧ rcvA d s = ⟨⟨cr, cn⟩, L⟩ ∧ rcvN d s = (n : Int)) := ⟨if_pos h1, (if_pos h1).trans (by rw [hR]), (if_pos h1).trans (by rw [hR])⟩
    have HR : Hid (recN d = (n, ⟨⟨cr, cn⟩, L⟩)) := hR
    clear h1 hR
    have cc1_p0 : w1.cell? ⟨w.heap.size, 0, none⟩ = some (.slice ax M cp) := cell_of_row _ _ 0 _ _ _ rw1_p
    have cc1_p1 : w1.cell? ⟨w.heap.size, 1, none⟩ = some (.int .i64 s) := cell_of_row _ _ 1 _ _ _ rw1_p
    go_wp2_with fail
    clear cc1_p0 cc1_p1
    refine (played_any (.slice ax M cp) d w1 sl1_x tt1_0 tt1_1).mono ?_
    rintro e w2 ⟨y, rfl, sy, bw2⟩
    rw [HR.out] at sy ⊢
    simp only at sy ⊢
    obtain ⟨ay, cy, rfl⟩ := sy.shape
    obtain ⟨K, hK⟩ : ∃ K, L.length = K := ⟨_, rfl⟩
    have HK : Hid (L.length = K) := hK
    rw [hK] at sy ⊢
    clear hK
    simp only [acA]
    have d2 := d1.trans (bw2.mono d1.size)
    have tt2_0 := tt1_0.below bw2
    have tt2_1 := tt1_1.below bw2
    have rw2_p := (bw2.block _ lw1_p).trans rw1_p
    have lw2_p := Nat.lt_of_lt_of_le lw1_p bw2.size
    have rw2_r := (bw2.block _ lw1_r).trans rw1_r
    have lw2_r := Nat.lt_of_lt_of_le lw1_r bw2.size
    have sl2_x := sl1_x.below bw2
    clear tt1_0 tt1_1 lw1_p rw1_p lw1_r rw1_r sl1_x
    clear bw2
    have bN3 : Below w2.heap.size w2 (w2.alloc (.cells #[.int .i64 0, .int .i64 0, .slice none 0 0] 33)) := (Below.refl _ _).alloc (Nat.le_refl _) _
    have rN3 := heap_alloc_new w2 (.cells #[.int .i64 0, .int .i64 0, .slice none 0 0] 33)
    have on3 : (#[.int .i64 cr, .int .i64 cn, .slice ay K cy] : Array Value).all (·.oneCell') = true := by simp [Value.oneCell']
    generalize hN3 : w2.alloc (.cells #[.int .i64 0, .int .i64 0, .slice none 0 0] 33) = N3 at bN3 rN3
    go_upto_region 4 with ((with_reducible (refine tpLook ?_)); (refine wpList_store_row rfl 33 (.tmp 5) (.tmp 15) rfl w2.heap.size #[.int .i64 cr, .int .i64 cn, .slice ay K cy] rfl rfl 33 _ rN3 acSz3 rfl on3 ?_))
    clear hN3
    have qN3 := setRow_heap N3 w2.heap.size _ (#[.int .i64 cr, .int .i64 cn, .slice ay K cy]) 33 _ rN3
    replace bN3 := tBelow_row bN3 (Nat.le_refl _) (#[.int .i64 cr, .int .i64 cn, .slice ay K cy])
    generalize N3.setRow w2.heap.size (#[.int .i64 cr, .int .i64 cn, .slice ay K cy]) = W3 at qN3 bN3 ⊢
    have lN3 : w2.heap.size < W3.heap.size := (Array.getElem?_eq_some_iff.1 qN3).1
    clear rN3 on3
    have d3 := d2.trans (bN3.mono d2.size)
    have tt3_0 := tt2_0.below bN3
    have tt3_1 := tt2_1.below bN3
    have rw3_p := (bN3.block _ lw2_p).trans rw2_p
    have lw3_p := Nat.lt_of_lt_of_le lw2_p bN3.size
    have rw3_r := (bN3.block _ lw2_r).trans rw2_r
    have lw3_r := Nat.lt_of_lt_of_le lw2_r bN3.size
    have sl3_x := sl2_x.below bN3
    have sl3_y := sy.below bN3
    clear tt2_0 tt2_1 lw2_p rw2_p lw2_r rw2_r sl2_x sy
    obtain ⟨gA, hgA⟩ : ∃ g, g = w2.heap.size := ⟨_, rfl⟩
    rw [← hgA] at qN3 lN3 ⊢
    clear hgA bN3
    have onR : (#[.int .i64 cr, .int .i64 cn, .slice ay K cy] : Array Value).all (·.oneCell') = true := by simp [Value.oneCell']
    go_wp2_with (first | ((with_reducible (refine tpLook ?_)); (refine wpList_load_row rfl 33 _ rfl gA rfl 33 _ (0, 0) _ qN3 Tryd.underlying33 rfl acSz3 ?_)) | ((with_reducible (refine tpLook ?_)); (refine wpList_store_row rfl 33 (.tmp 2) (.tmp 17) rfl (w.heap.size + 1) #[.int .i64 cr, .int .i64 cn, .slice ay K cy] rfl rfl 33 _ rw3_r acSz3 rfl onR ?_)))
    have qR := setRow_heap W3 (w.heap.size + 1) _ (#[.int .i64 cr, .int .i64 cn, .slice ay K cy]) 33 _ rw3_r
    have dR := tBelow_row d3 (show w.heap.size ≤ w.heap.size + 1 by omega) (#[.int .i64 cr, .int .i64 cn, .slice ay K cy])
    have sR := sl3_y.otherRow rw3_r (by simp) (#[.int .i64 cr, .int .i64 cn, .slice ay K cy])
    refine bodyPost_ret (pRow3 rfl _ _ (w.heap.size + 1) 33 _ (0, 0) _ rfl qR Tryd.underlying33 rfl acSz3) rfl ?_
    rw [HE.out.1, HE.out.2.1, HE.out.2.2]
    exact ⟨_, rfl, sR, dR⟩
  · rw [decide_eq_false h1]
    have HE : Hid (synE d s = 5 ∧ rcvA d s = a0 ∧ rcvN d s = 0) := ⟨if_neg h1, if_neg h1, if_neg h1⟩
    clear h1
    have onR : (#[.int .i64 0, .int .i64 0, .slice none 0 0] : Array Value).all (·.oneCell') = true := by simp [Value.oneCell']
    go_wp2_with ((with_reducible (refine tpLook ?_)); (refine wpList_store_row rfl 33 (.tmp 2) (.tmp 10) rfl (w.heap.size + 1) #[.int .i64 0, .int .i64 0, .slice none 0 0] rfl rfl 33 _ rw1_r acSz3 rfl onR ?_))
    have qR := setRow_heap w1 (w.heap.size + 1) _ (#[.int .i64 0, .int .i64 0, .slice none 0 0]) 33 _ rw1_r
    have dR := tBelow_row d1 (show w.heap.size ≤ (w.heap.size + 1) by omega) (#[.int .i64 0, .int .i64 0, .slice none 0 0])
    refine bodyPost_ret (pRow3 rfl _ _ (w.heap.size + 1) 33 _ (0, 0) _ rfl qR Tryd.underlying33 rfl acSz3) rfl ?_
    rw [HE.out.1, HE.out.2.1, HE.out.2.2]
    exact ⟨.slice none 0 0, rfl, Sv.nil0 _, dR⟩
end Go.Proofs.YthmlikljeoamgabDoor
