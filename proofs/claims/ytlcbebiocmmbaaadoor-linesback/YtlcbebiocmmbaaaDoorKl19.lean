/-
  The walk of the program's acts of pieces.
-/
import Derived.Test.YtlcbebiocmmbaaaDoorKl9
import Derived.Test.YtlcbebiocmmbaaaDoorKl11
import Derived.Test.YtlcbebiocmmbaaaDoorKl12
import Derived.Test.YtlcbebiocmmbaaaDoorKl17
import Derived.Test.YtlcbebiocmmbaaaDoorKl18
namespace Go.Proofs.YtlcbebiocmmbaaaDoor
open Go.RowKit
set_option linter.unusedVariables false

/-- an act of pieces, or none -/
def PcGot (base : Nat) (k : Int) (ps : List (List Int)) (e : Ending) (w' : World) : Prop := (∃ x y, GoodPc k ps x ∧ e = .returned (.tuple #[.agg #[.int .i64 x.k, .int .i64 x.n, .int .i64 x.a, .int .i64 x.p, y], .bool true]) ∧ w'.ownsRow base 5 1 y x.d.length (x.d.map (Value.int .u8))) ∨ ((∀ x, ¬ GoodPc k ps x) ∧ e = .returned (.tuple #[zLa, .bool false]))
/-- the cells of an act that is being read -/
def paA (k : Int) (g : Nat → Int) : Array Value := #[.int .i64 k, .int .i64 (g 0), .int .i64 (g 1), .int .i64 (g 2), .slice none 0 0]
theorem paA_set (k : Int) (g : Nat → Int) {i : Nat} (h : i < 3) (v : Int) : (paA k g).setIfInBounds (i + 1) (.int .i64 v) = paA k (fun j => if j = i then v else g j) := by
  rcases (by omega : i = 0 ∨ i = 1 ∨ i = 2) with rfl | rfl | rfl <;> simp [paA]
theorem paA_at (k : Int) (g : Nat → Int) {i : Nat} (h : i < 3) : (paA k g)[i + 1]? = some (.int .i64 (g i)) := by
  rcases (by omega : i = 0 ∨ i = 1 ∨ i = 2) with rfl | rfl | rfl <;> simp [paA]
def gF (k : Int) (ps : List (List Int)) (i : Nat) : Nat → Int := fun j => if j < i then fldV k ps j else 0
theorem gF_used {k : Int} {ps : List (List Int)} {i : Nat} (h : i < 3) (v : Int) (hv : fldV k ps i = v) : paA k (fun j => if j = i then v else gF k ps i j) = paA k (gF k ps (i + 1)) := by
  unfold paA gF
  rcases (by omega : i = 0 ∨ i = 1 ∨ i = 2) with rfl | rfl | rfl <;> simp [hv]
theorem gF_skip {k : Int} {ps : List (List Int)} {i : Nat} (h : i < 3) (hv : fldV k ps i = 0) : paA k (gF k ps i) = paA k (gF k ps (i + 1)) := by
  unfold paA gF
  rcases (by omega : i = 0 ∨ i = 1 ∨ i = 2) with rfl | rfl | rfl <;> simp [hv]
theorem gF_zero (k : Int) (ps : List (List Int)) : paA k (gF k ps 0) = #[.int .i64 k, .int .i64 0, .int .i64 0, .int .i64 0, .slice none 0 0] := by simp [paA, gF]
theorem gF_all (k : Int) (ps : List (List Int)) : paA k (gF k ps 3) = #[.int .i64 k, .int .i64 (fldV k ps 0), .int .i64 (fldV k ps 1), .int .i64 (fldV k ps 2), .slice none 0 0] := by simp [paA, gF]
theorem laSzA : (Tryd.prog.info? 24).map (·.size) = some 5 := by kernel_rfl
theorem bnd_le (j : Nat) : 0 ≤ bndF j ∧ bndF j < 10000000 := by
  unfold bndF
  split
  · omega
  · split <;> omega
set_option maxHeartbeats 4000000 in
set_option maxRecDepth 100000 in
theorem actOfPieces_any (k : Nat) (h1 : 1 ≤ k) (h9 : k < 10) (v : Value) (ps : List (List Int)) (hb : ∀ x ∈ ps, ∀ c ∈ x, 0 ≤ c ∧ c < 256) (hl : ∀ x ∈ ps, x.length ≤ 4000000) (hn : (ps.length : Int) + 1 = npc (k : Int)) (w : World) (hv : Ss w v ps) (ht : LWTab w) (hbt : LBTab w) :
    Calls Tryd.prog 50 #[.int .i64 (k : Int), v] w fun e w' => Below w.heap.size w w' ∧ PcGot w.heap.size (k : Int) ps e w' := by
  obtain ⟨gb, go, gc, rfl, gl, gcp⟩ := hv.shape
  have HV : Hid (Ss w (.slice (some ⟨gb, go, none⟩) ps.length gc) ps) := hv
  have HB : Hid (∀ x ∈ ps, ∀ c ∈ x, 0 ≤ c ∧ c < 256) := hb
  have HLN : Hid (∀ x ∈ ps, x.length ≤ 4000000) := hl
  have HN : Hid ((ps.length : Int) + 1 = npc (k : Int)) := hn
  have HT : Hid (LWTab w ∧ LBTab w) := ⟨ht, hbt⟩
  clear hv hb hl hn ht hbt
  obtain ⟨m, hm⟩ : ∃ m, ps.length = m := ⟨_, rfl⟩
  have HM : Hid (ps.length = m) := hm
  rw [hm] at HV gcp ⊢
  have hm4 : m ≤ 4000000000 := by have := HV.out.len; omega
  clear hm
  obtain ⟨W0, hW0⟩ : ∃ W0, (w.alloc (.cells #[.int .i64 0, .int .i64 0, .int .i64 0, .int .i64 0, .slice none 0 0] 24)).alloc (.cells #[.int .i64 (k : Int), .int .i64 0, .int .i64 0, .int .i64 0, .slice none 0 0] 24) = W0 := ⟨_, rfl⟩
  have r0 : W0.heap[w.heap.size]? = some (.cells #[.int .i64 0, .int .i64 0, .int .i64 0, .int .i64 0, .slice none 0 0] 24) := by rw [← hW0]; exact t_alloc2_0 _ _ _
  have q0 : W0.heap[w.heap.size + 1]? = some (.cells #[.int .i64 (k : Int), .int .i64 0, .int .i64 0, .int .i64 0, .slice none 0 0] 24) := by rw [← hW0]; exact t_alloc2_1 _ _ _
  have d0 : Below w.heap.size w W0 := by rw [← hW0]; exact t_allocB2 _ _ _
  have HW0 : Hid _ := hW0
  clear hW0
  go_enter Tryd.func50, Tryd.ntmps50
  go_wp2_with fail
  rw [HW0.out]
  clear HW0
  refine (lNumbers_any (w.heap.size + 1) W0).mono ?_
  rintro e w1 ⟨rfl, b1⟩
  have r1 := (b1.block _ (Array.getElem?_eq_some_iff.1 r0).1).trans r0
  have q1 := (b1.block _ (Array.getElem?_eq_some_iff.1 q0).1).trans q0
  have d1 := d0.trans (b1.mono d0.size)
  clear r0 q0 d0 b1
  rw [← gF_zero (k : Int) ps] at q1
  have HR1 : Hid _ := r1
  have HQ1 : Hid _ := q1
  clear r1 q1
  have onZ : (#[.int .i64 0, .int .i64 0, .int .i64 0, .int .i64 0, .slice none 0 0] : Array Value).all (·.oneCell') = true := by simp [Value.oneCell']
  go_wp2_with fail
  go_loopw [7, 17] (fun nv iv wr => ∃ i nx : Nat, i ≤ 3 ∧ iv = .int .i64 (i : Int) ∧ nv = .int .i64 (nx : Int) ∧ Hid (nx = cntU (k : Int) i ∧ ∀ j, j < i → useF j (k : Int) = true → NumOk (ps.getD (cntU (k : Int) j) []) (bndF j)) ∧ Hid (wr.heap[w.heap.size]? = some (.cells #[.int .i64 0, .int .i64 0, .int .i64 0, .int .i64 0, .slice none 0 0] 24)) ∧ Hid (wr.heap[w.heap.size + 1]? = some (.cells (paA (k : Int) (gF (k : Int) ps i)) 24)) ∧ Below w.heap.size w wr) (fun _ iv _ => (3 - intOf iv).toNat)
  case atStart => exact ⟨0, 0, by omega, rfl, rfl, ⟨(cntU_zero _).symm, fun j hj => by omega⟩, HR1, HQ1, d1⟩
  case round =>
    clear HR1 HQ1 d1 w1
    obtain ⟨i, nx, hi3, rfl, rfl, HX, HR, HQ, dB⟩ := hrel
    by_cases hlt : i < 3
    · have hlI : (i : Int) < 3 := by omega
      have hix := lp_index (w.heap.size + 1) i hlt
      have ixw := runIndexW k h9
      have ixm := runIndexM k i hlt
      have tw := HT.out.1.below dB
      have tb := HT.out.2.below dB
      have chas := tw.has k i h9 hlt
      obtain ⟨b, hbb⟩ : ∃ b, useF i (k : Int) = b := ⟨_, rfl⟩
      rw [hbb] at chas
      cases b with
      | false =>
        have hf0 : fldV (k : Int) ps i = 0 := by unfold fldV; rw [hbb]; simp
        have HQ2 : Hid (wr.heap[w.heap.size + 1]? = some (.cells (paA (k : Int) (gF (k : Int) ps (i + 1))) 24)) := by unfold Hid; rw [← gF_skip hlt hf0]; exact HQ.out
        have HX2 : Hid (nx = cntU (k : Int) (i + 1) ∧ ∀ j, j < i + 1 → useF j (k : Int) = true → NumOk (ps.getD (cntU (k : Int) j) []) (bndF j)) := by
          refine ⟨?_, fun j hj hu => ?_⟩
          · rw [cntU_succ hlt, hbb, HX.out.1]; simp
          · by_cases e : j = i
            · rw [e, hbb] at hu; cases hu
            · exact HX.out.2 j (by omega) hu
        clear HX HQ hf0 hbb tw tb
        go_wp2
        go_roundw
        case rel => exact ⟨i + 1, nx, by omega, by go_num, rfl, HX2, HR, HQ2, dB⟩
        case measure => simp [intOf]; omega
      | true =>
        have hcl : cntU (k : Int) i < cntU (k : Int) 3 := cntU_lt hlt hbb
        have hnm : nx < ps.length := by
          have e1 := HX.out.1
          have e2 := HN.out
          rw [npcU] at e2
          split at e2 <;> omega
        have hnm2 : nx < m := by rw [← HM.out]; exact hnm
        obtain ⟨pc, hpc⟩ : ∃ x, ps.getD nx [] = x := ⟨_, rfl⟩
        have hmem : pc ∈ ps := by rw [← hpc, getD_nil hnm]; exact List.getElem_mem hnm
        have hbp := HB.out pc hmem
        have hlp : pc.length ≤ 4000000000 := by have := HLN.out pc hmem; omega
        have cpc : wr.cell? ⟨gb, go + nx, none⟩ = some (.string (strOfNums pc)) := by
          have h := (HV.out.below dB).at nx hnm
          rwa [hpc] at h
        have ixs := runIndexS gb go m gc nx hnm2
        have ixb := runIndexB i hlt
        have cb := tb.bnd i hlt
        obtain ⟨hB0, hB9⟩ := bnd_le i
        obtain ⟨B, hBB⟩ : ∃ B, bndF i = B := ⟨_, rfl⟩
        rw [hBB] at cb hB0 hB9
        have HPC : Hid (ps.getD (cntU (k : Int) i) [] = pc) := by unfold Hid; rw [← HX.out.1]; exact hpc
        have HBB : Hid (bndF i = B) := hBB
        have HUU : Hid (useF i (k : Int) = true) := hbb
        have ff : ∀ j, wr.frozen? ⟨w.heap.size + 1, j, none⟩ = false := fun j => frozen_of_row _ _ j _ _ HQ.out
        have ca : wr.cell? ⟨w.heap.size + 1, i + 1, none⟩ = some (.int .i64 (gF (k : Int) ps i i)) := (cell_of_row _ _ (i + 1) _ _ _ HQ.out).trans (paA_at _ _ hlt)
        clear hpc hmem hBB hbb tw tb hcl hnm
        by_cases hok : NumOk pc B
        · have HC : Hid (∀ nd, Calls Tryd.prog 60 #[.string (strOfNums pc), .int .i64 B] (wr.drewN nd) fun e w' => e = .returned (.tuple #[.int .i64 (whV pc), .bool true]) ∧ ∃ m, w' = (wr.drewN nd).drewN m) := fun nd => numberOf_ok hbp hlp hB0 hB9 hok _
          have HOK : Hid (NumOk pc B) := hok
          have HFV : Hid (fldV (k : Int) ps i = whV pc) := by unfold Hid fldV; rw [HUU.out, if_pos rfl, HPC.out]
          clear hok hbp hlp
          obtain ⟨z, hz⟩ : ∃ z, whV pc = z := ⟨_, rfl⟩
          rw [hz] at HC HFV
          clear hz
          go_wp2_with fail
          go_quiet ((go_at_call 60; exact Calls.quiet_of (HC.out _)))
          have dQ : Below w.heap.size w (wr.drewN nq) := below_drewN dB nq
          have rQ : (wr.drewN nq).heap[w.heap.size]? = _ := HR.out
          have qQ : (wr.drewN nq).heap[w.heap.size + 1]? = _ := HQ.out
          generalize wr.drewN nq = WQ at dQ rQ qQ ⊢
          clear nq HC ixs ixb cb cpc ca ff HR HQ chas hix ixw ixm
          have ca : WQ.cell? ⟨w.heap.size + 1, i + 1, none⟩ = some (.int .i64 (gF (k : Int) ps i i)) := (cell_of_row _ _ (i + 1) _ _ _ qQ).trans (paA_at _ _ hlt)
          have ff : WQ.frozen? ⟨w.heap.size + 1, i + 1, none⟩ = false := frozen_of_row _ _ (i + 1) _ _ qQ
          have HQ2 : Hid ((WQ.setCell ⟨w.heap.size + 1, i + 1, none⟩ (.int .i64 z)).heap[w.heap.size + 1]? = some (.cells (paA (k : Int) (gF (k : Int) ps (i + 1))) 24)) := by
            unfold Hid
            rw [heap_setCell_same _ _ (i + 1) _ _ _ qQ, paA_set _ _ hlt, gF_used hlt z HFV.out]
          have HR2 : Hid ((WQ.setCell ⟨w.heap.size + 1, i + 1, none⟩ (.int .i64 z)).heap[w.heap.size]? = some (.cells #[.int .i64 0, .int .i64 0, .int .i64 0, .int .i64 0, .slice none 0 0] 24)) := (heap_setCell_other _ _ _ _ (by simp)).trans rQ
          have d2 : Below w.heap.size w (WQ.setCell ⟨w.heap.size + 1, i + 1, none⟩ (.int .i64 z)) := dQ.setCell (p := ⟨w.heap.size + 1, i + 1, none⟩) (by simp) _
          have HX2 : Hid (nx + 1 = cntU (k : Int) (i + 1) ∧ ∀ j, j < i + 1 → useF j (k : Int) = true → NumOk (ps.getD (cntU (k : Int) j) []) (bndF j)) := by
            refine ⟨?_, fun j hj hu => ?_⟩
            · rw [cntU_succ hlt, HUU.out, HX.out.1]; simp
            · by_cases e : j = i
              · rw [e, HPC.out, HBB.out]; exact HOK.out
              · exact HX.out.2 j (by omega) hu
          clear HX rQ qQ dQ
          go_wp2
          go_roundw
          case rel => exact ⟨i + 1, nx + 1, by omega, by go_num, by go_num, HX2, HR2, HQ2, d2⟩
          case measure => simp [intOf]; omega
        · have HC : Hid (∀ nd, Calls Tryd.prog 60 #[.string (strOfNums pc), .int .i64 B] (wr.drewN nd) fun e w' => e = .returned (.tuple #[.int .i64 0, .bool false]) ∧ ∃ m, w' = (wr.drewN nd).drewN m) := fun nd => numberOf_no hbp hlp hB0 hB9 hok _
          have HG : Hid (∀ x, ¬ GoodPc (k : Int) ps x) := fun x g => hok (by have h := g.ok i hlt HUU.out; rwa [HPC.out, HBB.out] at h)
          clear hok hbp hlp HX
          go_wp2_with fail
          go_quiet ((go_at_call 60; exact Calls.quiet_of (HC.out _)))
          have dQ : Below w.heap.size w (wr.drewN nq) := below_drewN dB nq
          have rQ : (wr.drewN nq).heap[w.heap.size]? = _ := HR.out
          generalize wr.drewN nq = WQ at dQ rQ ⊢
          clear nq HC ixs ixb cb cpc ca ff HR HQ chas hix ixw ixm
          go_wp2_with ((with_reducible (refine tpLook ?_)); refine wpList_store_row rfl 24 (.tmp 4) (.tmp 41) rfl w.heap.size #[.int .i64 0, .int .i64 0, .int .i64 0, .int .i64 0, .slice none 0 0] rfl rfl 24 _ rQ laSzA rfl onZ ?_)
          refine bodyPost_ret (tRow2 rfl _ _ w.heap.size 24 _ (0, 0) _ rfl (setRow_heap _ w.heap.size _ (#[.int .i64 0, .int .i64 0, .int .i64 0, .int .i64 0, .slice none 0 0]) 24 _ rQ) Tryd.underlying24 rfl laSzA) rfl ?_
          exact ⟨tBelow_row dQ (Nat.le_refl _) _, .inr ⟨HG.out, rfl⟩⟩
    · obtain rfl : i = 3 := by omega
      have hlI : ¬ ((3 : Nat) : Int) < 3 := by omega
      have rQ := HR.out
      have qQ := HQ.out
      rw [gF_all] at qQ
      clear HR HQ
      go_wp2_with fail
      refine (lData_any _ _).mono ?_
      rintro e w' ⟨rfl, hw'⟩
      subst w'
      by_cases hk : (k : Int) = 1
      · rw [eq_beq hk]
        have hu1 : useN (k : Int) = true ∧ useA (k : Int) = false ∧ useK (k : Int) = false := by rw [hk]; simp [useN, useA, useK]
        have hc3 : cntU (k : Int) 3 = 1 := by simp [cntU, hu1.1, hu1.2.1, hu1.2.2]
        have hnx : nx = 1 := by rw [HX.out.1, hc3]
        subst hnx
        have hpl : ps.length = 2 := by
          have e2 := HN.out
          rw [npcU, hc3, if_pos hk] at e2
          omega
        have hm2 : m = 2 := by rw [← HM.out]; exact hpl
        obtain ⟨pc, hpc⟩ : ∃ x, ps.getD 1 [] = x := ⟨_, rfl⟩
        have hmem : pc ∈ ps := by rw [← hpc, getD_nil (by omega)]; exact List.getElem_mem _
        have hbp := HB.out pc hmem
        have hlp : pc.length ≤ 4000000000 := by have := HLN.out pc hmem; omega
        have cpc : wr.cell? ⟨gb, go + 1, none⟩ = some (.string (strOfNums pc)) := by
          have h := (HV.out.below dB).at 1 (by omega)
          rwa [hpc] at h
        have ixs := runIndexS1 gb go m gc (by omega)
        have HPC : Hid (ps.getD 1 [] = pc) := hpc
        have HKK : Hid ((k : Int) = 1) := hk
        have HOK := HX.out.2
        have HOK2 : Hid _ := HOK
        clear hpc hmem hu1 hc3 hpl hm2 HX hk HOK
        go_wp2_with fail
        have hlow := dB.size
        refine (bytesOf_any pc hbp hlp _).mono ?_
        rintro e w3 ⟨b3, hgot⟩
        have d3 := dB.trans (b3.mono dB.size)
        have r3 := (b3.block _ (Array.getElem?_eq_some_iff.1 rQ).1).trans rQ
        have q3 := (b3.block _ (Array.getElem?_eq_some_iff.1 qQ).1).trans qQ
        clear rQ qQ b3 ixs cpc dB
        rcases hgot with ⟨d, y, hd, hdl, rfl, oy⟩ | ⟨hno, rfl⟩
        · have HG : Hid (GoodPc (k : Int) ps ⟨k, fldV k ps 0, fldV k ps 1, fldV k ps 2, d⟩) := ⟨rfl, rfl, rfl, rfl, HOK2.out, fun _ => by rw [HPC.out]; exact hd, fun e => absurd HKK.out e, hdl⟩
          clear hd
          obtain ⟨gy, cy, rfl⟩ := tOwns_shape oy
          obtain ⟨f0, e0⟩ : ∃ z, fldV (k : Int) ps 0 = z := ⟨_, rfl⟩
          obtain ⟨f1, e1⟩ : ∃ z, fldV (k : Int) ps 1 = z := ⟨_, rfl⟩
          obtain ⟨f2, e2⟩ : ∃ z, fldV (k : Int) ps 2 = z := ⟨_, rfl⟩
          rw [e0, e1, e2] at HG q3
          clear e0 e1 e2
          go_upto_region 18 with ((with_reducible (refine tpLook ?_)); refine wpList_store_one rfl 22 (.tmp 62) (.tmp 61) rfl (w.heap.size + 1) 4 (.slice gy d.length cy) _ rfl rfl (cell_of_row _ _ 4 _ _ _ q3) (frozen_of_row _ _ 4 _ _ q3) byteSl rfl ?_)
          have q4 : (w3.setCell ⟨w.heap.size + 1, 4, none⟩ (.slice gy d.length cy)).heap[w.heap.size + 1]? = some (.cells #[.int .i64 (k : Int), .int .i64 f0, .int .i64 f1, .int .i64 f2, .slice gy d.length cy] 24) := (heap_setCell_same _ _ 4 _ _ _ q3).trans rfl
          have r4 := (heap_setCell_other w3 ⟨w.heap.size + 1, 4, none⟩ w.heap.size (.slice gy d.length cy) (by simp)).trans r3
          have d4 : Below w.heap.size w (w3.setCell ⟨w.heap.size + 1, 4, none⟩ (.slice gy d.length cy)) := d3.setCell (p := ⟨w.heap.size + 1, 4, none⟩) (by simp) _
          have o4 := tOwns_cell (tOwns_base oy hlow) q3 (by decide) 4 (.slice gy d.length cy)
          generalize w3.setCell ⟨w.heap.size + 1, 4, none⟩ (.slice gy d.length cy) = W4 at q4 r4 d4 o4 ⊢
          clear q3 r3 d3 oy
          have onA : (#[.int .i64 (k : Int), .int .i64 f0, .int .i64 f1, .int .i64 f2, .slice gy d.length cy] : Array Value).all (·.oneCell') = true := by simp [Value.oneCell']
          go_wp2_with ((with_reducible (refine tpLook ?_)); first | (refine wpList_load_row rfl 24 _ rfl (w.heap.size + 1) rfl 24 _ (0, 0) _ q4 Tryd.underlying24 rfl laSzA ?_) | (refine wpList_store_row rfl 24 (.tmp 4) (.tmp 63) rfl w.heap.size #[.int .i64 (k : Int), .int .i64 f0, .int .i64 f1, .int .i64 f2, .slice gy d.length cy] rfl rfl 24 _ r4 laSzA rfl onA ?_))
          have o5 := tOwns_row o4 r4 (by decide) #[.int .i64 (k : Int), .int .i64 f0, .int .i64 f1, .int .i64 f2, .slice gy d.length cy]
          refine bodyPost_ret (tRow2 rfl _ _ w.heap.size 24 _ (0, 0) _ rfl (setRow_heap _ w.heap.size _ (#[.int .i64 (k : Int), .int .i64 f0, .int .i64 f1, .int .i64 f2, .slice gy d.length cy]) 24 _ r4) Tryd.underlying24 rfl laSzA) rfl ?_
          exact ⟨tBelow_row d4 (Nat.le_refl _) _, .inl ⟨_, _, HG.out, rfl, o5⟩⟩
        · have HG : Hid (∀ x, ¬ GoodPc (k : Int) ps x) := fun x g => by
            have h1 := g.d1 HKK.out
            rw [HPC.out] at h1
            have h2 := hno _ h1
            have h3 := g.dl
            omega
          clear hno
          go_wp2_with ((with_reducible (refine tpLook ?_)); refine wpList_store_row rfl 24 (.tmp 4) (.tmp 60) rfl w.heap.size #[.int .i64 0, .int .i64 0, .int .i64 0, .int .i64 0, .slice none 0 0] rfl rfl 24 _ r3 laSzA rfl onZ ?_)
          refine bodyPost_ret (tRow2 rfl _ _ w.heap.size 24 _ (0, 0) _ rfl (setRow_heap _ w.heap.size _ (#[.int .i64 0, .int .i64 0, .int .i64 0, .int .i64 0, .slice none 0 0]) 24 _ r3) Tryd.underlying24 rfl laSzA) rfl ?_
          exact ⟨tBelow_row d3 (Nat.le_refl _) _, .inr ⟨HG.out, rfl⟩⟩
      · rw [ne_beq hk]
        have HG : Hid (GoodPc (k : Int) ps ⟨k, fldV k ps 0, fldV k ps 1, fldV k ps 2, []⟩) := ⟨rfl, rfl, rfl, rfl, HX.out.2, fun e => absurd e hk, fun _ => rfl, by simp⟩
        clear HX hk
        obtain ⟨f0, e0⟩ : ∃ z, fldV (k : Int) ps 0 = z := ⟨_, rfl⟩
        obtain ⟨f1, e1⟩ : ∃ z, fldV (k : Int) ps 1 = z := ⟨_, rfl⟩
        obtain ⟨f2, e2⟩ : ∃ z, fldV (k : Int) ps 2 = z := ⟨_, rfl⟩
        rw [e0, e1, e2] at HG qQ
        clear e0 e1 e2
        have onA : (#[.int .i64 (k : Int), .int .i64 f0, .int .i64 f1, .int .i64 f2, .slice none 0 0] : Array Value).all (·.oneCell') = true := by simp [Value.oneCell']
        go_wp2_with ((with_reducible (refine tpLook ?_)); first | (refine wpList_load_row rfl 24 _ rfl (w.heap.size + 1) rfl 24 _ (0, 0) _ qQ Tryd.underlying24 rfl laSzA ?_) | (refine wpList_store_row rfl 24 (.tmp 4) (.tmp 63) rfl w.heap.size #[.int .i64 (k : Int), .int .i64 f0, .int .i64 f1, .int .i64 f2, .slice none 0 0] rfl rfl 24 _ rQ laSzA rfl onA ?_))
        refine bodyPost_ret (tRow2 rfl _ _ w.heap.size 24 _ (0, 0) _ rfl (setRow_heap _ w.heap.size _ (#[.int .i64 (k : Int), .int .i64 f0, .int .i64 f1, .int .i64 f2, .slice none 0 0]) 24 _ rQ) Tryd.underlying24 rfl laSzA) rfl ?_
        exact ⟨tBelow_row dB (Nat.le_refl _) _, .inl ⟨_, _, HG.out, rfl, World.ownsRow_nil _ _ _ _⟩⟩
end Go.Proofs.YtlcbebiocmmbaaaDoor
