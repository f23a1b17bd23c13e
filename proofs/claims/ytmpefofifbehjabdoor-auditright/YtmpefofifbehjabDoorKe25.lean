/-
  The walk of commands done one behind the other.
-/
import Derived.Test.YtmpefofifbehjabDoorKe14
import Derived.Test.YtmpefofifbehjabDoorKe24
import Derived.Test.YtmpefofifbehjabDoorKe17
namespace Go.Proofs.YtmpefofifbehjabDoor
open Go.RowKit
set_option linter.unusedVariables false

set_option maxHeartbeats 2000000 in
set_option maxRecDepth 100000 in
theorem kdone_any (x : Value) (l : List Cmd) (most : Nat) (w : World) (h : Sp w x l) (hi : ∀ v ∈ l, PlyI v) (hm : most ≤ 40) (hN : NTab w) :
    Calls Tryd.prog 9 #[x, .int .i64 (most : Int)] w fun e w' => ∃ vc va, e = .returned (.tuple #[.agg (stA (sAt (wsh l) (min l.length most))), vc, va, .bool true]) ∧ w'.ownsRow w.heap.size 40 5 vc (min l.length most) (crL (wsh l) (min l.length most)) ∧ w'.ownsRow w.heap.size 28 2 va (min l.length most) (arL (wsh l) (min l.length most)) ∧ Below w.heap.size w w' := by
  obtain ⟨a0, cp, rfl⟩ := h.shape
  have hlen := h.len
  have HI : Hid (∀ v ∈ l, PlyI v) := hi
  clear hi
  have hN0 := hN
  obtain ⟨N, hNN⟩ : ∃ N, l.length = N := ⟨_, rfl⟩
  have HNN : Hid (l.length = N) := hNN
  rw [hNN] at h hlen ⊢
  clear hNN
  obtain ⟨n, hn⟩ : ∃ n, min N most = n := ⟨_, rfl⟩
  have HMIN : Hid (n ≤ N ∧ n ≤ most ∧ (n = N ∨ n = most)) := by unfold Hid; omega
  rw [hn]
  clear hn
  obtain ⟨W0, hW0⟩ : ∃ W0, (w.alloc (.cells #[.int .i64 0, .int .i64 0, .int .i64 0, .int .i64 0, .int .i64 0, .int .i64 0, .int .i64 0, .int .i64 0, .int .i64 0, .int .i64 0, .int .i64 0, .int .i64 0, .int .i64 0, .int .i64 0, .int .i64 0, .int .i64 0, .int .i64 0, .int .i64 0, .int .i64 0, .int .i64 0, .int .i64 0, .int .i64 0, .int .i64 0, .int .i64 0, .int .i64 0, .int .i64 0, .int .i64 0, .int .i64 0, .int .i64 0, .int .i64 0, .int .i64 0, .int .i64 0, .bool false, .bool false, .bool false, .bool false, .bool false, .bool false, .bool false, .bool false] 32)).alloc (.cells #[.int .i64 0, .int .i64 0, .int .i64 0, .int .i64 0, .int .i64 0, .int .i64 0, .int .i64 0, .int .i64 0, .int .i64 0, .int .i64 0, .int .i64 0, .int .i64 0, .int .i64 0, .int .i64 0, .int .i64 0, .int .i64 0, .int .i64 0, .int .i64 0, .int .i64 0, .int .i64 0, .int .i64 0, .int .i64 0, .int .i64 0, .int .i64 0, .int .i64 0, .int .i64 0, .int .i64 0, .int .i64 0, .int .i64 0, .int .i64 0, .int .i64 0, .int .i64 0, .bool false, .bool false, .bool false, .bool false, .bool false, .bool false, .bool false, .bool false] 32) = W0 := ⟨_, rfl⟩
  have r0_r : W0.heap[w.heap.size]? = some (.cells #[.int .i64 0, .int .i64 0, .int .i64 0, .int .i64 0, .int .i64 0, .int .i64 0, .int .i64 0, .int .i64 0, .int .i64 0, .int .i64 0, .int .i64 0, .int .i64 0, .int .i64 0, .int .i64 0, .int .i64 0, .int .i64 0, .int .i64 0, .int .i64 0, .int .i64 0, .int .i64 0, .int .i64 0, .int .i64 0, .int .i64 0, .int .i64 0, .int .i64 0, .int .i64 0, .int .i64 0, .int .i64 0, .int .i64 0, .int .i64 0, .int .i64 0, .int .i64 0, .bool false, .bool false, .bool false, .bool false, .bool false, .bool false, .bool false, .bool false] 32) := by rw [← hW0]; exact t_alloc2_0 _ _ _
  have r0_s : W0.heap[w.heap.size + 1]? = some (.cells #[.int .i64 0, .int .i64 0, .int .i64 0, .int .i64 0, .int .i64 0, .int .i64 0, .int .i64 0, .int .i64 0, .int .i64 0, .int .i64 0, .int .i64 0, .int .i64 0, .int .i64 0, .int .i64 0, .int .i64 0, .int .i64 0, .int .i64 0, .int .i64 0, .int .i64 0, .int .i64 0, .int .i64 0, .int .i64 0, .int .i64 0, .int .i64 0, .int .i64 0, .int .i64 0, .int .i64 0, .int .i64 0, .int .i64 0, .int .i64 0, .int .i64 0, .int .i64 0, .bool false, .bool false, .bool false, .bool false, .bool false, .bool false, .bool false, .bool false] 32) := by rw [← hW0]; exact t_alloc2_1 _ _ _
  have bb : Below w.heap.size w W0 := by rw [← hW0]; exact t_allocB2 _ _ _
  have l0_r : w.heap.size < W0.heap.size := (Array.getElem?_eq_some_iff.1 r0_r).1
  have l0_s : (w.heap.size + 1) < W0.heap.size := (Array.getElem?_eq_some_iff.1 r0_s).1
  go_enter Tryd.func9, Tryd.ntmps9
  replace r0_r : W0.heap[w.heap.size]? = some (.cells (stA sto0) 32) := r0_r
  replace r0_s : W0.heap[w.heap.size + 1]? = some (.cells (stA sto0) 32) := r0_s
  go_wp2_with fail
  clear hW0 hN
  go_loopw [9, 10, 11] (fun cv av iv wr => ∃ i : Nat, i ≤ n ∧ iv = .int .i64 (i : Int) ∧ Hid (wr.ownsRow w.heap.size 40 5 cv i (crL (wsh l) i)) ∧ Hid (wr.ownsRow w.heap.size 28 2 av i (arL (wsh l) i)) ∧ wr.heap[w.heap.size]? = some (.cells (stA sto0) 32) ∧ wr.heap[w.heap.size + 1]? = some (.cells (stA (sAt (wsh l) i)) 32) ∧ Below w.heap.size w wr) (fun _ _ iv _ => ((n : Int) - intOf iv).toNat)
  case atStart => exact ⟨0, by omega, rfl, ownsNil _ _ _ _, ownsNil _ _ _ _, r0_r, r0_s, bb⟩
  case round =>
    obtain ⟨i, hin, rfl, hoc, hoa, rR, rS, hbel⟩ := hrel
    clear r0_r r0_s l0_r l0_s bb
    have lR : w.heap.size < wr.heap.size := (Array.getElem?_eq_some_iff.1 rR).1
    have lS : w.heap.size + 1 < wr.heap.size := (Array.getElem?_eq_some_iff.1 rS).1
    have oc := hoc.out
    have oa := hoa.out
    clear hoc hoa
    obtain ⟨gc, cc, hcv⟩ := tOwns_shape oc
    subst hcv
    obtain ⟨ga, ca, hav⟩ := tOwns_shape oa
    subst hav
    by_cases hlt : i < n
    · have hiN : i < N := by have := HMIN.out; omega
      have hiM : (i : Int) < (most : Int) := by have := HMIN.out; omega
      have hiN2 : (i : Int) < (N : Int) := by omega
      obtain ⟨⟨pk, pc, pq, pn, pv⟩, hp⟩ : ∃ c, l[i]? = some c := ⟨_, List.getElem?_eq_getElem (by rw [HNN.out]; exact hiN)⟩
      have hpi := HI.out _ (List.mem_of_getElem? hp)
      obtain ⟨b6, off6, rfl, hb6, hr6⟩ := h.spot i _ hp
      have HW : Hid (wsh l i = wishC ⟨pk, pc, pq, pn, pv⟩) := wsh_at hp
      have hr := tRange hbel hb6 hr6
      simp only [pyC] at hr
      have hix := runIndexP b6 off6 N cp i hiN
      obtain ⟨ik, ic, iq, im, iv⟩ := hpi
      simp only at ik ic iq im iv
      go_wp2_with ((with_reducible (refine tpLook ?_)); (refine wpList_load_mid rfl 24 _ rfl b6 (off6 + 5 * i) rfl [.int .i64 pk, .int .i64 pc, .int .i64 pq, .int .i64 pn, .int .i64 pv] _ hr Tryd.underlying24 rfl wiSize ?_))
      clear hr hix hp hr6
      have key := command_any pk pc pq pn pv wr ik ic iq im iv
      have HF : Hid (wsh l i = ⟨wK pk, pick pc 4, pick pq 6, pick pn 4, wV pk pv⟩) := HW.out
      generalize hck : wK pk = ck at key HF
      clear hck
      generalize hcc2 : pick pc 4 = cc2 at key HF
      clear hcc2
      generalize hcq : pick pq 6 = cq at key HF
      clear hcq
      generalize hcn : pick pn 4 = cn at key HF
      clear hcn
      generalize hcx : wV pk pv = cx at key HF
      clear hcx
      clear HW ik ic iq im iv
      simp only [cmA] at key
      refine (key).mono ?_
      rintro e w1 ⟨rfl, bw1⟩
      have d1 := hbel.trans (bw1.mono hbel.size)
      have rw1_r := (bw1.block _ lR).trans rR
      have lw1_r := Nat.lt_of_lt_of_le lR bw1.size
      have rw1_s := (bw1.block _ lS).trans rS
      have lw1_s := Nat.lt_of_lt_of_le lS bw1.size
      have ow1_cs := tOwns_keep oc (fun k hk => bw1.block k (oc.lt k hk).2)
      have ow1_as := tOwns_keep oa (fun k hk => bw1.block k (oa.lt k hk).2)
      clear lR rR lS rS oc oa
      clear bw1
      clear key
      have bN2 : Below w1.heap.size w1 (w1.alloc (.cells #[.int .i64 0, .int .i64 0, .int .i64 0, .int .i64 0, .int .i64 0] 40)) := (Below.refl _ _).alloc (Nat.le_refl _) _
      have qN2 := heap_alloc_new w1 (.cells #[.int .i64 0, .int .i64 0, .int .i64 0, .int .i64 0, .int .i64 0] 40)
      generalize hN2 : w1.alloc (.cells #[.int .i64 0, .int .i64 0, .int .i64 0, .int .i64 0, .int .i64 0] 40) = W2 at bN2 qN2
      have lN2 : w1.heap.size < W2.heap.size := (Array.getElem?_eq_some_iff.1 qN2).1
      have ge_gC : w.heap.size ≤ w1.heap.size := d1.size
      have neq_gC_r : w1.heap.size ≠ w.heap.size := Nat.ne_of_gt lw1_r
      have neq_gC_s : w1.heap.size ≠ (w.heap.size + 1) := Nat.ne_of_gt lw1_s
      have neo_gC_cs := fun k hk => Nat.ne_of_lt (ow1_cs.lt k hk).2
      have neo_gC_as := fun k hk => Nat.ne_of_lt (ow1_as.lt k hk).2
      have d2 := d1.trans (bN2.mono d1.size)
      have rw2_r := (bN2.block _ lw1_r).trans rw1_r
      have lw2_r := Nat.lt_of_lt_of_le lw1_r bN2.size
      have rw2_s := (bN2.block _ lw1_s).trans rw1_s
      have lw2_s := Nat.lt_of_lt_of_le lw1_s bN2.size
      have ow2_cs := tOwns_keep ow1_cs (fun k hk => bN2.block k (ow1_cs.lt k hk).2)
      have ow2_as := tOwns_keep ow1_as (fun k hk => bN2.block k (ow1_as.lt k hk).2)
      clear lw1_r rw1_r lw1_s rw1_s ow1_cs ow1_as
      clear bN2
      have so3_0_cs := tOwns_rowE ow2_cs neo_gC_cs (#[.int .i64 ck, .int .i64 cc2, .int .i64 cq, .int .i64 cn, .int .i64 cx])
      have so3_0_as := tOwns_rowE ow2_as neo_gC_as (#[.int .i64 ck, .int .i64 cc2, .int .i64 cq, .int .i64 cn, .int .i64 cx])
      have on3_0 : (#[.int .i64 ck, .int .i64 cc2, .int .i64 cq, .int .i64 cn, .int .i64 cx] : Array Value).all (·.oneCell') = true := by first | exact stA_one _ | exact tlA_one _ _ _ _ | simp [Value.oneCell']
      have st3_0_r := (setRow_other W2 w1.heap.size w.heap.size (#[.int .i64 ck, .int .i64 cc2, .int .i64 cq, .int .i64 cn, .int .i64 cx]) (Ne.symm neq_gC_r)).trans rw2_r
      have st3_0_s := (setRow_other W2 w1.heap.size (w.heap.size + 1) (#[.int .i64 ck, .int .i64 cc2, .int .i64 cq, .int .i64 cn, .int .i64 cx]) (Ne.symm neq_gC_s)).trans rw2_s
      have st3_0_gC := setRow_heap W2 w1.heap.size _ (#[.int .i64 ck, .int .i64 cc2, .int .i64 cq, .int .i64 cn, .int .i64 cx]) 40 _ qN2
      have eb3_0 := tBelow_row d2 (show w.heap.size ≤ w1.heap.size by omega) (#[.int .i64 ck, .int .i64 cc2, .int .i64 cq, .int .i64 cn, .int .i64 cx])
      go_upto_region 8 with ((with_reducible (refine tpLook ?_)); (refine wpList_store_row rfl 40 (.tmp 12) (.tmp 31) rfl w1.heap.size #[.int .i64 ck, .int .i64 cc2, .int .i64 cq, .int .i64 cn, .int .i64 cx] rfl rfl 40 _ qN2 cmSz5 rfl on3_0 ?_))
      generalize (W2.setRow w1.heap.size #[.int .i64 ck, .int .i64 cc2, .int .i64 cq, .int .i64 cn, .int .i64 cx]) = W3 at st3_0_r st3_0_s st3_0_gC eb3_0 so3_0_cs so3_0_as  ⊢
      have sl3_r : w.heap.size < W3.heap.size := (Array.getElem?_eq_some_iff.1 st3_0_r).1
      have sl3_s : (w.heap.size + 1) < W3.heap.size := (Array.getElem?_eq_some_iff.1 st3_0_s).1
      have sl3_gC : w1.heap.size < W3.heap.size := (Array.getElem?_eq_some_iff.1 st3_0_gC).1
      clear ow2_cs ow2_as rw2_r rw2_s qN2 d2 lw2_r lw2_s lN2
      have tz1_0 := hN0.below eb3_0
      clear hN2
      obtain ⟨gC, hgC⟩ : ∃ g, g = w1.heap.size := ⟨_, rfl⟩
      rw [← hgC] at st3_0_gC sl3_gC ge_gC neq_gC_r neq_gC_s neo_gC_cs neo_gC_as ⊢
      clear hgC
      go_wp2_with (first | ((with_reducible (refine tpLook ?_)); (refine wpList_load_row rfl 32 _ rfl (w.heap.size + 1) rfl 32 _ (0, 0) _ st3_0_s Tryd.underlying32 rfl (stSize _) ?_)) | ((with_reducible (refine tpLook ?_)); (refine wpList_load_row rfl 40 _ rfl gC rfl 40 _ (0, 0) _ st3_0_gC Tryd.underlying40 rfl cmSz5 ?_)))
      have HD : Hid (doE (sAt (wsh l) i) ⟨ck, cc2, cq, cn, cx⟩ = 0) := by unfold Hid; rw [← HF.out]; exact (doE_may (sAt_may (fun j _ => wsh_may l j)).1).trans (wsh_may l i)
      have HS : Hid (doS (sAt (wsh l) i) ⟨ck, cc2, cq, cn, cx⟩ = sAt (wsh l) (i + 1) ∧ doC (sAt (wsh l) i) ⟨ck, cc2, cq, cn, cx⟩ = cAt (wsh l) i ∧ doA (sAt (wsh l) i) ⟨ck, cc2, cq, cn, cx⟩ = aAt (wsh l) i) := by unfold Hid; rw [doS_ok HD.out, doC_ok HD.out, doA_ok HD.out, ← HF.out]; exact ⟨rfl, rfl, rfl⟩
      have key := vdo_any (sAt (wsh l) i) ck cc2 cq cn cx W3 tz1_0
      rw [HD.out, HS.out.1, HS.out.2.1, HS.out.2.2] at key
      clear HD HS
      simp only [cmA] at key
      generalize hs1 : sAt (wsh l) (i + 1) = s1 at key
      generalize hs2 : cAt (wsh l) i = c1 at key
      generalize hs3 : aAt (wsh l) i = a1 at key
      have HS1 : Hid (sAt (wsh l) (i + 1) = s1) := hs1
      have HS2 : Hid (cAt (wsh l) i = c1 ∧ aAt (wsh l) i = a1) := ⟨hs2, hs3⟩
      clear hs1 hs2 hs3
      refine (key).mono ?_
      rintro e w2 ⟨rfl, bw2⟩
      have d4 := eb3_0.trans (bw2.mono eb3_0.size)
      have tt4_0 := tz1_0.below bw2
      have rw4_r := (bw2.block _ sl3_r).trans st3_0_r
      have lw4_r := Nat.lt_of_lt_of_le sl3_r bw2.size
      have rw4_s := (bw2.block _ sl3_s).trans st3_0_s
      have lw4_s := Nat.lt_of_lt_of_le sl3_s bw2.size
      have rw4_gC := (bw2.block _ sl3_gC).trans st3_0_gC
      have lw4_gC := Nat.lt_of_lt_of_le sl3_gC bw2.size
      have ow4_cs := tOwns_keep so3_0_cs (fun k hk => bw2.block k (so3_0_cs.lt k hk).2)
      have ow4_as := tOwns_keep so3_0_as (fun k hk => bw2.block k (so3_0_as.lt k hk).2)
      clear tz1_0 sl3_r st3_0_r sl3_s st3_0_s sl3_gC st3_0_gC so3_0_cs so3_0_as
      clear bw2
      clear key
      have bN5 : Below w2.heap.size w2 (w2.alloc (.cells #[.int .i64 0, .int .i64 0, .int .i64 0, .int .i64 0, .int .i64 0, .int .i64 0, .int .i64 0, .int .i64 0, .int .i64 0, .int .i64 0, .int .i64 0, .int .i64 0, .int .i64 0, .int .i64 0, .int .i64 0, .int .i64 0, .int .i64 0, .int .i64 0, .int .i64 0, .int .i64 0, .int .i64 0, .int .i64 0, .int .i64 0, .int .i64 0, .int .i64 0, .int .i64 0, .int .i64 0, .int .i64 0, .int .i64 0, .int .i64 0, .int .i64 0, .int .i64 0, .bool false, .bool false, .bool false, .bool false, .bool false, .bool false, .bool false, .bool false] 32)) := (Below.refl _ _).alloc (Nat.le_refl _) _
      have qN5 := heap_alloc_new w2 (.cells #[.int .i64 0, .int .i64 0, .int .i64 0, .int .i64 0, .int .i64 0, .int .i64 0, .int .i64 0, .int .i64 0, .int .i64 0, .int .i64 0, .int .i64 0, .int .i64 0, .int .i64 0, .int .i64 0, .int .i64 0, .int .i64 0, .int .i64 0, .int .i64 0, .int .i64 0, .int .i64 0, .int .i64 0, .int .i64 0, .int .i64 0, .int .i64 0, .int .i64 0, .int .i64 0, .int .i64 0, .int .i64 0, .int .i64 0, .int .i64 0, .int .i64 0, .int .i64 0, .bool false, .bool false, .bool false, .bool false, .bool false, .bool false, .bool false, .bool false] 32)
      generalize hN5 : w2.alloc (.cells #[.int .i64 0, .int .i64 0, .int .i64 0, .int .i64 0, .int .i64 0, .int .i64 0, .int .i64 0, .int .i64 0, .int .i64 0, .int .i64 0, .int .i64 0, .int .i64 0, .int .i64 0, .int .i64 0, .int .i64 0, .int .i64 0, .int .i64 0, .int .i64 0, .int .i64 0, .int .i64 0, .int .i64 0, .int .i64 0, .int .i64 0, .int .i64 0, .int .i64 0, .int .i64 0, .int .i64 0, .int .i64 0, .int .i64 0, .int .i64 0, .int .i64 0, .int .i64 0, .bool false, .bool false, .bool false, .bool false, .bool false, .bool false, .bool false, .bool false] 32) = W5 at bN5 qN5
      have lN5 : w2.heap.size < W5.heap.size := (Array.getElem?_eq_some_iff.1 qN5).1
      have ge_gx : w.heap.size ≤ w2.heap.size := d4.size
      have neq_gx_r : w2.heap.size ≠ w.heap.size := Nat.ne_of_gt lw4_r
      have neq_gx_s : w2.heap.size ≠ (w.heap.size + 1) := Nat.ne_of_gt lw4_s
      have neq_gx_gC : w2.heap.size ≠ gC := Nat.ne_of_gt lw4_gC
      have neo_gx_cs := fun k hk => Nat.ne_of_lt (ow4_cs.lt k hk).2
      have neo_gx_as := fun k hk => Nat.ne_of_lt (ow4_as.lt k hk).2
      have d5 := d4.trans (bN5.mono d4.size)
      have tt5_0 := tt4_0.below bN5
      have rw5_r := (bN5.block _ lw4_r).trans rw4_r
      have lw5_r := Nat.lt_of_lt_of_le lw4_r bN5.size
      have rw5_s := (bN5.block _ lw4_s).trans rw4_s
      have lw5_s := Nat.lt_of_lt_of_le lw4_s bN5.size
      have rw5_gC := (bN5.block _ lw4_gC).trans rw4_gC
      have lw5_gC := Nat.lt_of_lt_of_le lw4_gC bN5.size
      have ow5_cs := tOwns_keep ow4_cs (fun k hk => bN5.block k (ow4_cs.lt k hk).2)
      have ow5_as := tOwns_keep ow4_as (fun k hk => bN5.block k (ow4_as.lt k hk).2)
      clear tt4_0 lw4_r rw4_r lw4_s rw4_s lw4_gC rw4_gC ow4_cs ow4_as
      clear bN5
      have bN6 : Below W5.heap.size W5 (W5.alloc (.cells #[.int .i64 0, .int .i64 0] 28)) := (Below.refl _ _).alloc (Nat.le_refl _) _
      have qN6 := heap_alloc_new W5 (.cells #[.int .i64 0, .int .i64 0] 28)
      generalize hN6 : W5.alloc (.cells #[.int .i64 0, .int .i64 0] 28) = W6 at bN6 qN6
      have lN6 : W5.heap.size < W6.heap.size := (Array.getElem?_eq_some_iff.1 qN6).1
      have ge_gy : w.heap.size ≤ W5.heap.size := d5.size
      have neq_gy_r : W5.heap.size ≠ w.heap.size := Nat.ne_of_gt lw5_r
      have neq_gy_s : W5.heap.size ≠ (w.heap.size + 1) := Nat.ne_of_gt lw5_s
      have neq_gy_gC : W5.heap.size ≠ gC := Nat.ne_of_gt lw5_gC
      have neq_gy_gx : W5.heap.size ≠ w2.heap.size := Nat.ne_of_gt lN5
      have neo_gy_cs := fun k hk => Nat.ne_of_lt (ow5_cs.lt k hk).2
      have neo_gy_as := fun k hk => Nat.ne_of_lt (ow5_as.lt k hk).2
      have d6 := d5.trans (bN6.mono d5.size)
      have tt6_0 := tt5_0.below bN6
      have rw6_r := (bN6.block _ lw5_r).trans rw5_r
      have lw6_r := Nat.lt_of_lt_of_le lw5_r bN6.size
      have rw6_s := (bN6.block _ lw5_s).trans rw5_s
      have lw6_s := Nat.lt_of_lt_of_le lw5_s bN6.size
      have rw6_gC := (bN6.block _ lw5_gC).trans rw5_gC
      have lw6_gC := Nat.lt_of_lt_of_le lw5_gC bN6.size
      have rw6_gx := (bN6.block _ lN5).trans qN5
      have lw6_gx := Nat.lt_of_lt_of_le lN5 bN6.size
      have ow6_cs := tOwns_keep ow5_cs (fun k hk => bN6.block k (ow5_cs.lt k hk).2)
      have ow6_as := tOwns_keep ow5_as (fun k hk => bN6.block k (ow5_as.lt k hk).2)
      clear tt5_0 lw5_r rw5_r lw5_s rw5_s lw5_gC rw5_gC lN5 qN5 ow5_cs ow5_as
      clear bN6
      clear tt6_0
      have so7_0_cs := tOwns_rowE ow6_cs neo_gx_cs ((stA s1))
      have so7_0_as := tOwns_rowE ow6_as neo_gx_as ((stA s1))
      have on7_0 : ((stA s1) : Array Value).all (·.oneCell') = true := by first | exact stA_one _ | exact tlA_one _ _ _ _ | simp [Value.oneCell']
      have st7_0_r := (setRow_other W6 w2.heap.size w.heap.size ((stA s1)) (Ne.symm neq_gx_r)).trans rw6_r
      have st7_0_s := (setRow_other W6 w2.heap.size (w.heap.size + 1) ((stA s1)) (Ne.symm neq_gx_s)).trans rw6_s
      have st7_0_gC := (setRow_other W6 w2.heap.size gC ((stA s1)) (Ne.symm neq_gx_gC)).trans rw6_gC
      have st7_0_gx := setRow_heap W6 w2.heap.size _ ((stA s1)) 32 _ rw6_gx
      have st7_0_gy := (setRow_other W6 w2.heap.size W5.heap.size ((stA s1)) neq_gy_gx).trans qN6
      have eb7_0 := tBelow_row d6 (show w.heap.size ≤ w2.heap.size by omega) ((stA s1))
      have so7_1_cs := tOwns_rowE so7_0_cs neo_gy_cs (#[.int .i64 c1, .int .i64 a1])
      have so7_1_as := tOwns_rowE so7_0_as neo_gy_as (#[.int .i64 c1, .int .i64 a1])
      have on7_1 : (#[.int .i64 c1, .int .i64 a1] : Array Value).all (·.oneCell') = true := by first | exact stA_one _ | exact tlA_one _ _ _ _ | simp [Value.oneCell']
      have st7_1_r := (setRow_other (W6.setRow w2.heap.size (stA s1)) W5.heap.size w.heap.size (#[.int .i64 c1, .int .i64 a1]) (Ne.symm neq_gy_r)).trans st7_0_r
      have st7_1_s := (setRow_other (W6.setRow w2.heap.size (stA s1)) W5.heap.size (w.heap.size + 1) (#[.int .i64 c1, .int .i64 a1]) (Ne.symm neq_gy_s)).trans st7_0_s
      have st7_1_gC := (setRow_other (W6.setRow w2.heap.size (stA s1)) W5.heap.size gC (#[.int .i64 c1, .int .i64 a1]) (Ne.symm neq_gy_gC)).trans st7_0_gC
      have st7_1_gx := (setRow_other (W6.setRow w2.heap.size (stA s1)) W5.heap.size w2.heap.size (#[.int .i64 c1, .int .i64 a1]) (Ne.symm neq_gy_gx)).trans st7_0_gx
      have st7_1_gy := setRow_heap (W6.setRow w2.heap.size (stA s1)) W5.heap.size _ (#[.int .i64 c1, .int .i64 a1]) 28 _ st7_0_gy
      have eb7_1 := tBelow_row eb7_0 (show w.heap.size ≤ W5.heap.size by omega) (#[.int .i64 c1, .int .i64 a1])
      go_upto_region 11 with (first | ((with_reducible (refine tpLook ?_)); (refine wpList_store_row rfl 32 (.tmp 13) (.tmp 36) rfl w2.heap.size (stA s1) rfl rfl 32 _ rw6_gx (stSize _) rfl on7_0 ?_)) | ((with_reducible (refine tpLook ?_)); (refine wpList_store_row rfl 28 (.tmp 14) (.tmp 37) rfl W5.heap.size #[.int .i64 c1, .int .i64 a1] rfl rfl 28 _ st7_0_gy anSize rfl on7_1 ?_)))
      generalize ((W6.setRow w2.heap.size (stA s1)).setRow W5.heap.size #[.int .i64 c1, .int .i64 a1]) = W7 at st7_1_r st7_1_s st7_1_gC st7_1_gx st7_1_gy eb7_1 so7_1_cs so7_1_as  ⊢
      have sl7_r : w.heap.size < W7.heap.size := (Array.getElem?_eq_some_iff.1 st7_1_r).1
      have sl7_s : (w.heap.size + 1) < W7.heap.size := (Array.getElem?_eq_some_iff.1 st7_1_s).1
      have sl7_gC : gC < W7.heap.size := (Array.getElem?_eq_some_iff.1 st7_1_gC).1
      have sl7_gx : w2.heap.size < W7.heap.size := (Array.getElem?_eq_some_iff.1 st7_1_gx).1
      have sl7_gy : W5.heap.size < W7.heap.size := (Array.getElem?_eq_some_iff.1 st7_1_gy).1
      clear ow6_cs ow6_as rw6_r rw6_s rw6_gC rw6_gx qN6 d6 so7_0_cs so7_0_as st7_0_r st7_0_s st7_0_gC st7_0_gx st7_0_gy eb7_0 lw6_r lw6_s lw6_gC lw6_gx lN6
      have tz2_0 := hN0.below eb7_1
      clear hN5
      clear hN6
      obtain ⟨gx, hgx⟩ : ∃ g, g = w2.heap.size := ⟨_, rfl⟩
      rw [← hgx] at st7_1_gx sl7_gx ge_gx neq_gx_r neq_gx_s neq_gx_gC neq_gy_gx neo_gx_cs neo_gx_as ⊢
      clear hgx
      obtain ⟨gy, hgy⟩ : ∃ g, g = W5.heap.size := ⟨_, rfl⟩
      rw [← hgy] at st7_1_gy sl7_gy ge_gy neq_gy_r neq_gy_s neq_gy_gC neq_gy_gx neo_gy_cs neo_gy_as ⊢
      clear hgy
      clear tz2_0
      have so8_0_cs := tOwns_rowE so7_1_cs (tOwns_neE so7_1_cs st7_1_s (by decide)) ((stA s1))
      have so8_0_as := tOwns_rowE so7_1_as (tOwns_neE so7_1_as st7_1_s (by decide)) ((stA s1))
      have on8_0 : ((stA s1) : Array Value).all (·.oneCell') = true := by first | exact stA_one _ | exact tlA_one _ _ _ _ | simp [Value.oneCell']
      have st8_0_r := (setRow_other W7 (w.heap.size + 1) w.heap.size ((stA s1)) (by omega)).trans st7_1_r
      have st8_0_s := setRow_heap W7 (w.heap.size + 1) _ ((stA s1)) 32 _ st7_1_s
      have st8_0_gC := (setRow_other W7 (w.heap.size + 1) gC ((stA s1)) neq_gC_s).trans st7_1_gC
      have st8_0_gx := (setRow_other W7 (w.heap.size + 1) gx ((stA s1)) neq_gx_s).trans st7_1_gx
      have st8_0_gy := (setRow_other W7 (w.heap.size + 1) gy ((stA s1)) neq_gy_s).trans st7_1_gy
      have eb8_0 := tBelow_row eb7_1 (show w.heap.size ≤ (w.heap.size + 1) by omega) ((stA s1))
      go_upto_region 12 with (first | ((with_reducible (refine tpLook ?_)); (refine wpList_load_row rfl 32 _ rfl gx rfl 32 _ (0, 0) _ st7_1_gx Tryd.underlying32 rfl (stSize _) ?_)) | ((with_reducible (refine tpLook ?_)); (refine wpList_store_row rfl 32 (.tmp 8) (.tmp 44) rfl (w.heap.size + 1) (stA s1) rfl rfl 32 _ st7_1_s (stSize _) rfl on8_0 ?_)))
      generalize (W7.setRow (w.heap.size + 1) (stA s1)) = W8 at st8_0_r st8_0_s st8_0_gC st8_0_gx st8_0_gy eb8_0 so8_0_cs so8_0_as  ⊢
      have sl8_r : w.heap.size < W8.heap.size := (Array.getElem?_eq_some_iff.1 st8_0_r).1
      have sl8_s : (w.heap.size + 1) < W8.heap.size := (Array.getElem?_eq_some_iff.1 st8_0_s).1
      have sl8_gC : gC < W8.heap.size := (Array.getElem?_eq_some_iff.1 st8_0_gC).1
      have sl8_gx : gx < W8.heap.size := (Array.getElem?_eq_some_iff.1 st8_0_gx).1
      have sl8_gy : gy < W8.heap.size := (Array.getElem?_eq_some_iff.1 st8_0_gy).1
      clear so7_1_cs so7_1_as st7_1_r st7_1_s st7_1_gC st7_1_gx st7_1_gy eb7_1 sl7_r sl7_s sl7_gC sl7_gx sl7_gy
      have tz3_0 := hN0.below eb8_0
      have hzz9 := eb8_0.size
      go_upto_region 13 with (first | ((with_reducible (refine tpLook ?_)); (refine wpList_load_row rfl 40 _ rfl gC rfl 40 _ (0, 0) _ st8_0_gC Tryd.underlying40 rfl cmSz5 ?_)) | (at_builtin; refine wpList_append_one _ rfl _ _ 33 rfl w.heap.size 40 5 40 _ Tryd.underlying33 infoCm rfl (by decide) _ i (crL (wsh l) i) W8.heap.size [.int .i64 ck, .int .i64 cc2, .int .i64 cq, .int .i64 cn, .int .i64 cx] rfl rfl (so8_0_cs.alloc _) rfl (tOne_range (heap_alloc_new _ _)) (by first | exact stA_one _ | exact tlA_one _ _ _ _ | simp [Value.oneCell']) (by omega) (by omega) (by simp; omega) ?_))
      intro v9 W9 how9 hgr9
      have bal9 : Below W8.heap.size W8 (W8.alloc (.cells #[.int .i64 ck, .int .i64 cc2, .int .i64 cq, .int .i64 cn, .int .i64 cx] 40)) := (Below.refl _ _).alloc (Nat.le_refl _) _
      have hoa9 := so8_0_cs.alloc (.cells #[.int .i64 ck, .int .i64 cc2, .int .i64 cq, .int .i64 cn, .int .i64 cx] 40)
      have d9 : Below w.heap.size w W9 := (eb8_0.trans (bal9.mono eb8_0.size)).grown hgr9 (Nat.le_trans hzz9 bal9.size) (fun k hk => (hoa9.lt k hk).1)
      have ra9_r := (bal9.block _ sl8_r).trans st8_0_r
      have rb9_r := (hgr9.block w.heap.size (Nat.lt_of_lt_of_le sl8_r bal9.size) (fun e => tOwns_neE hoa9 ra9_r (by decide) _ e.symm rfl)).trans ra9_r
      have lb9_r : w.heap.size < W9.heap.size := (Array.getElem?_eq_some_iff.1 rb9_r).1
      clear ra9_r
      have ra9_s := (bal9.block _ sl8_s).trans st8_0_s
      have rb9_s := (hgr9.block (w.heap.size + 1) (Nat.lt_of_lt_of_le sl8_s bal9.size) (fun e => tOwns_neE hoa9 ra9_s (by decide) _ e.symm rfl)).trans ra9_s
      have lb9_s : (w.heap.size + 1) < W9.heap.size := (Array.getElem?_eq_some_iff.1 rb9_s).1
      clear ra9_s
      have ra9_gy := (bal9.block _ sl8_gy).trans st8_0_gy
      have rb9_gy := (hgr9.block gy (Nat.lt_of_lt_of_le sl8_gy bal9.size) (fun e => neo_gy_cs _ e.symm rfl)).trans ra9_gy
      have lb9_gy : gy < W9.heap.size := (Array.getElem?_eq_some_iff.1 rb9_gy).1
      clear ra9_gy
      have oy9_as := tOwns_keep so8_0_as (fun k hk => bal9.block k (so8_0_as.lt k hk).2)
      have oz9_as := tOwns_grown oy9_as hgr9 (tOwns_two oy9_as hoa9 (by decide))
      clear oy9_as
      clear tz3_0
      clear bal9 hoa9 hgr9 hzz9 eb8_0 st8_0_r sl8_r st8_0_s sl8_s st8_0_gC sl8_gC st8_0_gx sl8_gx st8_0_gy sl8_gy so8_0_as so8_0_cs
      have tz4_0 := hN0.below d9
      have hzz10 := d9.size
      go_wp2_with (first | ((with_reducible (refine tpLook ?_)); (refine wpList_load_row rfl 28 _ rfl gy rfl 28 _ (0, 0) _ rb9_gy Tryd.underlying28 rfl anSize ?_)) | (at_builtin; refine wpList_append_one _ rfl _ _ 34 rfl w.heap.size 28 2 16 _ Tryd.underlying34 infoAn rfl (by decide) _ i (arL (wsh l) i) W9.heap.size [.int .i64 c1, .int .i64 a1] rfl rfl (oz9_as.alloc _) rfl (tOne_range (heap_alloc_new _ _)) (by first | exact stA_one _ | exact tlA_one _ _ _ _ | simp [Value.oneCell']) (by omega) (by omega) (by simp; omega) ?_))
      intro v10 W10 how10 hgr10
      have bal10 : Below W9.heap.size W9 (W9.alloc (.cells #[.int .i64 c1, .int .i64 a1] 28)) := (Below.refl _ _).alloc (Nat.le_refl _) _
      have hoa10 := oz9_as.alloc (.cells #[.int .i64 c1, .int .i64 a1] 28)
      have d10 : Below w.heap.size w W10 := (d9.trans (bal10.mono d9.size)).grown hgr10 (Nat.le_trans hzz10 bal10.size) (fun k hk => (hoa10.lt k hk).1)
      have ra10_r := (bal10.block _ lb9_r).trans rb9_r
      have rb10_r := (hgr10.block w.heap.size (Nat.lt_of_lt_of_le lb9_r bal10.size) (fun e => tOwns_neE hoa10 ra10_r (by decide) _ e.symm rfl)).trans ra10_r
      have lb10_r : w.heap.size < W10.heap.size := (Array.getElem?_eq_some_iff.1 rb10_r).1
      clear ra10_r
      have ra10_s := (bal10.block _ lb9_s).trans rb9_s
      have rb10_s := (hgr10.block (w.heap.size + 1) (Nat.lt_of_lt_of_le lb9_s bal10.size) (fun e => tOwns_neE hoa10 ra10_s (by decide) _ e.symm rfl)).trans ra10_s
      have lb10_s : (w.heap.size + 1) < W10.heap.size := (Array.getElem?_eq_some_iff.1 rb10_s).1
      clear ra10_s
      have oy10_cs := tOwns_keep how9 (fun k hk => bal10.block k (how9.lt k hk).2)
      have oz10_cs := tOwns_grown oy10_cs hgr10 (tOwns_two oy10_cs hoa10 (by decide))
      clear oy10_cs
      clear tz4_0
      clear bal10 hoa10 hgr10 hzz10 d9 rb9_r lb9_r rb9_s lb9_s rb9_gy lb9_gy how9 oz9_as
      have tz5_0 := hN0.below d10
      go_wp2
      go_roundw
      case rel => exact ⟨i + 1, by omega, by go_num, by have e : crL (wsh l) (i + 1) = crL (wsh l) i ++ [.int .i64 ck, .int .i64 cc2, .int .i64 cq, .int .i64 cn, .int .i64 cx] := (by rw [crL, HF.out]; rfl); rw [e]; exact oz10_cs, by have e : arL (wsh l) (i + 1) = arL (wsh l) i ++ [.int .i64 c1, .int .i64 a1] := (by rw [arL, HS2.out.1, HS2.out.2]); rw [e]; exact how10, rb10_r, by rw [HS1.out]; exact rb10_s, d10⟩
      case measure => simp [intOf]; omega
    · obtain rfl : i = n := by omega
      have hnN : ¬ ((i : Int) < (N : Int) ∧ (i : Int) < (most : Int)) := by have := HMIN.out; omega
      have HST := (sAt_may (f := wsh l) (i := i) (fun j _ => wsh_may l j)).1
      generalize hst : sAt (wsh l) i = sT at rS HST
      have HSE : Hid (sAt (wsh l) i = sT) := hst
      clear hst
      have HCK : Hid (stoE sT = 0) := stoE_ok HST
      clear HST
      have hz2 : ¬ (i : Int) < (N : Int) ∨ ((i : Int) < (N : Int) ∧ ¬ (i : Int) < (most : Int)) := by omega
      clear hnN hlt
      rcases hz2 with h1 | ⟨h1, h2⟩
      · clear hin
        go_wp2_with fail
        apply t_merge0 (fun Wz => Wz.heap[w.heap.size]? = some (.cells (stA sT) 32) ∧ Wz.heap[(w.heap.size + 1)]? = some (.cells (stA sT) 32) ∧ ((Wz).ownsRow w.heap.size 40 5 (.slice gc i cc) i (crL (wsh l) i)) ∧ ((Wz).ownsRow w.heap.size 28 2 (.slice ga i ca) i (arL (wsh l) i)) ∧ Below w.heap.size w Wz)
        · intro K2 HK2
          refine wp_region_held (S := fun w' => w'.heap[(w.heap.size + 1)]? = some (.cells (stA sT) 32)) (by kernel_rfl) ?_
          have fx_r : wr.drew.heap[w.heap.size]? = some (.cells (stA sto0) 32) := rR
          have fx_s : wr.drew.heap[(w.heap.size + 1)]? = some (.cells (stA sT) 32) := rS
          have ed0 : Below wr.heap.size wr wr.drew := (Below.refl _ _).drew
          have fo_cs := tOwns_keep oc (fun k hk => ed0.block k (oc.lt k hk).2)
          have fo_as := tOwns_keep oa (fun k hk => ed0.block k (oa.lt k hk).2)
          refine heldTake (i := 0) 53 (v := .agg (stA sT)) rfl rfl (by kernel_rfl) (by kernel_rfl) (by kernel_rfl) (fun _ _ _ h => h) (yieldRow (by rfl) 32 (.tmp 8) rfl (w.heap.size + 1) rfl (stA sT) 32 (0, 0) _ (fun w' hw' => hw') Tryd.underlying32 rfl (stSize _)) fx_s ?_
          simp only [Act.put, List.setIfInBounds_toArray, List.set_cons_zero, List.set_cons_succ]
          refine heldTake (i := 1) 54 (v := .slice gc i cc) rfl rfl (by kernel_rfl) (by kernel_rfl) (by kernel_rfl) (fun _ _ _ h => h) (Or.inl ⟨by rfl, fun _ _ => by kernel_rfl⟩) fx_s ?_
          simp only [Act.put, List.setIfInBounds_toArray, List.set_cons_zero, List.set_cons_succ]
          refine heldTake (i := 2) 55 (v := .slice ga i ca) rfl rfl (by kernel_rfl) (by kernel_rfl) (by kernel_rfl) (fun _ _ _ h => h) (Or.inl ⟨by rfl, fun _ _ => by kernel_rfl⟩) fx_s ?_
          simp only [Act.put, List.setIfInBounds_toArray, List.set_cons_zero, List.set_cons_succ]
          refine heldTake (i := 3) 56 (v := .agg (stA sT)) rfl rfl (by kernel_rfl) (by kernel_rfl) (by kernel_rfl) (fun _ _ _ h => h) (yieldRow (by rfl) 32 (.tmp 8) rfl (w.heap.size + 1) rfl (stA sT) 32 (0, 0) _ (fun w' hw' => hw') Tryd.underlying32 rfl (stSize _)) fx_s ?_
          simp only [Act.put, List.setIfInBounds_toArray, List.set_cons_zero, List.set_cons_succ]
          refine heldOne (i := 4) (by kernel_rfl) (opCall (i := 4) (d := 57) (f := 14) (args := #[.agg (stA sT)]) rfl (by kernel_rfl) rfl (by kernel_rfl) ((vCheck_any sT wr.drew).mono ?_))
          rintro e' wc1 ⟨rfl, bc1⟩
          rw [HCK.out]
          have fc1_r := (bc1.block _ (Array.getElem?_eq_some_iff.1 fx_r).1).trans fx_r
          have fc1_s := (bc1.block _ (Array.getElem?_eq_some_iff.1 fx_s).1).trans fx_s
          have oc1_cs := tOwns_keep fo_cs (fun k hk => bc1.block k (fo_cs.lt k hk).2)
          have oc1_as := tOwns_keep fo_as (fun k hk => bc1.block k (fo_as.lt k hk).2)
          have ec1 := (hbel.drew).trans (bc1.mono (hbel.drew).size)
          refine ⟨_, rfl, fc1_s, ?_⟩
          simp only [Act.put, List.setIfInBounds_toArray, List.set_cons_zero, List.set_cons_succ]
          refine heldTake (i := 5) 58 (v := .bool true) rfl rfl (by kernel_rfl) (by kernel_rfl) (by kernel_rfl) (fun _ _ _ h => h) (Or.inl ⟨by rfl, fun _ _ => by kernel_rfl⟩) fc1_s ?_
          simp only [Act.put, List.setIfInBounds_toArray, List.set_cons_zero, List.set_cons_succ]
          have hone2 : ((stA sT) : Array Value).all (·.oneCell') = true := by first | exact stA_one _ | exact tlA_one _ _ _ _ | simp [Value.oneCell']
          have fs2_r := setRow_heap wc1 w.heap.size _ ((stA sT)) 32 _ fc1_r
          have fs2_s := (setRow_other wc1 w.heap.size (w.heap.size + 1) ((stA sT)) (by omega)).trans fc1_s
          have os2_cs := tOwns_rowE oc1_cs (tOwns_neE oc1_cs fc1_r (by decide)) ((stA sT))
          have os2_as := tOwns_rowE oc1_as (tOwns_neE oc1_as fc1_r (by decide)) ((stA sT))
          have eb2 := tBelow_row ec1 (show w.heap.size ≤ w.heap.size by omega) ((stA sT))
          refine heldOne (i := 6) (by kernel_rfl) (opStore (i := 6) rfl (by kernel_rfl) rfl 32 (.tmp 4) (.tmp 53) rfl w.heap.size (stA sT) (by kernel_rfl) (by kernel_rfl) 32 _ fc1_r (stSize _) rfl hone2 ⟨fs2_s, ?_⟩)
          refine heldTake (i := 7) 5 (v := .slice gc i cc) rfl rfl (by kernel_rfl) (by kernel_rfl) (by kernel_rfl) (fun _ _ _ h => h) (Or.inl ⟨by rfl, fun _ _ => by kernel_rfl⟩) fs2_s ?_
          simp only [Act.put, List.setIfInBounds_toArray, List.set_cons_zero, List.set_cons_succ]
          refine heldTake (i := 8) 6 (v := .slice ga i ca) rfl rfl (by kernel_rfl) (by kernel_rfl) (by kernel_rfl) (fun _ _ _ h => h) (Or.inl ⟨by rfl, fun _ _ => by kernel_rfl⟩) fs2_s ?_
          simp only [Act.put, List.setIfInBounds_toArray, List.set_cons_zero, List.set_cons_succ]
          refine heldTake (i := 9) 7 (v := .bool true) rfl rfl (by kernel_rfl) (by kernel_rfl) (by kernel_rfl) (fun _ _ _ h => h) (Or.inl ⟨by rfl, fun _ _ => by kernel_rfl⟩) fs2_s ?_
          simp only [Act.put, List.setIfInBounds_toArray, List.set_cons_zero, List.set_cons_succ]
          exact wpAnyH_done (by kernel_rfl) (HK2.out _ ⟨fs2_r, fs2_s, os2_cs, os2_as, eb2⟩) _
        rintro W1 ⟨hr1_r, hr1_s, ho1_cs, ho1_as, d1⟩
        have hl1_r : w.heap.size < W1.heap.size := (Array.getElem?_eq_some_iff.1 hr1_r).1
        have hl1_s : (w.heap.size + 1) < W1.heap.size := (Array.getElem?_eq_some_iff.1 hr1_s).1
        clear hbel rR lR rS lS oc oa
        have tz1_0 := hN0.below d1
        go_wp2
        refine bodyPost_ret (cRow4 rfl _ _ w.heap.size 32 _ (0, 0) _ rfl hr1_r Tryd.underlying32 rfl (stSize _)) rfl ?_
        rw [HSE.out]
        exact ⟨_, _, rfl, ho1_cs, ho1_as, d1⟩
      · clear hin
        go_wp2_with fail
        apply t_merge0 (fun Wz => Wz.heap[w.heap.size]? = some (.cells (stA sT) 32) ∧ Wz.heap[(w.heap.size + 1)]? = some (.cells (stA sT) 32) ∧ ((Wz).ownsRow w.heap.size 40 5 (.slice gc i cc) i (crL (wsh l) i)) ∧ ((Wz).ownsRow w.heap.size 28 2 (.slice ga i ca) i (arL (wsh l) i)) ∧ Below w.heap.size w Wz)
        · intro K2 HK2
          refine wp_region_held (S := fun w' => w'.heap[(w.heap.size + 1)]? = some (.cells (stA sT) 32)) (by kernel_rfl) ?_
          have fx_r : wr.drew.heap[w.heap.size]? = some (.cells (stA sto0) 32) := rR
          have fx_s : wr.drew.heap[(w.heap.size + 1)]? = some (.cells (stA sT) 32) := rS
          have ed0 : Below wr.heap.size wr wr.drew := (Below.refl _ _).drew
          have fo_cs := tOwns_keep oc (fun k hk => ed0.block k (oc.lt k hk).2)
          have fo_as := tOwns_keep oa (fun k hk => ed0.block k (oa.lt k hk).2)
          refine heldTake (i := 0) 53 (v := .agg (stA sT)) rfl rfl (by kernel_rfl) (by kernel_rfl) (by kernel_rfl) (fun _ _ _ h => h) (yieldRow (by rfl) 32 (.tmp 8) rfl (w.heap.size + 1) rfl (stA sT) 32 (0, 0) _ (fun w' hw' => hw') Tryd.underlying32 rfl (stSize _)) fx_s ?_
          simp only [Act.put, List.setIfInBounds_toArray, List.set_cons_zero, List.set_cons_succ]
          refine heldTake (i := 1) 54 (v := .slice gc i cc) rfl rfl (by kernel_rfl) (by kernel_rfl) (by kernel_rfl) (fun _ _ _ h => h) (Or.inl ⟨by rfl, fun _ _ => by kernel_rfl⟩) fx_s ?_
          simp only [Act.put, List.setIfInBounds_toArray, List.set_cons_zero, List.set_cons_succ]
          refine heldTake (i := 2) 55 (v := .slice ga i ca) rfl rfl (by kernel_rfl) (by kernel_rfl) (by kernel_rfl) (fun _ _ _ h => h) (Or.inl ⟨by rfl, fun _ _ => by kernel_rfl⟩) fx_s ?_
          simp only [Act.put, List.setIfInBounds_toArray, List.set_cons_zero, List.set_cons_succ]
          refine heldTake (i := 3) 56 (v := .agg (stA sT)) rfl rfl (by kernel_rfl) (by kernel_rfl) (by kernel_rfl) (fun _ _ _ h => h) (yieldRow (by rfl) 32 (.tmp 8) rfl (w.heap.size + 1) rfl (stA sT) 32 (0, 0) _ (fun w' hw' => hw') Tryd.underlying32 rfl (stSize _)) fx_s ?_
          simp only [Act.put, List.setIfInBounds_toArray, List.set_cons_zero, List.set_cons_succ]
          refine heldOne (i := 4) (by kernel_rfl) (opCall (i := 4) (d := 57) (f := 14) (args := #[.agg (stA sT)]) rfl (by kernel_rfl) rfl (by kernel_rfl) ((vCheck_any sT wr.drew).mono ?_))
          rintro e' wc1 ⟨rfl, bc1⟩
          rw [HCK.out]
          have fc1_r := (bc1.block _ (Array.getElem?_eq_some_iff.1 fx_r).1).trans fx_r
          have fc1_s := (bc1.block _ (Array.getElem?_eq_some_iff.1 fx_s).1).trans fx_s
          have oc1_cs := tOwns_keep fo_cs (fun k hk => bc1.block k (fo_cs.lt k hk).2)
          have oc1_as := tOwns_keep fo_as (fun k hk => bc1.block k (fo_as.lt k hk).2)
          have ec1 := (hbel.drew).trans (bc1.mono (hbel.drew).size)
          refine ⟨_, rfl, fc1_s, ?_⟩
          simp only [Act.put, List.setIfInBounds_toArray, List.set_cons_zero, List.set_cons_succ]
          refine heldTake (i := 5) 58 (v := .bool true) rfl rfl (by kernel_rfl) (by kernel_rfl) (by kernel_rfl) (fun _ _ _ h => h) (Or.inl ⟨by rfl, fun _ _ => by kernel_rfl⟩) fc1_s ?_
          simp only [Act.put, List.setIfInBounds_toArray, List.set_cons_zero, List.set_cons_succ]
          have hone2 : ((stA sT) : Array Value).all (·.oneCell') = true := by first | exact stA_one _ | exact tlA_one _ _ _ _ | simp [Value.oneCell']
          have fs2_r := setRow_heap wc1 w.heap.size _ ((stA sT)) 32 _ fc1_r
          have fs2_s := (setRow_other wc1 w.heap.size (w.heap.size + 1) ((stA sT)) (by omega)).trans fc1_s
          have os2_cs := tOwns_rowE oc1_cs (tOwns_neE oc1_cs fc1_r (by decide)) ((stA sT))
          have os2_as := tOwns_rowE oc1_as (tOwns_neE oc1_as fc1_r (by decide)) ((stA sT))
          have eb2 := tBelow_row ec1 (show w.heap.size ≤ w.heap.size by omega) ((stA sT))
          refine heldOne (i := 6) (by kernel_rfl) (opStore (i := 6) rfl (by kernel_rfl) rfl 32 (.tmp 4) (.tmp 53) rfl w.heap.size (stA sT) (by kernel_rfl) (by kernel_rfl) 32 _ fc1_r (stSize _) rfl hone2 ⟨fs2_s, ?_⟩)
          refine heldTake (i := 7) 5 (v := .slice gc i cc) rfl rfl (by kernel_rfl) (by kernel_rfl) (by kernel_rfl) (fun _ _ _ h => h) (Or.inl ⟨by rfl, fun _ _ => by kernel_rfl⟩) fs2_s ?_
          simp only [Act.put, List.setIfInBounds_toArray, List.set_cons_zero, List.set_cons_succ]
          refine heldTake (i := 8) 6 (v := .slice ga i ca) rfl rfl (by kernel_rfl) (by kernel_rfl) (by kernel_rfl) (fun _ _ _ h => h) (Or.inl ⟨by rfl, fun _ _ => by kernel_rfl⟩) fs2_s ?_
          simp only [Act.put, List.setIfInBounds_toArray, List.set_cons_zero, List.set_cons_succ]
          refine heldTake (i := 9) 7 (v := .bool true) rfl rfl (by kernel_rfl) (by kernel_rfl) (by kernel_rfl) (fun _ _ _ h => h) (Or.inl ⟨by rfl, fun _ _ => by kernel_rfl⟩) fs2_s ?_
          simp only [Act.put, List.setIfInBounds_toArray, List.set_cons_zero, List.set_cons_succ]
          exact wpAnyH_done (by kernel_rfl) (HK2.out _ ⟨fs2_r, fs2_s, os2_cs, os2_as, eb2⟩) _
        rintro W1 ⟨hr1_r, hr1_s, ho1_cs, ho1_as, d1⟩
        have hl1_r : w.heap.size < W1.heap.size := (Array.getElem?_eq_some_iff.1 hr1_r).1
        have hl1_s : (w.heap.size + 1) < W1.heap.size := (Array.getElem?_eq_some_iff.1 hr1_s).1
        clear hbel rR lR rS lS oc oa
        have tz1_0 := hN0.below d1
        go_wp2
        refine bodyPost_ret (cRow4 rfl _ _ w.heap.size 32 _ (0, 0) _ rfl hr1_r Tryd.underlying32 rfl (stSize _)) rfl ?_
        rw [HSE.out]
        exact ⟨_, _, rfl, ho1_cs, ho1_as, d1⟩
end Go.Proofs.YtmpefofifbehjabDoor
