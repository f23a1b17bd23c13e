/-
  The walk of a ply, whichever it is.
-/
import Derived.Test.YticjofjghpdmpaaDoorMtPlyA
import Derived.Test.YticjofjghpdmpaaDoorMtPlyB
import Derived.Test.YticjofjghpdmpaaDoorPlyOpen
import Derived.Test.YticjofjghpdmpaaDoorPaxCheck
namespace Go.Proofs.YticjofjghpdmpaaDoor
open Go.RowKit
set_option linter.unusedVariables false

theorem pickNat (x : Int) (many : Nat) (h : 0 < many) : ∃ n : Nat, pick x (many : Int) = (n : Int) ∧ n < many := by
  have := pick_range x (many : Int) (by omega)
  exact ⟨(pick x (many : Int)).toNat, by omega, by omega⟩
theorem play_any (w : World) (m : Nat) (σ : Mt) (f ys : Nat → Value) (bs : Nat → Option Nat) (h : St w m σ f ys bs) (hI : MInv σ) (hr : σ.rounds < 65000) (ht : NTab w) (hm : 0 < m) (p : Cmd) (hp : PlyI p) :
    Calls Tryd.prog 24 #[.pointer (some ⟨m, 0, none⟩), .agg (pyC p).toArray] w fun e w' => e = .returned (.tuple #[]) ∧ Res w m σ.rounds w' := by
  obtain ⟨node, bid, rounds, ch⟩ := σ
  obtain ⟨pk, pc, ps, pn, pv⟩ := p
  obtain ⟨ik, ic, is, in4, iv⟩ := hp
  obtain ⟨n, hn, hn5⟩ := pickNat pc 5 (by omega)
  obtain ⟨k, hk, hk3⟩ := pickNat ps 3 (by omega)
  obtain ⟨kd, hkd, hkd2⟩ := pickNat pk 12 (by omega)
  obtain ⟨s, hs, hs3⟩ := pickNat pn 3 (by omega)
  cases hbk : bid k with
  | none => exact play_begin0 w m node bid rounds ch f ys bs h hI hr ht hm pk pc ps pn pv ik ic is in4 iv n k kd hn hn5 hk hk3 hkd hkd2 hbk
  | some B =>
    rcases Nat.lt_or_ge kd 6 with h6 | h6
    · rcases Nat.eq_zero_or_pos kd with h0 | h0
      · exact play_begin1 w m node bid rounds ch f ys bs h hI hr ht hm pk pc ps pn pv ik ic is in4 iv n k kd hn hn5 hk hk3 hkd hkd2 h0
      · exact play_promise w m node bid rounds ch f ys bs h hI hr ht hm pk pc ps pn pv ik ic is in4 iv n k kd hn hn5 hk hk3 hkd hkd2 h0 h6 B hbk
    · rcases Nat.lt_or_ge (countOf B) 3 with hc | hc
      · exact play_few w m node bid rounds ch f ys bs h hI hr ht hm pk pc ps pn pv ik ic is in4 iv n k kd hn hn5 hk hk3 hkd hkd2 h6 B hbk (by omega)
      · cases hw : B.what s with
        | some c => exact play_again w m node bid rounds ch f ys bs h hI hr ht hm pk pc ps pn pv ik ic is in4 iv n k kd hn hn5 hk hk3 hkd hkd2 h6 B hbk hc s hs hs3 c hw
        | none =>
          cases hu : pickO (listsOf B) (s : Int) with
          | some u => exact play_ask1 w m node bid rounds ch f ys bs h hI hr ht hm pk pc ps pn pv ik ic is in4 iv n k kd hn hn5 hk hk3 hkd hkd2 h6 B hbk hc s hs hs3 hw u hu
          | none => exact play_ask2 w m node bid rounds ch f ys bs h hI hr ht hm pk pc ps pn pv ik ic is in4 iv n k kd hn hn5 hk hk3 hkd hkd2 h6 B hbk hc s hs hs3 hw hu
end Go.Proofs.YticjofjghpdmpaaDoor
/-
  The walk of the law PaxosOne: no two commands are chosen in a slot.
-/
namespace Go.Proofs.YticjofjghpdmpaaDoor
open Go.RowKit
set_option linter.unusedVariables false

/-- a new match -/
def newMt : Array Value := #[.int .i64 0, .int .i64 0, .slice none 0 0, .int .i64 0, .int .i64 0, .slice none 0 0, .int .i64 0, .int .i64 0, .slice none 0 0, .int .i64 0, .int .i64 0, .slice none 0 0, .int .i64 0, .int .i64 0, .slice none 0 0,
  .pointer none, .pointer none, .pointer none, .int .i64 0,
  .int .i64 0, .int .i64 0, .int .i64 0, .int .i64 0, .int .i64 0, .int .i64 0, .int .i64 0, .int .i64 0, .int .i64 0, .int .i64 0, .int .i64 0, .int .i64 0, .int .i64 0, .int .i64 0, .int .i64 0,
  .bool false, .bool false, .bool false, .bool true]
theorem St.new (w : World) (m : Nat) (hg : w.heap[m]? = some (.cells newMt 61)) : St w m newM (fun j => (newMt[j]?).getD undef) (fun _ => .slice none 0 0) (fun _ => none) := by
  refine ⟨⟨newMt, hg, rfl, fun j hj => ?_⟩, ⟨fun n hn => ?_, fun n hn => ?_, fun n hn => ?_, fun k hk => ?_, rfl, fun s hs c hc => ?_, fun s hs => ?_, rfl⟩, fun n hn => ⟨World.ownsRow_nil _ _ _ _, by show 0 ≤ 40; omega⟩, fun k hk _ => rfl, fun k hk B hB => ?_, fun k k' g hk hk' e => ?_, fun k g hk e => ?_⟩
  · rw [Array.getElem?_eq_getElem (show j < newMt.size from hj)]
    rfl
  · rcases (by omega : n = 0 ∨ n = 1 ∨ n = 2 ∨ n = 3 ∨ n = 4) with rfl | rfl | rfl | rfl | rfl <;> rfl
  · rcases (by omega : n = 0 ∨ n = 1 ∨ n = 2 ∨ n = 3 ∨ n = 4) with rfl | rfl | rfl | rfl | rfl <;> rfl
  · rcases (by omega : n = 0 ∨ n = 1 ∨ n = 2 ∨ n = 3 ∨ n = 4) with rfl | rfl | rfl | rfl | rfl <;> rfl
  · rcases (by omega : k = 0 ∨ k = 1 ∨ k = 2) with rfl | rfl | rfl <;> rfl
  · cases hc
  · rcases (by omega : s = 0 ∨ s = 1 ∨ s = 2) with rfl | rfl | rfl <;> rfl
  · cases hB
  · cases e
  · cases e
theorem plySize (c : Cmd) : (Tryd.prog.info? 64).map (·.size) = some (pyC c).length := by show _ = some 5; kernel_rfl
set_option maxHeartbeats 4000000 in
set_option maxRecDepth 100000 in
theorem paxosOne_walk (x : Value) (l : List Cmd) (w : World) (h : Sp w x l) (hi : ∀ c ∈ l, PlyI c) (ht : NTab w) :
    Calls Tryd.prog 8 #[x] w fun e w' => e = .returned (.bool true) ∧ Below w.heap.size w w' := by
  have hlen := h.len
  have HI : Hid (∀ c ∈ l, PlyI c) := hi
  obtain ⟨ax, cp, rfl⟩ := h.shape
  obtain ⟨N, hN⟩ : ∃ N, l.length = N := ⟨_, rfl⟩
  have HN : Hid (l.length = N) := hN
  rw [hN] at h hlen ⊢
  clear hN hi
  have bb : Below w.heap.size w (w.alloc (.cells newMt 61)) := (Below.refl _ _).alloc (Nat.le_refl _) _
  have rr := heap_alloc_new w (.cells newMt 61)
  have s0 := St.new _ _ rr
  clear rr
  have hm : 0 < w.heap.size := ht.lt
  generalize hW0 : w.alloc (.cells newMt 61) = W0 at bb s0
  simp only [newMt] at hW0
  go_enter Tryd.func8, Tryd.ntmps8
  go_upto_region 2 with fail
  clear hW0
  obtain ⟨m, hmm⟩ : ∃ m, m = w.heap.size := ⟨_, rfl⟩
  rw [← hmm] at s0 hm bb ⊢
  have HMM : Hid (m = w.heap.size) := hmm
  clear hmm
  go_wp2_with fail
  go_loopw [4] (fun iv wr => ∃ (i : Nat) (σ : Mt) (f ys : Nat → Value) (bs : Nat → Option Nat), i ≤ N ∧ i ≤ 150 ∧ iv = .int .i64 (i : Int) ∧ St wr m σ f ys bs ∧ Hid (MInv σ) ∧ σ.rounds ≤ (i : Int) ∧ Below m w wr) (fun iv _ => ((N : Int) - intOf iv).toNat)
  case atStart => exact ⟨0, newM, _, _, _, by omega, by omega, rfl, s0, MInv.new, by show (0 : Int) ≤ _; omega, bb⟩
  case round =>
    clear s0 bb
    obtain ⟨i, σ, f, ys, bs, hiN, hi150, rfl, s1, HM, hrr, b1⟩ := hrel
    have t1 := ht.low hm b1
    by_cases hlt : i < N ∧ i < 150
    · have hi1 : (i : Int) < (N : Int) := by omega
      have hi2 : (i : Int) < 150 := by omega
      obtain ⟨c, hc⟩ : ∃ c, l[i]? = some c := ⟨_, List.getElem?_eq_getElem (by have := HN.out; omega)⟩
      have hpc : PlyI c := HI.out c (List.mem_iff_getElem?.2 ⟨i, hc⟩)
      obtain ⟨b, off, rfl, ltb, hra⟩ := (h.below (HMM.out ▸ b1)).spot i c hc
      have hix := runIndexP b off N cp i (by omega)
      clear hc
      go_wp2_with ((with_reducible (refine pxLook ?_)); (refine wpList_load_mid rfl 64 (.tmp 20) rfl b (off + 5 * i) rfl (pyC c) _ hra Tryd.underlying64 rfl (plySize c) ?_))
      refine (play_any wr m σ f ys bs s1 HM.out (by omega) t1 hm c hpc).mono ?_
      rintro e w2 ⟨rfl, σ2, f2, ys2, bs2, s2, i2, r2, b2⟩
      have HM2 : Hid (MInv σ2) := i2
      have b3 := b1.trans b2
      clear i2 hix hra
      go_wp2
      go_roundw
      case rel => exact ⟨i + 1, σ2, f2, ys2, bs2, by omega, by omega, by go_num, s2, HM2, by omega, b3⟩
      case measure => simp [intOf]; omega
    · have cF : wr.cell? ⟨m, 37, none⟩ = some (.bool true) := by rw [s1.mb.cell (by omega), s1.mf.fi]
      have hra := s1.nodeAt (n := 0) (by omega)
      have hsv : Sv wr (ys 0) (σ.node 0).vs := Sv.ofOwns (s1.ov 0 (by omega)).1 (by have := (s1.ov 0 (by omega)).2; omega)
      have HA : Hid (accE (σ.node 0) = 0) := if_pos (HM.out.acc (by omega))
      have HB : Hid (accE ⟨⟨0, 1⟩, []⟩ = 5) := if_neg (fun g => by
        have := g.1
        unfold PrMay BalMay at this
        simp only at this
        omega)
      have a0 : wr.cell? ⟨m, 0, none⟩ = some (.int .i64 (σ.node 0).p.r) := hra 0 _ rfl
      have a1 : wr.cell? ⟨m, 1, none⟩ = some (.int .i64 (σ.node 0).p.n) := hra 1 _ rfl
      have a2 : wr.cell? ⟨m, 2, none⟩ = some (ys 0) := hra 2 _ rfl
      clear hra
      have b1' : Below w.heap.size w wr := HMM.out ▸ b1
      have hst : (i : Int) < (N : Int) ∧ ¬ (i : Int) < 150 ∨ ¬ (i : Int) < (N : Int) := by omega
      rcases hst with ⟨h1, h2⟩ | h1
      all_goals
        go_wp2_with fail
        refine (check_acc (σ.node 0).p (ys 0) (σ.node 0).vs wr hsv t1).mono ?_
        rintro e w2 ⟨rfl, b2⟩
        rw [show accE ⟨(σ.node 0).p, (σ.node 0).vs⟩ = 0 from HA.out]
        have t2 := t1.below b2
        have hle : w.heap.size ≤ wr.heap.size := b1'.size
        go_wp2_with fail
        refine (check_acc ⟨0, 1⟩ (.slice none 0 0) [] w2 (Sv.nil _) t2).mono ?_
        rintro e w3 ⟨rfl, b3⟩
        rw [HB.out]
        have d3 : Below w.heap.size w w3 := (b1'.trans (b2.mono hle)).trans (b3.mono (Nat.le_trans hle b2.size))
        go_wp2
        go_ret
        exact ⟨by simp, d3⟩
end Go.Proofs.YticjofjghpdmpaaDoor
