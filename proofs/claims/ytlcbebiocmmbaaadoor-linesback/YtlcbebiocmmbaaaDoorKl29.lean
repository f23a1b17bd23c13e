/-
  The walk of the program's lines, which come by a function that yields.
-/
import Derived.RangeFuncNested
import Derived.RangeFuncBound
import Derived.RangeFuncCalls
import Derived.RangeFuncLeaves
import Derived.Shelf.Abstract
import Derived.Shelf.RegionOpen
import Derived.Laws.Strings3
import Derived.WalkKit
import Derived.OwnWalkIn
import Derived.TacticsInMore
import Derived.LoopNIn
import Derived.LoopIn
import Derived.Test.YtlcbebiocmmbaaaDoorKl28
import Derived.Test.YtlcbebiocmmbaaaDoorKl11
import Derived.Test.YtlcbebiocmmbaaaDoorKl18
namespace Go.Proofs.YtlcbebiocmmbaaaDoor
open Go.RowKit Go.Shelf
set_option linter.unusedVariables false
attribute [local go_sem] Oper.semAt_some

/-- how long a text is -/
def strLen : Value → Nat
  | .string s => s.size
  | _ => 0
/-- a line and its place -/
abbrev LnA : Type := { x : Nat × List Int // (∀ c ∈ x.2, 0 ≤ c ∧ c < 256) ∧ x.2.length ≤ 4000000 ∧ x.1 ≤ 4000000 }
/-- lines with their places -/
def En (ys : List LnA) (L : List (List Int)) : Prop := ys.map (fun y => y.1.2) = L ∧ ∀ i, i < ys.length → (ys.map (fun y => y.1.1)).getD i 0 = i
theorem En.nil : En [] [] := ⟨rfl, fun i hi => by simp at hi⟩
theorem En.len {ys : List LnA} {L : List (List Int)} (h : En ys L) : ys.length = L.length := by rw [← h.1]; simp
theorem En.snoc {ys : List LnA} {L : List (List Int)} (h : En ys L) (x : LnA) (hx : x.1.1 = ys.length) : En (ys ++ [x]) (L ++ [x.1.2]) := by
  refine ⟨by simp [h.1], fun i hi => ?_⟩
  simp at hi
  by_cases e : i = ys.length
  · subst e
    simp [List.getD, hx]
  · have h2 := h.2 i (by omega)
    simp only [List.map_append, List.getD_eq_getElem?_getD] at h2 ⊢
    rw [List.getElem?_append_left (by simp; omega)]
    exact h2
theorem En.last {ys : List LnA} {x : LnA} {L : List (List Int)} (h : En (ys ++ [x]) L) : x.1.1 = ys.length := by
  have h2 := h.2 ys.length (by simp)
  simpa [List.getD] using h2
set_option maxRecDepth 100000 in
theorem run_toS (l : List Int) (j : Nat) (h2 : j ≤ l.length) (w : World) : (Instr.slice 9 (.string (strOfNums l)) none (some (.int .i64 (j : Int))) none).run Tryd.prog w = .ok (.string (strOfNums (l.take j))) w := by
  rw [run_slice_string_to_if (P := Tryd.prog) (w := w) 9 _ _ _ Tryd.underlying9, if_pos ⟨by omega, by rw [str_size]; omega⟩, str_cut]
  simp
set_option maxRecDepth 100000 in
theorem run_fromS (l : List Int) (i : Nat) (h2 : i ≤ l.length) (w : World) : (Instr.slice 9 (.string (strOfNums l)) (some (.int .i64 (i : Int))) none none).run Tryd.prog w = .ok (.string (strOfNums (l.drop i))) w := by
  rw [run_slice_string_from_if (P := Tryd.prog) (w := w) 9 _ _ _ Tryd.underlying9, if_pos ⟨by omega, by rw [str_size]; omega⟩, str_cut, str_size]
  simp
theorem str_isnt {s : List Int} (h : ¬ s = []) : (!(strOfNums s).toList.isEmpty) = true := by rw [str_ne0 h]; rfl
set_option maxRecDepth 100000 in
set_option maxHeartbeats 4000000 in
theorem lines1_in (n : Nat) (hn : 1 ≤ n) (l Bs n₀ : Nat) (t : List Int) (hb : ∀ x ∈ t, 0 ≤ x ∧ x < 256) (ht : t.length ≤ 4000000) (L : List (List Int)) (hL : Lns t L) (J Jx : List LnA → World → Prop)
    (hY : ∀ pre (x : LnA) W, J pre W → pre.length < L.length → YieldAt Fence.wide (n - 1) Tryd.prog l #[.int .i64 (x.1.1 : Int), .string (strOfNums x.1.2)] W fun e W' =>
      (e = .returned (.bool true) ∧ J (pre ++ [x]) W' ∧ Below n₀ W W') ∨ (e = .returned (.bool false) ∧ Jx (pre ++ [x]) W'))
    (W : World) (hBs : W.cell? ⟨Bs, 0, none⟩ = some (.string (strOfNums t))) (h0 : J [] W) :
    CallsIn Fence.wide n Tryd.prog 44 #[.func (.yield l) #[] #[], .pointer (some ⟨Bs, 0, none⟩)] W fun e W' => (∃ v, e = .returned v) ∧
      ((∃ ys, En ys L ∧ J ys W') ∨ (∃ pre, (∃ L1 L2, L = L1 ++ L2 ∧ En pre L1) ∧ Jx pre W')) := by
  refine callsIn_of_wp Tryd.func44 rfl trivial ?_ rfl
  simp only [Tryd.ntmps44, List.size_toArray, List.length_cons, List.length_nil, Nat.reduceAdd, Nat.reduceSub, Array.replicate_succ, Array.replicate_zero, List.push_toArray, List.append_toArray, List.nil_append, List.cons_append]
  have HLN : Hid (Lns t L) := hL
  clear hL
  gi_wp2
  gi_loopw [3, 4] (fun rv pv wr => ∃ (pre : List LnA) (L1 L2 : List (List Int)) (r : List Int), rv = .string (strOfNums r) ∧ pv = .int .i64 (pre.length : Int) ∧ Hid (L = L1 ++ L2 ∧ Lns r L2 ∧ En pre L1 ∧ (∀ c ∈ r, 0 ≤ c ∧ c < 256) ∧ r.length ≤ 4000000 ∧ L1.length + r.length ≤ 4000000) ∧ J pre wr)
    (fun rv _ _ => strLen rv)
  case atStart => exact ⟨[], [], L, t, rfl, rfl, ⟨rfl, HLN.out, En.nil, hb, ht, by simpa using ht⟩, h0⟩
  case round =>
    obtain ⟨pre, L1, L2, r, rfl, rfl, HI, hJs⟩ := hrel
    have hsz := str_size r
    have hrl := HI.out.2.2.2.2.1
    have hrb := HI.out.2.2.2.1
    have hpl : pre.length ≤ 4000000 := by have h1 := HI.out.2.2.1.len; have h2 := HI.out.2.2.2.2.2; omega
    by_cases hr : r = []
    · have he0 := str_eq0 hr
      have he1 := (str_nil r).2 hr
      have HE : Hid (En pre L) := by
        have h1 := HI.out.2.1
        have h2 := HI.out.1
        have h3 := HI.out.2.2.1
        have h4 : L2 = [] := by
          have := h1.len
          rw [hr] at this
          exact List.eq_nil_of_length_eq_zero (by simpa using this)
        rw [h4, List.append_nil] at h2
        unfold Hid
        rw [h2]
        exact h3
      clear hr HI hrb
      gi_wp2
      go_end0
      exact ⟨⟨_, rfl⟩, .inl ⟨pre, HE.out, hJs⟩⟩
    · have he0 := str_ne0 hr
      have he1 : ¬ (strOfNums r).toList = [] := fun e => hr ((str_nil r).1 e)
      -- the line that comes
      obtain ⟨y, r', L3, hcut⟩ : ∃ (y r' : List Int) (L3 : List (List Int)), Hid (r = y ++ r' ∧ L2 = y :: L3 ∧ Lns r' L3 ∧ 0 < y.length ∧ ((idxB r 10 = -1 ∧ y = r) ∨ idxB r 10 + 1 = y.length)) := by
        have h1 := HI.out.2.1
        generalize hrr : r = r0 at h1
        cases h1 with
        | nil => exact absurd hrr hr
        | last h2 hno => exact ⟨r0, [], [], by simp, rfl, .nil, List.length_pos_iff.2 h2, .inl ⟨idxB_no hno, rfl⟩⟩
        | @cons x r2 L4 hno h3 => exact ⟨x ++ [10], r2, L4, by simp, rfl, h3, by simp, .inr (by rw [idxB_at hno]; simp)⟩
      obtain ⟨hry, hL2, hL3, hy0, hidx⟩ := hcut.out
      have hyl : y.length ≤ r.length := by rw [hry]; simp
      have hyb : ∀ c ∈ y, 0 ≤ c ∧ c < 256 := fun c hc => hrb c (by rw [hry]; simp [hc])
      have hr'b : ∀ c ∈ r', 0 ≤ c ∧ c < 256 := fun c hc => hrb c (by rw [hry]; simp [hc])
      have hpre : pre.length < L.length := by
        have h1 := HI.out.1
        have h2 := HI.out.2.2.1.len
        rw [h1, hL2]
        simp
        omega
      have HX : Hid (CallsIn Fence.wide (n - 1) Tryd.prog 45 #[.string (strOfNums r), .int .u8 10] wr fun e w' => e = .returned (.int .i64 (idxB r 10)) ∧ w' = wr) := callsIn_wide.2 (indexByte_any r hrb 10 (by omega) wr)
      have hy4 : y.length ≤ 4000000 := by omega
      obtain ⟨x0, hx1, hx2⟩ : ∃ x : LnA, x.1.1 = pre.length ∧ x.1.2 = y := ⟨⟨(pre.length, y), hyb, hy4, hpl⟩, rfl, rfl⟩
      obtain ⟨fn, tmps, assign, body, hy, hR⟩ := hY pre x0 wr hJs hpre
      rw [hx1, hx2] at hy
      have cu1 := run_toS r y.length hyl
      have cu2 := run_fromS r y.length hyl
      have e1 : r.take y.length = y := by rw [hry]; simp
      have e2 : r.drop y.length = r' := by rw [hry]; simp
      rw [e1] at cu1
      rw [e2] at cu2
      have hlr : r'.length < r.length := by rw [hry]; simp; omega
      have HRD : Hid (L = (L1 ++ [y]) ++ L3 ∧ Lns r' L3 ∧ En (pre ++ [x0]) (L1 ++ [y]) ∧ (∀ c ∈ r', 0 ≤ c ∧ c < 256) ∧ r'.length ≤ 4000000 ∧ (L1 ++ [y]).length + r'.length ≤ 4000000) := by
        refine ⟨by rw [HI.out.1, hL2]; simp, hL3, by have := HI.out.2.2.1.snoc x0 hx1; rwa [hx2] at this, hr'b, by omega, ?_⟩
        have h2 := HI.out.2.2.2.2.2
        rw [hry] at h2
        simp at h2 ⊢
        omega
      clear HI hrb hry hL2 hL3 hcut hr e1 e2 hr'b hx1 hx2
      obtain ⟨ix, hix⟩ : ∃ z, idxB r 10 = z := ⟨_, rfl⟩
      rw [hix] at HX hidx
      clear hix
      rcases hidx with ⟨rfl, hyr⟩ | hix2
      · have hyn : (r.length : Int) = (y.length : Int) := by rw [hyr]
        have HYN : Hid (r.length = y.length) := by unfold Hid; rw [hyr]
        clear hyr
        gi_wp2_with (refine ⟨trivial, ?_⟩; gi_at_call 45; refine HX.out.mono ?_; rintro e w' ⟨rfl, hw'⟩; subst w'; clear HX)
        refine hR.mono ?_
        rintro e W3 (⟨rfl, hJ3, hk3⟩ | ⟨rfl, hJx3⟩)
        · gi_wp2
          go_roundw
          case rel => exact ⟨pre ++ [x0], L1 ++ [y], L3, r', rfl, by simp, HRD, hJ3⟩
          case measure => simp [strLen, str_size]; omega
        · gi_wp2
          refine bodyPost_ret (results_none rfl _ _ _) rfl ?_
          exact ⟨⟨_, rfl⟩, .inr ⟨_, ⟨_, _, HRD.out.1, HRD.out.2.2.1⟩, hJx3⟩⟩
      · have hne : (ix + 1 == 0) = false := ne_beq (by omega)
        gi_wp2_with (refine ⟨trivial, ?_⟩; gi_at_call 45; refine HX.out.mono ?_; rintro e w' ⟨rfl, hw'⟩; subst w'; clear HX)
        refine hR.mono ?_
        rintro e W3 (⟨rfl, hJ3, hk3⟩ | ⟨rfl, hJx3⟩)
        · gi_wp2
          go_roundw
          case rel => exact ⟨pre ++ [x0], L1 ++ [y], L3, r', rfl, by simp, HRD, hJ3⟩
          case measure => simp [strLen, str_size]; omega
        · gi_wp2
          refine bodyPost_ret (results_none rfl _ _ _) rfl ?_
          exact ⟨⟨_, rfl⟩, .inr ⟨_, ⟨_, _, HRD.out.1, HRD.out.2.2.1⟩, hJx3⟩⟩
set_option maxHeartbeats 1000000 in
/-- the text is boxed; the function captures the box -/
theorem lines_in (n : Nat) (s : ByteArray) (w : World) :
    CallsIn Fence.wide n Tryd.prog 31 #[.string s] w fun e w' => e = .returned (.func (.func 44) #[] #[.pointer (some ⟨w.heap.size, 0, none⟩)]) ∧ w' = w.alloc (.cells #[.string s] 9) := by
  refine callsIn_of_wp Tryd.func31 rfl trivial ?_ rfl
  simp only [Tryd.ntmps31, List.size_toArray, List.length_cons, List.length_nil, Nat.reduceAdd, Nat.reduceSub, Array.replicate_succ, Array.replicate_zero, List.push_toArray, List.append_toArray, List.nil_append, List.cons_append]
  gi_wp2
  go_ret
  exact ⟨rfl, rfl⟩
theorem lines_stops (n : Nat) (hn : 1 ≤ n) (Bs n₀ : Nat) (t : List Int) (hb : ∀ x ∈ t, 0 ≤ x ∧ x < 256) (ht : t.length ≤ 4000000) (L : List (List Int)) (hL : Lns t L) (w : World) (hBs : Bs < w.heap.size) (hc : w.cell? ⟨Bs, 0, none⟩ = some (.string (strOfNums t))) :
    SeqStopsK Fence.wide n Tryd.prog 44 #[.pointer (some ⟨Bs, 0, none⟩)] (fun x : LnA => #[Value.int .i64 (x.1.1 : Int), Value.string (strOfNums x.1.2)]) (Below n₀) (fun ys => En ys L) (fun pre => ∃ L1 L2, L = L1 ++ L2 ∧ En pre L1) L.length w := fun l J Jx W hW _ _ hY h0 =>
  lines1_in n hn l Bs n₀ t hb ht L hL J Jx hY W ((hW.cell (p := ⟨Bs, 0, none⟩) hBs).trans hc) h0
end Go.Proofs.YtlcbebiocmmbaaaDoor
/-
  What reading a text answers, in memory. No function of the program is named here.
-/
namespace Go.Proofs.YtlcbebiocmmbaaaDoor
open Go.RowKit
set_option linter.unusedVariables false

/-- what reading answers, in memory -/
def RdGot (t : List Int) (e : Ending) (w' : World) : Prop := ∃ (v : Value) (i E : Int) (l : List Lac) (r : List Int), e = .returned (.tuple #[v, .int .i64 i, .int .i64 E]) ∧ RdA t l r i E ∧ (E ≠ 0 → v = .slice none 0 0) ∧ (E = 0 → Sk w' v (laF l) l.length)
theorem RdGot.bad {t : List Int} {i E : Int} {l : List Lac} {r : List Int} {w' : World} (h : RdA t l r i E) (hE : E ≠ 0) : RdGot t (.returned (.tuple #[.slice none 0 0, .int .i64 i, .int .i64 E])) w' := ⟨_, _, _, l, r, rfl, h, fun _ => rfl, fun e => absurd e hE⟩
theorem RdGot.good {t : List Int} {v : Value} {l : List Lac} {r : List Int} {w' : World} (h : RdA t l r 0 0) (hs : Sk w' v (laF l) l.length) : RdGot t (.returned (.tuple #[v, .int .i64 0, .int .i64 0])) w' := ⟨_, _, _, l, r, rfl, h, fun e => absurd rfl e, fun _ => hs⟩
end Go.Proofs.YtlcbebiocmmbaaaDoor
