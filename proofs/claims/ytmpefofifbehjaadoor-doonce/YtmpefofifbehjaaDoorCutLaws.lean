/-
  Slices that are cut, as one equation each.
-/
import Derived.Test.YtmpefofifbehjaaDoorInfo
namespace Go.Proofs.YtmpefofifbehjaaDoor
open Go.RowKit

theorem getD_dropped (l : List Int) (n i : Nat) : (l.drop n).getD i 0 = l.getD (n + i) 0 := by simp [List.getD]
theorem getD_taken (l : List Int) (n i : Nat) (h : i < n) : (l.take n).getD i 0 = l.getD i 0 := by simp [List.getD, h]

theorem Sl.window {w : World} {a : Option Addr} {n cap : Nat} {l : List Int} (h : Sl w (.slice a n cap) l) (lo hi : Nat) (hlo : lo ≤ hi) (hhi : hi ≤ l.length) : Sl w (sliced a lo hi cap 1) ((l.take hi).drop lo) := by
  have hd := (h.take hi hhi).len
  have hb := h.byte
  obtain ⟨⟨a', cap', e, hc, hn, h1⟩, hla, hba⟩ := h
  simp only [Value.slice.injEq] at e
  obtain ⟨rfl, rfl, rfl⟩ := e
  have hl : ((l.take hi).drop lo).length = hi - lo := by rw [List.length_drop, List.length_take]; omega
  have hbb : ∀ x ∈ (l.take hi).drop lo, 0 ≤ x ∧ x < 256 := fun x hx => hb x (List.mem_of_mem_take (List.mem_of_mem_drop hx))
  cases a with
  | none =>
    have c0 := hn rfl
    subst c0
    have h0 : l.length = 0 := by omega
    refine ⟨⟨_, _, by rw [hl]; rfl, by omega, fun _ => by omega, .inl (List.eq_nil_of_length_eq_zero (by omega))⟩, by omega, hbb⟩
  | some ad =>
    refine ⟨⟨_, _, by rw [hl]; rfl, by omega, (by intro h; split at h <;> simp at h), ?_⟩, by omega, hbb⟩
    rcases Nat.eq_or_lt_of_le hlo with he | hlt
    · exact .inl (List.eq_nil_of_length_eq_zero (by omega))
    · rcases h1 with rfl | ⟨b, off, e2, hbs, hcell⟩
      · simp at hhi; omega
      · simp only [Option.some.injEq] at e2
        subst e2
        refine .inr ⟨b, off + lo, ?_, hbs, fun i hi2 => ?_⟩
        · rw [if_neg (by omega)]
          simp [Addr.add]
        · rw [hl] at hi2
          rw [Nat.add_assoc, hcell (lo + i) (by omega), getD_dropped, getD_taken _ _ _ (by omega)]

theorem size5w (w : World) : (Go.sizeOf 5).run Tryd.prog w = .ok 1 w := by
  obtain ⟨i, hi, _, hsz, _⟩ := info_parts info5
  simp [sizeOf, typeInfo, hi, hsz]

set_option maxRecDepth 100000 in
theorem Sl.upTo {w : World} {a : Option Addr} {n cap : Nat} {l : List Int} (h : Sl w (.slice a n cap) l) (hi : Nat) (hhi : hi ≤ l.length) :
    ∃ a' c', (∀ W, (Instr.slice 59 (.slice a n cap) none (some (.int .i64 (hi : Int))) none).run Tryd.prog W = .ok (.slice a' hi c') W) ∧ Sl w (.slice a' hi c') (l.take hi) := by
  have hw := h.window 0 hi (by omega) hhi
  obtain ⟨⟨a', cap', e, hc, hn, h1⟩, hla, hba⟩ := h
  simp only [Value.slice.injEq] at e
  obtain ⟨rfl, rfl, rfl⟩ := e
  refine ⟨_, _, fun W => ?_, by simpa [sliced] using hw⟩
  rw [run_slice_h (P := Tryd.prog) W 59 a _ cap Tryd.underlying59 .i64 _ (by omega) (by omega)]
  have e : Tryd.prog.elem 59 = 5 := by kernel_rfl
  rw [e, size5w]
  simp [Result.andThen, sliced]
set_option maxRecDepth 100000 in
theorem Sl.from {w : World} {a : Option Addr} {n cap : Nat} {l : List Int} (h : Sl w (.slice a n cap) l) (lo : Nat) (hlo : lo ≤ l.length) :
    ∃ a' c', (∀ W, (Instr.slice 59 (.slice a n cap) (some (.int .i64 (lo : Int))) none none).run Tryd.prog W = .ok (.slice a' (n - lo) c') W) ∧ Sl w (.slice a' (n - lo) c') (l.drop lo) := by
  have hw := h.window lo l.length hlo (Nat.le_refl _)
  obtain ⟨⟨a', cap', e, hc, hn, h1⟩, hla, hba⟩ := h
  simp only [Value.slice.injEq] at e
  obtain ⟨rfl, rfl, rfl⟩ := e
  refine ⟨_, _, fun W => ?_, by simpa [sliced] using hw⟩
  rw [run_slice_l (P := Tryd.prog) W 59 a _ cap Tryd.underlying59 .i64 _ (by omega) (by omega)]
  have e : Tryd.prog.elem 59 = 5 := by kernel_rfl
  rw [e, size5w]
  simp [Result.andThen, sliced]
end Go.Proofs.YtmpefofifbehjaaDoor
