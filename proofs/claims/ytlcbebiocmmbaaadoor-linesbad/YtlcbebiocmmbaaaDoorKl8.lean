/-
  Texts as lists of bytes. No function of the program is named here.
-/
import Derived.Laws.Strings2
import Derived.Test.YtlcbebiocmmbaaaDoorKl4
import Derived.Test.YtlcbebiocmmbaaaDoorKl7
namespace Go.Proofs.YtlcbebiocmmbaaaDoor
open Go.RowKit
set_option linter.unusedVariables false

theorem ne_beq {a b : Int} (h : ¬ a = b) : (a == b) = false := by simpa using h
theorem eq_beq {a b : Int} (h : a = b) : (a == b) = true := by simpa using h
theorem ne_bne {a b : Int} (h : ¬ a = b) : (a != b) = true := by simpa using h
theorem eq_bne {a b : Int} (h : a = b) : (a != b) = false := by simpa using h
theorem str_append (a b : List Int) : strOfNums (a ++ b) = strOfNums a ++ strOfNums b := by
  apply ByteArray.ext
  apply Array.ext'
  simp [strOfNums]
theorem str_size (l : List Int) : (strOfNums l).size = l.length := strOfNums_size l
theorem str_cut (l : List Int) (i j : Nat) : (strOfNums l).extract i j = strOfNums ((l.take j).drop i) := by
  unfold strOfNums
  rw [ByteArray.extract_mk]
  congr 2
  rw [← List.map_drop, ← List.map_take, List.drop_take]
theorem str_at {l : List Int} (hb : ∀ x ∈ l, 0 ≤ x ∧ x < 256) {i : Nat} (h : i < (strOfNums l).size) : (((strOfNums l)[i]'h).toNat : Int) = l.getD i 0 := by
  have hl : i < l.length := by rwa [str_size] at h
  have e : (strOfNums l)[i]'h = UInt8.ofNat (l[i]'hl).toNat := by
    show (strOfNums l).data[i] = _
    simp [strOfNums]
  have hx := hb (l[i]'hl) (List.getElem_mem hl)
  rw [e, List.getD_eq_getElem?_getD, List.getElem?_eq_getElem hl, Option.getD_some]
  simp
  omega
set_option maxRecDepth 100000 in
theorem run_cat (a b : List Int) (w : World) (h : a.length + b.length ≤ 4000000000) : (binOp .add 9 (.string (strOfNums a)) (.string (strOfNums b))).run Tryd.prog w = .ok (.string (strOfNums (a ++ b))) w := by
  rw [binOp_string_add, str_append]
  unfold Op.stringOp
  simp only
  rw [if_neg (by rw [str_size, str_size, show IntKind.i64.max = 9223372036854775807 by decide]; omega)]
  rfl
set_option maxRecDepth 100000 in
theorem run_idx {l : List Int} (hb : ∀ x ∈ l, 0 ≤ x ∧ x < 256) (i : Nat) (h : i < l.length) (w : World) : (Instr.index 9 (.string (strOfNums l)) (.int .i64 (i : Int))).run Tryd.prog w = .ok (.int .u8 (l.getD i 0)) w := by
  have hs : i < (strOfNums l).size := by rw [str_size]; exact h
  rw [run_index_string w 9 _ _ _ Tryd.underlying9, dif_pos ⟨by omega, by omega⟩]
  have := str_at hb hs
  simp only [Int.toNat_natCast]
  rw [this]
theorem run_idx0 {l : List Int} (hb : ∀ x ∈ l, 0 ≤ x ∧ x < 256) (h : 0 < l.length) (w : World) : (Instr.index 9 (.string (strOfNums l)) (.int .i64 0)).run Tryd.prog w = .ok (.int .u8 (l.getD 0 0)) w := run_idx hb 0 h w
set_option maxRecDepth 100000 in
theorem run_cutS (l : List Int) (i j : Nat) (h1 : i ≤ j) (h2 : j ≤ l.length) (w : World) : (Instr.slice 9 (.string (strOfNums l)) (some (.int .i64 (i : Int))) (some (.int .i64 (j : Int))) none).run Tryd.prog w = .ok (.string (strOfNums ((l.take j).drop i))) w := by
  rw [run_slice_string w 9 _ _ _ _ _ Tryd.underlying9 (by omega) (by omega) (by rw [str_size]; omega), Int.toNat_natCast, Int.toNat_natCast, str_cut]
/-- any text is that of some bytes -/
theorem str_any (t : ByteArray) : ∃ l : List Int, t = strOfNums l ∧ ∀ x ∈ l, 0 ≤ x ∧ x < 256 := by
  refine ⟨t.data.toList.map (fun b => (b.toNat : Int)), ?_, fun x hx => ?_⟩
  · apply ByteArray.ext
    apply Array.ext'
    have hid : ((fun n : Int => UInt8.ofNat n.toNat) ∘ fun b : UInt8 => (b.toNat : Int)) = id := by funext b; simp
    simp [strOfNums, hid]
  · obtain ⟨b, _, rfl⟩ := List.mem_map.1 hx
    have := b.toNat_lt
    omega
set_option maxRecDepth 100000 in
theorem run_quoL (c : Int) (hc : 1 ≤ c ∧ c ≤ 1000) (p : Int) (h0 : 0 ≤ p) (h1 : p ≤ 4000000000) (w : World) : (binOp .quo 3 (.int .i64 p) (.int .i64 c)).run Tryd.prog w = .ok (.int .i64 (p / c)) w := by
  have hq : p.tdiv c = p / c := Int.tdiv_eq_ediv_of_nonneg h0
  have h2 : 0 ≤ p / c := Int.ediv_nonneg h0 (by omega)
  have h3 : p / c ≤ p := Int.ediv_le_self c h0
  have hne : ¬ c = 0 := by omega
  simp [go_sem, hq, hne]
  rw [IntKind.wrap_i64]
  omega
set_option maxRecDepth 100000 in
theorem run_remL (c : Int) (hc : 1 ≤ c ∧ c ≤ 1000) (p : Int) (h0 : 0 ≤ p) (w : World) : (binOp .rem 3 (.int .i64 p) (.int .i64 c)).run Tryd.prog w = .ok (.int .i64 (p % c)) w := by
  have hq : p.tmod c = p % c := Int.tmod_eq_emod_of_nonneg h0
  have hne : ¬ c = 0 := by omega
  simp [go_sem, hq, hne]
set_option maxRecDepth 100000 in
theorem run_addL (c p : Int) (h : 0 ≤ c ∧ c ≤ 1000 ∧ 0 ≤ p ∧ p ≤ 4000000000) (w : World) : (binOp .add 3 (.int .i64 c) (.int .i64 p)).run Tryd.prog w = .ok (.int .i64 (c + p)) w := by
  simp [go_sem]
  rw [IntKind.wrap_i64]
  omega
set_option maxRecDepth 100000 in
theorem run_byteL (c : Int) (h0 : 0 ≤ c) (h1 : c < 256) (w : World) : (convert 3 5 (.int .i64 c)).run Tryd.prog w = .ok (.int .u8 c) w := by
  have hm : c % 256 = c := by omega
  have h3 := Tryd.underlying3
  have h5 := Tryd.underlying5
  simp [go_sem, h3, h5]
  rw [IntKind.wrap_u8]
  exact hm
set_option maxRecDepth 100000 in
theorem run_numL (c : Int) (h0 : 0 ≤ c) (h1 : c < 256) (w : World) : (convert 5 3 (.int .u8 c)).run Tryd.prog w = .ok (.int .i64 c) w := by
  have h3 := Tryd.underlying3
  have h5 := Tryd.underlying5
  simp [go_sem, h3, h5]
  rw [IntKind.wrap_i64]
  omega
theorem yieldConv {P : Program} {ops : Array Oper} {S : World → Prop} {op : Oper} {a : Act} (hw : Region.wanted op (yielded ops a.tmps) = true) (t u : TypeId) (x : Operand) (ho : op.op = .convert t u x) (v r : Value) (hx : a.eval x = v) (h : ∀ w, (Go.convert t u v).run P w = .ok r w) : YieldsIf P ops S op r a :=
  .inl ⟨hw, fun w _ => by
    unfold execOp
    simp only [ho, hx, Sem.run_bind, h w, Result.andThen_ok, Sem.run_pure]⟩
end Go.Proofs.YtlcbebiocmmbaaaDoor
/-
  The tables of words and of bounds in memory. No function of the program is named here.
-/
namespace Go.Proofs.YtlcbebiocmmbaaaDoor
open Go.RowKit
set_option linter.unusedVariables false

/-- which numbers a kind has, by their places -/
def useF (j : Nat) (k : Int) : Bool := if j = 0 then useN k else if j = 1 then useA k else useK k
def bndF (j : Nat) : Int := if j = 0 then 4 else if j = 1 then 1048576 else 100000
/-- how many pieces a kind's line has -/
def oneIf (b : Bool) : Int := if b = true then 1 else 0
def npc (k : Int) : Int := 1 + oneIf (useN k) + oneIf (useA k) + oneIf (useK k) + oneIf (k == 1)
/-- the table of words stands in memory -/
structure LWTab (w : World) : Prop where
  lt : 0 < w.heap.size
  text : ∀ k : Nat, k < 10 → w.cell? ⟨0, 4 * k, none⟩ = some (.string (strOfNums (wordL (k : Int))))
  has : ∀ k j : Nat, k < 10 → j < 3 → w.cell? ⟨0, 4 * k + 1 + j, none⟩ = some (.bool (useF j (k : Int)))
theorem LWTab.below {w w' : World} (h : LWTab w) (hb : Below w.heap.size w w') : LWTab w' :=
  ⟨Nat.lt_of_lt_of_le h.lt hb.size, fun k hk => (hb.cell (p := ⟨0, 4 * k, none⟩) h.lt).trans (h.text k hk), fun k j hk hj => (hb.cell (p := ⟨0, 4 * k + 1 + j, none⟩) h.lt).trans (h.has k j hk hj)⟩
/-- the table of bounds stands in memory -/
structure LBTab (w : World) : Prop where
  lt : 1 < w.heap.size
  bnd : ∀ j : Nat, j < 3 → w.cell? ⟨1, j, none⟩ = some (.int .i64 (bndF j))
theorem LBTab.below {w w' : World} (h : LBTab w) (hb : Below w.heap.size w w') : LBTab w' :=
  ⟨Nat.lt_of_lt_of_le h.lt hb.size, fun j hj => (hb.cell (p := ⟨1, j, none⟩) h.lt).trans (h.bnd j hj)⟩
theorem wSize4 : (Tryd.prog.info? 74).map (·.size) = some 4 := by kernel_rfl
/-- the place of a word -/
theorem runIndexW (k : Nat) (hk : k < 10) (w : World) : (Instr.indexAt 75 (.pointer (some ⟨0, 0, none⟩)) (.int .i64 (k : Int))).run Tryd.prog w = .ok (.pointer (some ⟨0, 4 * k, none⟩)) w := by
  have h := runIndexArr 75 74 10 4 Tryd.underlying75 wSize4 0 0 k hk w
  rwa [Nat.zero_add] at h
/-- the place of one of its marks -/
theorem runIndexM (k j : Nat) (hj : j < 3) (w : World) : (Instr.indexAt 72 (.pointer (some ⟨0, 4 * k + 1, none⟩)) (.int .i64 (j : Int))).run Tryd.prog w = .ok (.pointer (some ⟨0, 4 * k + 1 + j, none⟩)) w := by
  have h := runIndexArr 72 4 3 1 Tryd.underlying72 (by kernel_rfl) 0 (4 * k + 1) j hj w
  rwa [Nat.one_mul] at h
/-- the place of a bound -/
theorem runIndexB (j : Nat) (hj : j < 3) (w : World) : (Instr.indexAt 76 (.pointer (some ⟨1, 0, none⟩)) (.int .i64 (j : Int))).run Tryd.prog w = .ok (.pointer (some ⟨1, j, none⟩)) w := by
  have h := runIndexArr 76 3 3 1 Tryd.underlying76 (by kernel_rfl) 1 0 j hj w
  rwa [Nat.zero_add, Nat.one_mul] at h
end Go.Proofs.YtlcbebiocmmbaaaDoor
