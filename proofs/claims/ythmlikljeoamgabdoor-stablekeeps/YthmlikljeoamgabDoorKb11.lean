/-
  Records, one by one, in plain lists: the first body of bytes, and what a body makes of an acceptor. No program is named here.
-/
import Derived.Test.YthmlikljeoamgabDoorKb10
import Derived.Test.YthmlikljeoamgabDoorKb6
import Derived.Test.YthmlikljeoamgabDoorKb8
import Derived.Test.YthmlikljeoamgabDoorKb2
namespace Go.Proofs.YthmlikljeoamgabDoor
open Go.RowKit
set_option linter.unusedVariables false

/-- the body of the record that stands first, if it is whole -/
def fbO (r : List Int) : Option (List Int) :=
  if r = [] then none
  else if r.length < (r.getD 0 0).toNat + 5 then none
  else if (dig (r.take ((r.getD 0 0).toNat + 1))).take 4 ≠ (r.drop ((r.getD 0 0).toNat + 1)).take 4 then none
  else some ((r.take ((r.getD 0 0).toNat + 1)).drop 1)
theorem fbO_len {r b : List Int} (h : fbO r = some b) : b.length + 5 ≤ r.length ∧ b.length = (r.getD 0 0).toNat := by
  unfold fbO at h
  split at h
  · cases h
  · split at h
    · cases h
    · split at h
      · cases h
      · injection h with h
        subst h
        rw [List.length_drop, List.length_take]
        omega
theorem stepL_fb (r : List Int) (a : Acc) : stepL r a = (fbO r).bind fun b => (doneB a b).map fun c => (c, b.length + 5) := by
  have hl : ∀ b, fbO r = some b → b.length = (r.getD 0 0).toNat := fun b h => (fbO_len h).2
  unfold stepL
  unfold fbO at hl ⊢
  by_cases h0 : r = []
  · rw [if_pos h0, if_pos h0]; rfl
  · rw [if_neg h0] at hl ⊢
    rw [if_neg h0]
    by_cases h1 : r.length < (r.getD 0 0).toNat + 5
    · rw [if_pos h1, if_pos h1]; rfl
    · rw [if_neg h1] at hl ⊢
      rw [if_neg h1]
      by_cases h2 : (dig (r.take ((r.getD 0 0).toNat + 1))).take 4 ≠ (r.drop ((r.getD 0 0).toNat + 1)).take 4
      · rw [if_pos h2, if_pos h2]; rfl
      · rw [if_neg h2] at hl ⊢
        rw [if_neg h2]
        have e := hl _ rfl
        show _ = (doneB a _).map _
        rw [e]
theorem numA_drop (l : List Int) (n i : Nat) : numA (l.drop n) i = numA l (n + i) := by
  unfold numA
  simp only [List.getD_eq_getElem?_getD, List.getElem?_drop, Nat.add_assoc]
/-- what a body answers -/
def donE (a : Acc) (b : List Int) : Int :=
  if b.length = 9 ∧ b.getD 0 0 = 1 then proE a (bodyP b)
  else if b.length = 33 ∧ b.getD 0 0 = 2 then (if decE (b.drop 13) = 0 then votE a (bodyV b) else decE (b.drop 13))
  else 3
def donA (a : Acc) (b : List Int) : Acc :=
  if b.length = 9 ∧ b.getD 0 0 = 1 then ⟨proP a (bodyP b), proL a (bodyP b)⟩
  else if b.length = 33 ∧ b.getD 0 0 = 2 then (if decE (b.drop 13) = 0 then ⟨accP a (bodyV b), accL a (bodyV b)⟩ else a0)
  else a0
theorem doneB_eq (a : Acc) (b : List Int) : doneB a b = if donE a b = 0 then some (donA a b) else none := by
  unfold doneB donE donA
  by_cases h1 : b.length = 9 ∧ b.getD 0 0 = 1
  · rw [if_pos h1, if_pos h1, if_pos h1]
    by_cases h2 : proE a (bodyP b) = 0
    · rw [if_pos h2, if_pos h2]
      unfold proP proL
      rw [if_pos h2, if_pos h2]
    · rw [if_neg h2, if_neg h2]
  · rw [if_neg h1, if_neg h1, if_neg h1]
    by_cases h2 : b.length = 33 ∧ b.getD 0 0 = 2
    · rw [if_pos h2, if_pos h2, if_pos h2]
      by_cases h3 : decE (b.drop 13) = 0
      · rw [if_pos h3, if_pos h3, if_pos h3]
        by_cases h4 : votE a (bodyV b) = 0
        · rw [if_pos h4, if_pos h4]
          unfold accP accL
          rw [if_pos h4, if_pos h4]
        · rw [if_neg h4, if_neg h4]
      · rw [if_neg h3, if_neg h3, if_neg h3]
    · rw [if_neg h2, if_neg h2, if_neg h2, if_neg (by decide)]
/-- the vote that thirty-two bytes tell -/
def voV (l : List Int) : Vt := if decE (l.drop 12) = 0 then ⟨numA l 0, ⟨numA l 4, numA l 8⟩, decC (l.drop 12)⟩ else ⟨0, ⟨0, 0⟩, ⟨0, 0, 0, 0, 0⟩⟩
theorem voV_pos {l : List Int} (h : decE (l.drop 12) = 0) : ∃ m0 m1 m2 m3 m4 : Int, decV (l.drop 12) = #[.int .i64 m0, .int .i64 m1, .int .i64 m2, .int .i64 m3, .int .i64 m4] ∧ voV l = ⟨numA l 0, ⟨numA l 4, numA l 8⟩, ⟨m0, m1, m2, m3, m4⟩⟩ := by
  refine ⟨numA (l.drop 12) 0, numA (l.drop 12) 4, numA (l.drop 12) 8, numA (l.drop 12) 12, numA (l.drop 12) 16, ?_, ?_⟩
  · unfold decV
    rw [if_pos h]
    rfl
  · unfold voV
    rw [if_pos h]
    rfl
theorem voV_neg {l : List Int} (h : ¬ decE (l.drop 12) = 0) : decV (l.drop 12) = #[.int .i64 0, .int .i64 0, .int .i64 0, .int .i64 0, .int .i64 0] ∧ voV l = ⟨0, ⟨0, 0⟩, ⟨0, 0, 0, 0, 0⟩⟩ := by
  unfold voV decV
  rw [if_neg h, if_neg h]
  exact ⟨rfl, rfl⟩
theorem voV_body (b : List Int) (h : decE (b.drop 13) = 0) : voV (b.drop 1) = bodyV b := by
  unfold voV bodyV
  rw [List.drop_drop, if_pos h, numA_drop, numA_drop, numA_drop]
theorem bodyP_drop (b : List Int) : (⟨numA (b.drop 1) 0, numA (b.drop 1) 4⟩ : Bal) = bodyP b := by
  unfold bodyP
  rw [numA_drop, numA_drop]
end Go.Proofs.YthmlikljeoamgabDoor
/-
  Sizes of structs, and slices that are cut, as the walks of tapes take them.
-/
namespace Go.Proofs.YthmlikljeoamgabDoor
open Go.RowKit
set_option linter.unusedVariables false

theorem acSz3 : (Tryd.prog.info? 33).map (·.size) = some 3 := by kernel_rfl
theorem vtSz8 : (Tryd.prog.info? 57).map (·.size) = some 8 := by kernel_rfl
theorem cmSz5 : (Tryd.prog.info? 55).map (·.size) = some 5 := by kernel_rfl
/-- a slice that is cut, in a region that draws -/
theorem tSlice {v r : Value} {lo hi : Option Value} (h : ∀ W, (Instr.slice 23 v lo hi none).run Tryd.prog W = .ok r W) (w : World) :
    (do let x ← Instr.slice 23 v lo hi none; pure (Next.value x) : Sem Next).run Tryd.prog w = .ok (.value r) w := by
  simp only [Sem.run_bind, h w, Result.andThen_ok, Sem.run_pure]
/-- a small row is set: votes stay -/
theorem Sv.otherRow {w : World} {y : Value} {l : List Vt} (h : Sv w y l) {g : Nat} {cs : Array Value} {t : TypeId} {fr : Nat × Nat} (hg : w.heap[g]? = some (.cells cs t fr)) (hsz : cs.size < 8) (cs' : Array Value) : Sv (w.setRow g cs') y l := by
  obtain ⟨⟨a, cap, rfl, hc, hn, h1⟩, h2⟩ := h
  refine ⟨⟨a, cap, rfl, hc, hn, ?_⟩, h2⟩
  rcases h1 with h1 | ⟨b, off, rfl, hbs, hcell⟩
  · exact .inl h1
  · refine .inr ⟨b, off, rfl, by simpa using hbs, fun i v hi j u hj => ?_⟩
    have hne : b ≠ g := by
      rintro rfl
      have h7 := hcell i v hi 7 (.int .i64 v.w.v) rfl
      rw [cell_of_row _ _ _ _ _ _ hg] at h7
      have := (Array.getElem?_eq_some_iff.1 h7).1
      omega
    rw [← hcell i v hi j u hj]
    exact World.cell?_of_block (w := w) (setRow_other w g b cs' hne)
/-- a row without bytes is set: bytes stay -/
theorem Sl.otherRow {w : World} {v : Value} {l : List Int} (h : Sl w v l) {g : Nat} {cs : Array Value} {t : TypeId} {fr : Nat × Nat} (hg : w.heap[g]? = some (.cells cs t fr)) (hno : ∀ (i : Nat) (x : Int), cs[i]? ≠ some (.int .u8 x)) (cs' : Array Value) : Sl (w.setRow g cs') v l := by
  obtain ⟨⟨a, cap, rfl, hc, hn, h1⟩, h2, h3⟩ := h
  refine ⟨⟨a, cap, rfl, hc, hn, ?_⟩, h2, h3⟩
  rcases h1 with h1 | ⟨b, off, rfl, hbs, hcell⟩
  · exact .inl h1
  · refine .inr ⟨b, off, rfl, by simpa using hbs, fun i hi => ?_⟩
    have hne : b ≠ g := by
      rintro rfl
      have h7 := hcell i hi
      rw [cell_of_row _ _ _ _ _ _ hg] at h7
      exact hno _ _ h7
    rw [← hcell i hi]
    exact World.cell?_of_block (w := w) (setRow_other w g b cs' hne)
theorem noByte3 (a b : Int) (x : Option Addr) (n c : Nat) : ∀ (i : Nat) (y : Int), (#[.int .i64 a, .int .i64 b, .slice x n c] : Array Value)[i]? ≠ some (.int .u8 y) := by
  intro i y
  match i with
  | 0 => simp
  | 1 => simp
  | 2 => simp
  | k + 3 => simp
theorem noByteT (x : Option Addr) (n c : Nat) (s : Int) : ∀ (i : Nat) (y : Int), (#[.slice x n c, .int .i64 s] : Array Value)[i]? ≠ some (.int .u8 y) := by
  intro i y
  match i with
  | 0 => simp
  | 1 => simp
  | k + 2 => simp
/-- a number is itself -/
theorem yieldSelf {P : Program} {ops : Array Oper} {S : World → Prop} {op : Oper} {a : Act} (hw : Region.wanted op (yielded ops a.tmps) = true) (t : TypeId) (x y : Operand) (ho : op.op = .binOp .eql t x y t) (n : Int) (hx : a.eval x = .int .i64 n) (hy : a.eval y = .int .i64 n) :
    YieldsIf P ops S op (.bool true) a :=
  .inl ⟨hw, fun w _ => by
    unfold execOp
    simp only [ho, hx, hy]
    simp [go_sem]⟩
theorem t_mergeG {P : Program} {id : Nat} {ops : Array Oper} {K : Act → World → Prop} {Q : Exit → Act → World → Prop} {a : Act} {w : World} (R : Nat → Option Addr → Nat → Value → World → Prop) {A : Nat → Option Addr → Nat → Value → Act}
    (hreg : ∀ K' : Act → World → Prop, Hid (∀ g a c z W2, R g a c z W2 → K' (A g a c z) W2) → (Code.region id ops true).wp P (Exit.then K' Q) a w) (hrest : ∀ g a c z W2, R g a c z W2 → K (A g a c z) W2) : (Code.region id ops true).wp P (Exit.then K Q) a w := hreg K hrest
theorem t_mergeH {P : Program} {id : Nat} {ops : Array Oper} {K : Act → World → Prop} {Q : Exit → Act → World → Prop} {a : Act} {w : World} (R : Nat → Option Addr → Nat → World → Prop) {A : Nat → Option Addr → Nat → Act}
    (hreg : ∀ K' : Act → World → Prop, Hid (∀ g a c W2, R g a c W2 → K' (A g a c) W2) → (Code.region id ops true).wp P (Exit.then K' Q) a w) (hrest : ∀ g a c W2, R g a c W2 → K (A g a c) W2) : (Code.region id ops true).wp P (Exit.then K Q) a w := hreg K hrest
end Go.Proofs.YthmlikljeoamgabDoor
/-
  The walks of the program's own writing of numbers, and of the bodies of records.
-/
namespace Go.Proofs.YthmlikljeoamgabDoor
open Go.RowKit
set_option linter.unusedVariables false

theorem Sl.four2 (w : World) (b0 b1 b2 b3 c0 c1 c2 c3 : Int) (e : TypeId) {g : Nat} (hg : g = w.heap.size) (h0 : 0 ≤ b0 ∧ b0 < 256) (h1 : 0 ≤ b1 ∧ b1 < 256) (h2 : 0 ≤ b2 ∧ b2 < 256) (h3 : 0 ≤ b3 ∧ b3 < 256) (e0 : c0 = b0) (e1 : c1 = b1) (e2 : c2 = b2) (e3 : c3 = b3) :
    Sl (w.alloc (.cells #[.int .u8 c0, .int .u8 c1, .int .u8 c2, .int .u8 c3] e)) (.slice (some ⟨g, 0, none⟩) 4 4) [b0, b1, b2, b3] := by
  subst e0 e1 e2 e3
  exact Sl.built w [c0, c1, c2, c3] e hg (by simp) (by intro x hx; simp at hx; omega)
/-- a row that was just built is the call's own -/
theorem tOwns_built (w : World) (l : List Int) (e : TypeId) {g : Nat} (hg : g = w.heap.size) {base : Nat} (hb : base ≤ w.heap.size) (hl : l.length ≤ 1000) : (w.alloc (.cells (l.map (Value.int .u8)).toArray e)).ownsRow base e 1 (.slice (some ⟨g, 0, none⟩) l.length l.length) l.length (l.map (Value.int .u8)) := by
  subst hg
  refine ⟨by simp, .inr ⟨w.heap.size, l.length, _, rfl, hb, heap_alloc_new _ _, Nat.le_refl _, by unfold maxLen; omega, by simp, by rw [List.take_of_length_le (by simp)]⟩⟩
theorem tOwns_one (w : World) (b c : Int) (e : TypeId) {g : Nat} (hg : g = w.heap.size) {base : Nat} (hb : base ≤ w.heap.size) (he : c = b) : (w.alloc (.cells #[.int .u8 c] e)).ownsRow base e 1 (.slice (some ⟨g, 0, none⟩) 1 1) [b].length ([b].map (Value.int .u8)) := by
  subst he
  exact tOwns_built w [c] e hg hb (by simp)
def numsL (ns : List Int) : List Int := ns.flatMap headL
theorem numsL_len (ns : List Int) : (numsL ns).length = 4 * ns.length := by
  induction ns with
  | nil => rfl
  | cons n ns ih =>
    show (headL n ++ numsL ns).length = _
    rw [List.length_append, headL_length, ih, List.length_cons]
    omega
theorem numsL_snoc (ns : List Int) (n : Int) : numsL (ns ++ [n]) = numsL ns ++ headL n := by simp [numsL]
theorem take_snocN (l : List Int) (k : Nat) (hk : k < l.length) : l.take (k + 1) = l.take k ++ [l.getD k 0] := by
  rw [List.take_succ_eq_append_getElem hk, getD_at hk]

set_option maxHeartbeats 2000000 in
set_option maxRecDepth 100000 in
theorem putNumbers_any (v : Value) (l ns : List Int) (B g : Nat) (w : World) (ho : w.ownsRow B 5 1 v l.length (l.map (Value.int .u8))) (hB : B ≤ w.heap.size) (hl : l.length ≤ 1000) (hk : ns.length ≤ 10) (hn : ∀ x ∈ ns, 0 ≤ x ∧ x < 2147483648)
    (hg : w.heap[g]? = some (.cells (ns.map (Value.int .i64)).toArray 3)) :
    Calls Tryd.prog 39 #[v, .slice (some ⟨g, 0, none⟩) ns.length ns.length] w fun e w' => ∃ v', e = .returned v' ∧ w'.ownsRow B 5 1 v' (l ++ numsL ns).length ((l ++ numsL ns).map (Value.int .u8)) ∧ Below B w w' := by
  obtain ⟨N, hN⟩ : ∃ N, ns.length = N := ⟨_, rfl⟩
  have HN : Hid (ns.length = N) := hN
  have Hn : Hid (∀ x ∈ ns, 0 ≤ x ∧ x < 2147483648) := hn
  rw [hN] at hk ⊢
  clear hN hn
  have HO0 : Hid (w.ownsRow B 5 1 v (l ++ numsL (ns.take 0)).length ((l ++ numsL (ns.take 0)).map (Value.int .u8))) := by unfold Hid; simpa [numsL] using ho
  clear ho
  go_enter Tryd.func39, Tryd.ntmps39
  go_wp2_with fail
  go_loopw [0, 9] (fun v iv wr => ∃ j : Nat, j ≤ N ∧ iv = .int .i64 (j : Int) ∧ Hid (wr.ownsRow B 5 1 v (l ++ numsL (ns.take j)).length ((l ++ numsL (ns.take j)).map (Value.int .u8))) ∧ wr.heap[g]? = some (.cells (ns.map (Value.int .i64)).toArray 3) ∧ Below B w wr) (fun _ iv _ => N - (intOf iv).toNat)
  case atStart => exact ⟨0, by omega, rfl, HO0, hg, Below.refl _ _⟩
  case round =>
    obtain ⟨j, hj, rfl, HO, hgr, hbel⟩ := hrel
    clear HO0 hg
    by_cases hjN : j < N
    · have hji : (j : Int) < (N : Int) := by omega
      have hjl : j < ns.length := by rw [HN.out]; exact hjN
      have hlt := HO.out.lt
      have hz : B ≤ wr.heap.size := Nat.le_trans hB hbel.size
      have hx := Hn.out (ns.getD j 0) (by rw [getD_at hjl]; exact List.getElem_mem hjl)
      have hc : wr.cell? ⟨g, j, none⟩ = some (.int .i64 (ns.getD j 0)) := by
        rw [cell_of_row _ _ j _ _ _ hgr, getD_at hjl]
        simp [List.getElem?_eq_getElem hjl]
      have HT : Hid (ns.take (j + 1) = ns.take j ++ [ns.getD j 0]) := take_snocN ns j hjl
      have hlen : (l ++ numsL (ns.take j)).length + 4 ≤ 140737488355328 := by
        rw [List.length_append, numsL_len, List.length_take]; omega
      have hne := tOwns_ne HO.out hgr (by decide)
      have lg : g < wr.heap.size := (Array.getElem?_eq_some_iff.1 hgr).1
      have HH : Hid (∀ n, headL n = [n / 16777216 % 256, n / 65536 % 256, n / 256 % 256, n % 256]) := fun n => rfl
      generalize ns.getD j 0 = n at hx hc HT
      generalize hL : l ++ numsL (ns.take j) = L at HO hlen
      have HL : Hid (l ++ numsL (ns.take j) = L) := hL
      clear hL hjl
      go_wp2_with (at_builtin; refine wpList_append_sl _ rfl _ _ 23 rfl B 5 Tryd.underlying23 info5 _ _ rfl rfl L [n / 16777216 % 256, n / 65536 % 256, n / 256 % 256, n % 256] (HO.out.alloc _) (Sl.four2 _ (n / 16777216 % 256) (n / 65536 % 256) (n / 256 % 256) (n % 256) _ _ _ _ _ rfl (by omega) (by omega) (by omega) (by omega) (by omega) (by omega) (by omega) (by omega)) hlen (by simp; omega) ?_)
      intro v2 w2 ho2 hg2
      have hb2 : Below B w w2 := (hbel.alloc hz _).grown hg2 (by simp; omega) (fun k hk => (hlt k hk).1)
      have hgr2 : w2.heap[g]? = some (.cells (ns.map (Value.int .i64)).toArray 3) := by
        rw [hg2.block g (by simp; omega) (fun e => hne g e.symm rfl), heap_alloc_old _ _ lg]
        exact hgr
      have HO2 : Hid (w2.ownsRow B 5 1 v2 (l ++ numsL (ns.take (j + 1))).length ((l ++ numsL (ns.take (j + 1))).map (Value.int .u8))) := by
        unfold Hid
        rw [HT.out, numsL_snoc, ← List.append_assoc, HL.out, HH.out]
        simpa using ho2
      clear ho2 hg2 hbel hlen HO hne hlt hgr hc HT HL
      go_wp2
      go_roundw
      case rel => exact ⟨j + 1, by omega, by go_num, HO2, hgr2, hb2⟩
      case measure => simp [intOf]; omega
    · obtain rfl : j = N := by omega
      have ht : ns.take j = ns := List.take_of_length_le (by rw [HN.out]; exact Nat.le_refl _)
      rw [ht] at HO
      clear ht
      go_wp2
      go_ret
      exact ⟨_, rfl, HO.out, hbel⟩
end Go.Proofs.YthmlikljeoamgabDoor
/-
  Slices that are cut, as one equation each.
-/
namespace Go.Proofs.YthmlikljeoamgabDoor
open Go.RowKit

theorem getD_dropped (l : List Int) (n i : Nat) : (l.drop n).getD i 0 = l.getD (n + i) 0 := by simp [List.getD]
theorem getD_taken (l : List Int) (n i : Nat) (h : i < n) : (l.take n).getD i 0 = l.getD i 0 := by simp [List.getD, h]

theorem Sl.window {w : World} {a : Option Addr} {n cap : Nat} {l : List Int} (h : Sl w (.slice a n cap) l) (lo hi : Nat) (hlo : lo ≤ hi) (hhi : hi ≤ l.length) : Sl w (sliced a lo hi cap 1) ((l.take hi).drop lo) := by
  have hd := (h.take hi hhi).len
  have hb := h.byte
  obtain ⟨⟨a', cap', e, hc, hn, h1⟩, hla, hba⟩ := h
  simp only [Value.slice.injEq] at e
  obtain ⟨rfl, rfl, rfl⟩ := e
  have hl : ((l.take hi).drop lo).length = hi - lo := by rw [List.length_drop, List.length_take]; omega
  have hbb : ∀ x ∈ (l.take hi).drop lo, 0 ≤ x ∧ x < 256 := fun x hx => hb x (List.mem_of_mem_take (List.mem_of_mem_drop hx))
  cases a with
  | none =>
    have c0 := hn rfl
    subst c0
    have h0 : l.length = 0 := by omega
    refine ⟨⟨_, _, by rw [hl]; rfl, by omega, fun _ => by omega, .inl (List.eq_nil_of_length_eq_zero (by omega))⟩, by omega, hbb⟩
  | some ad =>
    refine ⟨⟨_, _, by rw [hl]; rfl, by omega, (by intro h; split at h <;> simp at h), ?_⟩, by omega, hbb⟩
    rcases Nat.eq_or_lt_of_le hlo with he | hlt
    · exact .inl (List.eq_nil_of_length_eq_zero (by omega))
    · rcases h1 with rfl | ⟨b, off, e2, hbs, hcell⟩
      · simp at hhi; omega
      · simp only [Option.some.injEq] at e2
        subst e2
        refine .inr ⟨b, off + lo, ?_, hbs, fun i hi2 => ?_⟩
        · rw [if_neg (by omega)]
          simp [Addr.add]
        · rw [hl] at hi2
          rw [Nat.add_assoc, hcell (lo + i) (by omega), getD_dropped, getD_taken _ _ _ (by omega)]

theorem size5w (w : World) : (Go.sizeOf 5).run Tryd.prog w = .ok 1 w := by
  obtain ⟨i, hi, _, hsz, _⟩ := info_parts info5
  simp [sizeOf, typeInfo, hi, hsz]

set_option maxRecDepth 100000 in
theorem Sl.upTo {w : World} {a : Option Addr} {n cap : Nat} {l : List Int} (h : Sl w (.slice a n cap) l) (hi : Nat) (hhi : hi ≤ l.length) :
    ∃ a' c', (∀ W, (Instr.slice 23 (.slice a n cap) none (some (.int .i64 (hi : Int))) none).run Tryd.prog W = .ok (.slice a' hi c') W) ∧ Sl w (.slice a' hi c') (l.take hi) := by
  have hw := h.window 0 hi (by omega) hhi
  obtain ⟨⟨a', cap', e, hc, hn, h1⟩, hla, hba⟩ := h
  simp only [Value.slice.injEq] at e
  obtain ⟨rfl, rfl, rfl⟩ := e
  refine ⟨_, _, fun W => ?_, by simpa [sliced] using hw⟩
  rw [run_slice_h (P := Tryd.prog) W 23 a _ cap Tryd.underlying23 .i64 _ (by omega) (by omega)]
  have e : Tryd.prog.elem 23 = 5 := by kernel_rfl
  rw [e, size5w]
  simp [Result.andThen, sliced]
set_option maxRecDepth 100000 in
theorem Sl.from {w : World} {a : Option Addr} {n cap : Nat} {l : List Int} (h : Sl w (.slice a n cap) l) (lo : Nat) (hlo : lo ≤ l.length) :
    ∃ a' c', (∀ W, (Instr.slice 23 (.slice a n cap) (some (.int .i64 (lo : Int))) none none).run Tryd.prog W = .ok (.slice a' (n - lo) c') W) ∧ Sl w (.slice a' (n - lo) c') (l.drop lo) := by
  have hw := h.window lo l.length hlo (Nat.le_refl _)
  obtain ⟨⟨a', cap', e, hc, hn, h1⟩, hla, hba⟩ := h
  simp only [Value.slice.injEq] at e
  obtain ⟨rfl, rfl, rfl⟩ := e
  refine ⟨_, _, fun W => ?_, by simpa [sliced] using hw⟩
  rw [run_slice_l (P := Tryd.prog) W 23 a _ cap Tryd.underlying23 .i64 _ (by omega) (by omega)]
  have e : Tryd.prog.elem 23 = 5 := by kernel_rfl
  rw [e, size5w]
  simp [Result.andThen, sliced]
end Go.Proofs.YthmlikljeoamgabDoor
/-
  Bytes between two places.
-/
namespace Go.Proofs.YthmlikljeoamgabDoor
open Go.RowKit
set_option linter.unusedVariables false

set_option maxRecDepth 100000 in
/-- bytes between two places -/
theorem Sl.cutT {w : World} {a : Option Addr} {n cap : Nat} {l : List Int} (h : Sl w (.slice a n cap) l) (lo hi m : Nat) (hlo : lo ≤ hi) (hhi : hi ≤ l.length) (hm : m = hi - lo) (li hj : Int) (hli : li = (lo : Int)) (hhj : hj = (hi : Int)) :
    ∃ a' c', (∀ W, (Instr.slice 23 (.slice a n cap) (some (.int .i64 li)) (some (.int .i64 hj)) none).run Tryd.prog W = .ok (.slice a' m c') W) ∧ Sl w (.slice a' m c') ((l.take hi).drop lo) := by
  subst hli
  subst hhj
  subst hm
  have hw := h.window lo hi hlo hhi
  obtain ⟨⟨a', cap', e, hc, hn, h1⟩, hla, hba⟩ := h
  simp only [Value.slice.injEq] at e
  obtain ⟨rfl, rfl, rfl⟩ := e
  refine ⟨_, _, fun W => ?_, by simpa [sliced] using hw⟩
  rw [run_slice_lh (P := Tryd.prog) W 23 a _ cap Tryd.underlying23 .i64 .i64 _ _ (by omega) (by omega) (by omega)]
  have e : Tryd.prog.elem 23 = 5 := by kernel_rfl
  rw [e, size5w, Int.toNat_natCast, Int.toNat_natCast]
  simp [Result.andThen, sliced]
set_option maxRecDepth 100000 in
/-- the first bytes, with no room behind them -/
theorem Sl.upMax {w : World} {a : Option Addr} {n cap : Nat} {l : List Int} (h : Sl w (.slice a n cap) l) (k : Nat) (hk : k ≤ l.length) :
    ∃ a', (∀ W, (Instr.slice 23 (.slice a n cap) none (some (.int .i64 (k : Int))) (some (.int .i64 (k : Int)))).run Tryd.prog W = .ok (.slice a' k k) W) ∧ Sl w (.slice a' k k) (l.take k) := by
  have ht := h.take k hk
  obtain ⟨⟨a', cap', e, hc, hn, h1⟩, hla, hba⟩ := h
  simp only [Value.slice.injEq] at e
  obtain ⟨rfl, rfl, rfl⟩ := e
  refine ⟨if k = 0 then a else a.map (·.add 0), fun W => ?_, ?_⟩
  · rw [run_slice_hm (P := Tryd.prog) W 23 a _ cap Tryd.underlying23 .i64 .i64 (k : Int) (k : Int) (by omega) (by omega) (by omega)]
    have e : Tryd.prog.elem 23 = 5 := by kernel_rfl
    rw [e, size5w]
    simp [Result.andThen, sliced]
  · have hl : (l.take k).length = k := by rw [List.length_take]; omega
    refine ⟨⟨_, k, by rw [hl], by omega, ?_, ?_⟩, ht.len, ht.byte⟩
    · intro g
      by_cases h0 : k = 0
      · exact h0
      · rw [if_neg h0] at g
        cases a with
        | none => have := hn rfl; omega
        | some ad => simp at g
    · by_cases h0 : k = 0
      · subst h0; exact .inl (by simp)
      · right
        rcases h1 with rfl | ⟨b, off, rfl, hb, hcell⟩
        · simp at hk; omega
        · refine ⟨b, off, ?_, hb, fun i hi => ?_⟩
          · rw [if_neg h0]
            simp [Addr.add]
          · rw [hl] at hi
            rw [hcell i (by omega), getD_at (by omega), getD_at (by rw [hl]; exact hi)]
            simp
end Go.Proofs.YthmlikljeoamgabDoor
