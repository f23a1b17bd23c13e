/-
  What a ply of a play answers; and small laws for its walks.
-/
import Derived.Test.YticjofjghpdmpaaDoorMtLook
import Derived.Test.YticjofjghpdmpaaDoorMtRow
import Derived.Test.YticjofjghpdmpaaDoorPlyRow
import Derived.Test.YticjofjghpdmpaaDoorPaxProg
import Derived.Test.YticjofjghpdmpaaDoorPaxVote
import Derived.Test.YticjofjghpdmpaaDoorPaxPk
namespace Go.Proofs.YticjofjghpdmpaaDoor
open Go.RowKit
set_option linter.unusedVariables false

/-- what a ply leaves behind -/
def Res (w : World) (m : Nat) (rounds : Int) (w' : World) : Prop := ∃ (σ : Mt) (f ys : Nat → Value) (bs : Nat → Option Nat), St w' m σ f ys bs ∧ MInv σ ∧ σ.rounds ≤ rounds + 1 ∧ Below m w w'
theorem ptrSize : (Tryd.prog.info? 56).map (·.size) = some 1 := by kernel_rfl
theorem inSize : (Tryd.prog.info? 3).map (·.size) = some 1 := by kernel_rfl
theorem p_mergeGI {P : Program} {bk : Nat} {id : Nat} {ops : Array Oper} {K : Act → World → Prop} {Q : Exit → Act → World → Prop} {a : Act} {w : World} (R : Nat → World → Prop) {A : Nat → Act}
    (hreg : ∀ K' : Act → World → Prop, Hid (∀ g W2, R g W2 → K' (A g) W2) → (Code.region id ops true).wp P (Exit.inBlock bk (Exit.then K' Q)) a w) (hrest : ∀ g W2, R g W2 → K (A g) W2) : (Code.region id ops true).wp P (Exit.inBlock bk (Exit.then K Q)) a w := hreg K hrest
theorem cell_setCell_ne {w : World} {b o o' : Nat} {v u : Value} (h : w.cell? ⟨b, o', none⟩ = some u) (hne : o ≠ o') : (w.setCell ⟨b, o, none⟩ v).cell? ⟨b, o', none⟩ = some u := by
  rw [World.cell?_setCell_other _ _ _ _ (fun e => hne (by injection e))]
  exact h
theorem p_mergeG5 {P : Program} {id : Nat} {ops : Array Oper} {K : Act → World → Prop} {Q : Exit → Act → World → Prop} {a : Act} {w : World} (R : Nat → Option Addr → Nat → Option Addr → Nat → World → Prop) {A : Nat → Option Addr → Nat → Option Addr → Nat → Act}
    (hreg : ∀ K' : Act → World → Prop, Hid (∀ x g c g' c' W2, R x g c g' c' W2 → K' (A x g c g' c') W2) → (Code.region id ops true).wp P (Exit.then K' Q) a w) (hrest : ∀ x g c g' c' W2, R x g c g' c' W2 → K (A x g c g' c') W2) : (Code.region id ops true).wp P (Exit.then K Q) a w := hreg K hrest
theorem p_mergeG4 {P : Program} {id : Nat} {ops : Array Oper} {K : Act → World → Prop} {Q : Exit → Act → World → Prop} {a : Act} {w : World} (R : Nat → Option Addr → Nat → World → Prop) {A : Nat → Option Addr → Nat → Act}
    (hreg : ∀ K' : Act → World → Prop, Hid (∀ x g c W2, R x g c W2 → K' (A x g c) W2) → (Code.region id ops true).wp P (Exit.then K' Q) a w) (hrest : ∀ x g c W2, R x g c W2 → K (A x g c) W2) : (Code.region id ops true).wp P (Exit.then K Q) a w := hreg K hrest
/-- what promising and voting answer where an acceptor may be -/
theorem pro_two {a : Acc} {b : Bal} (h : AccMay a) (hb : BalMay b) : (proE a b = 7 ∧ proP a b = ⟨0, 0⟩ ∧ proL a b = [] ∧ b.lt a.p) ∨ (proE a b = 0 ∧ proP a b = b ∧ proL a b = a.vs ∧ ¬ b.lt a.p) := by
  by_cases hl : b.lt a.p
  · have e : proE a b = 7 := by unfold proE; rw [if_neg (fun g => g h), if_neg (fun g => g hb), if_pos hl]
    exact .inl ⟨e, if_neg (by rw [e]; decide), if_neg (by rw [e]; decide), hl⟩
  · have e : proE a b = 0 := by unfold proE; rw [if_neg (fun g => g h), if_neg (fun g => g hb), if_neg hl]
    exact .inr ⟨e, if_pos e, if_pos e, hl⟩
theorem vot_two {a : Acc} {v : Vt} (h : AccMay a) (hv : VtMay v) : (votE a v = 7 ∧ accP a v = ⟨0, 0⟩ ∧ accL a v = [] ∧ v.b.lt a.p) ∨ (votE a v = 0 ∧ accP a v = v.b ∧ accL a v = insV a.vs v ∧ ¬ v.b.lt a.p) := by
  by_cases hl : v.b.lt a.p
  · have e : votE a v = 7 := by unfold votE; rw [if_neg (fun g => g h), if_neg (fun g => g hv), if_pos hl]
    exact .inl ⟨e, if_neg (by rw [e]; decide), if_neg (by rw [e]; decide), hl⟩
  · have e : votE a v = 0 := by unfold votE; rw [if_neg (fun g => g h), if_neg (fun g => g hv), if_neg hl]
    exact .inr ⟨e, if_pos e, if_pos e, hl⟩
theorem MInv.acc {σ : Mt} (h : MInv σ) {n : Nat} (hn : n < 5) : AccMay (σ.node n) := by
  obtain ⟨H, h⟩ := h
  exact h.acc n hn
theorem MInv.balMay {σ : Mt} (h : MInv σ) {k : Nat} {B : Bid} (hB : σ.bid k = some B) : BalMay B.bal := by
  obtain ⟨H, h⟩ := h
  exact h.may hB
theorem St.nodeAt {w : World} {m : Nat} {σ : Mt} {f ys : Nat → Value} {bs : Nat → Option Nat} (h : St w m σ f ys bs) {n : Nat} (hn : n < 5) : w.rangeAt m (3 * n) [.int .i64 (σ.node n).p.r, .int .i64 (σ.node n).p.n, ys n] := by
  refine h.mb.range (by show 3 * n + 3 ≤ 38; omega) (fun j u hj => ?_)
  match j, hj with
  | 0, hj => simp at hj; subst hj; exact h.mf.nr n hn
  | 1, hj => simp at hj; subst hj; exact h.mf.nn n hn
  | 2, hj => simp at hj; subst hj; exact h.mf.ny n hn
  | k + 3, hj => simp at hj
theorem BidAt.balAt {w : World} {g : Nat} {B : Bid} (h : BidAt w g B) : w.rangeAt g 0 [.int .i64 B.bal.r, .int .i64 B.bal.n] := by
  obtain ⟨F, zs, hF, hB, _⟩ := h
  refine hF.range (by show 0 + 2 ≤ 30; omega) (fun j u hj => ?_)
  rw [Nat.zero_add]
  match j, hj with
  | 0, hj => simp at hj; subst hj; exact hB.br
  | 1, hj => simp at hj; subst hj; exact hB.bn
  | k + 2, hj => simp at hj
theorem BidAt.whatAt {w : World} {g : Nat} {B : Bid} (h : BidAt w g B) {s : Nat} (hs : s < 3) {c : Cmd} (hc : B.what s = some c) : w.rangeAt g (15 + 5 * s) (cmL c) := by
  obtain ⟨F, zs, hF, hB, _⟩ := h
  exact hF.range (by rw [cmL_length]; omega) (hB.wh s hs c hc)
theorem onlyRange {b : Nat} {w w' : World} (h : Only b w w') {c o : Nat} (hc : c ≠ b) {cs : List Value} (hr : w.rangeAt c o cs) : w'.rangeAt c o cs := fun j v hj => by
  have := hr j v hj
  unfold World.cell? at this ⊢
  rw [h.other c hc]
  exact this
theorem MInv.vtMay {σ : Mt} (h : MInv σ) {k s : Nat} {B : Bid} (hB : σ.bid k = some B) {c : Cmd} (hw : B.what s = some c) : VtMay ⟨(s : Int), B.bal, c⟩ := by
  obtain ⟨H, h⟩ := h
  have ha := (h.bids k B hB).asked s c hw
  exact ⟨by show 0 ≤ (s : Int) ∧ (s : Int) ≤ 39; omega, h.may hB, ha.2.1⟩
theorem countOf_le (B : Bid) : countOf B ≤ 5 := by
  rw [← cntTo_five]
  exact cntTo_le B 5
theorem BidAt.askedAt {w : World} {g : Nat} {B : Bid} (h : BidAt w g B) {s : Nat} (hs : s < 3) : w.cell? ⟨g, 12 + s, none⟩ = some (.bool (B.what s).isSome) := by
  obtain ⟨F, zs, hF, hB, _⟩ := h
  rw [hF.cell (by omega), hB.ak s hs]
theorem pick_two (ls : List (List Vt)) (s : Int) (h : pickE ls s = 0) : (pickO ls s = none ∧ pickF ls s = false ∧ pickC ls s = ⟨0, 0, 0, 0, 0⟩) ∨ ∃ u, pickO ls s = some u ∧ pickF ls s = true ∧ pickC ls s = u.w := by
  cases ho : pickO ls s with
  | none => exact .inl ⟨rfl, by unfold pickF; rw [if_pos h, ho]; rfl, by unfold pickC; rw [if_pos h, ho]; rfl⟩
  | some u => exact .inr ⟨u, rfl, by unfold pickF; rw [if_pos h, ho]; rfl, by unfold pickC; rw [if_pos h, ho]; rfl⟩
theorem onlyCell {b : Nat} {w w' : World} (h : Only b w w') {c o : Nat} (hc : c ≠ b) {v : Value} (hr : w.cell? ⟨c, o, none⟩ = some v) : w'.cell? ⟨c, o, none⟩ = some v := by
  unfold World.cell? at hr ⊢
  rw [h.other c hc]
  exact hr
/-- a block of another type is changed -/
theorem St.onlyOther {w w' : World} {m : Nat} {σ : Mt} {f ys : Nat → Value} {bs : Nat → Option Nat} (h : St w m σ f ys bs) {b : Nat} (o : Only b w w') {cs : Array Value} {t : TypeId} (hb : w.heap[b]? = some (.cells cs t (0, 0))) (h1 : t ≠ 61) (h2 : t ≠ 77) (h3 : t ≠ 39) : St w' m σ f ys bs := by
  have hB : Blk w b t cs.size (fun j => (cs[j]?).getD undef) := ⟨cs, hb, rfl, fun j hj => by rw [Array.getElem?_eq_getElem hj]; rfl⟩
  have ne : ∀ (g n : Nat) (t' : TypeId) (F : Nat → Value), Blk w g t' n F → t ≠ t' → g ≠ b := fun g n t' F hF hne e => by
    obtain ⟨cs', h4, _⟩ := hF.ex
    rw [e, hb] at h4
    simp only [Option.some.injEq, Obj.cells.injEq] at h4
    exact hne h4.2.1
  refine ⟨h.mb.keep (o.other _ (ne _ _ _ _ h.mb h1)), h.mf, fun n hn => ⟨Ov.only hB h3 o (h.ov n hn).1, (h.ov n hn).2⟩, h.bn, fun k hk B hBk => ?_, h.ap, fun k g hk hg => by rw [o.size]; exact h.gt k g hk hg⟩
  obtain ⟨g, h4, h5⟩ := h.bd k hk B hBk
  have hg : g ≠ b := by
    obtain ⟨F, zs, hF, _⟩ := h5
    exact ne _ _ _ _ hF h2
  exact ⟨g, h4, h5.keep (o.other _ hg) (fun y l hy => Ov.only hB h3 o hy)⟩
theorem ballotNe : 26 ≠ 39 := by decide
end Go.Proofs.YticjofjghpdmpaaDoor
