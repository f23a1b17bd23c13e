/-
  Regions that draw their order, walked in one order alone: what is read is taken first, as long as what could change it waits for the reading ('Sx': conditions on the world, each of which is asked for until an operation that ends it has come up). And plain regions, one operation after the other. No program is named here.
-/
import Derived.OrdersHeld
import Derived.WalkKit
import Derived.Test.YtakgfdbjgeopdabDoorOneCell
namespace Go.Proofs.YtakgfdbjgeopdabDoor
open Go.RowKit
set_option linter.unusedVariables false

/-- conditions on the world, each until an operation has come up -/
def Sx : List (Nat × (World → Prop)) → Array Bool → World → Prop
  | [], _, _ => True
  | c :: r, L, w => (L.getD c.1 false = false → c.2 w) ∧ Sx r L w
theorem Sx.set {l : List (Nat × (World → Prop))} {i : Nat} (h : l.all (fun c => c.1 != i) = true) {L : Array Bool} {w : World} (hs : Sx l (L.setIfInBounds i true) w) : Sx l L w := by
  induction l with
  | nil => trivial
  | cons c r ih =>
    simp only [List.all_cons, Bool.and_eq_true, bne_iff_ne, ne_eq] at h
    refine ⟨fun hc => hs.1 ?_, ih h.2 hs.2⟩
    rw [Array.getD_eq_getD_getElem?] at hc ⊢
    rw [Array.getElem?_setIfInBounds_ne (fun e => h.1 e.symm)]
    exact hc
/-- what such conditions give while the operations D have not come up -/
def Sd (D : List Nat) (n : Nat) : List (Nat × (World → Prop)) → World → Prop
  | [], _ => True
  | c :: r, w => ((D.contains c.1 || decide (n ≤ c.1)) = true → c.2 w) ∧ Sd D n r w
theorem Sx.sd {l : List (Nat × (World → Prop))} {D : List Nat} {n : Nat} {L : Array Bool} {w : World} (hn : L.size = n) (hD : ∀ j ∈ D, L.getD j true = false) (hs : Sx l L w) : Sd D n l w := by
  induction l with
  | nil => trivial
  | cons c r ih =>
    refine ⟨fun h => hs.1 ?_, ih hs.2⟩
    simp only [Bool.or_eq_true, List.contains_iff_mem, decide_eq_true_eq] at h
    rcases h with h | h
    · have h1 := hD _ h
      rw [Array.getD_eq_getD_getElem?] at h1 ⊢
      cases hx : L[c.1]? with
      | none => rfl
      | some b => rw [hx] at h1; simpa using h1
    · rw [Array.getD_eq_getD_getElem?, Array.getElem?_eq_none (by omega)]
      rfl

section
variable {P : Program} {ops : Array Oper} {Q : Exit → Act → World → Prop} {md : Region.Mode} {S : List (Nat × (World → Prop))}

def wpAnyX (P : Program) (md : Region.Mode) (ops : Array Oper) (Q : Exit → Act → World → Prop) (S : List (Nat × (World → Prop))) : Nat → Array Bool → Act → World → Prop
  | 0, listed, a, w => Region.ready md ops listed = [] ∧ Q .normal a w
  | fuel + 1, listed, a, w =>
    (Region.ready md ops listed = [] → Q .normal a w) ∧
    ∀ i ∈ Region.ready md ops listed, wpOp P ops Q i (fun a' w' => Sx S (listed.setIfInBounds i true) w' ∧ wpAnyX P md ops Q S fuel (listed.setIfInBounds i true) a' w') a w
theorem wpAny_ofX : ∀ (fuel : Nat) (listed : Array Bool) (a : Act) (w : World), wpAnyX P md ops Q S fuel listed a w → wpAny P md ops Q fuel listed a w
  | 0, _, _, _, h => h
  | fuel + 1, _, _, _, h => ⟨h.1, fun i hi => wpOp_mono (fun a' w' h' => wpAny_ofX fuel _ a' w' h'.2) (h.2 i hi)⟩

/-- the operations D wait for i, one for another -/
def waitsB (md : Region.Mode) (ops : Array Oper) (i : Nat) (D : List Nat) : Bool :=
  D.all fun j => j == i || (match ops[j]? with
    | none => false
    | some o => o.after.any fun e => Region.binds md e && D.contains e.on)

theorem wpAnyX_first {i : Nat} {oi : Oper} {v : Value} (D : List Nat) (hi : ops[i]? = some oi) (hsel : ∀ (j : Nat) (o : Oper) cs b, ops[j]? = some o → o.op ≠ .select cs b)
    (hQ : ∀ c a w, Q (.panic c) (a.put oi.dst v) w → Q (.panic c) a w) (hiD : i ∈ D) (hD : waitsB md ops i D = true) (hg : S.all (fun c => c.1 != i) = true) :
    ∀ (fuel : Nat) (listed : Array Bool) (a : Act) (w : World), listed.size = ops.size →
      (∀ j oj, ops[j]? = some oj → j ≠ i → listed.getD j true = false → (∀ e ∈ oj.after, Region.binds md e = true → e.on ≠ i) → oi.apart ops oj = true) →
      i ∈ Region.ready md ops listed → (∀ j ∈ D, listed.getD j true = false) → YieldsIf P ops (Sd D ops.size S) oi v a → Sx S listed w →
      wpAnyX P md ops Q S fuel (listed.setIfInBounds i true) (a.put oi.dst v) w → wpAnyX P md ops Q S (fuel + 1) listed a w := by
  intro fuel
  induction fuel with
  | zero =>
    intro listed a w hsz _ hr hun hy hS H
    have hS' : Sx S (listed.setIfInBounds i true) w := by
      clear H hy hun hr
      induction S with
      | nil => trivial
      | cons c r ih =>
        simp only [List.all_cons, Bool.and_eq_true, bne_iff_ne, ne_eq] at hg
        refine ⟨fun hc => hS.1 ?_, ih hg.2 hS.2⟩
        rw [Array.getD_eq_getD_getElem?] at hc ⊢
        rw [Array.getElem?_setIfInBounds_ne (fun e => hg.1 e.symm)] at hc
        exact hc
    refine ⟨fun h => (by rw [h] at hr; cases hr), fun j hj => ?_⟩
    by_cases hji : j = i
    · subst hji; exact hy.wpOp hi (hS.sd hsz hun) ⟨hS', H⟩
    · have := ready_mono hj hji
      rw [H.1] at this
      cases this
  | succ fuel ih =>
    intro listed a w hsz hfree hr hun hy hS H
    have hS' : Sx S (listed.setIfInBounds i true) w := by
      clear H hy hun hr ih
      induction S with
      | nil => trivial
      | cons c r ih =>
        simp only [List.all_cons, Bool.and_eq_true, bne_iff_ne, ne_eq] at hg
        refine ⟨fun hc => hS.1 ?_, ih hg.2 hS.2⟩
        rw [Array.getD_eq_getD_getElem?] at hc ⊢
        rw [Array.getElem?_setIfInBounds_ne (fun e => hg.1 e.symm)] at hc
        exact hc
    refine ⟨fun h => (by rw [h] at hr; cases hr), fun j hj => ?_⟩
    by_cases hji : j = i
    · subst hji; exact hy.wpOp hi (hS.sd hsz hun) ⟨hS', H⟩
    · have h1 := H.2 j (ready_mono hj hji)
      obtain ⟨hjun, oj, hoj, hall⟩ := mem_ready.1 hj
      have hup : ∀ k ∈ D, ∀ e ∈ oj.after, Region.binds md e = true → e.on ≠ k := fun k hk e he hb heq => by
        have h1 := hall e he hb
        have h0 := hun k hk
        rw [heq] at h1
        rcases Nat.lt_or_ge k listed.size with h' | h'
        · simp [h'] at h0 h1; rw [h0] at h1; cases h1
        · simp [Array.getElem?_eq_none h'] at h1
      have hnot : ∀ e ∈ oj.after, Region.binds md e = true → e.on ≠ i := hup i hiD
      have hjD : j ∉ D := fun hm => by
        have h3 := List.all_eq_true.1 hD j hm
        simp only [Bool.or_eq_true, beq_iff_eq, hoj, Array.any_eq_true, Bool.and_eq_true, List.contains_iff_mem] at h3
        rcases h3 with h3 | ⟨x, hx, h4, h5⟩
        · exact hji h3
        · exact hup _ h5 oj.after[x] (Array.getElem_mem hx) h4 rfl
      have h2 := wpOp_putIf hoj (hfree j oj hoj hji hjun hnot) (fun cs b => hsel i oi cs b hi) (fun cs b => hsel j oj cs b hoj) hQ hy h1
      have hfree' : ∀ k ok, ops[k]? = some ok → k ≠ i → (listed.setIfInBounds j true).getD k true = false →
          (∀ e ∈ ok.after, Region.binds md e = true → e.on ≠ i) → oi.apart ops ok = true := fun k ok hk hki hu hno => by
        refine hfree k ok hk hki ?_ hno
        by_cases hjk : j = k
        · subst hjk; exact hjun
        · rw [getD_set_ne true hjk] at hu; exact hu
      have hun' : ∀ k ∈ D, (listed.setIfInBounds j true).getD k true = false := fun k hk => by
        rw [getD_set_ne true (show j ≠ k from fun e => hjD (by rw [e]; exact hk))]
        exact hun k hk
      refine wpOp_mono (fun a' w' h3 => ?_) h2
      have hc := Array.setIfInBounds_comm (xs := listed) true true hji
      have hsj : Sx S (listed.setIfInBounds j true) w' := Sx.set hg (by rw [hc]; exact h3.2.1)
      refine ⟨hsj, ih (listed.setIfInBounds j true) a' w' (by rw [Array.size_setIfInBounds]; exact hsz) hfree' (ready_mono hr (Ne.symm hji)) hun' h3.1 hsj ?_⟩
      rw [hc]
      exact h3.2.2

/-- what is read is taken first: D, the operations that wait for it and that end the condition which it stands on -/
theorem xTake {i : Nat} (d : Nat) (D : List Nat) {oi : Oper} {v : Value} {fuel : Nat} {listed : Array Bool} {a : Act} {w : World} (hi : ops[i]? = some oi) (hd : oi.dst = some d)
    (hs : Region.noSelect ops = true) (hf : Region.free md ops listed i = true) (hr : (Region.ready md ops listed).contains i = true)
    (hQ : ∀ c a w, Q (.panic c) (a.put (some d) v) w → Q (.panic c) a w)
    (hb : (D.contains i && waitsB md ops i D && S.all (fun c => c.1 != i) && decide (listed.size = ops.size) && D.all fun j => listed.getD j true == false) = true)
    (hy : YieldsIf P ops (Sd D ops.size S) oi v a) (hS : Sx S listed w)
    (h : wpAnyX P md ops Q S fuel (listed.setIfInBounds i true) (a.put (some d) v) w) : wpAnyX P md ops Q S (fuel + 1) listed a w := by
  simp only [Bool.and_eq_true, List.contains_iff_mem, decide_eq_true_eq, List.all_eq_true, beq_iff_eq] at hb
  obtain ⟨⟨⟨⟨h1, h2⟩, h3⟩, h4⟩, h5⟩ := hb
  exact wpAnyX_first D hi (Region.noSelect_spec hs) (by rw [hd]; exact hQ) h1 h2 (List.all_eq_true.2 h3) fuel listed a w h4 (Region.free_spec hi hf) (by simpa using hr) h5 hy hS (by rw [hd]; exact h)
theorem xOne {i fuel : Nat} {L : Array Bool} {a : Act} {w : World} (hr : Region.ready md ops L = [i])
    (h : wpOp P ops Q i (fun a' w' => Sx S (L.setIfInBounds i true) w' ∧ wpAnyX P md ops Q S fuel (L.setIfInBounds i true) a' w') a w) : wpAnyX P md ops Q S (fuel + 1) L a w :=
  ⟨fun h0 => absurd (hr ▸ h0) (by simp), hr ▸ (fun j hj => by
    obtain rfl : j = i := by simpa using hj
    exact h)⟩
theorem xTwo {i i' fuel : Nat} {L : Array Bool} {a : Act} {w : World} (hr : Region.ready md ops L = [i, i'])
    (h : wpOp P ops Q i (fun a' w' => Sx S (L.setIfInBounds i true) w' ∧ wpAnyX P md ops Q S fuel (L.setIfInBounds i true) a' w') a w)
    (h' : wpOp P ops Q i' (fun a' w' => Sx S (L.setIfInBounds i' true) w' ∧ wpAnyX P md ops Q S fuel (L.setIfInBounds i' true) a' w') a w) : wpAnyX P md ops Q S (fuel + 1) L a w :=
  ⟨fun h0 => absurd (hr ▸ h0) (by simp), hr ▸ (fun j hj => by
    rcases (show j = i ∨ j = i' by simpa using hj) with rfl | rfl
    · exact h
    · exact h')⟩
theorem xDone {listed : Array Bool} {a : Act} {w : World} (hr : Region.ready md ops listed = []) (h : Q .normal a w) :
    ∀ fuel, wpAnyX P md ops Q S fuel listed a w
  | 0 => ⟨hr, h⟩
  | _ + 1 => ⟨fun _ => h, by rw [hr]; simp⟩
/-- the beginning -/
theorem xRegion (S : List (Nat × (World → Prop))) {id : Nat} {a : Act} {w : World} (hm : P.follows .mixedOrders = true)
    (h : wpAnyX P .any ops Q S ops.size (Array.replicate ops.size false) a w.drew) : (Code.region id ops true).wp P Q a w :=
  wp_region_any hm (wpAny_ofX _ _ _ _ h)
end
end Go.Proofs.YtakgfdbjgeopdabDoor
