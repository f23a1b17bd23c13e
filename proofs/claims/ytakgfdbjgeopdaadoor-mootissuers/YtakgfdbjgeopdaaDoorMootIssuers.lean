/-
  The law MootIssuers holds: Issuer answers what the document says; on the condition that the row names (the table of rounds is laid).
-/
import Derived.Test.YtakgfdbjgeopdaaDoorFrame
import Derived.Test.YtakgfdbjgeopdaaDoorMootIssuersWalk
namespace Go.Proofs.YtakgfdbjgeopdaaDoor
open Go.ChangeShapes Go.WideShapes Go.ChangeAt Go.RowKit
set_option linter.unusedVariables false

set_option maxRecDepth 100000 in
theorem mootIssuers_contract (H : Type) (enc : TypeId × Value → H) (W : World) (base : Nat) (args : Array Value) (ds gs : List (DataW H)) (before : List MemPlace)
    (hval : ∀ (j : Nat) t v, Tryd.f4.params[j]? = some t → args[j]? = some v → Value.okWide Tryd.prog W .any base t v)
    (hW : DataW.Whole enc Tryd.prog Tryd.f4.params.toList Rows.mootIssuersSpec.vars false W args.toList ds gs before)
    (hsz : (DataW.weightsEach Tryd.prog (Tryd.f4.params.toList ++ Rows.mootIssuersSpec.plain.varTypes Tryd.prog) (ds ++ gs)).all (· ≤ reachBytes) = true) (hL : laidMetH Tryd.prog Rows.mootIssuersRow.laid W) :
    Calls Tryd.prog 4 args W fun e W' => ∃ v, e = .returned v ∧ Rows.mootIssuersSpec.post enc Tryd.prog Tryd.f4 false true false false W args v W' := by
  have hW' := hW
  obtain ⟨p, q, hA0, hV, rfl, hfz, hnd⟩ := hW
  have hA : DataW.TrodAll enc Tryd.prog W 0 (fun _ => true) true Tryd.f4.params.toList args.toList ds p := hA0
  rw [Tryd.params4] at hA hval hsz
  obtain ⟨hargs, rfl, rfl⟩ := trodAll_nil hA
  obtain rfl : args = #[] := by cases args; simp_all
  obtain ⟨rfl, rfl⟩ := trodVars_none hV
  clear hA0
  refine (mootIssuers_walk  W  (table hL)).mono fun e W' ⟨he, bel⟩ => ?_
  subst he
  exact ⟨_, rfl, _, _, _, [], _, [], hW', trodAll_mk1 (shut_bool Tryd.underlying4 _), trodAll_mk0, rfl, bel.frame _, fun h => by cases h⟩

theorem mootIssuers_met {os : Os} {W : World} (h : IsLaid os W) : laidMet Tryd.prog Rows.mootIssuersRow.laid (W.forCall (fun _ _ => 0) ⟨#[], #[], []⟩).memory := by
  unfold IsLaid at h
  subst h
  exact laidMet_of_run' 8 (by kernel_rfl) (by kernel_rfl)
theorem mootIssuers_reads {os : Os} {W : World} (h : IsLaid os W) {H : Type} (enc : TypeId × Value → H) : ∃ places, DataW.whole enc Tryd.prog (W.forCall (fun _ _ => 0) ⟨#[], #[], []⟩).memory Tryd.f4.params.toList Rows.mootIssuersSpec.vars false (#[] : Array Value).toList 8 = some ([], [], places) := by
  unfold IsLaid at h
  subst h
  exact ⟨[], by kernel_rfl⟩

set_option maxRecDepth 100000 in
theorem mootIssuers_lifted (os : Os) (started : os.Started) (H : Type) (enc : TypeId × Value → H) (F : Stop.Interp) :
    ReturnsInHanded {} Tryd.checked os 4 .any ((OpenSpec.ofChange Rows.mootIssuersSpec).preRow enc Tryd.prog Tryd.f4 Rows.mootIssuersRow.domain false Rows.mootIssuersRow.laid) (((OpenSpec.ofChange Rows.mootIssuersSpec).at F).post enc Tryd.prog Tryd.f4 false true false false) := by
  obtain ⟨W0, hW0⟩ := ex_laid os
  obtain ⟨places, hx⟩ := mootIssuers_reads hW0 enc
  have hm := mootIssuers_met hW0
  refine returnsInHanded_of_row (C := Tryd.checked) (s := OpenSpec.ofChange Rows.mootIssuersSpec) own started (by kernel_rfl) Tryd.func4 ?_ ?_
  · unfold IsLaid at hW0
    subst hW0
    exact witness_row_at (enc := enc) (C := Tryd.checked) false _ #[] rfl (by kernel_rfl) (by kernel_rfl) (by kernel_rfl)
      (OpenSpec.preRow_of_cond 8 hx (by kernel_rfl) (fun k hk => by cases hk) (by kernel_rfl) hm)
  · intro W base args ds gs before hval hW _ _ hsz hL _ _
    exact mootIssuers_contract H enc W base args ds gs before hval hW hsz hL

theorem mootIssuers_said : Rows.MootIssuersSaid :=
  OpenClaim.holds_of_cond 4 Tryd.f4 rfl rfl rfl rfl rfl rfl rfl ⟨rfl, rfl, rfl, rfl, rfl⟩ rfl rfl rfl rfl rfl (by kernel_rfl) Tryd.func4 (by kernel_rfl)
    (of_decide_eq_true (by kernel_rfl)) (by unfold Func.isWrapper; first | (rw [if_pos (by decide +kernel)]; kernel_rfl) | (rw [if_neg (by decide +kernel)]; exact ⟨rfl, rfl⟩))
    (fun os started H enc _ F => by rw [OpenClaim.pre_eq_preRow]; exact mootIssuers_lifted os started H enc F)

theorem mootIssuers_plain (f : FuncId) (fn : Func) (hf : Tryd.pinned.checked.prog.funcNamed "conclave/conclavelaw.MootIssuers" = some f) (hfn : Tryd.pinned.checked.prog.funcs[f]? = some fn) :
    false = Tryd.pinned.checked.prog.looks [] ∧ ∀ (j : Nat) t, fn.params[j]? = some t → Tryd.pinned.checked.prog.wantsStandIn t = false := by
  obtain rfl : f = 4 := Option.some.inj ((show Tryd.prog.funcNamed "conclave/conclavelaw.MootIssuers" = some 4 by kernel_rfl).symm.trans hf) |>.symm
  obtain rfl : fn = Tryd.f4 := (Option.some.inj (Tryd.func4.symm.trans hfn)).symm
  refine ⟨by kernel_rfl, fun j t ht => ?_⟩
  rw [Tryd.params4] at ht
  simp at ht

/-- The card. -/
theorem mootIssuers_card : Rows.MootIssuersCardSaid :=
  Claim7.holds_tied_plain_at .later [] _ _ _ _ mootIssuers_said (fun _ h => by cases h) (by kernel_rfl) (fun _ h => by cases h) mootIssuers_row_tie rfl ⟨rfl, rfl⟩ (by kernel_rfl) rfl mootIssuers_plain (by kernel_rfl)
#print axioms mootIssuers_card
end Go.Proofs.YtakgfdbjgeopdaaDoor
