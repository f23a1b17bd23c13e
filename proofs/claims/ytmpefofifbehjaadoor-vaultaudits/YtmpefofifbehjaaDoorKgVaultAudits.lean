/-
  vault.Audit answers what P10.4 says, at every argument, and changes none of them; the card lays the tables of rounds and of needs.
-/
import Derived.Test.YtmpefofifbehjaaDoorKg4
import Derived.Test.YtmpefofifbehjaaDoorKgVaultAuditsWalk
import Derived.Test.YtmpefofifbehjaaDoorKg32
namespace Go.Proofs.YtmpefofifbehjaaDoor
open Go.ChangeShapes Go.WideShapes Go.ChangeAt Go.RowKit
set_option linter.unusedVariables false

set_option maxRecDepth 100000 in
theorem vaultAudits_contract (H : Type) (enc : TypeId × Value → H) (W : World) (base : Nat) (args : Array Value) (ds gs : List (DataW H)) (before : List MemPlace)
    (hval : ∀ (j : Nat) t v, Tryd.f5.params[j]? = some t → args[j]? = some v → Value.okWide Tryd.prog W .any base t v)
    (hW : DataW.Whole enc Tryd.prog Tryd.f5.params.toList Rows.vaultAuditsSpec.vars false W args.toList ds gs before)
    (hsz : (DataW.weightsEach Tryd.prog (Tryd.f5.params.toList ++ Rows.vaultAuditsSpec.plain.varTypes Tryd.prog) (ds ++ gs)).all (· ≤ reachBytes) = true) (hL : laidMetH Tryd.prog Rows.vaultAuditsRow.laid W) :
    Calls Tryd.prog 5 args W fun e W' => ∃ v, e = .returned v ∧ Rows.vaultAuditsSpec.post enc Tryd.prog Tryd.f5 false true false false W args v W' := by
  have hW' := hW
  obtain ⟨p, q, hA0, hV, rfl, hfz, hnd⟩ := hW
  have hA : DataW.TrodAll enc Tryd.prog W 0 (fun _ => true) true Tryd.f5.params.toList args.toList ds p := hA0
  rw [Tryd.params5] at hA hval hsz
  obtain ⟨v0, vs0, d0, ds0, p0, q0, hargs, rfl, rfl, h0, r0⟩ := trodAll_cons hA
  obtain ⟨rfl, rfl, rfl⟩ := trodAll_nil r0
  obtain rfl : args = #[v0] := by cases args; simp_all
  obtain ⟨rfl, rfl⟩ := trodVars_none hV
  obtain ⟨a0, len0, cap0, rfl⟩ := okWide_slice Tryd.underlying36 (hval 0 36 v0 rfl rfl)
  have k0 := h0
  have lt0 : ∀ x ∈ p0, x.block < W.heap.size := by obtain ⟨m, hm⟩ := k0; exact DataW.trod_lt m _ _ _ hm
  have z0 : (DataW.weights Tryd.prog 36 d0).all (· ≤ reachBytes) = true := sized_at10 hsz (j := 0) rfl rfl
  obtain ⟨l0, n0, w0⟩ : ∃ f n, Se W (.slice a0 len0 cap0) f n := by
    obtain ⟨fuel, hf⟩ := h0
    exact Se.opened hf z0
  clear hA0
  refine (vaultAudits_walk _ _ _ W w0 (tableT hL) (tableN hL)).mono fun e W' ⟨he, bel⟩ => ?_
  subst he
  exact ⟨_, rfl, _, _, _, [], _, [], hW', trodAll_mk1 (shut_bool Tryd.underlying4 _), (trodAll_cons_mk (Below.trod laidOut (by kernel_rfl) (of_decide_eq_true (by kernel_rfl)) k0 bel lt0) trodAll_mk0), rfl, bel.frame _, fun h => by cases h⟩

theorem vaultAudits_met {os : Os} {W : World} (h : IsLaid os W) : laidMet Tryd.prog Rows.vaultAuditsRow.laid (W.forCall (fun _ _ => 0) ⟨#[], #[.slice none 0 0], []⟩).memory := by
  unfold IsLaid at h
  subst h
  exact laidMet_of_run' 8 (by kernel_rfl) (by kernel_rfl)
theorem vaultAudits_reads {os : Os} {W : World} (h : IsLaid os W) {H : Type} (enc : TypeId × Value → H) : ∃ places, DataW.whole enc Tryd.prog (W.forCall (fun _ _ => 0) ⟨#[], #[.slice none 0 0], []⟩).memory Tryd.f5.params.toList Rows.vaultAuditsSpec.vars false (#[.slice none 0 0] : Array Value).toList 8 = some ([.nil], [], places) := by
  unfold IsLaid at h
  subst h
  exact ⟨[], by kernel_rfl⟩

set_option maxRecDepth 100000 in
theorem vaultAudits_lifted (os : Os) (started : os.Started) (H : Type) (enc : TypeId × Value → H) (F : Stop.Interp) :
    ReturnsInHanded {} Tryd.checked os 5 .any ((OpenSpec.ofChange Rows.vaultAuditsSpec).preRow enc Tryd.prog Tryd.f5 Rows.vaultAuditsRow.domain false Rows.vaultAuditsRow.laid) (((OpenSpec.ofChange Rows.vaultAuditsSpec).at F).post enc Tryd.prog Tryd.f5 false true false false) := by
  obtain ⟨W0, hW0⟩ := ex_laid os
  obtain ⟨places, hx⟩ := vaultAudits_reads hW0 enc
  have hm := vaultAudits_met hW0
  refine returnsInHanded_of_row (C := Tryd.checked) (s := OpenSpec.ofChange Rows.vaultAuditsSpec) own started (by kernel_rfl) Tryd.func5 ?_ ?_
  · unfold IsLaid at hW0
    subst hW0
    exact witness_row_at (enc := enc) (C := Tryd.checked) false _ #[.slice none 0 0] rfl (by kernel_rfl) (by kernel_rfl) (by kernel_rfl)
      (OpenSpec.preRow_of_cond 8 hx (by kernel_rfl) (fun k hk => by cases hk) (by kernel_rfl) hm)
  · intro W base args ds gs before hval hW _ _ hsz hL _ _
    exact vaultAudits_contract H enc W base args ds gs before hval hW hsz hL

theorem vaultAudits_said : Rows.VaultAuditsSaid :=
  OpenClaim.holds_of_cond 5 Tryd.f5 rfl rfl rfl rfl rfl rfl rfl ⟨rfl, rfl, rfl, rfl, rfl⟩ rfl rfl rfl rfl rfl (by kernel_rfl) Tryd.func5 (by kernel_rfl)
    (of_decide_eq_true (by kernel_rfl)) (by unfold Func.isWrapper; first | (rw [if_pos (by decide +kernel)]; kernel_rfl) | (rw [if_neg (by decide +kernel)]; exact ⟨rfl, rfl⟩))
    (fun os started H enc _ F => by rw [OpenClaim.pre_eq_preRow]; exact vaultAudits_lifted os started H enc F)

theorem vaultAudits_plain (f : FuncId) (fn : Func) (hf : Tryd.pinned.checked.prog.funcNamed "conclave/conclavelaw.VaultAudits" = some f) (hfn : Tryd.pinned.checked.prog.funcs[f]? = some fn) :
    false = Tryd.pinned.checked.prog.looks [] ∧ ∀ (j : Nat) t, fn.params[j]? = some t → Tryd.pinned.checked.prog.wantsStandIn t = false := by
  obtain rfl : f = 5 := Option.some.inj ((show Tryd.prog.funcNamed "conclave/conclavelaw.VaultAudits" = some 5 by kernel_rfl).symm.trans hf) |>.symm
  obtain rfl : fn = Tryd.f5 := (Option.some.inj (Tryd.func5.symm.trans hfn)).symm
  refine ⟨by kernel_rfl, fun j t ht => ?_⟩
  rw [Tryd.params5] at ht
  obtain rfl : t = 36 := by simpa using Array.mem_of_getElem? ht
  exact (show Tryd.prog.wantsStandIn 36 = false by kernel_rfl)

/-- The card. -/
theorem vaultAudits_card : Rows.VaultAuditsCardSaid :=
  Claim7.holds_tied_plain_at .later [] _ _ _ _ vaultAudits_said (fun _ h => by cases h) (by kernel_rfl) (fun _ h => by cases h) vaultAudits_row_tie rfl ⟨rfl, rfl⟩ (by kernel_rfl) rfl vaultAudits_plain (by kernel_rfl)
#print axioms vaultAudits_card
end Go.Proofs.YtmpefofifbehjaaDoor
