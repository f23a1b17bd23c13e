/-
  The walks of a proposer's count of promises and of the lists that it was told.
-/
import Derived.Test.YticjofjghpdmpaaDoorMtRow
import Derived.Test.YticjofjghpdmpaaDoorVRows
namespace Go.Proofs.YticjofjghpdmpaaDoor
open Go.RowKit
set_option linter.unusedVariables false

/-- the place of an array's element -/
theorem runIndexArr (t e : TypeId) (N k : Nat) (ht : Tryd.prog.underlying t = some (.array N e)) (hk : (Tryd.prog.info? e).map (·.size) = some k) (b o i : Nat) (hi : i < N) (w : World) : (Instr.indexAt t (.pointer (some ⟨b, o, none⟩)) (.int .i64 (i : Int))).run Tryd.prog w = .ok (.pointer (some ⟨b, o + k * i, none⟩)) w := by
  have hs : (Go.sizeOf e).run Tryd.prog w = .ok k w := by
    cases hq : Tryd.prog.info? e with
    | none => rw [hq] at hk; cases hk
    | some x =>
      rw [hq] at hk
      simp at hk
      simp [sizeOf, typeInfo, hq, hk]
  simp only [Instr.indexAt, Sem.run_bind, run_underlying ht w, Result.andThen_ok, Instr.sureAddr, Sem.run_pure, asIntOf]
  rw [if_pos ⟨by omega, by omega⟩]
  simp [hs, Result.andThen, Addr.add_mid, Nat.mul_comm]
theorem boSize : (Tryd.prog.info? 4).map (·.size) = some 1 := by kernel_rfl
/-- how many of the first i have promised; and what they told -/
def cntTo (B : Bid) (i : Nat) : Nat := ((List.range i).filter fun n => (B.prom n).isSome).length
theorem cntTo_succ (B : Bid) (i : Nat) : cntTo B (i + 1) = cntTo B i + (B.prom i).isSome.toNat := by
  unfold cntTo
  rw [List.range_succ, List.filter_append, List.length_append]
  cases h : (B.prom i).isSome <;> simp [h]
theorem cntTo_le (B : Bid) (i : Nat) : cntTo B i ≤ i := by
  have := List.length_filter_le (fun n => (B.prom n).isSome) (List.range i)
  rw [List.length_range] at this
  exact this
theorem cntTo_five (B : Bid) : cntTo B 5 = countOf B := by
  rw [cntTo_succ, cntTo_succ, cntTo_succ, cntTo_succ, cntTo_succ]
  simp [cntTo, countOf, cnt5]
def listsTo (B : Bid) (i : Nat) : List (List Vt) := (List.range i).filterMap B.prom
theorem listsTo_succ (B : Bid) (i : Nat) : listsTo B (i + 1) = listsTo B i ++ (B.prom i).toList := by
  unfold listsTo
  rw [List.range_succ, List.filterMap_append]
  cases h : B.prom i <;> simp [h]
theorem listsTo_le (B : Bid) (i : Nat) : (listsTo B i).length ≤ i := by
  have := List.length_filterMap_le B.prom (List.range i)
  rw [List.length_range] at this
  exact this
set_option maxHeartbeats 1000000 in
set_option maxRecDepth 100000 in
theorem count_any (w : World) (g : Nat) (B : Bid) (h : BidAt w g B) :
    Calls Tryd.prog 39 #[.pointer (some ⟨g, 0, none⟩)] w fun e w' => e = .returned (.int .i64 (countOf B : Int)) ∧ w' = w := by
  obtain ⟨F, zs, hF, hB, _⟩ := h
  go_enter Tryd.func39, Tryd.ntmps39
  go_wp2_with fail
  go_loopw [3, 4] (fun nv iv wr => ∃ i : Nat, i ≤ 5 ∧ iv = .int .i64 (i : Int) ∧ nv = .int .i64 (cntTo B i : Int) ∧ wr = w) (fun _ iv _ => ((5 : Int) - intOf iv).toNat)
  case atStart => exact ⟨0, by omega, rfl, rfl, rfl⟩
  case round =>
    obtain ⟨i, hi, rfl, rfl, rfl⟩ := hrel
    by_cases hi5 : i < 5
    · have hii : (i : Int) < 5 := by omega
      have hix := runIndexArr 75 4 5 1 Tryd.underlying75 boSize g 7 i hi5
      rw [Nat.one_mul] at hix
      have hc := hF.cell (show 7 + i < 30 by omega)
      rw [hB.hs i hi5] at hc
      have HS : Hid (cntTo B (i + 1) = cntTo B i + (B.prom i).isSome.toNat) := cntTo_succ B i
      have hle := cntTo_le B i
      generalize cntTo B i = n at HS hle
      generalize (B.prom i).isSome = q at HS hc
      cases q with
      | true =>
        go_wp2
        go_roundw
        case rel => exact ⟨i + 1, by omega, by go_num, by rw [HS.out]; show _ = Value.int .i64 ((n + 1 : Nat) : Int); go_num, trivial⟩
        case measure => simp [intOf]; omega
      | false =>
        go_wp2
        go_roundw
        case rel => exact ⟨i + 1, by omega, by go_num, by rw [HS.out]; rfl, trivial⟩
        case measure => simp [intOf]; omega
    · obtain rfl : i = 5 := by omega
      rw [cntTo_five]
      go_wp2
      go_ret
      exact ⟨rfl, rfl⟩
set_option maxHeartbeats 1000000 in
set_option maxRecDepth 100000 in
theorem lists_any (w : World) (g : Nat) (B : Bid) (h : BidAt w g B) :
    Calls Tryd.prog 40 #[.pointer (some ⟨g, 0, none⟩)] w fun e w' => ∃ y, e = .returned y ∧ Svv w' y (listsOf B) ∧ Below w.heap.size w w' := by
  obtain ⟨F, zs, hF, hB, hV⟩ := h
  go_enter Tryd.func40, Tryd.ntmps40
  go_wp2_with fail
  go_loopw [3, 4] (fun v iv wr => ∃ (i : Nat) (ys : List Value), i ≤ 5 ∧ iv = .int .i64 (i : Int) ∧ wr.ownsRow w.heap.size 24 1 v (listsTo B i).length ys ∧ Rv wr ys (listsTo B i) ∧ Below w.heap.size w wr) (fun _ iv _ => ((5 : Int) - intOf iv).toNat)
  case atStart => exact ⟨0, [], by omega, rfl, World.ownsRow_nil _ _ _ _, ⟨rfl, fun i y l h1 => by simp at h1⟩, Below.refl _ _⟩
  case round =>
    obtain ⟨i, ys, hi, rfl, hown, hrv, hbel⟩ := hrel
    have HL : Hid (listsTo B (i + 1) = listsTo B i ++ (B.prom i).toList) := listsTo_succ B i
    have hle := listsTo_le B i
    obtain ⟨L, hL⟩ : ∃ L, listsTo B i = L := ⟨_, rfl⟩
    have HLL : Hid (listsTo B i = L) := hL
    rw [hL] at hown hrv HL hle
    clear hL
    obtain ⟨K, hK⟩ : ∃ K, L.length = K := ⟨_, rfl⟩
    have HK : Hid (L.length = K) := hK
    rw [hK] at hown hle
    clear hK
    have HO : Hid (wr.ownsRow w.heap.size 24 1 u3 K ys) := hown
    have HR : Hid (Rv wr ys L) := hrv
    clear hown hrv
    have hz := hbel.size
    by_cases hi5 : i < 5
    · have hii : (i : Int) < 5 := by omega
      have hix := runIndexArr 75 4 5 1 Tryd.underlying75 boSize g 7 i hi5
      have hiy := runIndexArr 74 24 5 1 Tryd.underlying74 svSize g 2 i hi5
      rw [Nat.one_mul] at hix hiy
      have hc := (hbel.cell (p := ⟨g, 7 + i, none⟩) hF.lt).trans (hF.cell (show 7 + i < 30 by omega))
      rw [hB.hs i hi5] at hc
      have hd := (hbel.cell (p := ⟨g, 2 + i, none⟩) hF.lt).trans (hF.cell (show 2 + i < 30 by omega))
      rw [hB.pz i hi5] at hd
      have hv := hV i hi5
      cases hp : B.prom i with
      | some l =>
        rw [hp] at HL hc
        obtain ⟨hol, hll⟩ := hv l hp
        have HT : Hid (listsTo B (i + 1) = L ++ [l]) := HL
        have hlt := HO.out.lt
        obtain ⟨g3, c3, h3⟩ := ownsV_shape hol
        obtain ⟨M, hM⟩ : ∃ M, l.length = M := ⟨_, rfl⟩
        rw [hM] at h3
        clear hM
        have hol2 : Ov wr (zs i) l := hol.below hbel
        rw [h3] at hd hol2
        have HR3 : Hid (Rv wr (ys ++ [.slice g3 M c3]) (L ++ [l])) := HR.out.snoc hol2 (by omega)
        have HL1 : Hid ((L ++ [l]).length = K + 1) := by unfold Hid; rw [List.length_append, HK.out]; rfl
        have hc' : wr.cell? ⟨g, 7 + i, none⟩ = some (.bool true) := hc
        clear hp HL hol hol2 h3 HR hv hc
        go_wp2_with ((with_reducible (refine pxLook ?_)); at_builtin; refine wpList_append_one _ rfl _ _ 43 rfl w.heap.size 24 1 24 (.slice none 0 0) Tryd.underlying43 infoSv rfl (by decide) _ K ys wr.heap.size [.slice g3 M c3] rfl rfl (HO.out.alloc _) rfl (one_range (heap_alloc_new _ _)) (by simp [Value.oneCell']) (by omega) (by omega) (by simp; omega) ?_)
        intro v4 w4 o4 g4
        have hb4 : Below w.heap.size w w4 := (hbel.alloc (by omega) _).grown g4 (by simp; omega) (fun k hk => (hlt k hk).1)
        have HR4 : Hid (Rv w4 (ys ++ [.slice g3 M c3]) (L ++ [l])) := ⟨HR3.out.1, fun i y l h1 h2 => ⟨((HR3.out.2 i y l h1 h2).1.below ((Below.refl _ _).alloc (Nat.le_refl _) _)).grown (HO.out.alloc _) (by decide) g4, (HR3.out.2 i y l h1 h2).2⟩⟩
        have HO4 : Hid (w4.ownsRow w.heap.size 24 1 v4 (K + 1) (ys ++ [.slice g3 M c3])) := o4
        clear o4 g4 HO HR3 hlt hix hiy hd hc'
        go_wp2
        go_roundw
        case rel => exact ⟨i + 1, _, by omega, by go_num, by rw [HT.out, HL1.out]; exact HO4.out, by rw [HT.out]; exact HR4.out, hb4⟩
        case measure => simp [intOf]; omega
      | none =>
        rw [hp] at HL hc
        have HT : Hid (listsTo B (i + 1) = L) := by unfold Hid; rw [HL.out]; simp
        have hc' : wr.cell? ⟨g, 7 + i, none⟩ = some (.bool false) := hc
        clear hp HL hc hd hv
        go_wp2
        go_roundw
        case rel => exact ⟨i + 1, ys, by omega, by go_num, by rw [HT.out, HK.out]; exact HO.out, by rw [HT.out]; exact HR.out, hbel⟩
        case measure => simp [intOf]; omega
    · obtain rfl : i = 5 := by omega
      have HF : Hid (Svv wr u3 (listsOf B)) := by
        have ho := HO.out
        rw [← HK.out] at ho
        have := Svv.ofRv ho HR.out (by rw [HK.out]; omega)
        rw [← HLL.out] at this
        exact this
      clear HO HR HLL
      go_wp2
      go_ret
      exact ⟨_, rfl, HF.out, hbel⟩
end Go.Proofs.YticjofjghpdmpaaDoor
