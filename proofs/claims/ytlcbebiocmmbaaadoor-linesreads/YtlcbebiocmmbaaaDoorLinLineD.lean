/-
  The walk of the document's own reading of a line.
-/
import Derived.Test.YtlcbebiocmmbaaaDoorLinRow
import Derived.Test.YtlcbebiocmmbaaaDoorLinHexP
import Derived.Test.YtlcbebiocmmbaaaDoorLinWds
import Derived.Test.YtlcbebiocmmbaaaDoorLinWhole
import Derived.Test.YtlcbebiocmmbaaaDoorLinHexV
import Derived.Test.YtlcbebiocmmbaaaDoorLinWordD
import Derived.Test.YtlcbebiocmmbaaaDoorLinEq
import Derived.Test.YtlcbebiocmmbaaaDoorLinFault
namespace Go.Proofs.YtlcbebiocmmbaaaDoor
open Go.RowKit
set_option linter.unusedVariables false

/-- an act that was read, or none -/
def LaGot (base : Nat) (o : Option Lac) (e : Ending) (w' : World) : Prop := (o = none ∧ e = .returned zLa) ∨ ∃ x y, o = some x ∧ e = .returned (.agg #[.int .i64 x.k, .int .i64 x.n, .int .i64 x.a, .int .i64 x.p, y]) ∧ w'.ownsRow base 5 1 y x.d.length (x.d.map (Value.int .u8))
theorem laSz5 : (Tryd.prog.info? 24).map (·.size) = some 5 := by kernel_rfl
theorem getD0 (a : List Int) (r : List (List Int)) : (a :: r).getD 0 [] = a := rfl
theorem getD1 (a b : List Int) (r : List (List Int)) : (a :: b :: r).getD 1 [] = b := rfl
theorem getD2 (a b c : List Int) (r : List (List Int)) : (a :: b :: c :: r).getD 2 [] = c := rfl
theorem nonzero_bne {a : Int} (h : ¬ a = 0) : (a != 0) = true := by simpa using h
set_option maxHeartbeats 20000000 in
set_option maxRecDepth 100000 in
theorem lineAct_any (s : List Int) (hb : ∀ x ∈ s, 0 ≤ x ∧ x < 256) (hl : s.length ≤ 4000000) (w : World) :
    Calls Tryd.prog 33 #[.string (strOfNums s)] w fun e w' => LaGot w.heap.size (rdL s) e w' ∧ Below w.heap.size w w' := by
  obtain ⟨fw, rest, hws⟩ := List.exists_cons_of_ne_nil (splitB_ne s)
  have hmem : ∀ x ∈ splitB s, ∀ c ∈ x, 0 ≤ c ∧ c < 256 := fun x hx c hc => hb c (splitB_mem s x hx c hc)
  have hlens : ∀ x ∈ splitB s, x.length ≤ 4000000 := fun x hx => Nat.le_trans (splitB_le s x hx) hl
  rw [hws] at hmem hlens
  have HW : Hid (splitB s = fw :: rest) := hws
  clear hws
  have bW : Below w.heap.size w (w.alloc (.cells #[.int .i64 0, .int .i64 0, .int .i64 0, .int .i64 0, .slice none 0 0] 24)) := (Below.refl _ _).alloc (Nat.le_refl _) _
  go_enter Tryd.func33, Tryd.ntmps33
  go_wp2_with fail
  refine (wordsOf_any s hb hl _).mono ?_
  rintro e w1 ⟨v, rfl, hss, b1⟩
  rw [HW.out] at hss
  obtain ⟨gb, go, gc, rfl, gl, gcp⟩ := hss.shape
  have HSS : Hid (Ss w1 (.slice (some ⟨gb, go, none⟩) (fw :: rest).length gc) (fw :: rest)) := hss
  obtain ⟨m, hm⟩ : ∃ m, (fw :: rest).length = m := ⟨_, rfl⟩
  rw [hm] at HSS gcp ⊢
  have HM : Hid ((fw :: rest).length = m) := hm
  have m1 : 0 < m := by rw [← hm]; simp
  clear hm
  have r0 : w1.heap[w.heap.size]? = some (.cells #[.int .i64 0, .int .i64 0, .int .i64 0, .int .i64 0, .slice none 0 0] 24) := (b1.block w.heap.size (by simp)).trans (heap_alloc_new _ _)
  have b2 : Below w.heap.size w w1 := bW.trans (b1.mono (by simp))
  have l0 : w.heap.size < w1.heap.size := (Array.getElem?_eq_some_iff.1 r0).1
  clear hss b1 bW
  have hf0 := hmem fw (by simp)
  go_wp2_with fail
  go_loopw [4] (fun kv wr => ∃ k : Int, 1 ≤ k ∧ k ≤ 10 ∧ kv = .int .i64 k ∧ Hid (∀ j, 1 ≤ j → j < k → wordL j ≠ fw) ∧ Below w1.heap.size w1 wr) (fun kv _ => (10 - intOf kv).toNat)
  case atStart => exact ⟨1, by omega, by omega, rfl, fun j _ _ => by omega, Below.refl _ _⟩
  case round =>
    obtain ⟨k, k1, k10, rfl, HNO, bR⟩ := hrel
    by_cases hk9 : k ≤ 9
    · have c0 : wr.cell? ⟨gb, go, none⟩ = some (.string (strOfNums fw)) := (bR.cell (p := ⟨gb, go, none⟩) gl).trans (HSS.out.at 0 (by simp))
      have ix0 := runIndexS0 gb go m gc m1
      have HA : Hid (∀ nd, Calls Tryd.prog 41 #[.int .i64 k] (wr.drewN nd) fun e w' => e = .returned (.string (strOfNums (wordL k))) ∧ w' = wr.drewN nd) := fun nd => actWord_any k _
      by_cases hfw : wordL k = fw
      · have HK : Hid (kindW fw = k) := by unfold Hid; rw [← hfw]; exact kindW_word ⟨k1, hk9⟩
        rw [hfw] at HA
        have hq := str_same fw
        clear hfw
        go_wp2_with fail
        go_quiet ((go_at_call 41; exact Calls.quiet_of_same (HA.out _)))
        have bQ : Below w1.heap.size w1 (wr.drewN nq) := below_drewN bR nq
        generalize wr.drewN nq = WQ at bQ ⊢
        clear nq bR c0 ix0 HA hq HNO k10
        have rQ := (bQ.block w.heap.size l0).trans r0
        have dQ : Below w.heap.size w WQ := b2.trans (bQ.mono b2.size)
        have lQ := dQ.size
        have gQ : gb < WQ.heap.size := Nat.lt_of_lt_of_le gl bQ.size
        have HSQ : Hid (Ss WQ (.slice (some ⟨gb, go, none⟩) m gc) (fw :: rest)) := HSS.out.below bQ
        clear HSS bQ r0 l0 b2
        have rA : ∀ o, (WQ.alloc o).heap[w.heap.size]? = some (.cells #[.int .i64 0, .int .i64 0, .int .i64 0, .int .i64 0, .slice none 0 0] 24) := fun o => (((Below.refl _ WQ).alloc (Nat.le_refl _) o).block w.heap.size (Array.getElem?_eq_some_iff.1 rQ).1).trans rQ
        have dA : ∀ o, Below w.heap.size w (WQ.alloc o) := fun o => dQ.alloc lQ o
        have onZ : (#[.int .i64 0, .int .i64 0, .int .i64 0, .int .i64 0, .slice none 0 0] : Array Value).all (·.oneCell') = true := by simp [Value.oneCell']
        rcases rest with _ | ⟨x, _ | ⟨y, _ | ⟨z, r⟩⟩⟩
        · obtain rfl : m = 1 := by simpa using HM.out.symm
          clear hmem hlens HM HSQ hf0
          rcases kindCase k1 hk9 with ⟨hk, uN, uA, uK⟩ | ⟨hk, uN, uA, uK⟩ | ⟨hk, uN, uA, uK⟩ | ⟨hk, uN, uA, uK⟩ | ⟨hk, uN, uA, uK⟩
          · have e1 : (k == 1) = true := eq_beq hk
            clear k1 hk9
            have HKK : Hid (k = 1) := hk
            clear hk
            go_wp2_with fail
            refine (uses_any k _).mono ?_
            rintro e w' ⟨rfl, hw'⟩
            subst hw'
            rw [uN, uA, uK]
            clear uN uA uK
            have HR : Hid (rdL s = none) := rd_none HW.out (candW_no0 (by have := HKK.out; have := HK.out; omega))
            go_wp2_with ((with_reducible (refine tpLook ?_)); refine wpList_store_row rfl 24 (.tmp 2) (.tmp 93) rfl w.heap.size #[.int .i64 0, .int .i64 0, .int .i64 0, .int .i64 0, .slice none 0 0] rfl rfl 24 _ (rA _) laSz5 rfl onZ ?_)
            refine bodyPost_ret (tRow1 rfl _ _ w.heap.size 24 _ (0, 0) _ rfl (setRow_heap _ w.heap.size _ (#[.int .i64 0, .int .i64 0, .int .i64 0, .int .i64 0, .slice none 0 0]) 24 _ (rA _)) Tryd.underlying24 rfl laSz5) rfl ?_
            exact ⟨.inl ⟨HR.out, rfl⟩, tBelow_row (dA _) (Nat.le_refl _) _⟩
          · have e1 : (k == 1) = false := ne_beq (by omega)
            clear k1 hk9
            have HKK : Hid (k = 2 ∨ k = 3 ∨ k = 9) := hk
            clear hk
            go_wp2_with fail
            refine (uses_any k _).mono ?_
            rintro e w' ⟨rfl, hw'⟩
            subst hw'
            rw [uN, uA, uK]
            clear uN uA uK
            have HR : Hid (rdL s = none) := rd_none HW.out (candW_no0 (by have := HKK.out; have := HK.out; omega))
            go_wp2_with ((with_reducible (refine tpLook ?_)); refine wpList_store_row rfl 24 (.tmp 2) (.tmp 93) rfl w.heap.size #[.int .i64 0, .int .i64 0, .int .i64 0, .int .i64 0, .slice none 0 0] rfl rfl 24 _ (rA _) laSz5 rfl onZ ?_)
            refine bodyPost_ret (tRow1 rfl _ _ w.heap.size 24 _ (0, 0) _ rfl (setRow_heap _ w.heap.size _ (#[.int .i64 0, .int .i64 0, .int .i64 0, .int .i64 0, .slice none 0 0]) 24 _ (rA _)) Tryd.underlying24 rfl laSz5) rfl ?_
            exact ⟨.inl ⟨HR.out, rfl⟩, tBelow_row (dA _) (Nat.le_refl _) _⟩
          · have e1 : (k == 1) = false := ne_beq (by omega)
            clear k1 hk9
            have HKK : Hid (k = 4 ∨ k = 5 ∨ k = 6) := hk
            clear hk
            go_wp2_with fail
            refine (uses_any k _).mono ?_
            rintro e w' ⟨rfl, hw'⟩
            subst hw'
            rw [uN, uA, uK]
            clear uN uA uK
            have HR : Hid (rdL s = none) := rd_none HW.out (candW_no0 (by have := HKK.out; have := HK.out; omega))
            go_wp2_with ((with_reducible (refine tpLook ?_)); refine wpList_store_row rfl 24 (.tmp 2) (.tmp 93) rfl w.heap.size #[.int .i64 0, .int .i64 0, .int .i64 0, .int .i64 0, .slice none 0 0] rfl rfl 24 _ (rA _) laSz5 rfl onZ ?_)
            refine bodyPost_ret (tRow1 rfl _ _ w.heap.size 24 _ (0, 0) _ rfl (setRow_heap _ w.heap.size _ (#[.int .i64 0, .int .i64 0, .int .i64 0, .int .i64 0, .slice none 0 0]) 24 _ (rA _)) Tryd.underlying24 rfl laSz5) rfl ?_
            exact ⟨.inl ⟨HR.out, rfl⟩, tBelow_row (dA _) (Nat.le_refl _) _⟩
          · have e1 : (k == 1) = false := ne_beq (by omega)
            clear k1 hk9
            have HKK : Hid (k = 7) := hk
            clear hk
            go_wp2_with fail
            refine (uses_any k _).mono ?_
            rintro e w' ⟨rfl, hw'⟩
            subst hw'
            rw [uN, uA, uK]
            clear uN uA uK
            go_wp2_with fail
            have rB := heap_alloc_new WQ (.cells #[.int .i64 k, .int .i64 0, .int .i64 0, .int .i64 0, .slice none 0 0] 24)
            have rC := rA (.cells #[.int .i64 k, .int .i64 0, .int .i64 0, .int .i64 0, .slice none 0 0] 24)
            have dB := dA (.cells #[.int .i64 k, .int .i64 0, .int .i64 0, .int .i64 0, .slice none 0 0] 24)
            generalize WQ.alloc (.cells #[.int .i64 k, .int .i64 0, .int .i64 0, .int .i64 0, .slice none 0 0] 24) = WB at rB rC dB ⊢
            refine (actFault_any k 0 0 0 (.slice none 0 0) [] WB (Sl.nil _ _)).mono ?_
            rintro e w3 ⟨rfl, b3⟩
            have r3 := (b3.block w.heap.size (Array.getElem?_eq_some_iff.1 rC).1).trans rC
            have q3 := (b3.block WQ.heap.size (Array.getElem?_eq_some_iff.1 rB).1).trans rB
            have d3 := dB.trans (b3.mono dB.size)
            clear b3 rB rC rQ rA dA dB dQ
            by_cases hE : lacE (⟨k, 0, 0, 0, []⟩ : Lac) = 0
            · have HR : Hid (rdL s = some ⟨k, 0, 0, 0, []⟩) := rd_some HW.out (by simp only [candW, HK.out]; rw [if_pos HKK.out, HKK.out]) hE
              rw [hE]
              have onA : (#[.int .i64 k, .int .i64 0, .int .i64 0, .int .i64 0, .slice none 0 0] : Array Value).all (·.oneCell') = true := by simp [Value.oneCell']
              go_wp2_with ((with_reducible (refine tpLook ?_)); first | (refine wpList_load_row rfl 24 _ rfl WQ.heap.size rfl 24 _ (0, 0) _ q3 Tryd.underlying24 rfl laSz5 ?_) | (refine wpList_store_row rfl 24 (.tmp 2) (.tmp 140) rfl w.heap.size #[.int .i64 k, .int .i64 0, .int .i64 0, .int .i64 0, .slice none 0 0] rfl rfl 24 _ r3 laSz5 rfl onA ?_))
              have qR := setRow_heap w3 w.heap.size _ (#[.int .i64 k, .int .i64 0, .int .i64 0, .int .i64 0, .slice none 0 0]) 24 _ r3
              have dR := tBelow_row d3 (Nat.le_refl _) (#[.int .i64 k, .int .i64 0, .int .i64 0, .int .i64 0, .slice none 0 0])
              refine bodyPost_ret (tRow1 rfl _ _ w.heap.size 24 _ (0, 0) _ rfl qR Tryd.underlying24 rfl laSz5) rfl ?_
              exact ⟨.inr ⟨_, _, HR.out, rfl, World.ownsRow_nil _ _ _ _⟩, dR⟩
            · have hne := nonzero_bne hE
              have HR : Hid (rdL s = none) := rd_bad HW.out (by simp only [candW, HK.out]; rw [if_pos HKK.out, HKK.out]) hE
              obtain ⟨E, hEE⟩ : ∃ E, lacE (⟨k, 0, 0, 0, []⟩ : Lac) = E := ⟨_, rfl⟩
              rw [hEE] at hne ⊢
              clear hE hEE q3
              go_wp2_with ((with_reducible (refine tpLook ?_)); refine wpList_store_row rfl 24 (.tmp 2) (.tmp 139) rfl w.heap.size #[.int .i64 0, .int .i64 0, .int .i64 0, .int .i64 0, .slice none 0 0] rfl rfl 24 _ r3 laSz5 rfl onZ ?_)
              have qR := setRow_heap w3 w.heap.size _ (#[.int .i64 0, .int .i64 0, .int .i64 0, .int .i64 0, .slice none 0 0]) 24 _ r3
              have dR := tBelow_row d3 (Nat.le_refl _) (#[.int .i64 0, .int .i64 0, .int .i64 0, .int .i64 0, .slice none 0 0])
              refine bodyPost_ret (tRow1 rfl _ _ w.heap.size 24 _ (0, 0) _ rfl qR Tryd.underlying24 rfl laSz5) rfl ?_
              exact ⟨.inl ⟨HR.out, rfl⟩, dR⟩
          · have e1 : (k == 1) = false := ne_beq (by omega)
            clear k1 hk9
            have HKK : Hid (k = 8) := hk
            clear hk
            go_wp2_with fail
            refine (uses_any k _).mono ?_
            rintro e w' ⟨rfl, hw'⟩
            subst hw'
            rw [uN, uA, uK]
            clear uN uA uK
            have HR : Hid (rdL s = none) := rd_none HW.out (candW_no0 (by have := HKK.out; have := HK.out; omega))
            go_wp2_with ((with_reducible (refine tpLook ?_)); refine wpList_store_row rfl 24 (.tmp 2) (.tmp 93) rfl w.heap.size #[.int .i64 0, .int .i64 0, .int .i64 0, .int .i64 0, .slice none 0 0] rfl rfl 24 _ (rA _) laSz5 rfl onZ ?_)
            refine bodyPost_ret (tRow1 rfl _ _ w.heap.size 24 _ (0, 0) _ rfl (setRow_heap _ w.heap.size _ (#[.int .i64 0, .int .i64 0, .int .i64 0, .int .i64 0, .slice none 0 0]) 24 _ (rA _)) Tryd.underlying24 rfl laSz5) rfl ?_
            exact ⟨.inl ⟨HR.out, rfl⟩, tBelow_row (dA _) (Nat.le_refl _) _⟩
        · obtain rfl : m = 2 := by simpa using HM.out.symm
          have hb1 := hmem x (by simp)
          have hl1 := hlens x (by simp)
          have cx : ∀ o, (WQ.alloc o).cell? ⟨gb, go + 1, none⟩ = some (.string (strOfNums x)) := fun o => (((Below.refl _ WQ).alloc (Nat.le_refl _) o).cell (p := ⟨gb, go + 1, none⟩) gQ).trans (HSQ.out.at 1 (by simp))
          have ix1 := runIndexS1 gb go 2 gc (by omega)
          clear hmem hlens HM HSQ hf0
          rcases kindCase k1 hk9 with ⟨hk, uN, uA, uK⟩ | ⟨hk, uN, uA, uK⟩ | ⟨hk, uN, uA, uK⟩ | ⟨hk, uN, uA, uK⟩ | ⟨hk, uN, uA, uK⟩
          · have e1 : (k == 1) = true := eq_beq hk
            clear k1 hk9
            have HKK : Hid (k = 1) := hk
            clear hk
            go_wp2_with fail
            refine (uses_any k _).mono ?_
            rintro e w' ⟨rfl, hw'⟩
            subst hw'
            rw [uN, uA, uK]
            clear uN uA uK
            go_wp2_with fail
            refine (whole_any x hb1 (by omega) _).mono ?_
            rintro e w' ⟨rfl, hw'⟩
            subst hw'
            have HR : Hid (rdL s = none) := rd_none HW.out (candW_no1 (by have := HKK.out; have := HK.out; omega))
            go_wp2_with ((with_reducible (refine tpLook ?_)); refine wpList_store_row rfl 24 (.tmp 2) (.tmp 93) rfl w.heap.size #[.int .i64 0, .int .i64 0, .int .i64 0, .int .i64 0, .slice none 0 0] rfl rfl 24 _ (rA _) laSz5 rfl onZ ?_)
            refine bodyPost_ret (tRow1 rfl _ _ w.heap.size 24 _ (0, 0) _ rfl (setRow_heap _ w.heap.size _ (#[.int .i64 0, .int .i64 0, .int .i64 0, .int .i64 0, .slice none 0 0]) 24 _ (rA _)) Tryd.underlying24 rfl laSz5) rfl ?_
            exact ⟨.inl ⟨HR.out, rfl⟩, tBelow_row (dA _) (Nat.le_refl _) _⟩
          · have e1 : (k == 1) = false := ne_beq (by omega)
            clear k1 hk9
            have HKK : Hid (k = 2 ∨ k = 3 ∨ k = 9) := hk
            clear hk
            go_wp2_with fail
            refine (uses_any k _).mono ?_
            rintro e w' ⟨rfl, hw'⟩
            subst hw'
            rw [uN, uA, uK]
            clear uN uA uK
            go_wp2_with fail
            refine (whole_any x hb1 (by omega) _).mono ?_
            rintro e w' ⟨rfl, hw'⟩
            subst hw'
            go_wp2_with fail
            have rB := heap_alloc_new WQ (.cells #[.int .i64 k, .int .i64 (whV x), .int .i64 0, .int .i64 0, .slice none 0 0] 24)
            have rC := rA (.cells #[.int .i64 k, .int .i64 (whV x), .int .i64 0, .int .i64 0, .slice none 0 0] 24)
            have dB := dA (.cells #[.int .i64 k, .int .i64 (whV x), .int .i64 0, .int .i64 0, .slice none 0 0] 24)
            generalize WQ.alloc (.cells #[.int .i64 k, .int .i64 (whV x), .int .i64 0, .int .i64 0, .slice none 0 0] 24) = WB at rB rC dB ⊢
            refine (actFault_any k (whV x) 0 0 (.slice none 0 0) [] WB (Sl.nil _ _)).mono ?_
            rintro e w3 ⟨rfl, b3⟩
            have r3 := (b3.block w.heap.size (Array.getElem?_eq_some_iff.1 rC).1).trans rC
            have q3 := (b3.block WQ.heap.size (Array.getElem?_eq_some_iff.1 rB).1).trans rB
            have d3 := dB.trans (b3.mono dB.size)
            clear b3 rB rC rQ rA dA dB dQ
            by_cases hE : lacE (⟨k, (whV x), 0, 0, []⟩ : Lac) = 0
            · have HR : Hid (rdL s = some ⟨k, (whV x), 0, 0, []⟩) := rd_some HW.out (by simp only [candW, HK.out]; exact if_pos HKK.out) hE
              rw [hE]
              have onA : (#[.int .i64 k, .int .i64 (whV x), .int .i64 0, .int .i64 0, .slice none 0 0] : Array Value).all (·.oneCell') = true := by simp [Value.oneCell']
              go_wp2_with ((with_reducible (refine tpLook ?_)); first | (refine wpList_load_row rfl 24 _ rfl WQ.heap.size rfl 24 _ (0, 0) _ q3 Tryd.underlying24 rfl laSz5 ?_) | (refine wpList_store_row rfl 24 (.tmp 2) (.tmp 140) rfl w.heap.size #[.int .i64 k, .int .i64 (whV x), .int .i64 0, .int .i64 0, .slice none 0 0] rfl rfl 24 _ r3 laSz5 rfl onA ?_))
              have qR := setRow_heap w3 w.heap.size _ (#[.int .i64 k, .int .i64 (whV x), .int .i64 0, .int .i64 0, .slice none 0 0]) 24 _ r3
              have dR := tBelow_row d3 (Nat.le_refl _) (#[.int .i64 k, .int .i64 (whV x), .int .i64 0, .int .i64 0, .slice none 0 0])
              refine bodyPost_ret (tRow1 rfl _ _ w.heap.size 24 _ (0, 0) _ rfl qR Tryd.underlying24 rfl laSz5) rfl ?_
              exact ⟨.inr ⟨_, _, HR.out, rfl, World.ownsRow_nil _ _ _ _⟩, dR⟩
            · have hne := nonzero_bne hE
              have HR : Hid (rdL s = none) := rd_bad HW.out (by simp only [candW, HK.out]; exact if_pos HKK.out) hE
              obtain ⟨E, hEE⟩ : ∃ E, lacE (⟨k, (whV x), 0, 0, []⟩ : Lac) = E := ⟨_, rfl⟩
              rw [hEE] at hne ⊢
              clear hE hEE q3
              go_wp2_with ((with_reducible (refine tpLook ?_)); refine wpList_store_row rfl 24 (.tmp 2) (.tmp 139) rfl w.heap.size #[.int .i64 0, .int .i64 0, .int .i64 0, .int .i64 0, .slice none 0 0] rfl rfl 24 _ r3 laSz5 rfl onZ ?_)
              have qR := setRow_heap w3 w.heap.size _ (#[.int .i64 0, .int .i64 0, .int .i64 0, .int .i64 0, .slice none 0 0]) 24 _ r3
              have dR := tBelow_row d3 (Nat.le_refl _) (#[.int .i64 0, .int .i64 0, .int .i64 0, .int .i64 0, .slice none 0 0])
              refine bodyPost_ret (tRow1 rfl _ _ w.heap.size 24 _ (0, 0) _ rfl qR Tryd.underlying24 rfl laSz5) rfl ?_
              exact ⟨.inl ⟨HR.out, rfl⟩, dR⟩
          · have e1 : (k == 1) = false := ne_beq (by omega)
            clear k1 hk9
            have HKK : Hid (k = 4 ∨ k = 5 ∨ k = 6) := hk
            clear hk
            go_wp2_with fail
            refine (uses_any k _).mono ?_
            rintro e w' ⟨rfl, hw'⟩
            subst hw'
            rw [uN, uA, uK]
            clear uN uA uK
            go_wp2_with fail
            refine (whole_any x hb1 (by omega) _).mono ?_
            rintro e w' ⟨rfl, hw'⟩
            subst hw'
            go_wp2_with fail
            have rB := heap_alloc_new WQ (.cells #[.int .i64 k, .int .i64 0, .int .i64 (whV x), .int .i64 0, .slice none 0 0] 24)
            have rC := rA (.cells #[.int .i64 k, .int .i64 0, .int .i64 (whV x), .int .i64 0, .slice none 0 0] 24)
            have dB := dA (.cells #[.int .i64 k, .int .i64 0, .int .i64 (whV x), .int .i64 0, .slice none 0 0] 24)
            generalize WQ.alloc (.cells #[.int .i64 k, .int .i64 0, .int .i64 (whV x), .int .i64 0, .slice none 0 0] 24) = WB at rB rC dB ⊢
            refine (actFault_any k 0 (whV x) 0 (.slice none 0 0) [] WB (Sl.nil _ _)).mono ?_
            rintro e w3 ⟨rfl, b3⟩
            have r3 := (b3.block w.heap.size (Array.getElem?_eq_some_iff.1 rC).1).trans rC
            have q3 := (b3.block WQ.heap.size (Array.getElem?_eq_some_iff.1 rB).1).trans rB
            have d3 := dB.trans (b3.mono dB.size)
            clear b3 rB rC rQ rA dA dB dQ
            by_cases hE : lacE (⟨k, 0, (whV x), 0, []⟩ : Lac) = 0
            · have HR : Hid (rdL s = some ⟨k, 0, (whV x), 0, []⟩) := rd_some HW.out (by simp only [candW, HK.out]; rw [if_neg (by have := HKK.out; omega)]; exact if_pos HKK.out) hE
              rw [hE]
              have onA : (#[.int .i64 k, .int .i64 0, .int .i64 (whV x), .int .i64 0, .slice none 0 0] : Array Value).all (·.oneCell') = true := by simp [Value.oneCell']
              go_wp2_with ((with_reducible (refine tpLook ?_)); first | (refine wpList_load_row rfl 24 _ rfl WQ.heap.size rfl 24 _ (0, 0) _ q3 Tryd.underlying24 rfl laSz5 ?_) | (refine wpList_store_row rfl 24 (.tmp 2) (.tmp 140) rfl w.heap.size #[.int .i64 k, .int .i64 0, .int .i64 (whV x), .int .i64 0, .slice none 0 0] rfl rfl 24 _ r3 laSz5 rfl onA ?_))
              have qR := setRow_heap w3 w.heap.size _ (#[.int .i64 k, .int .i64 0, .int .i64 (whV x), .int .i64 0, .slice none 0 0]) 24 _ r3
              have dR := tBelow_row d3 (Nat.le_refl _) (#[.int .i64 k, .int .i64 0, .int .i64 (whV x), .int .i64 0, .slice none 0 0])
              refine bodyPost_ret (tRow1 rfl _ _ w.heap.size 24 _ (0, 0) _ rfl qR Tryd.underlying24 rfl laSz5) rfl ?_
              exact ⟨.inr ⟨_, _, HR.out, rfl, World.ownsRow_nil _ _ _ _⟩, dR⟩
            · have hne := nonzero_bne hE
              have HR : Hid (rdL s = none) := rd_bad HW.out (by simp only [candW, HK.out]; rw [if_neg (by have := HKK.out; omega)]; exact if_pos HKK.out) hE
              obtain ⟨E, hEE⟩ : ∃ E, lacE (⟨k, 0, (whV x), 0, []⟩ : Lac) = E := ⟨_, rfl⟩
              rw [hEE] at hne ⊢
              clear hE hEE q3
              go_wp2_with ((with_reducible (refine tpLook ?_)); refine wpList_store_row rfl 24 (.tmp 2) (.tmp 139) rfl w.heap.size #[.int .i64 0, .int .i64 0, .int .i64 0, .int .i64 0, .slice none 0 0] rfl rfl 24 _ r3 laSz5 rfl onZ ?_)
              have qR := setRow_heap w3 w.heap.size _ (#[.int .i64 0, .int .i64 0, .int .i64 0, .int .i64 0, .slice none 0 0]) 24 _ r3
              have dR := tBelow_row d3 (Nat.le_refl _) (#[.int .i64 0, .int .i64 0, .int .i64 0, .int .i64 0, .slice none 0 0])
              refine bodyPost_ret (tRow1 rfl _ _ w.heap.size 24 _ (0, 0) _ rfl qR Tryd.underlying24 rfl laSz5) rfl ?_
              exact ⟨.inl ⟨HR.out, rfl⟩, dR⟩
          · have e1 : (k == 1) = false := ne_beq (by omega)
            clear k1 hk9
            have HKK : Hid (k = 7) := hk
            clear hk
            go_wp2_with fail
            refine (uses_any k _).mono ?_
            rintro e w' ⟨rfl, hw'⟩
            subst hw'
            rw [uN, uA, uK]
            clear uN uA uK
            have HR : Hid (rdL s = none) := rd_none HW.out (candW_no1 (by have := HKK.out; have := HK.out; omega))
            go_wp2_with ((with_reducible (refine tpLook ?_)); refine wpList_store_row rfl 24 (.tmp 2) (.tmp 93) rfl w.heap.size #[.int .i64 0, .int .i64 0, .int .i64 0, .int .i64 0, .slice none 0 0] rfl rfl 24 _ (rA _) laSz5 rfl onZ ?_)
            refine bodyPost_ret (tRow1 rfl _ _ w.heap.size 24 _ (0, 0) _ rfl (setRow_heap _ w.heap.size _ (#[.int .i64 0, .int .i64 0, .int .i64 0, .int .i64 0, .slice none 0 0]) 24 _ (rA _)) Tryd.underlying24 rfl laSz5) rfl ?_
            exact ⟨.inl ⟨HR.out, rfl⟩, tBelow_row (dA _) (Nat.le_refl _) _⟩
          · have e1 : (k == 1) = false := ne_beq (by omega)
            clear k1 hk9
            have HKK : Hid (k = 8) := hk
            clear hk
            go_wp2_with fail
            refine (uses_any k _).mono ?_
            rintro e w' ⟨rfl, hw'⟩
            subst hw'
            rw [uN, uA, uK]
            clear uN uA uK
            go_wp2_with fail
            refine (whole_any x hb1 (by omega) _).mono ?_
            rintro e w' ⟨rfl, hw'⟩
            subst hw'
            have HR : Hid (rdL s = none) := rd_none HW.out (candW_no1 (by have := HKK.out; have := HK.out; omega))
            go_wp2_with ((with_reducible (refine tpLook ?_)); refine wpList_store_row rfl 24 (.tmp 2) (.tmp 93) rfl w.heap.size #[.int .i64 0, .int .i64 0, .int .i64 0, .int .i64 0, .slice none 0 0] rfl rfl 24 _ (rA _) laSz5 rfl onZ ?_)
            refine bodyPost_ret (tRow1 rfl _ _ w.heap.size 24 _ (0, 0) _ rfl (setRow_heap _ w.heap.size _ (#[.int .i64 0, .int .i64 0, .int .i64 0, .int .i64 0, .slice none 0 0]) 24 _ (rA _)) Tryd.underlying24 rfl laSz5) rfl ?_
            exact ⟨.inl ⟨HR.out, rfl⟩, tBelow_row (dA _) (Nat.le_refl _) _⟩
        · obtain rfl : m = 3 := by simpa using HM.out.symm
          have hb1 := hmem x (by simp)
          have hl1 := hlens x (by simp)
          have cx : ∀ o, (WQ.alloc o).cell? ⟨gb, go + 1, none⟩ = some (.string (strOfNums x)) := fun o => (((Below.refl _ WQ).alloc (Nat.le_refl _) o).cell (p := ⟨gb, go + 1, none⟩) gQ).trans (HSQ.out.at 1 (by simp))
          have ix1 := runIndexS1 gb go 3 gc (by omega)
          have hb2 := hmem y (by simp)
          have hl2 := hlens y (by simp)
          have cy : ∀ o, (WQ.alloc o).cell? ⟨gb, go + 2, none⟩ = some (.string (strOfNums y)) := fun o => (((Below.refl _ WQ).alloc (Nat.le_refl _) o).cell (p := ⟨gb, go + 2, none⟩) gQ).trans (HSQ.out.at 2 (by simp))
          have ix2 := runIndexS2 gb go 3 gc (by omega)
          clear hmem hlens HM HSQ hf0
          rcases kindCase k1 hk9 with ⟨hk, uN, uA, uK⟩ | ⟨hk, uN, uA, uK⟩ | ⟨hk, uN, uA, uK⟩ | ⟨hk, uN, uA, uK⟩ | ⟨hk, uN, uA, uK⟩
          · have e1 : (k == 1) = true := eq_beq hk
            clear k1 hk9
            have HKK : Hid (k = 1) := hk
            clear hk
            go_wp2_with fail
            refine (uses_any k _).mono ?_
            rintro e w' ⟨rfl, hw'⟩
            subst hw'
            rw [uN, uA, uK]
            clear uN uA uK
            go_wp2_with fail
            refine (whole_any x hb1 (by omega) _).mono ?_
            rintro e w' ⟨rfl, hw'⟩
            subst hw'
            by_cases hev : y.length % 2 = 0
            · have hov : ((y.length : Int) % 2 != 0) = false := eq_bne (by omega)
              have hsy := str_size y
              go_wp2_with fail
              clear hov
              generalize (y.length : Int) % 2 = T0
              have gA0 : w.heap.size ≠ WQ.heap.size := Nat.ne_of_lt (Array.getElem?_eq_some_iff.1 rQ).1
              have rB := heap_alloc_new WQ (.cells #[.int .i64 k, .int .i64 (whV x), .int .i64 0, .int .i64 0, .slice none 0 0] 24)
              have rC := rA (.cells #[.int .i64 k, .int .i64 (whV x), .int .i64 0, .int .i64 0, .slice none 0 0] 24)
              have dB := dA (.cells #[.int .i64 k, .int .i64 (whV x), .int .i64 0, .int .i64 0, .slice none 0 0] 24)
              obtain ⟨gA, hgA⟩ : ∃ g, g = WQ.heap.size := ⟨_, rfl⟩
              generalize WQ.alloc (.cells #[.int .i64 k, .int .i64 (whV x), .int .i64 0, .int .i64 0, .slice none 0 0] 24) = WB at rB rC dB ⊢
              rw [← hgA] at rB gA0 ⊢
              have lgA : w.heap.size ≤ gA := by rw [hgA]; exact lQ
              clear hgA rQ rA dA dQ lQ cx cy ix1 ix2 gQ gl gcp
              obtain ⟨nx, hnx⟩ : ∃ z, whV x = z := ⟨_, rfl⟩
              rw [hnx] at rB ⊢
              have HNX : Hid (whV x = nx) := hnx
              clear hnx
              go_loopw [12] (fun jv wr => ∃ (j J : Nat) (d : List Int) (v : Value), jv = .int .i64 (J : Int) ∧ Hid (J = 2 * j ∧ hexL d = y.take (2 * j) ∧ (∀ c ∈ d, 0 ≤ c ∧ c < 256) ∧ d.length = j ∧ J ≤ y.length) ∧ Hid (wr.heap[gA]? = some (.cells #[.int .i64 k, .int .i64 nx, .int .i64 0, .int .i64 0, v] 24)) ∧ Hid (wr.heap[w.heap.size]? = some (.cells #[.int .i64 0, .int .i64 0, .int .i64 0, .int .i64 0, .slice none 0 0] 24)) ∧ Hid (wr.ownsRow w.heap.size 5 1 v d.length (d.map (Value.int .u8))) ∧ Below w.heap.size w wr) (fun jv _ => ((y.length : Int) - intOf jv).toNat)
              case atStart => exact ⟨0, 0, [], .slice none 0 0, rfl, ⟨rfl, rfl, by simp, rfl, by omega⟩, rB, rC, World.ownsRow_nil _ _ _ _, dB⟩
              case round =>
                clear rB rC dB WB
                obtain ⟨j, J, d, v, rfl, HJ, HB, HCC, HO, dB⟩ := hrel
                have rB := HB.out
                have rC := HCC.out
                clear HB HCC
                have oe := HO.out
                obtain ⟨gv, cv, hv⟩ := tOwns_shape oe
                subst hv
                have hJ1 := HJ.out.1
                have hJ2 := HJ.out.2.2.2.2
                have hdl : d.length ≤ 4000000 := by have := HJ.out.2.2.2.1; omega
                have HJ1 : Hid (J = 2 * j) := hJ1
                clear HO
                by_cases hlt : J < y.length
                · have hlI : (J : Int) < (y.length : Int) := by omega
                  have hl1' : J + 1 < y.length := by omega
                  have i1 := run_idx hb2 J hlt
                  have i2 := run_idx hb2 (J + 1) hl1'
                  rw [show ((J + 1 : Nat) : Int) = (J : Int) + 1 by omega] at i2
                  obtain ⟨c1, hc1⟩ : ∃ c, y.getD J 0 = c := ⟨_, rfl⟩
                  obtain ⟨c2, hc2⟩ : ∃ c, y.getD (J + 1) 0 = c := ⟨_, rfl⟩
                  rw [hc1] at i1
                  rw [hc2] at i2
                  have hcb1 : 0 ≤ c1 ∧ c1 < 256 := by rw [← hc1]; exact getD_byte hb2 J
                  have hcb2 : 0 ≤ c2 ∧ c2 < 256 := by rw [← hc2]; exact getD_byte hb2 (J + 1)
                  have HC : Hid (c1 ∈ y ∧ c2 ∈ y ∧ y.getD J 0 = c1 ∧ y.getD (J + 1) 0 = c2) := ⟨by rw [← hc1, getD_at hlt]; exact List.getElem_mem hlt, by rw [← hc2, getD_at hl1']; exact List.getElem_mem hl1', hc1, hc2⟩
                  clear hc1 hc2 hJ1
                  go_wp2_with fail
                  refine (hexValue_any c1 hcb1.1 hcb1.2 _).mono ?_
                  rintro e w' ⟨rfl, hw'⟩
                  subst w'
                  go_wp2_with fail
                  refine (hexValue_any c2 hcb2.1 hcb2.2 _).mono ?_
                  rintro e w' ⟨rfl, hw'⟩
                  subst w'
                  clear i1 i2 hcb1 hcb2
                  obtain ⟨u1, hu1⟩ : ∃ c, hxV c1 = c := ⟨_, rfl⟩
                  obtain ⟨u2, hu2⟩ : ∃ c, hxV c2 = c := ⟨_, rfl⟩
                  rw [hu1, hu2]
                  have HU : Hid (hxV c1 = u1 ∧ hxV c2 = u2) := ⟨hu1, hu2⟩
                  have hu1b : u1 < 16 := by rw [← hu1]; exact hxV_lt c1
                  have hu2b : u2 < 16 := by rw [← hu2]; exact hxV_lt c2
                  clear hu1 hu2
                  by_cases hn1 : u1 < 0
                  · have HR : Hid (rdL s = none) := rd_none HW.out (candW_hex (HK.out.trans HKK.out) (unhx_bad HC.out.1 (by rw [HU.out.1]; exact hn1)))
                    go_wp2_with ((with_reducible (refine tpLook ?_)); refine wpList_store_row rfl 24 (.tmp 2) (.tmp 125) rfl w.heap.size #[.int .i64 0, .int .i64 0, .int .i64 0, .int .i64 0, .slice none 0 0] rfl rfl 24 _ (rC) laSz5 rfl onZ ?_)
                    refine bodyPost_ret (tRow1 rfl _ _ w.heap.size 24 _ (0, 0) _ rfl (setRow_heap _ w.heap.size _ (#[.int .i64 0, .int .i64 0, .int .i64 0, .int .i64 0, .slice none 0 0]) 24 _ (rC)) Tryd.underlying24 rfl laSz5) rfl ?_
                    exact ⟨.inl ⟨HR.out, rfl⟩, tBelow_row (dB) (Nat.le_refl _) _⟩
                  · by_cases hn2 : u2 < 0
                    · have HR : Hid (rdL s = none) := rd_none HW.out (candW_hex (HK.out.trans HKK.out) (unhx_bad HC.out.2.1 (by rw [HU.out.2]; exact hn2)))
                      go_wp2_with ((with_reducible (refine tpLook ?_)); refine wpList_store_row rfl 24 (.tmp 2) (.tmp 125) rfl w.heap.size #[.int .i64 0, .int .i64 0, .int .i64 0, .int .i64 0, .slice none 0 0] rfl rfl 24 _ (rC) laSz5 rfl onZ ?_)
                      refine bodyPost_ret (tRow1 rfl _ _ w.heap.size 24 _ (0, 0) _ rfl (setRow_heap _ w.heap.size _ (#[.int .i64 0, .int .i64 0, .int .i64 0, .int .i64 0, .slice none 0 0]) 24 _ (rC)) Tryd.underlying24 rfl laSz5) rfl ?_
                      exact ⟨.inl ⟨HR.out, rfl⟩, tBelow_row (dB) (Nat.le_refl _) _⟩
                    · have HS : Hid (hexL (d ++ [16 * u1 + u2]) = y.take (2 * (j + 1))) := by
                        have h1 := HJ.out.2.1
                        obtain ⟨_, _, h2, h3⟩ := HC.out
                        rw [HJ1.out] at h2 h3 hl1'
                        have h4 := hexL_step h1 hl1' (by rw [h2, HU.out.1]; omega) (by rw [h3, HU.out.2]; omega)
                        rwa [h2, h3, HU.out.1, HU.out.2] at h4
                      have hd2 := HJ.out.2.2.1
                      have HD : Hid (∀ c ∈ d ++ [16 * u1 + u2], 0 ≤ c ∧ c < 256) := byApp hd2 (fun c hc => by simp at hc; omega)
                      have HL : Hid (d.length = j) := HJ.out.2.2.2.1
                      clear hd2 HJ HC HU
                      have c4 : wr.cell? ⟨gA, 4, none⟩ = some (.slice gv d.length cv) := cell_of_row _ _ 4 _ _ _ rB
                      have hby : (16 * u1 + u2) % 256 = 16 * u1 + u2 := by omega
                      have hsz := dB.size
                      go_wp2_with (first | (at_builtin; refine wpList_append_one _ rfl _ _ 22 rfl w.heap.size 5 1 1 (.int .u8 0) Tryd.underlying22 info5 rfl (by decide) _ d.length (d.map (Value.int .u8)) wr.heap.size [.int .u8 (16 * u1 + u2)] rfl rfl (oe.alloc _) rfl (tOne_range (heap_alloc_new _ _)) (by simp [Value.oneCell']) (by omega) (by omega) (by simp; omega) ?_; intro v9 W9 o9 g9; have hbal : Below wr.heap.size wr (wr.alloc (.cells #[.int .u8 (16 * u1 + u2)] 5)) := (Below.refl _ _).alloc (Nat.le_refl _) _; have rB1 := (hbal.block _ (Array.getElem?_eq_some_iff.1 rB).1).trans rB; have rC1 := (hbal.block _ (Array.getElem?_eq_some_iff.1 rC).1).trans rC; have rB9 := (g9.block gA (Array.getElem?_eq_some_iff.1 rB1).1 (fun e => tOwns_neE (oe.alloc _) rB1 (by decide) _ e.symm rfl)).trans rB1; have rC9 := (g9.block w.heap.size (Array.getElem?_eq_some_iff.1 rC1).1 (fun e => tOwns_neE (oe.alloc _) rC1 (by decide) _ e.symm rfl)).trans rC1; have d9 : Below w.heap.size w W9 := (dB.alloc hsz _).grown g9 (by simp; omega) (fun k hk => (oe.lt k hk).1); clear hbal rB1 rC1 g9 rB rC oe c4 dB; obtain ⟨q9, p9, hv9⟩ := tOwns_shape o9; subst hv9) | ((with_reducible (refine tpLook ?_)); refine wpList_store_one rfl 22 (.tmp 135) (.tmp 134) rfl gA 4 _ _ rfl rfl (cell_of_row _ _ 4 _ _ _ rB9) (frozen_of_row _ _ 4 _ _ rB9) byteSl rfl ?_))
                      have rB10 : (W9.setCell ⟨gA, 4, none⟩ (.slice q9 (d.length + 1) p9)).heap[gA]? = some (.cells #[.int .i64 k, .int .i64 nx, .int .i64 0, .int .i64 0, .slice q9 (d.length + 1) p9] 24) := (heap_setCell_same _ _ 4 _ _ _ rB9).trans rfl
                      have oo := Only.one W9 gA 4 (.slice q9 (d.length + 1) p9)
                      have rC10 := (oo.other w.heap.size gA0).trans rC9
                      have d10 := d9.trans (oo.below lgA)
                      have o10 := tOwns_cell o9 rB9 (by decide) 4 (.slice q9 (d.length + 1) p9)
                      have HO10 : Hid ((W9.setCell ⟨gA, 4, none⟩ (.slice q9 (d.length + 1) p9)).ownsRow w.heap.size 5 1 (.slice q9 (d.length + 1) p9) (d ++ [16 * u1 + u2]).length ((d ++ [16 * u1 + u2]).map (Value.int .u8))) := by unfold Hid; simpa using o10
                      generalize W9.setCell ⟨gA, 4, none⟩ (.slice q9 (d.length + 1) p9) = W10 at rB10 rC10 d10 HO10 ⊢
                      clear oo rB9 rC9 d9 o9 o10
                      have HJ2 : Hid (J + 2 = 2 * (j + 1) ∧ hexL (d ++ [16 * u1 + u2]) = y.take (2 * (j + 1)) ∧ (∀ c ∈ d ++ [16 * u1 + u2], 0 ≤ c ∧ c < 256) ∧ (d ++ [16 * u1 + u2]).length = j + 1 ∧ J + 2 ≤ y.length) := ⟨by have := HJ1.out; omega, HS.out, HD.out, by have := HL.out; simp; omega, by omega⟩
                      have HB10 : Hid _ := rB10
                      have HC10 : Hid _ := rC10
                      clear rB10 rC10
                      go_wp2
                      go_roundw
                      case rel => exact ⟨j + 1, J + 2, d ++ [16 * u1 + u2], _, by go_num, HJ2, HB10, HC10, HO10, d10⟩
                      case measure => simp [intOf]; omega
                · obtain rfl : J = y.length := by omega
                  have hlI : ¬ (y.length : Int) < (y.length : Int) := by omega
                  have HU : Hid (unhx y = some d) := by
                    have h1 := HJ.out.2.1
                    rw [← hJ1, List.take_length] at h1
                    exact hexL_all h1 HJ.out.2.2.1
                  have hdb := HJ.out.2.2.1
                  have hsl : Sl wr (.slice gv d.length cv) d := Sl.ofOwns oe (by omega) hdb
                  have HC : Hid (candW [fw, x, y] = some ⟨k, nx, 0, 0, d⟩) := by
                    unfold Hid
                    rw [candW_sub (HK.out.trans HKK.out) HU.out, HNX.out, HKK.out]
                  have HWW : Hid (splitB s = [fw, x, y]) := HW.out
                  clear hdb HJ HU hJ1
                  have c4 := cell_of_row _ _ 4 _ _ _ rB
                  go_wp2_with ((with_reducible (refine tpLook ?_)); refine wpList_load_row rfl 24 _ rfl gA rfl 24 _ (0, 0) _ rB Tryd.underlying24 rfl laSz5 ?_)
                  refine (actFault_any k nx 0 0 (.slice gv d.length cv) d wr hsl).mono ?_
                  rintro e w3 ⟨rfl, b3⟩
                  have o3 := tOwns_keep oe (fun k hk => b3.block k (oe.lt k hk).2)
                  clear hsl oe c4
                  have r3 := (b3.block w.heap.size (Array.getElem?_eq_some_iff.1 rC).1).trans rC
                  have q3 := (b3.block gA (Array.getElem?_eq_some_iff.1 rB).1).trans rB
                  have d3 := dB.trans (b3.mono dB.size)
                  clear b3 rB rC dB
                  by_cases hE : lacE (⟨k, nx, 0, 0, d⟩ : Lac) = 0
                  · have HR : Hid (rdL s = some ⟨k, nx, 0, 0, d⟩) := rd_some HW.out (HC.out) hE
                    rw [hE]
                    have onA : (#[.int .i64 k, .int .i64 nx, .int .i64 0, .int .i64 0, .slice gv d.length cv] : Array Value).all (·.oneCell') = true := by simp [Value.oneCell']
                    go_wp2_with ((with_reducible (refine tpLook ?_)); first | (refine wpList_load_row rfl 24 _ rfl gA rfl 24 _ (0, 0) _ q3 Tryd.underlying24 rfl laSz5 ?_) | (refine wpList_store_row rfl 24 (.tmp 2) (.tmp 140) rfl w.heap.size #[.int .i64 k, .int .i64 nx, .int .i64 0, .int .i64 0, .slice gv d.length cv] rfl rfl 24 _ r3 laSz5 rfl onA ?_))
                    have qR := setRow_heap w3 w.heap.size _ (#[.int .i64 k, .int .i64 nx, .int .i64 0, .int .i64 0, .slice gv d.length cv]) 24 _ r3
                    have dR := tBelow_row d3 (Nat.le_refl _) (#[.int .i64 k, .int .i64 nx, .int .i64 0, .int .i64 0, .slice gv d.length cv])
                    have oR := tOwns_row o3 r3 (by decide) (#[.int .i64 k, .int .i64 nx, .int .i64 0, .int .i64 0, .slice gv d.length cv])
                    refine bodyPost_ret (tRow1 rfl _ _ w.heap.size 24 _ (0, 0) _ rfl qR Tryd.underlying24 rfl laSz5) rfl ?_
                    exact ⟨.inr ⟨_, _, HR.out, rfl, oR⟩, dR⟩
                  · have hne := nonzero_bne hE
                    have HR : Hid (rdL s = none) := rd_bad HW.out (HC.out) hE
                    obtain ⟨E, hEE⟩ : ∃ E, lacE (⟨k, nx, 0, 0, d⟩ : Lac) = E := ⟨_, rfl⟩
                    rw [hEE] at hne ⊢
                    clear hE hEE q3
                    go_wp2_with ((with_reducible (refine tpLook ?_)); refine wpList_store_row rfl 24 (.tmp 2) (.tmp 139) rfl w.heap.size #[.int .i64 0, .int .i64 0, .int .i64 0, .int .i64 0, .slice none 0 0] rfl rfl 24 _ r3 laSz5 rfl onZ ?_)
                    have qR := setRow_heap w3 w.heap.size _ (#[.int .i64 0, .int .i64 0, .int .i64 0, .int .i64 0, .slice none 0 0]) 24 _ r3
                    have dR := tBelow_row d3 (Nat.le_refl _) (#[.int .i64 0, .int .i64 0, .int .i64 0, .int .i64 0, .slice none 0 0])
                    refine bodyPost_ret (tRow1 rfl _ _ w.heap.size 24 _ (0, 0) _ rfl qR Tryd.underlying24 rfl laSz5) rfl ?_
                    exact ⟨.inl ⟨HR.out, rfl⟩, dR⟩
            · have hov : ((y.length : Int) % 2 != 0) = true := ne_bne (by omega)
              have hsy := str_size y
              have HR : Hid (rdL s = none) := rd_none HW.out (candW_hex (HK.out.trans HKK.out) (unhx_odd hev))
              go_wp2_with ((with_reducible (refine tpLook ?_)); refine wpList_store_row rfl 24 (.tmp 2) (.tmp 103) rfl w.heap.size #[.int .i64 0, .int .i64 0, .int .i64 0, .int .i64 0, .slice none 0 0] rfl rfl 24 _ (rA _) laSz5 rfl onZ ?_)
              refine bodyPost_ret (tRow1 rfl _ _ w.heap.size 24 _ (0, 0) _ rfl (setRow_heap _ w.heap.size _ (#[.int .i64 0, .int .i64 0, .int .i64 0, .int .i64 0, .slice none 0 0]) 24 _ (rA _)) Tryd.underlying24 rfl laSz5) rfl ?_
              exact ⟨.inl ⟨HR.out, rfl⟩, tBelow_row (dA _) (Nat.le_refl _) _⟩
          · have e1 : (k == 1) = false := ne_beq (by omega)
            clear k1 hk9
            have HKK : Hid (k = 2 ∨ k = 3 ∨ k = 9) := hk
            clear hk
            go_wp2_with fail
            refine (uses_any k _).mono ?_
            rintro e w' ⟨rfl, hw'⟩
            subst hw'
            rw [uN, uA, uK]
            clear uN uA uK
            go_wp2_with fail
            refine (whole_any x hb1 (by omega) _).mono ?_
            rintro e w' ⟨rfl, hw'⟩
            subst hw'
            have HR : Hid (rdL s = none) := rd_none HW.out (candW_no2 (by have := HKK.out; have := HK.out; omega) (by have := HKK.out; have := HK.out; omega))
            go_wp2_with ((with_reducible (refine tpLook ?_)); refine wpList_store_row rfl 24 (.tmp 2) (.tmp 93) rfl w.heap.size #[.int .i64 0, .int .i64 0, .int .i64 0, .int .i64 0, .slice none 0 0] rfl rfl 24 _ (rA _) laSz5 rfl onZ ?_)
            refine bodyPost_ret (tRow1 rfl _ _ w.heap.size 24 _ (0, 0) _ rfl (setRow_heap _ w.heap.size _ (#[.int .i64 0, .int .i64 0, .int .i64 0, .int .i64 0, .slice none 0 0]) 24 _ (rA _)) Tryd.underlying24 rfl laSz5) rfl ?_
            exact ⟨.inl ⟨HR.out, rfl⟩, tBelow_row (dA _) (Nat.le_refl _) _⟩
          · have e1 : (k == 1) = false := ne_beq (by omega)
            clear k1 hk9
            have HKK : Hid (k = 4 ∨ k = 5 ∨ k = 6) := hk
            clear hk
            go_wp2_with fail
            refine (uses_any k _).mono ?_
            rintro e w' ⟨rfl, hw'⟩
            subst hw'
            rw [uN, uA, uK]
            clear uN uA uK
            go_wp2_with fail
            refine (whole_any x hb1 (by omega) _).mono ?_
            rintro e w' ⟨rfl, hw'⟩
            subst hw'
            have HR : Hid (rdL s = none) := rd_none HW.out (candW_no2 (by have := HKK.out; have := HK.out; omega) (by have := HKK.out; have := HK.out; omega))
            go_wp2_with ((with_reducible (refine tpLook ?_)); refine wpList_store_row rfl 24 (.tmp 2) (.tmp 93) rfl w.heap.size #[.int .i64 0, .int .i64 0, .int .i64 0, .int .i64 0, .slice none 0 0] rfl rfl 24 _ (rA _) laSz5 rfl onZ ?_)
            refine bodyPost_ret (tRow1 rfl _ _ w.heap.size 24 _ (0, 0) _ rfl (setRow_heap _ w.heap.size _ (#[.int .i64 0, .int .i64 0, .int .i64 0, .int .i64 0, .slice none 0 0]) 24 _ (rA _)) Tryd.underlying24 rfl laSz5) rfl ?_
            exact ⟨.inl ⟨HR.out, rfl⟩, tBelow_row (dA _) (Nat.le_refl _) _⟩
          · have e1 : (k == 1) = false := ne_beq (by omega)
            clear k1 hk9
            have HKK : Hid (k = 7) := hk
            clear hk
            go_wp2_with fail
            refine (uses_any k _).mono ?_
            rintro e w' ⟨rfl, hw'⟩
            subst hw'
            rw [uN, uA, uK]
            clear uN uA uK
            have HR : Hid (rdL s = none) := rd_none HW.out (candW_no2 (by have := HKK.out; have := HK.out; omega) (by have := HKK.out; have := HK.out; omega))
            go_wp2_with ((with_reducible (refine tpLook ?_)); refine wpList_store_row rfl 24 (.tmp 2) (.tmp 93) rfl w.heap.size #[.int .i64 0, .int .i64 0, .int .i64 0, .int .i64 0, .slice none 0 0] rfl rfl 24 _ (rA _) laSz5 rfl onZ ?_)
            refine bodyPost_ret (tRow1 rfl _ _ w.heap.size 24 _ (0, 0) _ rfl (setRow_heap _ w.heap.size _ (#[.int .i64 0, .int .i64 0, .int .i64 0, .int .i64 0, .slice none 0 0]) 24 _ (rA _)) Tryd.underlying24 rfl laSz5) rfl ?_
            exact ⟨.inl ⟨HR.out, rfl⟩, tBelow_row (dA _) (Nat.le_refl _) _⟩
          · have e1 : (k == 1) = false := ne_beq (by omega)
            clear k1 hk9
            have HKK : Hid (k = 8) := hk
            clear hk
            go_wp2_with fail
            refine (uses_any k _).mono ?_
            rintro e w' ⟨rfl, hw'⟩
            subst hw'
            rw [uN, uA, uK]
            clear uN uA uK
            go_wp2_with fail
            refine (whole_any x hb1 (by omega) _).mono ?_
            rintro e w' ⟨rfl, hw'⟩
            subst hw'
            go_wp2_with fail
            refine (whole_any y hb2 (by omega) _).mono ?_
            rintro e w' ⟨rfl, hw'⟩
            subst hw'
            go_wp2_with fail
            have rB := heap_alloc_new WQ (.cells #[.int .i64 k, .int .i64 (whV x), .int .i64 0, .int .i64 (whV y), .slice none 0 0] 24)
            have rC := rA (.cells #[.int .i64 k, .int .i64 (whV x), .int .i64 0, .int .i64 (whV y), .slice none 0 0] 24)
            have dB := dA (.cells #[.int .i64 k, .int .i64 (whV x), .int .i64 0, .int .i64 (whV y), .slice none 0 0] 24)
            generalize WQ.alloc (.cells #[.int .i64 k, .int .i64 (whV x), .int .i64 0, .int .i64 (whV y), .slice none 0 0] 24) = WB at rB rC dB ⊢
            refine (actFault_any k (whV x) 0 (whV y) (.slice none 0 0) [] WB (Sl.nil _ _)).mono ?_
            rintro e w3 ⟨rfl, b3⟩
            have r3 := (b3.block w.heap.size (Array.getElem?_eq_some_iff.1 rC).1).trans rC
            have q3 := (b3.block WQ.heap.size (Array.getElem?_eq_some_iff.1 rB).1).trans rB
            have d3 := dB.trans (b3.mono dB.size)
            clear b3 rB rC rQ rA dA dB dQ
            by_cases hE : lacE (⟨k, (whV x), 0, (whV y), []⟩ : Lac) = 0
            · have HR : Hid (rdL s = some ⟨k, (whV x), 0, (whV y), []⟩) := rd_some HW.out (by simp only [candW, HK.out]; rw [if_neg (by have := HKK.out; omega), if_pos HKK.out, HKK.out]) hE
              rw [hE]
              have onA : (#[.int .i64 k, .int .i64 (whV x), .int .i64 0, .int .i64 (whV y), .slice none 0 0] : Array Value).all (·.oneCell') = true := by simp [Value.oneCell']
              go_wp2_with ((with_reducible (refine tpLook ?_)); first | (refine wpList_load_row rfl 24 _ rfl WQ.heap.size rfl 24 _ (0, 0) _ q3 Tryd.underlying24 rfl laSz5 ?_) | (refine wpList_store_row rfl 24 (.tmp 2) (.tmp 140) rfl w.heap.size #[.int .i64 k, .int .i64 (whV x), .int .i64 0, .int .i64 (whV y), .slice none 0 0] rfl rfl 24 _ r3 laSz5 rfl onA ?_))
              have qR := setRow_heap w3 w.heap.size _ (#[.int .i64 k, .int .i64 (whV x), .int .i64 0, .int .i64 (whV y), .slice none 0 0]) 24 _ r3
              have dR := tBelow_row d3 (Nat.le_refl _) (#[.int .i64 k, .int .i64 (whV x), .int .i64 0, .int .i64 (whV y), .slice none 0 0])
              refine bodyPost_ret (tRow1 rfl _ _ w.heap.size 24 _ (0, 0) _ rfl qR Tryd.underlying24 rfl laSz5) rfl ?_
              exact ⟨.inr ⟨_, _, HR.out, rfl, World.ownsRow_nil _ _ _ _⟩, dR⟩
            · have hne := nonzero_bne hE
              have HR : Hid (rdL s = none) := rd_bad HW.out (by simp only [candW, HK.out]; rw [if_neg (by have := HKK.out; omega), if_pos HKK.out, HKK.out]) hE
              obtain ⟨E, hEE⟩ : ∃ E, lacE (⟨k, (whV x), 0, (whV y), []⟩ : Lac) = E := ⟨_, rfl⟩
              rw [hEE] at hne ⊢
              clear hE hEE q3
              go_wp2_with ((with_reducible (refine tpLook ?_)); refine wpList_store_row rfl 24 (.tmp 2) (.tmp 139) rfl w.heap.size #[.int .i64 0, .int .i64 0, .int .i64 0, .int .i64 0, .slice none 0 0] rfl rfl 24 _ r3 laSz5 rfl onZ ?_)
              have qR := setRow_heap w3 w.heap.size _ (#[.int .i64 0, .int .i64 0, .int .i64 0, .int .i64 0, .slice none 0 0]) 24 _ r3
              have dR := tBelow_row d3 (Nat.le_refl _) (#[.int .i64 0, .int .i64 0, .int .i64 0, .int .i64 0, .slice none 0 0])
              refine bodyPost_ret (tRow1 rfl _ _ w.heap.size 24 _ (0, 0) _ rfl qR Tryd.underlying24 rfl laSz5) rfl ?_
              exact ⟨.inl ⟨HR.out, rfl⟩, dR⟩
        · have m3 : 3 < m := by have := HM.out; simp at this; omega
          have hb1 := hmem x (by simp)
          have hl1 := hlens x (by simp)
          have cx : ∀ o, (WQ.alloc o).cell? ⟨gb, go + 1, none⟩ = some (.string (strOfNums x)) := fun o => (((Below.refl _ WQ).alloc (Nat.le_refl _) o).cell (p := ⟨gb, go + 1, none⟩) gQ).trans (HSQ.out.at 1 (by simp))
          have ix1 := runIndexS1 gb go m gc (by omega)
          have hb2 := hmem y (by simp)
          have hl2 := hlens y (by simp)
          have cy : ∀ o, (WQ.alloc o).cell? ⟨gb, go + 2, none⟩ = some (.string (strOfNums y)) := fun o => (((Below.refl _ WQ).alloc (Nat.le_refl _) o).cell (p := ⟨gb, go + 2, none⟩) gQ).trans (HSQ.out.at 2 (by simp))
          have ix2 := runIndexS2 gb go m gc (by omega)
          have n1 : (1 : Int) < (m : Int) := by omega
          have n2 : (2 : Int) < (m : Int) := by omega
          have q1 : ((m : Int) != 1) = true := ne_bne (by omega)
          have q2 : ((m : Int) != 2) = true := ne_bne (by omega)
          have q3 : ((m : Int) != 3) = true := ne_bne (by omega)
          clear hmem hlens HM HSQ hf0
          rcases kindCase k1 hk9 with ⟨hk, uN, uA, uK⟩ | ⟨hk, uN, uA, uK⟩ | ⟨hk, uN, uA, uK⟩ | ⟨hk, uN, uA, uK⟩ | ⟨hk, uN, uA, uK⟩
          · have e1 : (k == 1) = true := eq_beq hk
            clear k1 hk9
            have HKK : Hid (k = 1) := hk
            clear hk
            go_wp2_with fail
            refine (uses_any k _).mono ?_
            rintro e w' ⟨rfl, hw'⟩
            subst hw'
            rw [uN, uA, uK]
            clear uN uA uK
            go_wp2_with fail
            refine (whole_any x hb1 (by omega) _).mono ?_
            rintro e w' ⟨rfl, hw'⟩
            subst hw'
            have HR : Hid (rdL s = none) := rd_none HW.out (rfl)
            go_wp2_with ((with_reducible (refine tpLook ?_)); refine wpList_store_row rfl 24 (.tmp 2) (.tmp 93) rfl w.heap.size #[.int .i64 0, .int .i64 0, .int .i64 0, .int .i64 0, .slice none 0 0] rfl rfl 24 _ (rA _) laSz5 rfl onZ ?_)
            refine bodyPost_ret (tRow1 rfl _ _ w.heap.size 24 _ (0, 0) _ rfl (setRow_heap _ w.heap.size _ (#[.int .i64 0, .int .i64 0, .int .i64 0, .int .i64 0, .slice none 0 0]) 24 _ (rA _)) Tryd.underlying24 rfl laSz5) rfl ?_
            exact ⟨.inl ⟨HR.out, rfl⟩, tBelow_row (dA _) (Nat.le_refl _) _⟩
          · have e1 : (k == 1) = false := ne_beq (by omega)
            clear k1 hk9
            have HKK : Hid (k = 2 ∨ k = 3 ∨ k = 9) := hk
            clear hk
            go_wp2_with fail
            refine (uses_any k _).mono ?_
            rintro e w' ⟨rfl, hw'⟩
            subst hw'
            rw [uN, uA, uK]
            clear uN uA uK
            go_wp2_with fail
            refine (whole_any x hb1 (by omega) _).mono ?_
            rintro e w' ⟨rfl, hw'⟩
            subst hw'
            have HR : Hid (rdL s = none) := rd_none HW.out (rfl)
            go_wp2_with ((with_reducible (refine tpLook ?_)); refine wpList_store_row rfl 24 (.tmp 2) (.tmp 93) rfl w.heap.size #[.int .i64 0, .int .i64 0, .int .i64 0, .int .i64 0, .slice none 0 0] rfl rfl 24 _ (rA _) laSz5 rfl onZ ?_)
            refine bodyPost_ret (tRow1 rfl _ _ w.heap.size 24 _ (0, 0) _ rfl (setRow_heap _ w.heap.size _ (#[.int .i64 0, .int .i64 0, .int .i64 0, .int .i64 0, .slice none 0 0]) 24 _ (rA _)) Tryd.underlying24 rfl laSz5) rfl ?_
            exact ⟨.inl ⟨HR.out, rfl⟩, tBelow_row (dA _) (Nat.le_refl _) _⟩
          · have e1 : (k == 1) = false := ne_beq (by omega)
            clear k1 hk9
            have HKK : Hid (k = 4 ∨ k = 5 ∨ k = 6) := hk
            clear hk
            go_wp2_with fail
            refine (uses_any k _).mono ?_
            rintro e w' ⟨rfl, hw'⟩
            subst hw'
            rw [uN, uA, uK]
            clear uN uA uK
            go_wp2_with fail
            refine (whole_any x hb1 (by omega) _).mono ?_
            rintro e w' ⟨rfl, hw'⟩
            subst hw'
            have HR : Hid (rdL s = none) := rd_none HW.out (rfl)
            go_wp2_with ((with_reducible (refine tpLook ?_)); refine wpList_store_row rfl 24 (.tmp 2) (.tmp 93) rfl w.heap.size #[.int .i64 0, .int .i64 0, .int .i64 0, .int .i64 0, .slice none 0 0] rfl rfl 24 _ (rA _) laSz5 rfl onZ ?_)
            refine bodyPost_ret (tRow1 rfl _ _ w.heap.size 24 _ (0, 0) _ rfl (setRow_heap _ w.heap.size _ (#[.int .i64 0, .int .i64 0, .int .i64 0, .int .i64 0, .slice none 0 0]) 24 _ (rA _)) Tryd.underlying24 rfl laSz5) rfl ?_
            exact ⟨.inl ⟨HR.out, rfl⟩, tBelow_row (dA _) (Nat.le_refl _) _⟩
          · have e1 : (k == 1) = false := ne_beq (by omega)
            clear k1 hk9
            have HKK : Hid (k = 7) := hk
            clear hk
            go_wp2_with fail
            refine (uses_any k _).mono ?_
            rintro e w' ⟨rfl, hw'⟩
            subst hw'
            rw [uN, uA, uK]
            clear uN uA uK
            have HR : Hid (rdL s = none) := rd_none HW.out (rfl)
            go_wp2_with ((with_reducible (refine tpLook ?_)); refine wpList_store_row rfl 24 (.tmp 2) (.tmp 93) rfl w.heap.size #[.int .i64 0, .int .i64 0, .int .i64 0, .int .i64 0, .slice none 0 0] rfl rfl 24 _ (rA _) laSz5 rfl onZ ?_)
            refine bodyPost_ret (tRow1 rfl _ _ w.heap.size 24 _ (0, 0) _ rfl (setRow_heap _ w.heap.size _ (#[.int .i64 0, .int .i64 0, .int .i64 0, .int .i64 0, .slice none 0 0]) 24 _ (rA _)) Tryd.underlying24 rfl laSz5) rfl ?_
            exact ⟨.inl ⟨HR.out, rfl⟩, tBelow_row (dA _) (Nat.le_refl _) _⟩
          · have e1 : (k == 1) = false := ne_beq (by omega)
            clear k1 hk9
            have HKK : Hid (k = 8) := hk
            clear hk
            go_wp2_with fail
            refine (uses_any k _).mono ?_
            rintro e w' ⟨rfl, hw'⟩
            subst hw'
            rw [uN, uA, uK]
            clear uN uA uK
            go_wp2_with fail
            refine (whole_any x hb1 (by omega) _).mono ?_
            rintro e w' ⟨rfl, hw'⟩
            subst hw'
            go_wp2_with fail
            refine (whole_any y hb2 (by omega) _).mono ?_
            rintro e w' ⟨rfl, hw'⟩
            subst hw'
            have HR : Hid (rdL s = none) := rd_none HW.out (rfl)
            go_wp2_with ((with_reducible (refine tpLook ?_)); refine wpList_store_row rfl 24 (.tmp 2) (.tmp 93) rfl w.heap.size #[.int .i64 0, .int .i64 0, .int .i64 0, .int .i64 0, .slice none 0 0] rfl rfl 24 _ (rA _) laSz5 rfl onZ ?_)
            refine bodyPost_ret (tRow1 rfl _ _ w.heap.size 24 _ (0, 0) _ rfl (setRow_heap _ w.heap.size _ (#[.int .i64 0, .int .i64 0, .int .i64 0, .int .i64 0, .slice none 0 0]) 24 _ (rA _)) Tryd.underlying24 rfl laSz5) rfl ?_
            exact ⟨.inl ⟨HR.out, rfl⟩, tBelow_row (dA _) (Nat.le_refl _) _⟩
      · have hq := str_ne (wordL_bytes k) hf0 hfw
        have HNO2 : Hid (∀ j, 1 ≤ j → j < k + 1 → wordL j ≠ fw) := fun j h1 h2 => by
          by_cases e : j = k
          · rw [e]; exact hfw
          · exact HNO.out j h1 (by omega)
        clear HNO hfw
        obtain ⟨wk, hwk⟩ : ∃ x, wordL k = x := ⟨_, rfl⟩
        rw [hwk] at HA hq
        clear hwk
        go_wp2_with fail
        go_quiet ((go_at_call 41; exact Calls.quiet_of_same (HA.out _)))
        have bQ : Below w1.heap.size w1 (wr.drewN nq) := below_drewN bR nq
        generalize wr.drewN nq = WQ at bQ ⊢
        clear nq bR c0 ix0 HA
        go_wp2
        go_roundw
        case rel => exact ⟨k + 1, by omega, by omega, by go_num, HNO2, bQ⟩
        case measure => simp [intOf]; omega
    · obtain rfl : k = 10 := by omega
      have HR : Hid (rdL s = none) := rd_none HW.out (candW_none (kindW_none HNO.out))
      have rQ := (bR.block w.heap.size l0).trans r0
      have dQ : Below w.heap.size w wr := b2.trans (bR.mono b2.size)
      have onZ : (#[.int .i64 0, .int .i64 0, .int .i64 0, .int .i64 0, .slice none 0 0] : Array Value).all (·.oneCell') = true := by simp [Value.oneCell']
      clear HNO hk9 bR r0 l0 b2 HSS
      go_wp2_with ((with_reducible (refine tpLook ?_)); refine wpList_store_row rfl 24 (.tmp 2) (.tmp 141) rfl w.heap.size #[.int .i64 0, .int .i64 0, .int .i64 0, .int .i64 0, .slice none 0 0] rfl rfl 24 _ rQ laSz5 rfl onZ ?_)
      have qR := setRow_heap wr w.heap.size _ (#[.int .i64 0, .int .i64 0, .int .i64 0, .int .i64 0, .slice none 0 0]) 24 _ rQ
      have dR := tBelow_row dQ (Nat.le_refl _) (#[.int .i64 0, .int .i64 0, .int .i64 0, .int .i64 0, .slice none 0 0])
      refine bodyPost_ret (tRow1 rfl _ _ w.heap.size 24 _ (0, 0) _ rfl qR Tryd.underlying24 rfl laSz5) rfl ?_
      exact ⟨.inl ⟨HR.out, rfl⟩, dR⟩
end Go.Proofs.YtlcbebiocmmbaaaDoor
