/-
  The law's own helper: a copy of acceptors.
-/
import Derived.Test.YticjofjghpdmpaaDoorLawAcc
import Derived.Test.YticjofjghpdmpaaDoorPaxCho
namespace Go.Proofs.YticjofjghpdmpaaDoor
open Go.RowKit
set_option linter.unusedVariables false

theorem infoAc : (Tryd.prog.info? 26).map (fun i => (i.zero, i.size, i.bytes)) = some (some (.agg #[.int .i64 0, .int .i64 0, .slice none 0 0]), 3, 40) := by kernel_rfl
/-- the cells us are acceptors, each with votes of its own -/
def Ra (w : World) (us : List Value) (ac : List Acc) : Prop := us.length = 3 * ac.length ∧ ∀ (i : Nat) (A : Acc), ac[i]? = some A → ∃ y, us[3 * i]? = some (.int .i64 A.p.r) ∧ us[3 * i + 1]? = some (.int .i64 A.p.n) ∧ us[3 * i + 2]? = some y ∧ Ov w y A.vs ∧ A.vs.length ≤ 2199023255488
theorem Ra.below {w w' : World} {us : List Value} {ac : List Acc} (h : Ra w us ac) (hb : Below w.heap.size w w') : Ra w' us ac :=
  ⟨h.1, fun i A hi => by obtain ⟨y, h1, h2, h3, h4, h5⟩ := h.2 i A hi; exact ⟨y, h1, h2, h3, h4.below hb, h5⟩⟩
theorem Ra.grown {w w' : World} {us : List Value} {ac : List Acc} (h : Ra w us ac) {b e k m : Nat} {u : Value} {ys : List Value} (hu : w.ownsRow b e k u m ys) (he : e ≠ 39) (hg : w.grownBy w' u.ownBlock) : Ra w' us ac :=
  ⟨h.1, fun i A hi => by obtain ⟨y, h1, h2, h3, h4, h5⟩ := h.2 i A hi; exact ⟨y, h1, h2, h3, h4.grown hu he hg, h5⟩⟩
theorem Ra.snoc {w : World} {us : List Value} {ac : List Acc} (h : Ra w us ac) {A : Acc} {y : Value} (hy : Ov w y A.vs) (hl : A.vs.length ≤ 2199023255488) : Ra w (us ++ [.int .i64 A.p.r, .int .i64 A.p.n, y]) (ac ++ [A]) := by
  have h0 := h.1
  refine ⟨by simp [h0]; omega, fun i B hi => ?_⟩
  rcases Nat.lt_or_ge i ac.length with g | g
  · rw [List.getElem?_append_left g] at hi
    obtain ⟨z, h1, h2, h3, h4, h5⟩ := h.2 i B hi
    exact ⟨z, by rw [List.getElem?_append_left (by omega)]; exact h1, by rw [List.getElem?_append_left (by omega)]; exact h2, by rw [List.getElem?_append_left (by omega)]; exact h3, h4, h5⟩
  · rw [List.getElem?_append_right g] at hi
    have e1 : i - ac.length = 0 := by have := (List.getElem?_eq_some_iff.1 hi).1; simp at this; omega
    rw [e1] at hi
    simp at hi
    subst hi
    have ei : i = ac.length := by omega
    subst ei
    refine ⟨y, ?_, ?_, ?_, hy, hl⟩
    · rw [List.getElem?_append_right (by omega), h0, Nat.sub_self]; rfl
    · rw [List.getElem?_append_right (by omega), h0, show 3 * ac.length + 1 - 3 * ac.length = 1 by omega]; rfl
    · rw [List.getElem?_append_right (by omega), h0, show 3 * ac.length + 2 - 3 * ac.length = 2 by omega]; rfl
theorem Sac.ofRa {w : World} {base : Nat} {v : Value} {us : List Value} {ac : List Acc} (ho : w.ownsRow base 26 3 v ac.length us) (h : Ra w us ac) (hl : ac.length ≤ 3518437208780) : Sac w v ac := by
  refine ⟨?_, hl⟩
  rcases ho.2 with ⟨rfl, h0⟩ | ⟨g, cap, cur, rfl, _, hg, hn, _, hcs, ht⟩
  · exact ⟨none, 0, by rw [h0], .inl (List.eq_nil_of_length_eq_zero h0)⟩
  · refine ⟨_, cap, rfl, .inr ⟨g, 0, rfl, (Array.getElem?_eq_some_iff.1 hg).1, fun i A hi => ?_⟩⟩
    obtain ⟨y, h1, h2, h3, h4, h5⟩ := h.2 i A hi
    have hadd : ∀ k, (⟨g, 0, none⟩ : Addr).add k = ⟨g, k, none⟩ := fun k => by unfold Addr.add; split <;> simp_all
    have c0 := ho.cells (g := g) rfl _ _ h1
    have c1 := ho.cells (g := g) rfl _ _ h2
    have c2 := ho.cells (g := g) rfl _ _ h3
    rw [hadd] at c0 c1 c2
    refine ⟨y, fun j u hj => ?_, Sv.ofOwns h4 h5⟩
    rw [Nat.zero_add]
    match j, hj with
    | 0, hj => simp at hj; subst hj; exact c0
    | 1, hj => simp at hj; subst hj; exact c1
    | 2, hj => simp at hj; subst hj; exact c2
    | j + 3, hj => simp at hj

set_option maxHeartbeats 1000000 in
set_option maxRecDepth 100000 in
theorem manyAcc_any (x : Value) (ac : List Acc) (w : World) (h : Sac w x ac) :
    Calls Tryd.prog 22 #[x] w fun e w' => ∃ x', e = .returned x' ∧ Sac w' x' ac ∧ Below w.heap.size w w' := by
  have hlen := h.len
  obtain ⟨a, cp, rfl⟩ := h.shape
  obtain ⟨N, hN⟩ : ∃ N, ac.length = N := ⟨_, rfl⟩
  have HN : Hid (ac.length = N) := hN
  rw [hN] at h hlen ⊢
  clear hN
  have ac3 : (Tryd.prog.info? 26).map (·.size) = some 3 := by kernel_rfl
  go_enter Tryd.func22, Tryd.ntmps22
  go_wp2_with fail
  go_loopw [3, 4] (fun v iv wr => ∃ (j : Nat) (us : List Value), j ≤ N ∧ iv = .int .i64 (j : Int) ∧ wr.ownsRow w.heap.size 26 3 v j us ∧ Ra wr us (ac.take j) ∧ Below w.heap.size w wr) (fun _ iv _ => ((N : Int) - intOf iv).toNat)
  case atStart => exact ⟨0, [], by omega, rfl, World.ownsRow_nil _ _ _ _, ⟨rfl, fun i A h1 => by simp at h1⟩, Below.refl _ _⟩
  case round =>
    obtain ⟨j, us, hj, rfl, hown, hrv, hbel⟩ := hrel
    have HO : Hid (wr.ownsRow w.heap.size 26 3 u3 j us) := hown
    have HR : Hid (Ra wr us (ac.take j)) := hrv
    clear hown hrv
    by_cases hjN : j < N
    · have hji : (j : Int) < (N : Int) := by omega
      obtain ⟨A, hA⟩ : ∃ A, ac[j]? = some A := ⟨_, List.getElem?_eq_getElem (by have := HN.out; omega)⟩
      obtain ⟨b, off, y, rfl, ltb, hr, hsy⟩ := (h.below hbel).spot j A hA
      have hix := runIndexA b off N cp j hjN
      have HT : Hid (ac.take (j + 1) = ac.take j ++ [A]) := by
        obtain ⟨hj', e⟩ := List.getElem?_eq_some_iff.1 hA
        unfold Hid
        rw [List.take_succ_eq_append_getElem hj', e]
      have hll := hsy.len
      have hlt := HO.out.lt
      have hz := hbel.size
      obtain ⟨ay, cy, hy⟩ := hsy.shape
      obtain ⟨⟨pr, pn⟩, l⟩ := A
      simp only at hr hsy hy hll
      obtain ⟨M, hM⟩ : ∃ M, l.length = M := ⟨_, rfl⟩
      have HM : Hid (l.length = M) := hM
      rw [hM] at hy
      subst hy
      clear hM hA
      go_wp2_with ((with_reducible (refine pxLook ?_)); (refine wpList_load_mid rfl 26 _ rfl b (off + 3 * j) rfl [.int .i64 pr, .int .i64 pn, .slice ay M cy] _ hr Tryd.underlying26 rfl ac3 ?_))
      refine (acceptors_any ⟨pr, pn⟩ _ l wr hsy).mono ?_
      rintro e w3 ⟨y3, rfl, o3, b3⟩
      obtain ⟨g3, c3, h3⟩ := ownsV_shape o3
      rw [HM.out] at h3
      subst h3
      have hb3 := hbel.trans (b3.mono hbel.size)
      have z3 := b3.size
      have HO3 : Hid (w3.ownsRow w.heap.size 26 3 u3 j us) := ownsV_keep HO.out (fun k hk => b3.block k (hlt k hk).2)
      have hlt3 : ∀ k, u3.ownBlock = some k → w.heap.size ≤ k ∧ k < w3.heap.size := HO3.out.lt
      have HR3 : Hid (Ra w3 (us ++ [.int .i64 pr, .int .i64 pn, .slice g3 M c3]) (ac.take j ++ [⟨⟨pr, pn⟩, l⟩])) := Ra.snoc (A := ⟨⟨pr, pn⟩, l⟩) (HR.out.below b3) o3 hll
      clear o3 b3 HO HR hr hix hsy hbel
      simp only [acA]
      have hone : (#[.int .i64 pr, .int .i64 pn, .slice g3 M c3] : Array Value).all (·.oneCell') = true := by simp [Value.oneCell']
      obtain ⟨W, hW⟩ : ∃ W, (w3.alloc (.cells #[.int .i64 0, .int .i64 0, .slice none 0 0] 26)).setRow w3.heap.size #[.int .i64 pr, .int .i64 pn, .slice g3 M c3] = W := ⟨_, rfl⟩
      have bW : Below w3.heap.size w3 W := by rw [← hW]; exact oBelow_rowP ((Below.refl _ _).alloc (Nat.le_refl _) _) (Nat.le_refl _) _
      have rW : W.heap[w3.heap.size]? = some (.cells #[.int .i64 pr, .int .i64 pn, .slice g3 M c3] 26) := by rw [← hW]; exact setRow_heap _ _ _ _ _ _ (heap_alloc_new _ _)
      have hbW := hb3.trans (bW.mono hb3.size)
      have zW := bW.size
      have HOW : Hid (W.ownsRow w.heap.size 26 3 u3 j us) := ownsV_keep HO3.out (fun k hk => bW.block k (hlt3 k hk).2)
      have HRW : Hid (Ra W (us ++ [.int .i64 pr, .int .i64 pn, .slice g3 M c3]) (ac.take j ++ [⟨⟨pr, pn⟩, l⟩])) := HR3.out.below bW
      clear HO3 HR3
      go_wp2_with ((with_reducible (refine pxLook ?_)); first | (refine wpList_store_row rfl 26 (.tmp 5) (.tmp 16) rfl w3.heap.size #[.int .i64 pr, .int .i64 pn, .slice g3 M c3] rfl rfl 26 _ (heap_alloc_new _ _) (acSize ⟨pr, pn⟩ (.slice g3 M c3)) rfl hone ?_; rw [hW]) | (refine wpList_load_row rfl 26 _ rfl w3.heap.size rfl 26 _ (0, 0) _ rW Tryd.underlying26 rfl (acSize ⟨pr, pn⟩ (.slice g3 M c3)) ?_) | (at_builtin; refine wpList_append_one _ rfl _ _ 48 rfl w.heap.size 26 3 40 _ Tryd.underlying48 infoAc rfl (by decide) _ j us W.heap.size [.int .i64 pr, .int .i64 pn, .slice g3 M c3] rfl rfl (HOW.out.alloc _) rfl (one_range (heap_alloc_new _ _)) (by simp [Value.oneCell']) (by omega) (by omega) (by simp; omega) ?_))
      intro v4 w4 o4 g4
      have hb4 : Below w.heap.size w w4 := (hbW.alloc (by omega) _).grown g4 (by simp; omega) (fun k hk => (hlt k hk).1)
      have HR4 : Hid (Ra w4 (us ++ [.int .i64 pr, .int .i64 pn, .slice g3 M c3]) (ac.take j ++ [⟨⟨pr, pn⟩, l⟩])) := (HRW.out.below ((Below.refl _ _).alloc (Nat.le_refl _) _)).grown (HOW.out.alloc _) (by decide) g4
      have HO4 : Hid (w4.ownsRow w.heap.size 26 3 v4 (j + 1) (us ++ [.int .i64 pr, .int .i64 pn, .slice g3 M c3])) := o4
      clear o4 g4 HOW HRW hlt hlt3 rW bW hW
      go_wp2
      go_roundw
      case rel => exact ⟨j + 1, _, by omega, by go_num, HO4.out, by rw [HT.out]; exact HR4.out, hb4⟩
      case measure => simp [intOf]; omega
    · obtain rfl : j = N := by omega
      have ht : ac.take j = ac := List.take_of_length_le (by have := HN.out; omega)
      have HF : Hid (Sac wr u3 ac) := by
        have hr := HR.out
        have ho := HO.out
        rw [ht] at hr
        rw [← HN.out] at ho
        exact Sac.ofRa ho hr (by have := HN.out; omega)
      clear HO HR ht
      go_wp2
      go_ret
      exact ⟨_, rfl, HF.out, hbel⟩
end Go.Proofs.YticjofjghpdmpaaDoor
