/-
  The walk of the program's own way to lay a vote among others.
-/
import Derived.Test.YthmlikljeoamgabDoorKb20
import Derived.Test.YthmlikljeoamgabDoorKb18
import Derived.Test.YthmlikljeoamgabDoorKb9
namespace Go.Proofs.YthmlikljeoamgabDoor
open Go.RowKit
set_option linter.unusedVariables false

theorem Sv.window {w : World} {a : Option Addr} {n cap : Nat} {l : List Vt} (h : Sv w (.slice a n cap) l) (lo hi : Nat) (hlo : lo ≤ hi) (hhi : hi ≤ l.length) : Sv w (sliced a lo hi cap 8) ((l.take hi).drop lo) := by
  obtain ⟨⟨a', cap', e, hc, hn, h1⟩, hla⟩ := h
  simp only [Value.slice.injEq] at e
  obtain ⟨rfl, rfl, rfl⟩ := e
  have hl : ((l.take hi).drop lo).length = hi - lo := by rw [List.length_drop, List.length_take]; omega
  cases a with
  | none =>
    have c0 := hn rfl
    subst c0
    have h0 : l.length = 0 := by omega
    refine ⟨⟨_, _, by rw [hl]; rfl, by omega, fun _ => by omega, .inl (List.eq_nil_of_length_eq_zero (by omega))⟩, by omega⟩
  | some ad =>
    refine ⟨⟨_, _, by rw [hl]; rfl, by omega, (by intro h; split at h <;> simp at h), ?_⟩, by omega⟩
    rcases Nat.eq_or_lt_of_le hlo with he | hlt
    · exact .inl (List.eq_nil_of_length_eq_zero (by omega))
    · rcases h1 with rfl | ⟨b, off, e2, hbs, hcell⟩
      · simp at hhi; omega
      · simp only [Option.some.injEq] at e2
        subst e2
        refine .inr ⟨b, off + lo * 8, ?_, hbs, fun i v hi2 => ?_⟩
        · rw [if_neg (by omega)]
          simp [Addr.add]
        · rw [List.getElem?_drop, List.getElem?_take] at hi2
          split at hi2
          · have := hcell (lo + i) v hi2
            rwa [show off + 8 * (lo + i) = off + lo * 8 + 8 * i by omega] at this
          · cases hi2
set_option maxRecDepth 100000 in
theorem Sv.upTo {w : World} {a : Option Addr} {n cap : Nat} {l : List Vt} (h : Sv w (.slice a n cap) l) (hi : Nat) (hhi : hi ≤ l.length) :
    ∃ a' c', (∀ W, (Instr.slice 31 (.slice a n cap) none (some (.int .i64 (hi : Int))) none).run Tryd.prog W = .ok (.slice a' hi c') W) ∧ Sv w (.slice a' hi c') (l.take hi) := by
  have hw := h.window 0 hi (by omega) hhi
  obtain ⟨⟨a', cap', e, hc, hn, h1⟩, hla⟩ := h
  simp only [Value.slice.injEq] at e
  obtain ⟨rfl, rfl, rfl⟩ := e
  refine ⟨_, _, fun W => ?_, by simpa [sliced] using hw⟩
  rw [run_slice_h (P := Tryd.prog) W 31 a _ cap Tryd.underlying31 .i64 _ (by omega) (by omega)]
  rw [elemVt, size8w]
  simp [Result.andThen, sliced]
set_option maxRecDepth 100000 in
theorem Sv.from {w : World} {a : Option Addr} {n cap : Nat} {l : List Vt} (h : Sv w (.slice a n cap) l) (lo : Nat) (hlo : lo ≤ l.length) :
    ∃ a' c', (∀ W, (Instr.slice 31 (.slice a n cap) (some (.int .i64 (lo : Int))) none none).run Tryd.prog W = .ok (.slice a' (n - lo) c') W) ∧ Sv w (.slice a' (n - lo) c') (l.drop lo) := by
  have hw := h.window lo l.length hlo (Nat.le_refl _)
  obtain ⟨⟨a', cap', e, hc, hn, h1⟩, hla⟩ := h
  simp only [Value.slice.injEq] at e
  obtain ⟨rfl, rfl, rfl⟩ := e
  refine ⟨_, _, fun W => ?_, by simpa [sliced] using hw⟩
  rw [run_slice_l (P := Tryd.prog) W 31 a _ cap Tryd.underlying31 .i64 _ (by omega) (by omega)]
  rw [elemVt, size8w]
  simp [Result.andThen, sliced]
theorem wpList_make_none {P : Program} (w : World) {ops : Array Oper} {rest : List Oper} {o : Oper} {a : Act} {Q : Exit → Act → World → Prop}
    (hg : o.guard = none) (l c : Operand) (t : TypeId) (hop : o.op = Op.makeSlice t l c) (base : Nat) (e : TypeId) (h1 : P.underlying t = some (.slice e)) (hinfo : (P.info? e).map (fun i => (i.zero, i.size, i.bytes)) = some (some zVt, 8, 64))
    (C : Int) (n : Nat) (hl : a.eval l = .int .i64 0) (hc : a.eval c = .int .i64 C) (hC : C = (n : Int)) (hn : n ≤ 2199023255500) (b4 : base ≤ w.heap.size)
    (hK : ∀ w', Hid (w'.ownsRow base e 8 (.slice (some ⟨w.heap.size, 0, none⟩) 0 n) ([] : List Vt).length (vtL [])) → w.grownBy w' none → wpList P ops Q rest (a.put o.dst (.slice (some ⟨w.heap.size, 0, none⟩) 0 n)) w') : wpList P ops Q (o :: rest) a w := by
  obtain ⟨i0, hi, hz0, hz1, hz2⟩ := info_parts hinfo
  exact wpList_make_own w hg l c t hop base e i0 zVt 8 h1 hi hz0 hz1 _ _ C n hl hc hC (by rw [hz2]; omega) (by unfold maxLen; omega) b4 (fun w' o1 g1 => hK w' o1 g1)
set_option maxHeartbeats 2000000 in
set_option maxRecDepth 100000 in
theorem withVote_any (x : Value) (l : List Vt) (v : Vt) (w : World) (hr : Rise l) (h : Sv w x l) :
    Calls Tryd.prog 35 #[x, .agg (vtA v)] w fun e w' => ∃ x', e = .returned x' ∧ w'.ownsRow w.heap.size 57 8 x' (insV l v).length (vtL (insV l v)) ∧ Below w.heap.size w w' := by
  have hlen := h.len
  obtain ⟨a, cp, rfl⟩ := h.shape
  obtain ⟨n, hn⟩ : ∃ n, l.length = n := ⟨_, rfl⟩
  rw [hn] at h hlen ⊢
  have HL : Hid (l.length = n) := hn
  clear hn
  have bb : Below w.heap.size w (w.alloc (.cells (vtA v) 57)) := (Below.refl _ _).alloc (Nat.le_refl _) _
  have rr := heap_alloc_new w (.cells (vtA v) 57)
  have hsz := vtSize v
  have HU : Hid (∀ p, Plc l v.slot p → hasS l p v.slot = true → insV l v = l.take p ++ [v] ++ l.drop (p + 1) ∧ p + 1 ≤ l.length) := fun p hp hh => by
    obtain ⟨u, hu, he⟩ := hasS_true hh
    exact ⟨by rw [hp.has hu he]; simp, by have := (List.getElem?_eq_some_iff.1 hu).1; omega⟩
  have HN : Hid (∀ p, Plc l v.slot p → hasS l p v.slot = false → insV l v = l.take p ++ [v] ++ l.drop p ∧ p ≤ l.length) := fun p hp hh => ⟨by rw [hp.no (hasS_false hh)]; simp, hp.le⟩
  obtain ⟨vs, ⟨vr, vn⟩, ⟨vk, vc, vq, vm, vx⟩⟩ := v
  simp only [vtA, vtC] at bb rr hsz ⊢
  generalize hW : w.alloc (.cells [.int .i64 vs, .int .i64 vr, .int .i64 vn, .int .i64 vk, .int .i64 vc, .int .i64 vq, .int .i64 vm, .int .i64 vx].toArray 57) = W at bb rr
  have ltG : w.heap.size < W.heap.size := (Array.getElem?_eq_some_iff.1 rr).1
  have c0 : W.cell? ⟨w.heap.size, 0, none⟩ = some (.int .i64 vs) := cell_of_row _ _ 0 _ _ _ rr
  go_enter Tryd.func35, Tryd.ntmps35
  go_wp2_with fail
  clear hW
  refine (placeOf_any _ l vs W hr (h.below bb)).mono ?_
  rintro e w1 ⟨p, rfl, hp, b1⟩
  have d1 := bb.trans (b1.mono bb.size)
  have ltG1 : w.heap.size < w1.heap.size := Nat.lt_of_lt_of_le ltG b1.size
  replace rr := (b1.block _ ltG).trans rr
  have c0 : w1.cell? ⟨w.heap.size, 0, none⟩ = some (.int .i64 vs) := cell_of_row _ _ 0 _ _ _ rr
  have s1 := h.below d1
  have hp0 : p ≤ n := by have := hp.le; have := HL.out; omega
  have HP : Hid (Plc l vs p) := hp
  clear b1 bb hp
  go_wp2_with fail
  refine (hasVote_any _ l p vs w1 s1).mono ?_
  rintro e w2 ⟨rfl, rfl⟩
  obtain ⟨a1, k1, u1, su⟩ := s1.upTo p HP.out.le
  have hlp : (l.take p).length ≤ n := by rw [List.length_take]; omega
  have hz := d1.size
  generalize hh : hasS l p vs = bh
  cases bh
  · obtain ⟨HI0, hk0⟩ := HN.out p HP.out hh
    have HI : Hid (insV l ⟨vs, ⟨vr, vn⟩, ⟨vk, vc, vq, vm, vx⟩⟩ = l.take p ++ ([⟨vs, ⟨vr, vn⟩, ⟨vk, vc, vq, vm, vx⟩⟩] : List Vt) ++ l.drop (p)) := HI0
    obtain ⟨a2, k2, u2, sd⟩ := s1.from (p) hk0
    have hld : (l.take p).length + (l.drop (p)).length ≤ n := by rw [List.length_take, List.length_drop]; have := HL.out; omega
    have SU : Hid (∀ w', Below w2.heap.size w2 w' → Sv w' (.slice a1 p k1) (l.take p)) := fun w' hb => su.below hb
    have SD : Hid (∀ w', Below w2.heap.size w2 w' → Sv w' (.slice a2 (n - (p)) k2) (l.drop (p))) := fun w' hb => sd.below hb
    clear HI0 HU HN hh su sd s1 h hr
    generalize l.take p = LP at HI SU hlp hld
    generalize l.drop (p) = LD at HI SD hld
    have hkn : (p) ≤ n := by have := HL.out; omega
    go_wp2_with ((with_reducible (refine pxLook ?_)); at_make; refine wpList_make_none _ rfl _ _ 31 rfl w2.heap.size 57 Tryd.underlying31 infoVt _ (n + 1) rfl rfl (by first | rfl | omega) (by omega) (Nat.le_refl _) ?_)
    intro w3 o3 g3
    have b3 : Below w2.heap.size w2 w3 := (Below.refl _ _).grown g3 (Nat.le_refl _) (fun k hk => by cases hk)
    have z3 := b3.size
    clear g3
    go_wp2_with ((with_reducible (refine pxLook ?_)); at_builtin; refine wpList_append_vt _ rfl _ _ 31 rfl w2.heap.size 57 zVt Tryd.underlying31 infoVt rfl _ _ rfl rfl [] (LP) o3.out (SU.out w3 b3) (by simp; omega) (by omega) ?_)
    intro v4 w4 o4 g4
    have b4 : Below w2.heap.size w2 w4 := b3.grown g4 (by omega) (fun k hk => (o3.out.lt k hk).1)
    have z4 := b4.size
    have HO4 : Hid (w4.ownsRow w2.heap.size 57 8 v4 (LP).length (vtL (LP))) := by unfold Hid; simpa using o4
    have lt4 := HO4.out.lt
    have rr4 := (b4.block _ ltG1).trans rr
    clear o4 g4 o3
    go_wp2_with ((with_reducible (refine pxLook ?_)); first | (refine wpList_load_row rfl 57 _ rfl w.heap.size rfl 57 _ (0, 0) _ rr4 Tryd.underlying57 rfl hsz ?_) | (at_builtin; refine wpList_append_vt _ rfl _ _ 31 rfl w2.heap.size 57 zVt Tryd.underlying31 infoVt rfl _ _ rfl rfl (LP) ([⟨vs, ⟨vr, vn⟩, ⟨vk, vc, vq, vm, vx⟩⟩] : List Vt) (HO4.out.alloc _) (Sv.one _ ⟨vs, ⟨vr, vn⟩, ⟨vk, vc, vq, vm, vx⟩⟩ _ rfl) (by simp; omega) (by simp; omega) ?_))
    intro v5 w5 o5 g5
    have b5 : Below w2.heap.size w2 w5 := (b4.alloc (by omega) _).grown g5 (by simp; omega) (fun k hk => (lt4 k hk).1)
    have z5 := b5.size
    have HO5 : Hid (w5.ownsRow w2.heap.size 57 8 v5 (LP ++ ([⟨vs, ⟨vr, vn⟩, ⟨vk, vc, vq, vm, vx⟩⟩] : List Vt)).length (vtL (LP ++ ([⟨vs, ⟨vr, vn⟩, ⟨vk, vc, vq, vm, vx⟩⟩] : List Vt)))) := by unfold Hid; rw [List.length_append]; exact o5
    have lt5 := HO5.out.lt
    clear o5 g5 HO4 lt4 rr4
    go_wp2_with ((with_reducible (refine pxLook ?_)); at_builtin; refine wpList_append_vt _ rfl _ _ 31 rfl w2.heap.size 57 zVt Tryd.underlying31 infoVt rfl _ _ rfl rfl (LP ++ ([⟨vs, ⟨vr, vn⟩, ⟨vk, vc, vq, vm, vx⟩⟩] : List Vt)) (LD) HO5.out (SD.out w5 b5) (by rw [List.length_append]; simp; omega) (by omega) ?_)
    intro v6 w6 o6 g6
    have b6 : Below w2.heap.size w2 w6 := b5.grown g6 (by omega) (fun k hk => (lt5 k hk).1)
    have HO6 : Hid (w6.ownsRow w2.heap.size 57 8 v6 (LP ++ ([⟨vs, ⟨vr, vn⟩, ⟨vk, vc, vq, vm, vx⟩⟩] : List Vt) ++ LD).length (vtL (LP ++ ([⟨vs, ⟨vr, vn⟩, ⟨vk, vc, vq, vm, vx⟩⟩] : List Vt) ++ LD))) := by unfold Hid; simpa using o6
    have d6 := d1.trans (b6.mono d1.size)
    clear o6 g6 HO5 lt5
    go_wp2
    go_ret
    refine ⟨v6, rfl, ?_, d6⟩
    rw [HI.out]
    exact ownsRow_base HO6.out d1.size
  · obtain ⟨HI0, hk0⟩ := HU.out p HP.out hh
    have HI : Hid (insV l ⟨vs, ⟨vr, vn⟩, ⟨vk, vc, vq, vm, vx⟩⟩ = l.take p ++ ([⟨vs, ⟨vr, vn⟩, ⟨vk, vc, vq, vm, vx⟩⟩] : List Vt) ++ l.drop (p + 1)) := HI0
    obtain ⟨a2, k2, u2, sd⟩ := s1.from (p + 1) hk0
    rw [show ((p + 1 : Nat) : Int) = (p : Int) + 1 by omega] at u2
    have hld : (l.take p).length + (l.drop (p + 1)).length ≤ n := by rw [List.length_take, List.length_drop]; have := HL.out; omega
    have SU : Hid (∀ w', Below w2.heap.size w2 w' → Sv w' (.slice a1 p k1) (l.take p)) := fun w' hb => su.below hb
    have SD : Hid (∀ w', Below w2.heap.size w2 w' → Sv w' (.slice a2 (n - (p + 1)) k2) (l.drop (p + 1))) := fun w' hb => sd.below hb
    clear HI0 HU HN hh su sd s1 h hr
    generalize l.take p = LP at HI SU hlp hld
    generalize l.drop (p + 1) = LD at HI SD hld
    have hkn : (p + 1) ≤ n := by have := HL.out; omega
    go_wp2_with ((with_reducible (refine pxLook ?_)); at_make; refine wpList_make_none _ rfl _ _ 31 rfl w2.heap.size 57 Tryd.underlying31 infoVt _ (n + 1) rfl rfl (by first | rfl | omega) (by omega) (Nat.le_refl _) ?_)
    intro w3 o3 g3
    have b3 : Below w2.heap.size w2 w3 := (Below.refl _ _).grown g3 (Nat.le_refl _) (fun k hk => by cases hk)
    have z3 := b3.size
    clear g3
    go_wp2_with ((with_reducible (refine pxLook ?_)); at_builtin; refine wpList_append_vt _ rfl _ _ 31 rfl w2.heap.size 57 zVt Tryd.underlying31 infoVt rfl _ _ rfl rfl [] (LP) o3.out (SU.out w3 b3) (by simp; omega) (by omega) ?_)
    intro v4 w4 o4 g4
    have b4 : Below w2.heap.size w2 w4 := b3.grown g4 (by omega) (fun k hk => (o3.out.lt k hk).1)
    have z4 := b4.size
    have HO4 : Hid (w4.ownsRow w2.heap.size 57 8 v4 (LP).length (vtL (LP))) := by unfold Hid; simpa using o4
    have lt4 := HO4.out.lt
    have rr4 := (b4.block _ ltG1).trans rr
    clear o4 g4 o3
    go_wp2_with ((with_reducible (refine pxLook ?_)); first | (refine wpList_load_row rfl 57 _ rfl w.heap.size rfl 57 _ (0, 0) _ rr4 Tryd.underlying57 rfl hsz ?_) | (at_builtin; refine wpList_append_vt _ rfl _ _ 31 rfl w2.heap.size 57 zVt Tryd.underlying31 infoVt rfl _ _ rfl rfl (LP) ([⟨vs, ⟨vr, vn⟩, ⟨vk, vc, vq, vm, vx⟩⟩] : List Vt) (HO4.out.alloc _) (Sv.one _ ⟨vs, ⟨vr, vn⟩, ⟨vk, vc, vq, vm, vx⟩⟩ _ rfl) (by simp; omega) (by simp; omega) ?_))
    intro v5 w5 o5 g5
    have b5 : Below w2.heap.size w2 w5 := (b4.alloc (by omega) _).grown g5 (by simp; omega) (fun k hk => (lt4 k hk).1)
    have z5 := b5.size
    have HO5 : Hid (w5.ownsRow w2.heap.size 57 8 v5 (LP ++ ([⟨vs, ⟨vr, vn⟩, ⟨vk, vc, vq, vm, vx⟩⟩] : List Vt)).length (vtL (LP ++ ([⟨vs, ⟨vr, vn⟩, ⟨vk, vc, vq, vm, vx⟩⟩] : List Vt)))) := by unfold Hid; rw [List.length_append]; exact o5
    have lt5 := HO5.out.lt
    clear o5 g5 HO4 lt4 rr4
    go_wp2_with ((with_reducible (refine pxLook ?_)); at_builtin; refine wpList_append_vt _ rfl _ _ 31 rfl w2.heap.size 57 zVt Tryd.underlying31 infoVt rfl _ _ rfl rfl (LP ++ ([⟨vs, ⟨vr, vn⟩, ⟨vk, vc, vq, vm, vx⟩⟩] : List Vt)) (LD) HO5.out (SD.out w5 b5) (by rw [List.length_append]; simp; omega) (by omega) ?_)
    intro v6 w6 o6 g6
    have b6 : Below w2.heap.size w2 w6 := b5.grown g6 (by omega) (fun k hk => (lt5 k hk).1)
    have HO6 : Hid (w6.ownsRow w2.heap.size 57 8 v6 (LP ++ ([⟨vs, ⟨vr, vn⟩, ⟨vk, vc, vq, vm, vx⟩⟩] : List Vt) ++ LD).length (vtL (LP ++ ([⟨vs, ⟨vr, vn⟩, ⟨vk, vc, vq, vm, vx⟩⟩] : List Vt) ++ LD))) := by unfold Hid; simpa using o6
    have d6 := d1.trans (b6.mono d1.size)
    clear o6 g6 HO5 lt5
    go_wp2
    go_ret
    refine ⟨v6, rfl, ?_, d6⟩
    rw [HI.out]
    exact ownsRow_base HO6.out d1.size
end Go.Proofs.YthmlikljeoamgabDoor
