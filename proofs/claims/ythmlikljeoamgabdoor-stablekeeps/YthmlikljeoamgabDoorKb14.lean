/-
  The walks of the program's own sums, and of the first body of bytes.
-/
import Derived.Test.YthmlikljeoamgabDoorKb11
import Derived.Test.YthmlikljeoamgabDoorKb12
import Derived.Test.YthmlikljeoamgabDoorKb13
namespace Go.Proofs.YthmlikljeoamgabDoor
open Go.RowKit
set_option linter.unusedVariables false

set_option maxHeartbeats 2000000 in
set_option maxRecDepth 100000 in
theorem sumOf_any (v : Value) (l : List Int) (w : World) (h : Sl w v l) (hl : l.length ≤ 2000) (ht : TabAt w) :
    Calls Tryd.prog 46 #[v] w fun e w' => ∃ a c, e = .returned (.tuple #[.slice a 4 c, .int .i64 0]) ∧ Sl w' (.slice a 4 c) ((dig l).take 4) ∧ Below w.heap.size w w' := by
  go_enter Tryd.func46, Tryd.ntmps46
  go_wp2_with fail
  refine (sum_ok v l w h hl ht).mono ?_
  rintro e w1 ⟨y, rfl, f1⟩
  obtain ⟨g, cap, hy, hg, hcap⟩ := f1.shape
  rw [dig_length] at hy hcap
  subst hy
  obtain ⟨a4, c4, r4, s4⟩ := f1.sl.upTo 4 (by rw [dig_length]; decide)
  have b1 := f1.bel
  clear f1
  have hcap4 : (4 : Int) ≤ (cap : Int) := by omega
  replace r4 : ∀ W, (Instr.slice 23 (.slice (some ⟨g, 0, none⟩) 32 cap) none (some (.int .i64 4)) none).run Tryd.prog W = .ok (.slice a4 4 c4) W := r4
  go_wp2
  go_ret2
  exact ⟨a4, c4, rfl, s4, b1⟩
set_option maxHeartbeats 2000000 in
set_option maxRecDepth 100000 in
theorem firstBody_any (v : Value) (r : List Int) (w : World) (h : Sl w v r) (ht : TabAt w) :
    Calls Tryd.prog 36 #[v] w fun e w' => ∃ a n c, e = .returned (.tuple #[.slice a n c, .bool (fbO r).isSome]) ∧ Sl w' (.slice a n c) ((fbO r).getD []) ∧ Below w.heap.size w w' := by
  have hlen := h.len
  have hx := getD_byte h.byte 0
  obtain ⟨ax, cp, rfl⟩ := h.shapeT
  by_cases h0 : r = []
  · subst h0
    have HO : Hid (fbO [] = none) := if_pos rfl
    rw [HO.out]
    go_enter Tryd.func36, Tryd.ntmps36
    go_wp2
    go_ret2
    exact ⟨none, 0, 0, rfl, Sl.nil _ _, Below.refl _ _⟩
  · have hp : 0 < r.length := by
      rcases Nat.eq_zero_or_pos r.length with g | g
      · exact absurd (List.eq_nil_of_length_eq_zero g) h0
      · exact g
    obtain ⟨bd, od, rfl, hbd, hc⟩ := h.spotO 0 hp
    obtain ⟨x, hx0⟩ : ∃ x : Nat, r.getD 0 0 = (x : Int) := ⟨(r.getD 0 0).toNat, by omega⟩
    have hxn : (r.getD 0 0).toNat = x := by rw [hx0]; exact Int.toNat_natCast _
    rw [hx0] at hc hx
    obtain ⟨M, hM⟩ : ∃ M, r.length = M := ⟨_, rfl⟩
    have HM : Hid (r.length = M) := hM
    have HX : Hid ((r.getD 0 0).toNat = x) := hxn
    have hz : (0 : Int) < (M : Int) := by omega
    have hne : ((M : Int) == 0) = false := by simp; omega
    rw [hM] at h hlen hp ⊢
    have hx2 : x < 256 := by omega
    have H0 : Hid (¬ r = []) := h0
    clear hM hx0 hxn hx h0
    rw [Nat.add_zero] at hc
    by_cases h1 : M < x + 5
    · have HO : Hid (fbO r = none) := by
        unfold Hid fbO
        rw [if_neg H0.out, HX.out, HM.out, if_pos h1]
      rw [HO.out]
      have h1i : (M : Int) < 1 + (x : Int) + 4 := by omega
      clear H0 HX
      go_enter Tryd.func36, Tryd.ntmps36
      go_wp2
      go_ret2
      exact ⟨none, 0, 0, rfl, Sl.nil _ _, Below.refl _ _⟩
    · have h1i : ¬ (M : Int) < 1 + (x : Int) + 4 := by omega
      obtain ⟨E, hE⟩ : ∃ E : Nat, E = x + 1 := ⟨_, rfl⟩
      have HE : Hid (E = x + 1) := hE
      have hEi : 1 + (x : Int) = (E : Int) := by omega
      have hE2 : E + 4 ≤ M := by omega
      have hE3 : E ≤ 256 := by omega
      have hE4 : 1 ≤ E := by omega
      rw [hEi] at h1i
      obtain ⟨au, cu, ru, su⟩ := h.upTo E (by rw [HM.out]; omega)
      obtain ⟨af, cf, rf, sf⟩ := h.cutT E (E + 4) 4 (by omega) (by rw [HM.out]; omega) (by omega) (E : Int) ((E : Int) + 4) rfl (by omega)
      obtain ⟨ab, cb, rb, sb⟩ := h.cutT 1 E x hE4 (by rw [HM.out]; omega) (by omega) 1 (E : Int) rfl rfl
      have hl : (r.take E).length = E := by rw [List.length_take, HM.out]; omega
      have HF : Hid ((r.take (E + 4)).drop E = (r.drop E).take 4) := by unfold Hid; rw [List.drop_take, show E + 4 - E = 4 by omega]
      rw [HF.out] at sf
      clear hE h1 hE4 HF
      go_enter Tryd.func36, Tryd.ntmps36
      go_wp2_with fail
      refine (sumOf_any (.slice au E cu) (r.take E) w su (by omega) ht).mono ?_
      rintro e w1 ⟨ag, cg, rfl, sg, b1⟩
      have sf1 := sf.below b1
      have sb1 := sb.below b1
      clear su sf sb ru hc hbd hl
      go_wp2_with fail
      refine (same_any (.slice ag 4 cg) (.slice af 4 cf) ((dig (r.take E)).take 4) ((r.drop E).take 4) w1 sg sf1).mono ?_
      rintro e w2 ⟨rfl, n2, hw2⟩
      have b2 : Below w1.heap.size w1 w2 := by rw [hw2]; exact below_drewN (Below.refl _ _) n2
      clear hw2
      have d2 := b1.trans (b2.mono b1.size)
      have sb2 := sb1.below b2
      clear b1 b2 sb1 sg sf1 rf
      by_cases h2 : (dig (r.take E)).take 4 = (r.drop E).take 4
      · have HO : Hid (fbO r = some ((r.take E).drop 1)) := by
          unfold Hid fbO
          have := HE.out
          rw [if_neg H0.out, HX.out, HM.out, if_neg (by omega), ← this, if_neg (fun g => g h2)]
        rw [decide_eq_true h2]
        clear h2 H0 HX HE
        go_wp2
        go_ret2
        rw [HO.out]
        exact ⟨ab, x, cb, rfl, sb2, d2⟩
      · have HO : Hid (fbO r = none) := by
          unfold Hid fbO
          have := HE.out
          rw [if_neg H0.out, HX.out, HM.out, if_neg (by omega), ← this, if_pos h2]
        rw [decide_eq_false h2]
        clear h2 H0 HX HE sb2
        go_wp2
        go_ret2
        rw [HO.out]
        exact ⟨none, 0, 0, rfl, Sl.nil _ _, d2⟩
end Go.Proofs.YthmlikljeoamgabDoor
/-
  The walk of the program's own records.
-/
namespace Go.Proofs.YthmlikljeoamgabDoor
open Go.RowKit
set_option linter.unusedVariables false

set_option maxHeartbeats 2000000 in
set_option maxRecDepth 100000 in
theorem recordOf_any (v : Value) (b : List Int) (w : World) (h : Sl w v b) (hb : b.length ≤ 255) (ht : TabAt w) :
    Calls Tryd.prog 38 #[v] w fun e w' => ∃ y, e = .returned (.tuple #[y, .int .i64 0]) ∧ w'.ownsRow w.heap.size 5 1 y (recoL b).length ((recoL b).map (Value.int .u8)) ∧ Below w.heap.size w w' := by
  obtain ⟨ax, cp, rfl⟩ := h.shapeT
  obtain ⟨N, hN⟩ : ∃ N, b.length = N := ⟨_, rfl⟩
  have HN : Hid (b.length = N) := hN
  have HR : Hid (framL b ++ (dig (framL b)).take 4 = recoL b) := rfl
  have HF : Hid ([(N : Int)] ++ b = framL b) := by unfold Hid framL; rw [hN]; rfl
  have HFB : Hid ((framL b).length = N + 1 ∧ ∀ x ∈ framL b, 0 ≤ x ∧ x < 256) := ⟨by rw [framL_length, hN], framL_byte h.byte hb⟩
  rw [hN] at h hb ⊢
  have hwr : (N : Int) % 256 = (N : Int) := by omega
  have hll : [(N : Int)].length + b.length ≤ 140737488355328 := by rw [hN]; simp; omega
  clear hN
  obtain ⟨W1, hW1⟩ : ∃ W1, w.alloc (.cells #[.int .u8 (N : Int)] 5) = W1 := ⟨_, rfl⟩
  have b1 : Below w.heap.size w W1 := by rw [← hW1]; exact t_allocB1 _ _
  have o1 : W1.ownsRow w.heap.size 5 1 (.slice (some ⟨w.heap.size, 0, none⟩) 1 1) [(N : Int)].length ([(N : Int)].map (Value.int .u8)) := by rw [← hW1]; exact tOwns_one w N N 5 rfl (Nat.le_refl _) rfl
  have h1 := h.below b1
  go_enter Tryd.func38, Tryd.ntmps38
  go_wp2_with (at_builtin; refine wpList_append_sl _ rfl _ _ 23 rfl w.heap.size 5 Tryd.underlying23 info5 _ _ rfl rfl [(N : Int)] b o1 h1 hll b1.size ?_)
  clear hW1
  intro v2 w2 o2 g2
  have hlt1 := o1.lt
  have b2 : Below w.heap.size w w2 := b1.grown g2 b1.size (fun k hk => (hlt1 k hk).1)
  replace o2 : w2.ownsRow w.heap.size 5 1 v2 ([(N : Int)] ++ b).length (([(N : Int)] ++ b).map (Value.int .u8)) := by simpa using o2
  rw [HF.out] at o2
  have s2 := Sl.ofOwns o2 (by rw [HFB.out.1]; omega) HFB.out.2
  have hfl : (framL b).length ≤ 2000 := by rw [HFB.out.1]; omega
  have hfd : (framL b).length + ((dig (framL b)).take 4).length ≤ 140737488355328 := by rw [HFB.out.1, List.length_take, dig_length]; omega
  clear o1 g2 hlt1 HF hll h1
  generalize hFr : framL b = F at o2 s2 hfl hfd HR
  have HO2 : Hid (w2.ownsRow w.heap.size 5 1 v2 F.length (F.map (Value.int .u8))) := o2
  clear o2 hFr HFB
  go_wp2_with fail
  refine (sumOf_any v2 F w2 s2 hfl (ht.below b2)).mono ?_
  rintro e w3 ⟨a4, c4, rfl, s4, b3⟩
  have d3 := b2.trans (b3.mono b2.size)
  have HO3 : Hid (w3.ownsRow w.heap.size 5 1 v2 F.length (F.map (Value.int .u8))) := tOwns_keep HO2.out (fun k hk => b3.block k (HO2.out.lt k hk).2)
  have hlt := HO3.out.lt
  generalize hD : (dig F).take 4 = D at s4 HR hfd
  clear HO2 b3 hD s2
  have hz3 := d3.size
  go_wp2_with (at_builtin; refine wpList_append_sl _ rfl _ _ 23 rfl w.heap.size 5 Tryd.underlying23 info5 _ _ rfl rfl F D HO3.out s4 hfd hz3 ?_)
  intro v5 w5 o5 g5
  have d5 : Below w.heap.size w w5 := d3.grown g5 d3.size (fun k hk => (hlt k hk).1)
  have HO5 : Hid (w5.ownsRow w.heap.size 5 1 v5 (recoL b).length ((recoL b).map (Value.int .u8))) := by
    unfold Hid
    rw [← HR.out]
    simpa using o5
  clear o5 g5 HO3 hlt s4
  go_wp2
  go_ret2
  exact ⟨_, rfl, HO5.out, d5⟩
end Go.Proofs.YthmlikljeoamgabDoor
/-
  What writing answers, in plain lists, as the program has it: first whether there is room. No program is named here.
-/
namespace Go.Proofs.YthmlikljeoamgabDoor
set_option linter.unusedVariables false

/-- is there such a tape, and room for so many bytes more? -/
def rooT (d : List Int) (s : Int) (k : Nat) : Int := if ¬ TapB d s then 5 else if 100000 < d.length + k then 8 else 0
/-- what Promise and Vote answer -/
def wrtE (d : List Int) (s : Int) (may : Prop) [Decidable may] (b : List Int) : Int := if rooT d s (b.length + 5) ≠ 0 then rooT d s (b.length + 5) else if may then 0 else 2
def wrtD (d : List Int) (s : Int) (may : Prop) [Decidable may] (b : List Int) : List Int := if wrtE d s may b = 0 then d ++ recoL b else []
def wrtS (d : List Int) (s : Int) (may : Prop) [Decidable may] (b : List Int) : Int := if wrtE d s may b = 0 then s else 0
theorem rooT_ok {d : List Int} {s : Int} {k : Nat} (h1 : TapB d s) (h2 : d.length + k ≤ 100000) : rooT d s k = 0 := by
  unfold rooT
  rw [if_neg (fun g => g h1), if_neg (by omega)]
/-- where there is room -/
theorem wrt_room {d : List Int} {s : Int} {may : Prop} [Decidable may] {b : List Int} (h1 : TapB d s) (h2 : d.length + (b.length + 5) ≤ 100000) : wrtE d s may b = if may then 0 else 2 := by
  unfold wrtE
  rw [rooT_ok h1 h2, if_neg (fun g => g rfl)]
theorem wrt_ok {d : List Int} {s : Int} {may : Prop} [Decidable may] {b : List Int} (h1 : TapB d s) (h2 : d.length + (b.length + 5) ≤ 100000) (h3 : may) : wrtE d s may b = 0 ∧ wrtD d s may b = d ++ recoL b ∧ wrtS d s may b = s := by
  have h : wrtE d s may b = 0 := by rw [wrt_room h1 h2, if_pos h3]
  exact ⟨h, if_pos h, if_pos h⟩
theorem wrt_no {d : List Int} {s : Int} {may : Prop} [Decidable may] {b : List Int} (h1 : TapB d s) (h2 : d.length + (b.length + 5) ≤ 100000) (h3 : ¬ may) : wrtE d s may b = 2 := by rw [wrt_room h1 h2, if_neg h3]
theorem proE_a0 (b : Bal) : proE a0 b = if BalMay b then 0 else 2 := by
  have h0 : AccMay a0 := ⟨.inr ⟨rfl, rfl⟩, fun v hv => (List.not_mem_nil hv).elim, trivial⟩
  unfold proE
  rw [if_neg (fun g => g h0)]
  by_cases h : BalMay b
  · rw [if_neg (fun g => g h), if_pos h, if_neg]
    intro g
    unfold BalMay at h
    unfold Bal.lt a0 at g
    simp only at g
    omega
  · rw [if_pos h, if_neg h]
theorem votE_a0 (v : Vt) : votE a0 v = if VtMay v then 0 else 2 := by
  have h0 : AccMay a0 := ⟨.inr ⟨rfl, rfl⟩, fun v hv => (List.not_mem_nil hv).elim, trivial⟩
  unfold votE
  rw [if_neg (fun g => g h0)]
  by_cases h : VtMay v
  · rw [if_neg (fun g => g h), if_pos h, if_neg]
    intro g
    have hb := h.2.1
    unfold BalMay at hb
    unfold Bal.lt a0 at g
    simp only at g
    omega
  · rw [if_pos h, if_neg h]
end Go.Proofs.YthmlikljeoamgabDoor
