/-
  The walk of the law MacKey.
-/
import Derived.Test.YtkkibmofmdkhbaaDoorFilledWalk
import Derived.Test.YtkkibmofmdkhbaaDoorDrawWalk
namespace Go.Proofs.YtkkibmofmdkhbaaDoor
open Go.RowKit

theorem mac_long (k d : List Int) (h : 64 < k.length) : macL (dig k) d = macL k d := by
  have e1 : keyOf k = dig k := by unfold keyOf; rw [if_pos h]
  have e2 : keyOf (dig k) = dig k := by unfold keyOf; rw [if_neg (by rw [dig_length]; omega)]
  unfold macL fk
  rw [e1, e2]

theorem mac_short (k d : List Int) (n : Nat) (hk : k.length ≤ n) (hn : n ≤ 64) : macL (fillTo k n) d = macL k d := by
  have e1 : keyOf k = k := by unfold keyOf; rw [if_neg (by omega)]
  have e2 : keyOf (fillTo k n) = fillTo k n := by unfold keyOf; rw [if_neg (by rw [fillTo_length _ _ hk]; omega)]
  have e3 : fillTo (fillTo k n) 64 = fillTo k 64 := by
    unfold fillTo
    rw [List.length_append, List.length_replicate, List.append_assoc, List.replicate_append_replicate]
    congr 2
    omega
  unfold macL fk
  rw [e1, e2, e3]

theorem take_all {l : List Int} {n : Nat} (h : l.length ≤ n) : l.take n = l := List.take_of_length_le h

set_option maxHeartbeats 2000000 in
theorem macKey_walk (vk vd : Value) (lk ld : List Int) (more : Int) (w : World) (hk : Sl w vk lk) (hd : Sl w vd ld) (m1 : -9223372036854775808 ≤ more) (m2 : more ≤ 9223372036854775807) (ht : TabAt w) :
    Calls Tryd.prog 7 #[vk, vd, .int .i64 more] w fun e w' => e = .returned (.bool true) ∧ Below w.heap.size w w' := by
  have hs := hk
  obtain ⟨⟨a, cap, rfl, _, _, _⟩, hlk, hyk⟩ := hk
  have hld : (ld.take 200).length ≤ 200 := by rw [List.length_take]; omega
  have hyd : ∀ x ∈ ld.take 200, 0 ≤ x ∧ x < 256 := fun x hx => hd.byte x (List.mem_of_mem_take hx)
  go_enter Tryd.func7, Tryd.ntmps7
  go_wp2_with fail
  refine (picked_any _ 100 w (by omega) (by omega) (by omega) (by omega)).mono ?_
  rintro e w' ⟨rfl, rfl⟩
  have hp := pick_range (lk.length : Int) 100 (by omega)
  obtain ⟨p, hpe⟩ : ∃ p : Nat, pick (lk.length : Int) 100 = p := ⟨(pick (lk.length : Int) 100).toNat, by omega⟩
  rw [hpe] at hp ⊢
  clear hpe
  go_wp2_with fail
  rw [show (65 : Int) + (p : Int) = ((65 + p : Nat) : Int) by omega]
  refine (filled_any _ lk (65 + p) w' hs (by omega)).mono ?_
  rintro e w1 ⟨v1, rfl, ho1, b1⟩
  have lF := fillTo_length (lk.take (65 + p)) (65 + p) (by rw [List.length_take]; omega)
  have yF : ∀ x ∈ fillTo (lk.take (65 + p)) (65 + p), 0 ≤ x ∧ x < 256 := fillTo_byte (fun x hx => hyk x (List.mem_of_mem_take hx)) _
  have s1 : Sl w1 v1 _ := Sl.ofOwns ho1 (by omega) yF
  generalize fillTo (lk.take (65 + p)) (65 + p) = F at ho1 lF yF s1
  go_wp2_with fail
  refine (sum_ok v1 F w1 s1 (by omega) (ht.below b1)).mono ?_
  rintro e w2 ⟨v2, rfl, f2⟩
  have b2 : Below w'.heap.size w' w2 := b1.trans (f2.bel.mono b1.size)
  have s1_2 := s1.below f2.bel
  go_wp2_with fail
  refine (some_any vd ld 200 w2 (hd.below b2) (by omega)).mono ?_
  rintro e w3 ⟨d3, rfl, o3, c3⟩
  have b3 : Below w'.heap.size w' w3 := b2.trans (c3.mono b2.size)
  go_wp2_with fail
  refine (Mac_ok v1 d3 F _ w3 (s1_2.below c3) (Sl.ofOwns o3 (by omega) hyd) (by omega) (by omega) (ht.below b3)).mono ?_
  rintro e w4 ⟨va, rfl, fa⟩
  have b4 : Below w'.heap.size w' w4 := b3.trans (fa.bel.mono b3.size)
  have s2_4 := (f2.sl.below c3).below fa.bel
  go_wp2_with fail
  refine (some_any vd ld 200 w4 (hd.below b4) (by omega)).mono ?_
  rintro e w5 ⟨d5, rfl, o5, c5⟩
  have b5 : Below w'.heap.size w' w5 := b4.trans (c5.mono b4.size)
  have ldF := dig_length F
  go_wp2_with fail
  refine (Mac_ok v2 d5 (dig F) _ w5 (s2_4.below c5) (Sl.ofOwns o5 (by omega) hyd) (by omega) (by omega) (ht.below b5)).mono ?_
  rintro e w6 ⟨vb, rfl, fb⟩
  rw [mac_long F _ (by omega)] at fb
  have b6 : Below w'.heap.size w' w6 := b5.trans (fb.bel.mono b5.size)
  have sa6 := (fa.sl.below c5).below fb.bel
  have sb6 := fb.sl
  obtain ⟨ga, ca, hva, _, _⟩ := fa.shape
  have lA := macL_length F (ld.take 200)
  generalize macL F (ld.take 200) = A at sa6 sb6 hva lA fa fb
  rw [lA] at hva
  subst hva
  clear fa fb s2_4 s1_2 f2 ldF o3 o5
  have hl40 : (lk.take 40).length ≤ 40 := by rw [List.length_take]; omega
  have hy40 : ∀ x ∈ lk.take 40, 0 ≤ x ∧ x < 256 := fun x hx => hyk x (List.mem_of_mem_take hx)
  go_wp2_with fail
  refine (some_any _ lk 40 w6 (hs.below b6) (by omega)).mono ?_
  rintro e w7 ⟨v7, rfl, o7, c7⟩
  have b7 : Below w'.heap.size w' w7 := b6.trans (c7.mono b6.size)
  have s7 : Sl w7 v7 _ := Sl.ofOwns o7 (by omega) hy40
  have sa7 := sa6.below c7
  have sb7 := sb6.below c7
  clear sa6 sb6
  generalize lk.take 40 = G at hl40 hy40 o7 s7
  obtain ⟨a7, k7, rfl⟩ := owns_any o7
  go_wp2_with fail
  refine (some_any vd ld 200 w7 (hd.below b7) (by omega)).mono ?_
  rintro e w8 ⟨d8, rfl, o8, c8⟩
  have b8 : Below w'.heap.size w' w8 := b7.trans (c8.mono b7.size)
  go_wp2_with fail
  refine (Mac_ok _ d8 G _ w8 (s7.below c8) (Sl.ofOwns o8 (by omega) hyd) (by omega) (by omega) (ht.below b8)).mono ?_
  rintro e w9 ⟨vc, rfl, fc⟩
  have b9 : Below w'.heap.size w' w9 := b8.trans (fc.bel.mono b8.size)
  have s9 := (s7.below c8).below fc.bel
  have sa9 := (sa7.below c8).below fc.bel
  have sb9 := (sb7.below c8).below fc.bel
  clear sa7 sb7 s7 o7 o8
  go_wp2_with fail
  refine (picked_any more 24 w9 m1 m2 (by omega) (by omega)).mono ?_
  rintro e w10 ⟨rfl, rfl⟩
  have hq := pick_range more 24 (by omega)
  obtain ⟨q, hqe⟩ : ∃ q : Nat, pick more 24 = q := ⟨(pick more 24).toNat, by omega⟩
  rw [hqe] at hq ⊢
  clear hqe
  go_wp2_with fail
  rw [show (G.length : Int) + (q : Int) = ((G.length + q : Nat) : Int) by omega]
  refine (filled_any _ G (G.length + q) w10 s9 (by omega)).mono ?_
  rintro e w11 ⟨v11, rfl, o11, c11⟩
  rw [take_all (by omega)] at o11
  have b11 : Below w'.heap.size w' w11 := b9.trans (c11.mono b9.size)
  have l11 := fillTo_length G (G.length + q) (by omega)
  have y11 := fillTo_byte hy40 (G.length + q)
  have s11 : Sl w11 v11 (fillTo G (G.length + q)) := Sl.ofOwns o11 (by omega) y11
  go_wp2_with fail
  refine (some_any vd ld 200 w11 (hd.below b11) (by omega)).mono ?_
  rintro e w12 ⟨d12, rfl, o12, c12⟩
  have b12 : Below w'.heap.size w' w12 := b11.trans (c12.mono b11.size)
  go_wp2_with fail
  refine (Mac_ok v11 d12 _ _ w12 (s11.below c12) (Sl.ofOwns o12 (by omega) hyd) (by omega) (by omega) (ht.below b12)).mono ?_
  rintro e w13 ⟨vd', rfl, fd⟩
  rw [mac_short G _ _ (by omega) (by omega)] at fd
  have b13 : Below w'.heap.size w' w13 := b12.trans (fd.bel.mono b12.size)
  have sa := ((sa9.below c11).below c12).below fd.bel
  have sb := ((sb9.below c11).below c12).below fd.bel
  have sc := ((fc.sl.below c11).below c12).below fd.bel
  have sd := fd.sl
  generalize macL G (ld.take 200) = C at sc sd
  clear sa9 sb9 s9 s11 o11 o12 fc fd hs hd
  go_wp2_with fail
  refine (keep_same _ _ A A _ sa sb).mono ?_
  rintro e w14 ⟨rfl, rfl⟩
  go_wp2_with fail
  refine (keep_same _ _ C C _ sc sd).mono ?_
  rintro e w15 ⟨rfl, rfl⟩
  go_wp2
  go_ret
  exact ⟨rfl, b13⟩
end Go.Proofs.YtkkibmofmdkhbaaDoor
