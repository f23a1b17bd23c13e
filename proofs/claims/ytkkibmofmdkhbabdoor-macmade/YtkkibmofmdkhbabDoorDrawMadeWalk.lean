/-
  The walk of the law DrawMade.
-/
import Derived.Test.YtkkibmofmdkhbabDoorKeepWalk
import Derived.Test.YtkkibmofmdkhbabDoorDrawMoreWalk
import Derived.Test.YtkkibmofmdkhbabDoorJoinedWalk
import Derived.Deep.QuietTactic
import Derived.BigQuiet
namespace Go.Proofs.YtkkibmofmdkhbabDoor
open Go.RowKit

theorem drawL_first (k i : List Int) (n : Nat) (h : 32 ≤ n) : (drawL k i n).take 32 = macL k (i ++ [1]) := by
  rw [drawL_take k i n 32 h]
  have := stream_take k i 32 1 15 (by omega)
  unfold drawL
  rw [show 16 = 1 + 15 from rfl, this]
  show ([] ++ macL k ([] ++ i ++ [(0 : Int) + 1])).take 32 = _
  rw [List.nil_append, List.nil_append, List.take_of_length_le (by rw [macL_length]; omega)]
  rfl

theorem drawL_second (k i : List Int) : (drawL k i 50).drop 32 = (macL k (macL k (i ++ [1]) ++ i ++ [2])).take 18 := by
  have h50 := stream_take k i 50 2 14 (by omega)
  unfold drawL
  rw [show 16 = 2 + 14 from rfl, h50]
  have e1 : stream k i 1 = macL k (i ++ [1]) := by
    show [] ++ macL k ([] ++ i ++ [(0 : Int) + 1]) = _
    rw [List.nil_append, List.nil_append]; rfl
  have e2 : stream k i 2 = stream k i 1 ++ macL k (stream k i 1 ++ i ++ [2]) := by
    show stream k i 1 ++ macL k (macL k ([] ++ i ++ [(0 : Int) + 1]) ++ i ++ [(1 : Int) + 1]) = _
    rw [e1, List.nil_append]; rfl
  rw [e2, e1]
  have hl := macL_length k (i ++ [1])
  rw [List.take_append, List.take_of_length_le (by omega), List.drop_append, List.drop_of_length_le (by omega), List.nil_append, hl]
  rfl

theorem some_as (v : Value) (l L : List Int) (m : Nat) (w : World) (h : Sl w v l) (hm : m ≤ 100000) (H : Hid (L = l.take m)) :
    Calls Tryd.prog 11 #[v, .int .i64 m] w fun e w' => ∃ v', e = .returned v' ∧ w'.ownsRow w.heap.size 5 1 v' L.length (L.map (Value.int .u8)) ∧ Below w.heap.size w w' := by
  rw [H.out]; exact some_any v l m w h hm

theorem keep_eq (va vb : Value) (l : List Int) (w : World) (ha : Sl w va l) (hb : Sl w vb l) :
    Calls Tryd.prog 13 #[va, vb] w fun e w' => e = .returned (.bool true) ∧ w' = w := by
  refine (keep_same va vb l l w ha hb).mono ?_
  rintro e w' ⟨rfl, rfl⟩
  exact ⟨by simp, rfl⟩

theorem Sl.drewN {w : World} {v : Value} {l : List Int} (h : Sl w v l) (n : Nat) : Sl (w.drewN n) v l := h.below (below_drewN (Below.refl _ _) n)

set_option maxHeartbeats 2000000 in
theorem drawMade_walk (v0 v1 v2 : Value) (l0 l1 l2 : List Int) (w : World) (h0 : Sl w v0 l0) (h1 : Sl w v1 l1) (h2 : Sl w v2 l2) (ht : TabAt w) :
    Calls Tryd.prog 5 #[v0, v1, v2] w fun e w' => e = .returned (.bool true) ∧ Below w.heap.size w w' := by
  obtain ⟨L0, H0, y0, q0⟩ : ∃ L, Hid (L = l0.take 60) ∧ (∀ x ∈ L, 0 ≤ x ∧ x < 256) ∧ L.length ≤ 60 := ⟨_, rfl, fun x hx => h0.byte x (List.mem_of_mem_take hx), by rw [List.length_take]; omega⟩
  obtain ⟨L1, H1, y1, q1⟩ : ∃ L, Hid (L = l1.take 60) ∧ (∀ x ∈ L, 0 ≤ x ∧ x < 256) ∧ L.length ≤ 60 := ⟨_, rfl, fun x hx => h1.byte x (List.mem_of_mem_take hx), by rw [List.length_take]; omega⟩
  obtain ⟨L2, H2, y2, q2⟩ : ∃ L, Hid (L = l2.take 60) ∧ (∀ x ∈ L, 0 ≤ x ∧ x < 256) ∧ L.length ≤ 60 := ⟨_, rfl, fun x hx => h2.byte x (List.mem_of_mem_take hx), by rw [List.length_take]; omega⟩
  go_enter Tryd.func5, Tryd.ntmps5
  go_wp2_with fail
  refine (some_as v1 l1 L1 60 w h1 (by omega) H1).mono ?_
  rintro e w1 ⟨a1, rfl, o1, c1⟩
  go_wp2_with fail
  refine (some_as v0 l0 L0 60 w1 (h0.below c1) (by omega) H0).mono ?_
  rintro e w2 ⟨a2, rfl, o2, c2⟩
  have b2 : Below w.heap.size w w2 := c1.trans (c2.mono c1.size)
  go_wp2_with fail
  refine (Mac_ok a1 a2 _ _ w2 ((Sl.ofOwns o1 (by omega) y1).below c2) (Sl.ofOwns o2 (by omega) y0) (by omega) (by omega) (ht.below b2)).mono ?_
  rintro e w3 ⟨vk, rfl, fk3⟩
  have b3 : Below w.heap.size w w3 := b2.trans (fk3.bel.mono b2.size)
  have lk := macL_length L1 L0
  have sk3 := fk3.sl
  clear o1 o2 fk3
  go_wp2_with fail
  refine (some_as v2 l2 L2 60 w3 (h2.below b3) (by omega) H2).mono ?_
  rintro e w4 ⟨a4, rfl, o4, c4⟩
  have b4 : Below w.heap.size w w4 := b3.trans (c4.mono b3.size)
  have s4 := Sl.ofOwns o4 (by omega) y2
  have s4' := s4
  obtain ⟨p4, r4, rfl⟩ := owns_any o4
  go_wp2_with fail
  refine (joined2 _ _ L2 [1] (w4.alloc _) 22 (w4.heap.size + 1) (by simp) (s4.below ((Below.refl _ _).alloc (Nat.le_refl _) _)) (Sl.one _ 1 5 rfl (by omega)) (by omega) (by simp)).mono ?_
  rintro e w5 ⟨a5, rfl, o5, c5⟩
  have c45 : Below w4.heap.size w4 w5 := ((Below.refl _ _).alloc (Nat.le_refl _) _).trans (c5.mono (by simp))
  have b5 : Below w.heap.size w w5 := b4.trans (c45.mono b4.size)
  have l5 : (L2 ++ [1]).length ≤ 61 := by simp; omega
  have y5 : ∀ x ∈ L2 ++ [1], 0 ≤ x ∧ x < 256 := fun x hx => by
    rcases List.mem_append.1 hx with h | h
    · exact y2 x h
    · obtain rfl : x = 1 := by simpa using h
      omega
  have s5 : Sl w5 a5 (L2 ++ [1]) := Sl.ofOwns o5 (by omega) y5
  go_wp2_with fail
  refine (Mac_ok vk a5 _ _ w5 ((sk3.below c4).below c45) s5 (by omega) (by omega) (ht.below b5)).mono ?_
  rintro e w6 ⟨vx, rfl, fx⟩
  have b6 : Below w.heap.size w w6 := b5.trans (fx.bel.mono b5.size)
  have sk6 := ((sk3.below c4).below c45).below fx.bel
  have lx := macL_length (macL L1 L0) (L2 ++ [1])
  have yx := macL_byte (macL L1 L0) (L2 ++ [1])
  obtain ⟨gx, cx, hvx, _, hcx⟩ := fx.shape
  have sx6 := fx.sl
  rw [lx] at hvx hcx
  subst hvx
  clear o4 o5 s4 s4' s5 fx
  go_wp2_with fail
  refine (some_as v2 l2 L2 60 w6 (h2.below b6) (by omega) H2).mono ?_
  rintro e w7 ⟨a7, rfl, o7, c7⟩
  have b7 : Below w.heap.size w w7 := b6.trans (c7.mono b6.size)
  have s7 := Sl.ofOwns o7 (by omega) y2
  obtain ⟨p7, r7, rfl⟩ := owns_any o7
  go_wp2_with fail
  refine (joined3 _ _ _ (macL (macL L1 L0) (L2 ++ [1])) L2 [2] (w7.alloc _) 22 (w7.heap.size + 1) (by simp) ((sx6.below c7).below ((Below.refl _ _).alloc (Nat.le_refl _) _)) (s7.below ((Below.refl _ _).alloc (Nat.le_refl _) _)) (Sl.one _ 2 5 rfl (by omega)) (by omega) (by omega) (by simp)).mono ?_
  rintro e w8 ⟨a8, rfl, o8, c8⟩
  have c78 : Below w7.heap.size w7 w8 := ((Below.refl _ _).alloc (Nat.le_refl _) _).trans (c8.mono (by simp))
  have b8 : Below w.heap.size w w8 := b7.trans (c78.mono b7.size)
  have y8 : ∀ x ∈ macL (macL L1 L0) (L2 ++ [1]) ++ L2 ++ [2], 0 ≤ x ∧ x < 256 := fun x hx => by
    rcases List.mem_append.1 hx with h | h
    · rcases List.mem_append.1 h with h | h
      · exact yx x h
      · exact y2 x h
    · obtain rfl : x = 2 := by simpa using h
      omega
  have l8 : (macL (macL L1 L0) (L2 ++ [1]) ++ L2 ++ [2]).length ≤ 93 := by rw [List.length_append, List.length_append, lx]; simp; omega
  have s8 := Sl.ofOwns o8 (by omega) y8
  go_wp2_with fail
  refine (Mac_ok vk a8 _ _ w8 ((sk6.below c7).below c78) s8 (by omega) (by omega) (ht.below b8)).mono ?_
  rintro e w9 ⟨vy, rfl, fy⟩
  have b9 : Below w.heap.size w w9 := b8.trans (fy.bel.mono b8.size)
  have ly := macL_length (macL L1 L0) (macL (macL L1 L0) (L2 ++ [1]) ++ L2 ++ [2])
  obtain ⟨gy, cy, hvy, _, hcy⟩ := fy.shape
  have sy9 := fy.sl
  rw [ly] at hvy hcy
  subst hvy
  have sx9 := ((sx6.below c7).below c78).below fy.bel
  clear o7 o8 s7 s8 y8 l8 fy sx6 sk6
  go_wp2_with fail
  refine (some_as v0 l0 L0 60 w9 (h0.below b9) (by omega) H0).mono ?_
  rintro e u1 ⟨a10, rfl, o10, c10⟩
  have b10 : Below w.heap.size w u1 := b9.trans (c10.mono b9.size)
  go_wp2_with fail
  refine (some_as v1 l1 L1 60 u1 (h1.below b10) (by omega) H1).mono ?_
  rintro e u2 ⟨a11, rfl, o11, c11⟩
  have b11 : Below w.heap.size w u2 := b10.trans (c11.mono b10.size)
  go_wp2_with fail
  refine (some_as v2 l2 L2 60 u2 (h2.below b11) (by omega) H2).mono ?_
  rintro e u3 ⟨a12, rfl, o12, c12⟩
  have b12 : Below w.heap.size w u3 := b11.trans (c12.mono b11.size)
  go_wp2_with fail
  refine (Draw_ok a10 a11 a12 _ _ _ 50 u3 (((Sl.ofOwns o10 (by omega) y0).below c11).below c12) ((Sl.ofOwns o11 (by omega) y1).below c12) (Sl.ofOwns o12 (by omega) y2) (by omega) (by omega) (by omega) (by omega) (ht.below b12)).mono ?_
  rintro e u4 ⟨vd, rfl, od, cd⟩
  have b13 : Below w.heap.size w u4 := b12.trans (cd.mono b12.size)
  have ld := drawL_length (macL L1 L0) L2 50 (by omega)
  have yd := drawL_byte (macL L1 L0) L2 50
  have sd : Sl u4 vd _ := Sl.ofOwns od (by omega) yd
  have sx := (((sx9.below c10).below c11).below c12).below cd
  have sy := (((sy9.below c10).below c11).below c12).below cd
  have e1 := drawL_first (macL L1 L0) L2 50 (by omega)
  have e2 := drawL_second (macL L1 L0) L2
  obtain ⟨gd, kd, hvd, _, _, hkd, _, _⟩ := owns_shape od (ne_of_length ld)
  rw [ld] at hvd hkd
  subst hvd
  have t1 := sd.take 32 (by omega)
  have t2 := sd.drop 32 (by omega) (kd - 32) (by omega)
  have t3 := sy.take 18 (by omega)
  rw [e1] at t1
  rw [e2, ld] at t2
  generalize macL (macL L1 L0) (L2 ++ [1]) = X at sx t1 t2 t3
  generalize (macL (macL L1 L0) (X ++ L2 ++ [2])).take 18 = Y at t2 t3
  clear sx9 sy9 o10 o11 o12 od sd sy e1 e2 ld yd h0 h1 h2
  have t2' : Sl u4 (.slice (some ⟨gd, 32, none⟩) 18 (kd - 32)) Y := t2
  have i1 : (32 : Int) ≤ (kd : Int) := by omega
  have i2 : (50 : Int) ≤ (kd : Int) := by omega
  have i3 : (18 : Int) ≤ (cy : Int) := by omega
  have i4 : ¬ kd = 32 := by omega
  clear t2 ht y0 y1 y2 y5 l5 lx yx ly lk sk3
  go_wp2_with fail
  go_quiet (first | (go_at_call 13; exact Calls.quiet_of_same (keep_eq _ _ X _ (t1.drewN _) (sx.drewN _))) | (go_at_call 13; exact Calls.quiet_of_same (keep_eq _ _ Y _ (t2'.drewN _) (t3.drewN _))))
  go_wp2
  go_ret
  exact ⟨rfl, below_drewN b13 _⟩
end Go.Proofs.YtkkibmofmdkhbabDoor
