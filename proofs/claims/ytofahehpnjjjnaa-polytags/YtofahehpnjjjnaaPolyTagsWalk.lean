/-
  The walk of the law PolyTags.
-/
import Derived.Test.YtofahehpnjjjnaaTaggedWalk
import Derived.Test.YtofahehpnjjjnaaLawWalk
namespace Go.Proofs.Ytofahehpnjjjnaa
open Go.RowKit

theorem tagOf_ok (vk vd : Value) (key data : List Int) (w : World) (hk : Sl w vk key) (hd : Sl w vd data) (lk : key.length = 32) (ld : data.length ≤ 4000) :
    Calls Try.prog 6 #[vk, vd] w fun e w' => ∃ v', e = .returned (.tuple #[v', .int .i64 0]) ∧ Sl w' v' (tagL key data) ∧ Below w.heap.size w w' := by
  have hk0 := hk
  have hd0 := hd
  obtain ⟨ak, ck, rfl⟩ := hk.aShape
  obtain ⟨ad, cd, rfl⟩ := hd.aShape
  have ldi : ¬ (4000 : Int) < (data.length : Int) := by omega
  have HK : Hid _ := hk0
  have HD : Hid _ := hd0
  have HLK : Hid (key.length = 32) := lk
  rw [lk] at HK ⊢
  clear hk hd hk0 hd0 lk
  go_enter Try.func6, Try.ntmps6
  go_wp2_with fail
  refine (tagged_any _ _ key data w HK.out HD.out HLK.out ld).mono ?_
  rintro e w2 ⟨v2, rfl, s2, b2⟩
  go_wp2
  go_ret2
  exact ⟨v2, rfl, s2, b2⟩
theorem tagOf_no (vk vd : Value) (key data : List Int) (w : World) (hk : Sl w vk key) (hd : Sl w vd data) (hno : key.length ≠ 32 ∨ 4000 < data.length) :
    Calls Try.prog 6 #[vk, vd] w fun e w' => e = .returned (.tuple #[.slice none 0 0, .int .i64 1]) ∧ w' = w := by
  obtain ⟨ak, ck, rfl⟩ := hk.aShape
  obtain ⟨ad, cd, rfl⟩ := hd.aShape
  have h1 := hk.len
  have h2 := hd.len
  by_cases lk : key.length = 32
  · have ld : (4000 : Int) < (data.length : Int) := by omega
    rw [lk] at *
    clear hk hd
    go_enter Try.func6, Try.ntmps6
    go_wp2
    go_ret2
    exact ⟨rfl, rfl⟩
  · have lki : ¬ (key.length : Int) = 32 := by omega
    clear hk hd
    go_enter Try.func6, Try.ntmps6
    go_wp2
    go_ret2
    exact ⟨rfl, rfl⟩

set_option maxHeartbeats 2000000 in
theorem polyTags_walk (v0 : Value) (l0 : List Int) (v1 : Value) (l1 : List Int) (w : World) (h0 : Sl w v0 l0) (h1 : Sl w v1 l1) :
    Calls Try.prog 3 #[v0, v1] w fun e w' => e = .returned (.bool true) ∧ Below w.heap.size w w' := by
  go_enter Try.func3, Try.ntmps3
  go_wp2_with fail
  refine (octets_any v0 l0 w h0).mono ?_
  rintro e w1 ⟨vk, rfl, ok, c1⟩
  have sk := Sl.ofOwns ok h0.len h0.byte
  go_wp2_with fail
  refine (octets_any v1 l1 w1 (h1.below c1)).mono ?_
  rintro e w2 ⟨vn, rfl, on, c2⟩
  have sn := Sl.ofOwns on h1.len h1.byte
  have d2 : Below w.heap.size w w2 := c1.trans (c2.mono c1.size)
  replace sk := sk.below c2
  clear ok on c1 c2
  by_cases hE : l0.length = 32 ∧ l1.length ≤ 4000
  · obtain ⟨lk, ld⟩ := hE
    go_wp2_with fail
    refine (tag_ok vk vn l0 l1 w2 sk sn lk ld).mono ?_
    rintro e w3 ⟨va, rfl, sa, c3⟩
    have d3 : Below w.heap.size w w3 := d2.trans (c3.mono d2.size)
    clear sk sn
    go_wp2_with fail
    refine (tagOf_ok v0 v1 l0 l1 w3 (h0.below d3) (h1.below d3) lk ld).mono ?_
    rintro e w4 ⟨vb, rfl, sb, c4⟩
    generalize tagL l0 l1 = B at sa sb
    go_wp2_with fail
    refine (law_same _ _ B B w4 (sa.below c4) sb).mono ?_
    rintro e w5 ⟨rfl, rfl⟩
    rw [decide_eq_true rfl]
    go_wp2
    go_ret
    exact ⟨rfl, d3.trans (c4.mono d3.size)⟩
  · have hno : l0.length ≠ 32 ∨ 4000 < l1.length := by omega
    go_wp2_with fail
    refine (tag_no vk vn l0 l1 w2 sk sn hno).mono ?_
    rintro e w3 ⟨rfl, rfl⟩
    go_wp2_with fail
    refine (tagOf_no v0 v1 l0 l1 w3 (h0.below d2) (h1.below d2) hno).mono ?_
    rintro e w4 ⟨rfl, rfl⟩
    go_wp2_with fail
    refine (law_same _ _ [] [] w4 (Sl.nil _ _) (Sl.nil _ _)).mono ?_
    rintro e w5 ⟨rfl, rfl⟩
    rw [decide_eq_true rfl]
    go_wp2
    go_ret
    exact ⟨rfl, d2⟩
end Go.Proofs.Ytofahehpnjjjnaa
