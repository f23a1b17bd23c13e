/-
  The walk of the law SameOnly.
-/
import Derived.Test.YtkkibmofmdkhbabKeepWalk
import Derived.Deep.RegionWith
namespace Go.Proofs.Ytkkibmofmdkhbab
open Go.RowKit

theorem Sl.setOther {w : World} {v : Value} {l : List Int} (h : Sl w v l) {B : Nat} (hb : ∀ b off n cap, v = .slice (some ⟨b, off, none⟩) n cap → b < B) {p : Addr} (hp : B ≤ p.block) (u : Value) : Sl (w.setCell p u) v l := by
  obtain ⟨⟨a, cap, rfl, hc, hn, h1⟩, h2, h3⟩ := h
  refine ⟨⟨a, cap, rfl, hc, hn, ?_⟩, h2, h3⟩
  rcases h1 with h1 | ⟨b, off, rfl, hbs, hcell⟩
  · exact .inl h1
  · refine .inr ⟨b, off, rfl, by simpa [World.setCell] using hbs, fun i hi => ?_⟩
    have hlt := hb b off _ _ rfl
    rw [← hcell i hi]
    exact World.cell?_of_block (w := w) (Below.heap_setCell w p u b (by omega))

theorem Sl.one (w : World) (b : Int) (e : TypeId) {g : Nat} (hg : g = w.heap.size) (hb : 0 ≤ b ∧ b < 256) : Sl (w.alloc (.cells #[.int .u8 b] e)) (.slice (some ⟨g, 0, none⟩) 1 1) [b] := by
  subst hg
  refine ⟨⟨_, 1, rfl, by simp, by simp, .inr ⟨w.heap.size, 0, rfl, by simp, fun i hi => ?_⟩⟩, by simp, by simpa using hb⟩
  obtain rfl : i = 0 := by simpa using hi
  simp

theorem Sl.drew {w : World} {v : Value} {l : List Int} (h : Sl w v l) : Sl w.drew v l := h.below (Below.refl _ _).drew

theorem stored_facts {w w1 w2 : World} {x : List Int} {gx cx gy cy n : Nat} (hbx : ∀ z ∈ x, 0 ≤ z ∧ z < 256) (hlx : x.length ≤ 60) (sx2 : Sl w2 (.slice (some ⟨gx, 0, none⟩) x.length cx) x) (hgxs : gx < w1.heap.size) (hgy : w1.heap.size ≤ gy) (hB2 : Below w.heap.size w w2) (hww : w.heap.size ≤ w1.heap.size)
    (hoy : w2.ownsRow w1.heap.size 5 1 (.slice (some ⟨gy, 0, none⟩) x.length cy) x.length (x.map (Value.int .u8))) :
    ∀ b, 0 ≤ b → b < 256 → Sl (w2.setCell ⟨gy, n, none⟩ (.int .u8 b)).drew (.slice (some ⟨gx, 0, none⟩) x.length cx) x ∧ Sl (w2.setCell ⟨gy, n, none⟩ (.int .u8 b)).drew (.slice (some ⟨gy, 0, none⟩) x.length cy) (x.set n b) ∧ Below w.heap.size w (w2.setCell ⟨gy, n, none⟩ (.int .u8 b)).drew := by
  intro b h0 h1
  refine ⟨(sx2.setOther (B := w1.heap.size) (by rintro b off n cap e; simp at e; omega) hgy _).drew, Sl.drew ?_, (hB2.setCell (by simp; omega) _).drew⟩
  have hs := (hoy.stored n (.int .u8 b)).1
  have e : (x.map (Value.int .u8)).set n (.int .u8 b) = (x.set n b).map (Value.int .u8) := by rw [List.map_set]
  rw [e] at hs
  have hl : x.length = (x.set n b).length := by simp
  refine Sl.ofOwns (base := w1.heap.size) (e := 5) (by rw [← hl]; exact hs) (by rw [← hl]; omega) ?_
  intro z hz
  rcases List.mem_or_eq_of_mem_set hz with h | h
  · exact hbx z h
  · subst h; exact ⟨h0, h1⟩

theorem Sl.tail {w : World} {g cap : Nat} {l : List Int} (h : Sl w (.slice (some ⟨g, 0, none⟩) l.length cap) l) (hl : l ≠ []) (hc : l.length ≤ cap) : Sl w (.slice (if cap = 1 then some ⟨g, 0, none⟩ else some ⟨g, 1, none⟩) (l.length - 1) (cap - 1)) (l.drop 1) := by
  have hpos : 0 < l.length := by cases l <;> simp_all
  by_cases h1 : cap = 1
  · subst h1
    have : l.length = 1 := by omega
    have e : l.drop 1 = [] := List.eq_nil_of_length_eq_zero (by simp; omega)
    rw [if_pos rfl, e, this]
    exact Sl.nil w _
  · rw [if_neg h1]
    simpa using h.drop 1 (by omega) (cap - 1) (by omega)

set_option maxHeartbeats 600000 in
theorem sameOnly_walk (v : Value) (l : List Int) (at_ by_ : Int) (w : World) (h : Sl w v l) (h1 : -9223372036854775808 ≤ at_) (h2 : at_ ≤ 9223372036854775807) (h3 : -9223372036854775808 ≤ by_) (h4 : by_ ≤ 9223372036854775807) :
    Calls Try.prog 3 #[v, .int .i64 at_, .int .i64 by_] w fun e w' => e = .returned (.bool true) ∧ Below w.heap.size w w' := by
  go_enter Try.func3, Try.ntmps3
  go_wp2_with fail
  refine (some_any v l 60 w h (by omega)).mono ?_
  rintro e w1 ⟨vx, rfl, hox, hb1⟩
  have hlx : (l.take 60).length ≤ 60 := by rw [List.length_take]; omega
  have hbx : ∀ x ∈ l.take 60, 0 ≤ x ∧ x < 256 := fun x hx => h.byte x (List.mem_of_mem_take hx)
  have sx : Sl w1 vx (l.take 60) := Sl.ofOwns hox (by omega) hbx
  generalize l.take 60 = x at hox hlx hbx sx
  go_wp2_with (at_builtin; refine wpList_append_sl _ rfl _ _ 22 rfl w1.heap.size 5 Try.underlying22 info5 _ _ rfl rfl [] x (World.ownsRow_nil _ _ _ _) sx (by simp; omega) (Nat.le_refl _) ?_)
  intro vy w2 hoy hg2
  have hb2 : Below w1.heap.size w1 w2 := (Below.refl _ _).grown hg2 (Nat.le_refl _) (by simp [Value.ownBlock])
  have hB2 : Below w.heap.size w w2 := hb1.trans (hb2.mono hb1.size)
  have sx2 : Sl w2 vx x := sx.below hb2
  clear hg2 sx
  by_cases h0 : x = []
  · subst h0
    clear hox hoy
    obtain ⟨⟨a, cap, rfl, hc, hn, h1⟩, hla, hba⟩ := sx2
    clear h1 hba hbx
    go_wp2_with fail
    refine (same_any _ _ [] [] _ (Sl.nil _ _) (Sl.nil _ _)).mono ?_
    rintro e w3 ⟨rfl, n, rfl⟩
    go_wp2_with fail
    refine (same_any _ _ [] [0] _ (Sl.nil _ _) (Sl.one _ _ _ (by simp) (by omega))).mono ?_
    rintro e w4 ⟨rfl, m, rfl⟩
    go_wp2
    go_ret
    exact ⟨rfl, below_drewN ((below_drewN (hB2.alloc hB2.size _) n).alloc (by have := hB2.size; simp; omega) _) m⟩
  · obtain ⟨gx, cx, rfl, hgx, hgxs, hcx, hcellx, hfx⟩ := owns_shape hox h0
    obtain ⟨gy, cy, rfl, hgy, hgys, hcy, hcelly, hfy⟩ := owns_shape hoy h0
    have hpos : 0 < x.length := by cases x <;> simp_all
    have hp := pick_range at_ x.length (by omega)
    have hp2 := pick_range by_ 256 (by omega)
    have hcp := hcelly (pick at_ x.length).toNat (by omega)
    have hne : ((x.length : Int) == 0) = false := by simp; omega
    have hfp := hfy (pick at_ x.length).toNat
    have F := stored_facts (n := (pick at_ x.length).toNat) hbx hlx sx2 hgxs hgy hB2 hb1.size hoy
    have F' : Hid _ := F
    have hT : Hid (∀ w, Sl w (.slice (some ⟨gx, 0, none⟩) x.length cx) x → Sl w (.slice (if cx = 1 then some ⟨gx, 0, none⟩ else some ⟨gx, 1, none⟩) (x.length - 1) (cx - 1)) (x.drop 1)) := fun w h => h.tail h0 hcx
    have hne1 : decide (x = x.tail) = false := by
      apply decide_eq_false
      intro e
      have := congrArg List.length e
      simp at this
      omega
    have hxb := getD_byte hbx (pick at_ x.length).toNat
    clear hfx hfy hcellx hcelly F
    go_wp2_with fail
    go_region_with (go_at_call 6; refine (picked_any _ _ _ (by omega) (by omega) (by omega) (by omega)).mono ?_; rintro e w' ⟨rfl, rfl⟩)
    all_goals
      have hw8 : IntKind.u8.wrap (pick by_ 256) = pick by_ 256 := by rw [IntKind.wrap_u8']; omega
      rw [hw8]
      have hin : (pick at_ x.length).toNat < x.length := by omega
      rw [getD_at hin] at hxb
      have e1 := u8_xor _ _ hxb.1 hxb.2 hp2.1 hp2.2
      have hlt : (x[(pick at_ x.length).toNat]).toNat ^^^ (pick by_ 256).toNat < 256 := Nat.xor_lt_two_pow (n := 8) (by omega) (by omega)
      obtain ⟨sx3, sy3, hB3⟩ := F'.out (bits .xor .u8 x[(pick at_ x.length).toNat] (pick by_ 256)) (by rw [e1]; omega) (by rw [e1]; omega)
      clear e1 hlt hcp hfp hxb hw8 F' hoy hox
      generalize x.set (pick at_ ↑x.length).toNat (bits .xor .u8 x[(pick at_ x.length).toNat] (pick by_ 256)) = y at sy3
      generalize (w2.setCell { block := gy, off := (pick at_ ↑x.length).toNat } (.int .u8 (bits .xor .u8 x[(pick at_ x.length).toNat] (pick by_ 256)))).drew = w3 at sx3 sy3 hB3 ⊢
      clear hp2 sx2 hB2 hb2 hbx
      go_wp2_with fail
      refine (same_any _ _ x y w3 sx3 sy3).mono ?_
      rintro e w4 ⟨rfl, n, rfl⟩
      have hB4 := below_drewN hB3 n
      have q4 := below_drewN (Below.refl w3.heap.size w3) n
      go_wp2_with fail
      refine (keep_same _ _ x y _ (sx3.below q4) (sy3.below q4)).mono ?_
      rintro e w5 ⟨rfl, rfl⟩
      go_wp2_with fail
      refine (same_any _ _ x x _ (sx3.below q4) (sx3.below q4)).mono ?_
      rintro e w6 ⟨rfl, m, rfl⟩
      have hB6 := below_drewN hB4 m
      have q6 := below_drewN q4 m
      go_wp2_with fail
      · obtain rfl : cx = 1 := by assumption
        have q7 := below_drewN (Below.refl w3.heap.size w3) (n + m)
        have t7 := hT.out _ (sx3.below q7)
        rw [if_pos rfl] at t7
        refine (same_any _ _ x (x.drop 1) _ (sx3.below q7) t7).mono ?_
        rintro e w7 ⟨rfl, k, rfl⟩
        go_wp2
        go_ret
        exact ⟨rfl, below_drewN hB3 _⟩
      · have q7 := below_drewN (Below.refl w3.heap.size w3) (n + m)
        have t7 := hT.out _ (sx3.below q7)
        have hc1 : ¬ cx = 1 := by assumption
        rw [if_neg hc1] at t7
        refine (same_any _ _ x (x.drop 1) _ (sx3.below q7) t7).mono ?_
        rintro e w7 ⟨rfl, k, rfl⟩
        go_wp2
        go_ret
        exact ⟨rfl, below_drewN hB3 _⟩
end Go.Proofs.Ytkkibmofmdkhbab
