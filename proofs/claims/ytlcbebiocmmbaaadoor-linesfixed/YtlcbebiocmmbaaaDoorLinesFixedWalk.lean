/-
  The walk of the law LinesFixed.
-/
import Derived.Test.YtlcbebiocmmbaaaDoorLinShw
import Derived.Test.YtlcbebiocmmbaaaDoorLinReadP
namespace Go.Proofs.YtlcbebiocmmbaaaDoor
open Go.RowKit
set_option linter.unusedVariables false

/-- the tables that reading and showing look into -/
structure LAll (w : World) : Prop extends LTabs w where
  tp : LPTab w
theorem LAll.below {w w' : World} (h : LAll w) (hb : Below w.heap.size w w') : LAll w' := ⟨h.toLTabs.below hb, h.tp.below h.tp.lt hb⟩
theorem RdA.good {t : List Int} {l : List Lac} {r : List Int} {i : Int} (h : RdA t l r i 0) : t = flatA l ∧ i = 0 ∧ l.length ≤ 100000 ∧ ∀ x ∈ l, LacV x := by
  rcases h with ⟨_, _, h⟩ | ⟨_, h, ⟨rfl, rfl, _⟩ | ⟨_, _, _, h1⟩ | ⟨_, _, _, h1⟩⟩
  · omega
  · exact ⟨by have := h.eq; rwa [List.append_nil] at this, rfl, h.most, h.ok⟩
  · omega
  · omega
theorem RdA.place {t : List Int} {l : List Lac} {r : List Int} {i E : Int} (h : RdA t l r i E) : 0 ≤ i := by
  rcases h with ⟨_, rfl, _⟩ | ⟨_, h, ⟨_, rfl, _⟩ | ⟨_, _, rfl, _⟩ | ⟨_, _, rfl, _⟩⟩ <;> omega
set_option maxHeartbeats 2000000 in
set_option maxRecDepth 100000 in
theorem linesFixed_walk (t : List Int) (hb : ∀ x ∈ t, 0 ≤ x ∧ x < 256) (hl : t.length ≤ 140737488351232) (w : World) (ht : LAll w) :
    Calls Tryd.prog 7 #[.string (strOfNums t)] w fun e w' => e = .returned (.bool true) ∧ Below w.heap.size w w' := by
  go_enter Tryd.func7, Tryd.ntmps7
  go_wp2_with fail
  refine (read_any t hb hl w ht.toLTabs).mono ?_
  rintro e w1 ⟨⟨v1, i1, E1, l1, r1, rfl, h1, n1, s1⟩, b1⟩
  by_cases hE : E1 = 0
  · subst hE
    obtain ⟨rfl, rfl, hm, hv⟩ := h1.good
    have ht1 := ht.below b1
    have HS : Hid (Sk w1 v1 (laF l1) l1.length) := s1 rfl
    have HV : Hid (∀ x ∈ l1, LacV x) := hv
    have hst := str_same (flatA l1)
    clear h1 n1 s1 hv
    go_wp2_with fail
    refine (show_ok v1 l1 w1 HS.out (fun x hx => (HV.out x hx).1) (fun x hx => (HV.out x hx).2) hm ht1.tw ht1.tb ht1.tp).mono ?_
    rintro e w2 ⟨rfl, b2⟩
    have d2 := b1.trans (b2.mono b1.size)
    clear b1 b2
    go_wp2
    go_ret
    exact ⟨rfl, d2⟩
  · obtain rfl := n1 hE
    have hE2 : (E1 != 0) = true := ne_bne hE
    have hi := h1.place
    clear h1 n1 s1
    go_wp2
    go_ret
    exact ⟨rfl, b1⟩
end Go.Proofs.YtlcbebiocmmbaaaDoor
