/-
  The walk of the law LinesFixed.
-/
import Derived.Test.YtlcbebiocmmbaaaDoorKl27
import Derived.Test.YtlcbebiocmmbaaaDoorKl31
import Derived.Test.YtlcbebiocmmbaaaDoorKl22
import Derived.Test.YtlcbebiocmmbaaaDoorKl4
namespace Go.Proofs.YtlcbebiocmmbaaaDoor
open Go.RowKit
set_option linter.unusedVariables false

/-- the tables that reading and showing look into -/
structure LAll (w : World) : Prop extends LTabs w where
  tp : LPTab w
theorem LAll.below {w w' : World} (h : LAll w) (hb : Below w.heap.size w w') : LAll w' := ⟨h.toLTabs.below hb, h.tp.below h.tp.lt hb⟩
theorem RdA.good {t : List Int} {l : List Lac} {r : List Int} {i : Int} (h : RdA t l r i 0) : t = flatA l ∧ i = 0 ∧ l.length ≤ 100000 ∧ ∀ x ∈ l, LacV x := by
  rcases h with ⟨_, _, h⟩ | ⟨_, h, ⟨rfl, rfl, _⟩ | ⟨_, _, _, h1⟩ | ⟨_, _, _, h1⟩⟩
  · omega
  · exact ⟨by have := h.eq; rwa [List.append_nil] at this, rfl, h.most, h.ok⟩
  · omega
  · omega
theorem RdA.place {t : List Int} {l : List Lac} {r : List Int} {i E : Int} (h : RdA t l r i E) : 0 ≤ i := by
  rcases h with ⟨_, rfl, _⟩ | ⟨_, h, ⟨_, rfl, _⟩ | ⟨_, _, rfl, _⟩ | ⟨_, _, rfl, _⟩⟩ <;> omega
set_option maxHeartbeats 2000000 in
set_option maxRecDepth 100000 in
theorem linesFixed_walk (t : List Int) (hb : ∀ x ∈ t, 0 ≤ x ∧ x < 256) (hl : t.length ≤ 140737488351232) (w : World) (ht : LAll w) :
    Calls Tryd.prog 7 #[.string (strOfNums t)] w fun e w' => e = .returned (.bool true) ∧ Below w.heap.size w w' := by
  go_enter Tryd.func7, Tryd.ntmps7
  go_wp2_with fail
  refine (read_any t hb hl w ht.toLTabs).mono ?_
  rintro e w1 ⟨⟨v1, i1, E1, l1, r1, rfl, h1, n1, s1⟩, b1⟩
  by_cases hE : E1 = 0
  · subst hE
    obtain ⟨rfl, rfl, hm, hv⟩ := h1.good
    have ht1 := ht.below b1
    have HS : Hid (Sk w1 v1 (laF l1) l1.length) := s1 rfl
    have HV : Hid (∀ x ∈ l1, LacV x) := hv
    have hst := str_same (flatA l1)
    clear h1 n1 s1 hv
    go_wp2_with fail
    refine (show_ok v1 l1 w1 HS.out (fun x hx => (HV.out x hx).1) (fun x hx => (HV.out x hx).2) hm ht1.tw ht1.tb ht1.tp).mono ?_
    rintro e w2 ⟨rfl, b2⟩
    have d2 := b1.trans (b2.mono b1.size)
    clear b1 b2
    go_wp2
    go_ret
    exact ⟨rfl, d2⟩
  · obtain rfl := n1 hE
    have hE2 : (E1 != 0) = true := ne_bne hE
    have hi := h1.place
    clear h1 n1 s1
    go_wp2
    go_ret
    exact ⟨rfl, b1⟩
end Go.Proofs.YtlcbebiocmmbaaaDoor
/-
  What the cards of showing and reading need: their tables, and a world for their witness.
-/
namespace Go.Proofs.YtlcbebiocmmbaaaDoor
open Go.ChangeShapes Go.WideShapes Go.ChangeAt Go.RowKit

theorem gPowType : (Tryd.prog.globals[3]?).map (·.type) = some 119 := by kernel_rfl
theorem lCellsU : Tryd.prog.cellsOf 111 = 1 := by kernel_rfl
theorem lCellsP : Tryd.prog.cellsOf 119 = 20 := by kernel_rfl
theorem laidP : (Rows.laid_internal_strconv_uint64pow10 : DataW Unit) = Lib.tabData .u64 Lib.pow10Tab := by kernel_rfl
theorem tabs {W : World} (h : laidMetH Tryd.prog Rows.linesFixedRow.laid W) (hs : W.ShapedOpen Tryd.prog) : LAll W := by
  have h' : laidMet Tryd.prog Rows.linesFixedRow.laid W := h
  obtain ⟨ps, ⟨g0, t0, cs0, fuel0, p0, q0, hg0, ht0, hvar0, hd0, ⟨g1, t1, cs1, fuel1, p1, q1, hg1, ht1, hvar1, hd1, ⟨g2, t2, cs2, fuel2, p2, q2, hg2, ht2, hvar2, hd2, ⟨g3, t3, cs3, fuel3, p3, q3, hg3, ht3, hvar3, hd3, h4, _⟩, _⟩, _⟩, _⟩, _⟩ := h'
  have h2 := tabs_of h4
  refine ⟨⟨h2.1, h2.2, maxAt hs⟩, ?_⟩
  obtain rfl := Option.some.inj (gPow.symm.trans hg2)
  obtain rfl := Option.some.inj (gPowType.symm.trans ht2)
  obtain ⟨t, fr, hr⟩ := var_row gPow hvar2
  refine ⟨(Array.getElem?_eq_some_iff.1 hr).1, ?_⟩
  rw [laidP] at hd2
  unfold Hid Lib.TabIs
  rw [hvar2, ← Lib.cells_of_tab Tryd.underlying119 Tryd.underlying111 lCellsU lCellsP hd2]
/-- the cells that the initialisers lay -/
def cellsOfLits : DataW Unit → Array Value
  | .agg l => (l.map fun | .lit (.int k z) => Value.int k z | _ => .bool false).toArray
  | _ => #[]
/-- a world for the witness: the settled one, the tables holding what their initialisers lay -/
def IsLaid (os : Os) (W : World) : Prop :=
  W = { World.holding Tryd.prog os ⟨#[], #[], []⟩ with heap := ((((((((World.holding Tryd.prog os ⟨#[], #[], []⟩).heap.modify 6 (laidAs (cellsOfLits Rows.laid_math_bits_deBruijn32tab))).modify 7 (laidAs (cellsOfLits Rows.laid_math_bits_deBruijn64tab))).modify 3 (laidAs (cellsOfLits Rows.laid_internal_strconv_uint64pow10))).modify 5 (laidAs cellsRanges)).modify 1 (laidAs cellsBounds)).modify 0 (laidAs cellsWords)).modify 4 (laidAs cellsFirst)) }
theorem ex_laid (os : Os) : ∃ W, IsLaid os W := ⟨_, rfl⟩
end Go.Proofs.YtlcbebiocmmbaaaDoor
/-
  The walk of a number that is picked.
-/
namespace Go.Proofs.YtlcbebiocmmbaaaDoor
open Go.RowKit

def pick (n many : Int) : Int := if n < 0 then (-(n + 1)) % many else n % many

theorem pick_range (n many : Int) (hm : 0 < many) : 0 ≤ pick n many ∧ pick n many < many := by
  unfold pick
  split
  · exact ⟨Int.emod_nonneg _ (by omega), Int.emod_lt_of_pos _ hm⟩
  · exact ⟨Int.emod_nonneg _ (by omega), Int.emod_lt_of_pos _ hm⟩

theorem ret_i64 {a b : Int} (h : a = b) : Ending.returned (.int .i64 a) = .returned (.int .i64 b) := by rw [h]

theorem picked_any (n many : Int) (w : World) (h1 : -9223372036854775808 ≤ n) (h2 : n ≤ 9223372036854775807) (hm : 0 < many) (hm2 : many ≤ 9223372036854775807) :
    Calls Tryd.prog 19 #[.int .i64 n, .int .i64 many] w fun e w' => e = .returned (.int .i64 (pick n many)) ∧ w' = w := by
  by_cases hn : n < 0
  · go_enter Tryd.func19, Tryd.ntmps19
    go_wp2
    go_ret
    exact ⟨ret_i64 (by unfold pick; rw [if_pos hn, ← Int.neg_tmod, Int.tmod_eq_emod_of_nonneg (by omega)]), rfl⟩
  · go_enter Tryd.func19, Tryd.ntmps19
    go_wp2
    go_ret
    exact ⟨ret_i64 (by unfold pick; rw [if_neg (by omega)]), rfl⟩
end Go.Proofs.YtlcbebiocmmbaaaDoor
