/-
  The walk of the program's act of a line.
-/
import Derived.Test.YtlcbebiocmmbaaaDoorKl19
import Derived.Test.YtlcbebiocmmbaaaDoorKl20
namespace Go.Proofs.YtlcbebiocmmbaaaDoor
open Go.RowKit
set_option linter.unusedVariables false

/-- an act of a line, or none -/
def AoGot (base : Nat) (t : List Int) (e : Ending) (w' : World) : Prop := (∃ b x y, t = b ++ [10] ∧ rdL b = some x ∧ e = .returned (.tuple #[.agg #[.int .i64 x.k, .int .i64 x.n, .int .i64 x.a, .int .i64 x.p, y], .bool true]) ∧ w'.ownsRow base 5 1 y x.d.length (x.d.map (Value.int .u8))) ∨ ((∀ b x, t = b ++ [10] → rdL b ≠ some x) ∧ e = .returned (.tuple #[zLa, .bool false]))
theorem snoc_inj {a b : List Int} {c : Int} (h : a ++ [c] = b ++ [c]) : a = b := (List.append_inj' h rfl).1
set_option maxRecDepth 100000 in
theorem Ss.rest {w : World} {b o n c : Nat} {l : List (List Int)} (h : Ss w (.slice (some ⟨b, o, none⟩) n c) l) (hn : 1 ≤ n) :
    ∃ a' c', (∀ W, (Instr.slice 42 (.slice (some ⟨b, o, none⟩) n c) (some (.int .i64 1)) none none).run Tryd.prog W = .ok (.slice a' (n - 1) c') W) ∧ Ss w (.slice a' (n - 1) c') (l.drop 1) := by
  have hh := h
  obtain ⟨⟨b', o', c', e, h1, h2, h3⟩, h4⟩ := h
  simp only [Value.slice.injEq, Option.some.injEq, Addr.mk.injEq] at e
  obtain ⟨⟨rfl, rfl, _⟩, rfl, rfl⟩ := e
  have e9 : Tryd.prog.elem 42 = 9 := elemStr
  have hrun : ∀ W, (Instr.slice 42 (.slice (some ⟨b, o, none⟩) l.length c) (some (.int .i64 1)) none none).run Tryd.prog W = .ok (sliced (some ⟨b, o, none⟩) 1 l.length c 1) W := fun W => by
    rw [run_slice_l (P := Tryd.prog) W 42 _ _ c Tryd.underlying42 .i64 _ (by omega) (by omega), e9, size1s]
    simp [Result.andThen]
  by_cases hc : c = 1
  · subst hc
    refine ⟨some ⟨b, o, none⟩, 0, fun W => ?_, ?_⟩
    · rw [hrun W]; simp [sliced]
    · have hl : l.length = 1 := by omega
      refine ⟨⟨b, o, 0, by rw [List.length_drop], h1, by rw [List.length_drop]; omega, fun i hi => ?_⟩, by rw [List.length_drop]; omega⟩
      rw [List.length_drop] at hi
      omega
  · refine ⟨some ⟨b, o + 1, none⟩, c - 1, fun W => ?_, hh.drop 1 hn⟩
    rw [hrun W]
    simp [sliced, Addr.add_mid, hc]
theorem cutSuffix_lit (s : List Int) (hs : ∀ x ∈ s, 0 ≤ x ∧ x < 256) (hl : s.length ≤ 140737488351232) (w : World) :
    Calls Tryd.prog 46 #[.string (strOfNums s), .string { data := #[10] }] w fun e w' => (∃ b, s = b ++ [10] ∧ e = .returned (.tuple #[.string (strOfNums b), .bool true]) ∧ w' = w) ∨ ((∀ b, s ≠ b ++ [10]) ∧ e = .returned (.tuple #[.string (strOfNums s), .bool false]) ∧ w' = w) := cutSuffix_any s hs hl w
theorem splitN_lit (s : List Int) (hs : ∀ x ∈ s, 0 ≤ x ∧ x < 256) (hl : s.length ≤ 4000000) (w : World) (hm : Hid (∃ m, w.cell? ⟨2, 0, none⟩ = some (.int .i64 m))) :
    Calls Tryd.prog 47 #[.string (strOfNums s), .string { data := #[32] }, .int .i64 6] w fun e w' => ∃ v, e = .returned v ∧ Ss w' v (splitP 5 s) ∧ Below w.heap.size w w' := splitN_any s hs hl w hm
/-- the library's bound, whatever it is -/
structure LMTab (w : World) : Prop where
  lt : 2 < w.heap.size
  max : Hid (∃ m, w.cell? ⟨2, 0, none⟩ = some (.int .i64 m))
theorem LMTab.below {w w' : World} (h : LMTab w) (hb : Below w.heap.size w w') : LMTab w' :=
  ⟨Nat.lt_of_lt_of_le h.lt hb.size, by obtain ⟨m, hm⟩ := h.max.out; exact ⟨m, (hb.cell (p := ⟨2, 0, none⟩) h.lt).trans hm⟩⟩
structure LTabs (w : World) : Prop where
  tw : LWTab w
  tb : LBTab w
  tm : LMTab w
theorem LTabs.below {w w' : World} (h : LTabs w) (hb : Below w.heap.size w w') : LTabs w' := ⟨h.tw.below hb, h.tb.below hb, h.tm.below hb⟩
set_option maxHeartbeats 4000000 in
set_option maxRecDepth 100000 in
theorem actOf_any (t : List Int) (hb : ∀ x ∈ t, 0 ≤ x ∧ x < 256) (hl : t.length ≤ 4000000) (w : World) (ht : LTabs w) :
    Calls Tryd.prog 32 #[.string (strOfNums t)] w fun e w' => Below w.heap.size w w' ∧ AoGot w.heap.size t e w' := by
  obtain ⟨W0, hW0⟩ : ∃ W0, w.alloc (.cells #[.int .i64 0, .int .i64 0, .int .i64 0, .int .i64 0, .slice none 0 0] 24) = W0 := ⟨_, rfl⟩
  have r0 : W0.heap[w.heap.size]? = some (.cells #[.int .i64 0, .int .i64 0, .int .i64 0, .int .i64 0, .slice none 0 0] 24) := by rw [← hW0]; exact t_alloc1_0 _ _
  have d0 : Below w.heap.size w W0 := by rw [← hW0]; exact t_allocB1 _ _
  have HW0 : Hid _ := hW0
  have HT : Hid (LTabs w) := ht
  clear hW0 ht
  have onZ : (#[.int .i64 0, .int .i64 0, .int .i64 0, .int .i64 0, .slice none 0 0] : Array Value).all (·.oneCell') = true := by simp [Value.oneCell']
  go_enter Tryd.func32, Tryd.ntmps32
  go_wp2_with fail
  rw [HW0.out]
  clear HW0
  refine (cutSuffix_lit t hb (by omega) W0).mono ?_
  rintro e w1 (⟨b, hbt, rfl, hw1⟩ | ⟨hno, rfl, hw1⟩)
  · subst w1
    have HBT : Hid (t = b ++ [10]) := hbt
    have hbb : ∀ x ∈ b, 0 ≤ x ∧ x < 256 := fun x hx => hb x (by rw [hbt]; simp [hx])
    have hbl : b.length ≤ 4000000 := by rw [hbt] at hl; simp at hl; omega
    clear hbt
    obtain ⟨fw, rest, hws⟩ := List.exists_cons_of_ne_nil (splitB_ne b)
    have HW : Hid (splitB b = fw :: rest) := hws
    have hfw : ∀ c ∈ fw, 0 ≤ c ∧ c < 256 := fun c hc => hbb c (splitB_mem b fw (by rw [hws]; simp) c hc)
    obtain ⟨r5, hr5⟩ := splitP_head 4 b hws
    have HP : Hid (splitP 5 b = fw :: r5) := hr5
    clear hws hr5
    go_wp2_with fail
    refine (splitN_lit b hbb hbl W0 (HT.out.below d0).tm.max).mono ?_
    rintro e w2 ⟨v, rfl, hss, b2⟩
    rw [HP.out] at hss
    obtain ⟨gb, go, gc, rfl, gl, gcp⟩ := hss.shape
    have r2 := (b2.block _ (Array.getElem?_eq_some_iff.1 r0).1).trans r0
    have d2 := d0.trans (b2.mono d0.size)
    clear b2 d0 r0
    have c0 : w2.cell? ⟨gb, go, none⟩ = some (.string (strOfNums fw)) := hss.at 0 (by simp)
    obtain ⟨m, hm⟩ : ∃ m, (fw :: r5).length = m := ⟨_, rfl⟩
    have HM : Hid ((fw :: r5).length = m) := hm
    rw [hm] at hss gcp ⊢
    have m1 : 1 ≤ m := by rw [← hm]; simp
    have hm4 : m ≤ 4000000000 := by have := hss.len; omega
    clear hm
    have ix0 := runIndexS0 gb go m gc (by omega)
    obtain ⟨a', c', hrun, hrest⟩ := hss.rest m1
    have HRS : Hid (Ss w2 (.slice a' (m - 1) c') r5) := by unfold Hid; simpa using hrest
    clear hrest hss
    go_wp2_with fail
    refine (kindOf_any fw hfw _ (HT.out.below d2).tw).mono ?_
    rintro e w3 ⟨rfl, hw3⟩
    subst w3
    clear ix0 c0
    obtain ⟨k, hk⟩ : ∃ k, kindW fw = k := ⟨_, rfl⟩
    have HK : Hid (kindW fw = k) := hk
    rw [hk]
    go_wp2_with fail
    refine (lKind_any k _).mono ?_
    rintro e w3 ⟨rfl, hw3⟩
    subst w3
    by_cases hk9 : 1 ≤ k ∧ k ≤ 9
    · rw [decide_eq_true hk9]
      obtain ⟨kn, rfl⟩ : ∃ kn : Nat, k = (kn : Int) := ⟨k.toNat, by omega⟩
      clear hk
      go_wp2_with fail
      refine (piecesOf_any kn (by omega) (by omega) _ (HT.out.below d2).tw).mono ?_
      rintro e w3 ⟨rfl, hw3⟩
      subst w3
      have hnp := npc_le hk9.1 hk9.2
      by_cases hmn : (m : Int) = npc (kn : Int)
      · have hq : ((m : Int) != npc (kn : Int)) = false := eq_bne hmn
        have hfew : splitP 5 b = splitB b := by
          by_cases h6 : (splitB b).length ≤ 6
          · exact splitP_few 5 b h6
          · have h7 := splitP_many 5 b (by omega)
            rw [HP.out, HM.out] at h7
            omega
        have hr5 : r5 = rest := by
          have := HP.out.symm.trans (hfew.trans HW.out)
          simpa using this
        subst hr5
        have HLEN : Hid ((r5.length : Int) + 1 = npc (kn : Int)) := by
          have h1 := HM.out
          simp at h1
          unfold Hid
          omega
        have hbr : ∀ x ∈ r5, ∀ c ∈ x, 0 ≤ c ∧ c < 256 := fun x hx c hc => hbb c (splitB_mem b x (by rw [HW.out]; simp [hx]) c hc)
        have hlr : ∀ x ∈ r5, x.length ≤ 4000000 := fun x hx => Nat.le_trans (splitB_le b x (by rw [HW.out]; simp [hx])) hbl
        obtain ⟨N, hN⟩ : ∃ N, npc (kn : Int) = N := ⟨_, rfl⟩
        rw [hN] at hq ⊢
        clear hfew hmn hnp hN
        go_wp2_with fail
        refine (actOfPieces_any kn (by omega) (by omega) _ r5 hbr hlr HLEN.out _ HRS.out (HT.out.below d2).tw (HT.out.below d2).tb).mono ?_
        rintro e w4 ⟨b4, hgot⟩
        have hlow := d2.size
        have r4 := (b4.block _ (Array.getElem?_eq_some_iff.1 r2).1).trans r2
        have d4 := d2.trans (b4.mono d2.size)
        clear r2 d2 b4 hrun hbr hlr
        have HE : Hid (∀ x, rdL b = some x ↔ GoodPc (kn : Int) r5 x) := fun x => rd_pieces HW.out HK.out hk9.1 hk9.2 HLEN.out x
        rcases hgot with ⟨x, y, hg, rfl, oy⟩ | ⟨hno, rfl⟩
        · have HX : Hid (rdL b = some x) := (HE.out x).2 hg
          obtain ⟨xk, xn, xa, xp, xd⟩ := x
          simp only at oy ⊢
          obtain ⟨gy, cy, rfl⟩ := tOwns_shape oy
          have oy0 := tOwns_base oy hlow
          clear hg oy
          have onA : (#[.int .i64 xk, .int .i64 xn, .int .i64 xa, .int .i64 xp, .slice gy xd.length cy] : Array Value).all (·.oneCell') = true := by simp [Value.oneCell']
          go_wp2_with ((with_reducible (refine tpLook ?_)); refine wpList_store_row rfl 24 (.tmp 2) (.tmp 37) rfl w.heap.size #[.int .i64 xk, .int .i64 xn, .int .i64 xa, .int .i64 xp, .slice gy xd.length cy] rfl rfl 24 _ r4 laSzA rfl onA ?_)
          have o5 := tOwns_row oy0 r4 (by decide) #[.int .i64 xk, .int .i64 xn, .int .i64 xa, .int .i64 xp, .slice gy xd.length cy]
          refine bodyPost_ret (tRow2 rfl _ _ w.heap.size 24 _ (0, 0) _ rfl (setRow_heap _ w.heap.size _ (#[.int .i64 xk, .int .i64 xn, .int .i64 xa, .int .i64 xp, .slice gy xd.length cy]) 24 _ r4) Tryd.underlying24 rfl laSzA) rfl ?_
          exact ⟨tBelow_row d4 (Nat.le_refl _) _, .inl ⟨b, _, _, HBT.out, HX.out, rfl, o5⟩⟩
        · have HN : Hid (∀ b' x, t = b' ++ [10] → rdL b' ≠ some x) := fun b' x h1 h2 => by
            rw [HBT.out] at h1
            have := snoc_inj h1
            subst this
            exact hno x ((HE.out x).1 h2)
          clear hno
          unfold zLa
          go_wp2_with ((with_reducible (refine tpLook ?_)); refine wpList_store_row rfl 24 (.tmp 2) (.tmp 37) rfl w.heap.size #[.int .i64 0, .int .i64 0, .int .i64 0, .int .i64 0, .slice none 0 0] rfl rfl 24 _ r4 laSzA rfl onZ ?_)
          refine bodyPost_ret (tRow2 rfl _ _ w.heap.size 24 _ (0, 0) _ rfl (setRow_heap _ w.heap.size _ (#[.int .i64 0, .int .i64 0, .int .i64 0, .int .i64 0, .slice none 0 0]) 24 _ r4) Tryd.underlying24 rfl laSzA) rfl ?_
          exact ⟨tBelow_row d4 (Nat.le_refl _) _, .inr ⟨HN.out, rfl⟩⟩
      · have hq : ((m : Int) != npc (kn : Int)) = true := ne_bne hmn
        have HN : Hid (∀ b' x, t = b' ++ [10] → rdL b' ≠ some x) := fun b' x h1 h2 => by
          rw [HBT.out] at h1
          have := snoc_inj h1
          subst this
          obtain ⟨e1, e2, _⟩ := rd_len HW.out h2
          rw [HK.out] at e1
          rw [← e1] at e2
          have h3 : splitP 5 b = splitB b := splitP_few 5 b (by rw [HW.out]; simp; omega)
          have h4 := HM.out
          rw [← HP.out, h3, HW.out] at h4
          simp at h4
          omega
        obtain ⟨N, hN⟩ : ∃ N, npc (kn : Int) = N := ⟨_, rfl⟩
        rw [hN] at hq ⊢
        clear hmn hnp hN
        go_wp2_with ((with_reducible (refine tpLook ?_)); refine wpList_store_row rfl 24 (.tmp 2) (.tmp 32) rfl w.heap.size #[.int .i64 0, .int .i64 0, .int .i64 0, .int .i64 0, .slice none 0 0] rfl rfl 24 _ r2 laSzA rfl onZ ?_)
        refine bodyPost_ret (tRow2 rfl _ _ w.heap.size 24 _ (0, 0) _ rfl (setRow_heap _ w.heap.size _ (#[.int .i64 0, .int .i64 0, .int .i64 0, .int .i64 0, .slice none 0 0]) 24 _ r2) Tryd.underlying24 rfl laSzA) rfl ?_
        exact ⟨tBelow_row d2 (Nat.le_refl _) _, .inr ⟨HN.out, rfl⟩⟩
    · rw [decide_eq_false hk9]
      have HN : Hid (∀ b' x, t = b' ++ [10] → rdL b' ≠ some x) := fun b' x h1 h2 => by
        rw [HBT.out] at h1
        have := snoc_inj h1
        subst this
        obtain ⟨e1, _, e3, e4⟩ := rd_len HW.out h2
        rw [HK.out] at e1
        exact hk9 ⟨by omega, by omega⟩
      clear hk9
      go_wp2_with ((with_reducible (refine tpLook ?_)); refine wpList_store_row rfl 24 (.tmp 2) (.tmp 32) rfl w.heap.size #[.int .i64 0, .int .i64 0, .int .i64 0, .int .i64 0, .slice none 0 0] rfl rfl 24 _ r2 laSzA rfl onZ ?_)
      refine bodyPost_ret (tRow2 rfl _ _ w.heap.size 24 _ (0, 0) _ rfl (setRow_heap _ w.heap.size _ (#[.int .i64 0, .int .i64 0, .int .i64 0, .int .i64 0, .slice none 0 0]) 24 _ r2) Tryd.underlying24 rfl laSzA) rfl ?_
      exact ⟨tBelow_row d2 (Nat.le_refl _) _, .inr ⟨HN.out, rfl⟩⟩
  · subst w1
    have HN : Hid (∀ b x, t = b ++ [10] → rdL b ≠ some x) := fun b x h1 _ => hno b h1
    clear hno
    go_wp2_with ((with_reducible (refine tpLook ?_)); refine wpList_store_row rfl 24 (.tmp 2) (.tmp 15) rfl w.heap.size #[.int .i64 0, .int .i64 0, .int .i64 0, .int .i64 0, .slice none 0 0] rfl rfl 24 _ r0 laSzA rfl onZ ?_)
    refine bodyPost_ret (tRow2 rfl _ _ w.heap.size 24 _ (0, 0) _ rfl (setRow_heap _ w.heap.size _ (#[.int .i64 0, .int .i64 0, .int .i64 0, .int .i64 0, .slice none 0 0]) 24 _ r0) Tryd.underlying24 rfl laSzA) rfl ?_
    exact ⟨tBelow_row d0 (Nat.le_refl _) _, .inr ⟨HN.out, rfl⟩⟩
end Go.Proofs.YtlcbebiocmmbaaaDoor
