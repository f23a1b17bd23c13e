/-
  The walks of the document's own Mac.
-/
import Derived.Test.YtakgfdbjgeopdaaGreatDoorKp27
import Derived.Test.YtakgfdbjgeopdaaGreatDoorKp14
namespace Go.Proofs.YtakgfdbjgeopdaaGreatDoor
open Go.RowKit

theorem markL_snoc (F : List Int) (k : Nat) (m : Int) (hk : k < F.length) : markL (F.take (k + 1)) m = markL (F.take k) m ++ [bits .xor .u8 (F.getD k 0) m] := by
  unfold markL
  rw [take_snoc F k hk, List.map_append]
  rfl
theorem xor_byteB {y m : Int} (hy : 0 ≤ y ∧ y < 256) (hm : 0 ≤ m ∧ m < 256) : 0 ≤ bits .xor .u8 y m ∧ bits .xor .u8 y m < 256 :=
  markL_byte (l := [y]) (by intro x hx; obtain rfl : x = y := (by simpa using hx); exact hy) hm _ (by simp [markL])

set_option maxHeartbeats 4000000 in
set_option maxRecDepth 100000 in
theorem macced_any (vk vb : Value) (key b : List Int) (w : World) (hk : Sl w vk key) (hb : Sl w vb b) (lk : key.length ≤ 10000) (lb : b.length ≤ 5000) :
    Calls Tryz.prog 53 #[vk, vb] w fun e w' => ∃ v', e = .returned v' ∧ w'.ownsRow w.heap.size 5 1 v' (macL key b).length ((macL key b).map (Value.int .u8)) ∧ Below w.heap.size w w' := by
  obtain ⟨⟨ak0, ck0, rfl, _⟩, _⟩ := id hk
  go_enter Tryz.func53, Tryz.ntmps53
  by_cases hL : 64 < key.length
  · have hLi : (64 : Int) < (key.length : Int) := by omega
    go_wp2_with fail
    refine (digested_any _ key w hk lk).mono ?_
    rintro e W0 ⟨vd, rfl, hod, B0⟩
    have sK := Sl.ofOwns hod (by rw [dig_length]; omega) (dig_byte key)
    have HKK : Hid (keyOf key = dig key) := by unfold Hid keyOf; rw [if_pos hL]
    have lK := dig_length key
    generalize dig key = K at sK HKK lK
    obtain ⟨⟨ak, ck, rfl, _⟩, _⟩ := id sK
    obtain ⟨nk, hnk⟩ : ∃ nk, K.length = nk := ⟨_, rfl⟩
    have HNK : Hid (K.length = nk) := hnk
    rw [hnk] at sK lK ⊢
    have hnk64 : nk ≤ 64 := by omega
    clear hnk hod lK
    have sb0 := hb.below B0
    have lF : (fillTo K 64).length = 64 := fillTo_length K 64 (by rw [HNK.out]; omega)
    have bF := fillTo_byte sK.byte 64
    have HF1 : Hid (∀ k, k < nk → (fillTo K 64).getD k 0 = K.getD k 0) := fun k hk => by
      unfold fillTo
      simp [List.getD, List.getElem?_append_left (show k < K.length by rw [HNK.out]; exact hk)]
    have HF2 : Hid (∀ k, nk ≤ k → k < 64 → (fillTo K 64).getD k 0 = 0) := fun k hk hk2 => by
      unfold fillTo
      rw [List.getD, List.getElem?_append_right (by rw [HNK.out]; exact hk), List.getElem?_replicate]
      split <;> rfl
    have HMC : Hid (macL key b = dig (markL (fillTo K 64) 92 ++ dig (markL (fillTo K 64) 54 ++ b))) := by
      unfold Hid macL fk
      rw [HKK.out]
    generalize fillTo K 64 = F at lF bF HF1 HF2 HMC
    have HLF : Hid (F.length = 64) := lF
    have HBF : Hid (∀ x ∈ F, 0 ≤ x ∧ x < 256) := bF
    clear lF bF
    go_wp2_with fail
    go_loopw [5, 6, 7] (fun vi vo i wr => ∃ k : Nat, k ≤ 64 ∧ i = .int .i64 k ∧ wr.ownsRow W0.heap.size 5 1 vi (markL (F.take k) 54).length ((markL (F.take k) 54).map (Value.int .u8)) ∧ wr.ownsRow W0.heap.size 5 1 vo (markL (F.take k) 92).length ((markL (F.take k) 92).map (Value.int .u8)) ∧ (∀ g, vi.ownBlock = some g → vo.ownBlock ≠ some g) ∧ Below W0.heap.size W0 wr) (fun _ _ i _ => 64 - (intOf i).toNat)
    case atStart => exact ⟨0, by omega, rfl, World.ownsRow_nil _ _ _ _, World.ownsRow_nil _ _ _ _, by simp [Value.ownBlock], Below.refl _ _⟩
    case round =>
      obtain ⟨k, hk64, rfl, howi, howo, hne, hbel⟩ := hrel
      by_cases hlt : k < 64
      · have hlti : (k : Int) < 64 := by omega
        have y2 := getD_byte HBF.out k
        have HTI : Hid _ := markL_snoc F k 54 (by rw [HLF.out]; exact hlt)
        have HTO : Hid _ := markL_snoc F k 92 (by rw [HLF.out]; exact hlt)
        have hmi : (markL (F.take k) 54).length = k := by rw [markL_length, List.length_take, HLF.out]; omega
        have hmo : (markL (F.take k) 92).length = k := by rw [markL_length, List.length_take, HLF.out]; omega
        have zi := xor_byteB y2 (m := 54) (by omega)
        have zo := xor_byteB y2 (m := 92) (by omega)
        have HZI : Hid _ := zi
        have HZO : Hid _ := zo
        clear zi zo
        generalize markL (F.take k) 54 = pi at howi HTI hmi
        generalize markL (F.take k) 92 = po at howo HTO hmo
        by_cases hkn : k < nk
        · have hkni : (k : Int) < (nk : Int) := by omega
          obtain ⟨bd, od, rfl, hbd, hcd2⟩ := sK.spot k (by rw [HNK.out]; exact hkn)
          rw [← HF1.out k hkn] at hcd2
          have cd := (hbel.cell (p := ⟨bd, od + k, none⟩) hbd).trans hcd2
          generalize F.getD k 0 = y at cd y2 HTI HTO HZI HZO
          have hlti2 := howi.lt
          have hlto2 := howo.lt
          go_wp2_with (at_builtin; refine wpList_append_atB _ rfl _ _ 26 rfl W0.heap.size 5 Tryz.underlying26 info5 _ _ rfl rfl pi [bits .xor .u8 y 54] (howi.alloc _) (Sl.one2B _ _ _ _ rfl HZI.out (by first | rfl | decide)) (by rw [hmi]; simp; omega) (by have := hbel.size; simp; omega) ?_)
          intro vi2 w2 ho2 hg2 hw2
          have ho2' : w2.ownsRow W0.heap.size 5 1 vi2 (pi ++ [bits .xor .u8 y 54]).length ((pi ++ [bits .xor .u8 y 54]).map (Value.int .u8)) := by simpa [hmi] using ho2
          have hb2 : Below W0.heap.size W0 w2 := (hbel.alloc hbel.size _).grown hg2 (by have := hbel.size; simp; omega) (fun k hk => (hlti2 k hk).1)
          have howo2 := owns_keepB howo (fun k hk => (hg2.block k (by have := (hlto2 k hk).2; simp; omega) (fun e => hne k e.symm hk)).trans (heap_alloc_old _ _ (hlto2 k hk).2))
          have hs2 : ∀ g, vi2.ownBlock = some g → u6.ownBlock ≠ some g := by
            intro g hg e
            rcases hw2 with h | h
            · exact hne g (h ▸ hg) e
            · have h1 := (hlto2 g e).2
              rw [h] at hg
              simp at hg
              omega
          clear ho2 hg2 hw2 howi
          go_wp2_with (at_builtin; refine wpList_append_atB _ rfl _ _ 26 rfl W0.heap.size 5 Tryz.underlying26 info5 _ _ rfl rfl po [bits .xor .u8 y 92] (howo2.alloc _) (Sl.one2B _ _ _ _ rfl HZO.out (by first | rfl | decide)) (by rw [hmo]; simp; omega) (by have := hb2.size; simp; omega) ?_)
          intro vo3 w3 ho3 hg3 hw3
          have hlt3 := howo2.lt
          have hlt4 := ho2'.lt
          have ho3' : w3.ownsRow W0.heap.size 5 1 vo3 (po ++ [bits .xor .u8 y 92]).length ((po ++ [bits .xor .u8 y 92]).map (Value.int .u8)) := by simpa [hmo] using ho3
          have hb3 : Below W0.heap.size W0 w3 := (hb2.alloc hb2.size _).grown hg3 (by have := hb2.size; simp; omega) (fun k hk => (hlt3 k hk).1)
          have ho2'' := owns_keepB ho2' (fun k hk => (hg3.block k (by have := (hlt4 k hk).2; simp; omega) (fun e => hs2 k hk e.symm)).trans (heap_alloc_old _ _ (hlt4 k hk).2))
          have hs3 : ∀ g, vi2.ownBlock = some g → vo3.ownBlock ≠ some g := by
            intro g hg e
            rcases hw3 with h | h
            · exact hs2 g hg (h ▸ e)
            · have h1 := (hlt4 g hg).2
              rw [h] at e
              simp at e
              omega
          clear ho3 hg3 hw3 ho2' howo2 howo hlti2 hlto2 hlt3 hlt4 hb2 hbel hne hs2
          go_wp2
          go_roundw
          case rel => exact ⟨k + 1, by omega, by go_num, by rw [HTI.out]; exact ho2'', by rw [HTO.out]; exact ho3', hs3, hb3⟩
          case measure => simp [intOf]; omega
        · have hkni : ¬ (k : Int) < (nk : Int) := by omega
          have HY0 : Hid (F.getD k 0 = 0) := HF2.out k (by omega) hlt
          rw [HY0.out] at HTI HTO HZI HZO
          have hlti2 := howi.lt
          have hlto2 := howo.lt
          go_wp2_with (at_builtin; refine wpList_append_atB _ rfl _ _ 26 rfl W0.heap.size 5 Tryz.underlying26 info5 _ _ rfl rfl pi [bits .xor .u8 0 54] (howi.alloc _) (Sl.one2B _ _ _ _ rfl HZI.out (by first | rfl | decide)) (by rw [hmi]; simp; omega) (by have := hbel.size; simp; omega) ?_)
          intro vi2 w2 ho2 hg2 hw2
          have ho2' : w2.ownsRow W0.heap.size 5 1 vi2 (pi ++ [bits .xor .u8 0 54]).length ((pi ++ [bits .xor .u8 0 54]).map (Value.int .u8)) := by simpa [hmi] using ho2
          have hb2 : Below W0.heap.size W0 w2 := (hbel.alloc hbel.size _).grown hg2 (by have := hbel.size; simp; omega) (fun k hk => (hlti2 k hk).1)
          have howo2 := owns_keepB howo (fun k hk => (hg2.block k (by have := (hlto2 k hk).2; simp; omega) (fun e => hne k e.symm hk)).trans (heap_alloc_old _ _ (hlto2 k hk).2))
          have hs2 : ∀ g, vi2.ownBlock = some g → u6.ownBlock ≠ some g := by
            intro g hg e
            rcases hw2 with h | h
            · exact hne g (h ▸ hg) e
            · have h1 := (hlto2 g e).2
              rw [h] at hg
              simp at hg
              omega
          clear ho2 hg2 hw2 howi
          go_wp2_with (at_builtin; refine wpList_append_atB _ rfl _ _ 26 rfl W0.heap.size 5 Tryz.underlying26 info5 _ _ rfl rfl po [bits .xor .u8 0 92] (howo2.alloc _) (Sl.one2B _ _ _ _ rfl HZO.out (by first | rfl | decide)) (by rw [hmo]; simp; omega) (by have := hb2.size; simp; omega) ?_)
          intro vo3 w3 ho3 hg3 hw3
          have hlt3 := howo2.lt
          have hlt4 := ho2'.lt
          have ho3' : w3.ownsRow W0.heap.size 5 1 vo3 (po ++ [bits .xor .u8 0 92]).length ((po ++ [bits .xor .u8 0 92]).map (Value.int .u8)) := by simpa [hmo] using ho3
          have hb3 : Below W0.heap.size W0 w3 := (hb2.alloc hb2.size _).grown hg3 (by have := hb2.size; simp; omega) (fun k hk => (hlt3 k hk).1)
          have ho2'' := owns_keepB ho2' (fun k hk => (hg3.block k (by have := (hlt4 k hk).2; simp; omega) (fun e => hs2 k hk e.symm)).trans (heap_alloc_old _ _ (hlt4 k hk).2))
          have hs3 : ∀ g, vi2.ownBlock = some g → vo3.ownBlock ≠ some g := by
            intro g hg e
            rcases hw3 with h | h
            · exact hs2 g hg (h ▸ e)
            · have h1 := (hlt4 g hg).2
              rw [h] at e
              simp at e
              omega
          clear ho3 hg3 hw3 ho2' howo2 howo hlti2 hlto2 hlt3 hlt4 hb2 hbel hne hs2
          go_wp2
          go_roundw
          case rel => exact ⟨k + 1, by omega, by go_num, by rw [HTI.out]; exact ho2'', by rw [HTO.out]; exact ho3', hs3, hb3⟩
          case measure => simp [intOf]; omega
      · have hlti : ¬ (k : Int) < 64 := by omega
        have HK : Hid (F.take k = F) := by unfold Hid; exact List.take_of_length_le (by rw [HLF.out]; omega)
        rw [HK.out] at howi howo
        have lmi := markL_length F 54
        have lmo := markL_length F 92
        rw [HLF.out] at lmi lmo
        have si := Sl.ofOwns howi (by omega) (markL_byte HBF.out (by omega))
        have so := Sl.ofOwns howo (by omega) (markL_byte HBF.out (by omega))
        have d1 : Below w.heap.size w wr := B0.trans (hbel.mono B0.size)
        generalize markL F 54 = MI at si lmi HMC
        generalize markL F 92 = MO at so lmo HMC
        clear howi howo hne
        go_wp2_with fail
        refine (ref_joined _ _ MI b wr si (sb0.below hbel) (by omega) (by omega)).mono ?_
        rintro e w2 ⟨v2, rfl, ho2, c2⟩
        have ld1 : (MI ++ b).length ≤ 10000 := by rw [List.length_append]; omega
        have s2 := Sl.ofOwns ho2 (by omega) (fun x hx => (List.mem_append.1 hx).elim (si.byte x) (hb.byte x))
        have d2 : Below w.heap.size w w2 := d1.trans (c2.mono d1.size)
        go_wp2_with fail
        refine (digested_any v2 (MI ++ b) w2 s2 ld1).mono ?_
        rintro e w3 ⟨v3, rfl, ho3, c3⟩
        have ld := dig_length (MI ++ b)
        have s3 := Sl.ofOwns ho3 (by rw [ld]; omega) (dig_byte _)
        have d3 : Below w.heap.size w w3 := d2.trans (c3.mono d2.size)
        generalize dig (MI ++ b) = DI at ld s3 HMC
        go_wp2_with fail
        refine (ref_joined _ v3 MO DI w3 ((so.below c2).below c3) s3 (by omega) (by omega)).mono ?_
        rintro e w4 ⟨v4, rfl, ho4, c4⟩
        have s4 := Sl.ofOwns ho4 (by rw [List.length_append]; omega) (fun x hx => (List.mem_append.1 hx).elim (so.byte x) (s3.byte x))
        have d4 : Below w.heap.size w w4 := d3.trans (c4.mono d3.size)
        go_wp2_with fail
        refine (digested_any v4 (MO ++ DI) w4 s4 (by rw [List.length_append]; omega)).mono ?_
        rintro e w5 ⟨v5, rfl, ho5, c5⟩
        go_wp2
        go_ret
        refine ⟨v5, rfl, ?_, d4.trans (c5.mono d4.size)⟩
        rw [HMC.out]
        exact owns_lower ho5 d4.size
  · have hLi : ¬ (64 : Int) < (key.length : Int) := by omega
    have B0 : Below w.heap.size w w := Below.refl _ _
    have HKK : Hid (keyOf key = key) := by unfold Hid keyOf; rw [if_neg hL]
    obtain ⟨nk, hnk⟩ : ∃ nk, key.length = nk := ⟨_, rfl⟩
    have HNK : Hid (key.length = nk) := hnk
    have sK := hk
    have hnk64 : nk ≤ 64 := by omega
    rw [hnk] at sK hLi ⊢
    clear hnk
    have sb0 := hb.below B0
    have lF : (fillTo key 64).length = 64 := fillTo_length key 64 (by rw [HNK.out]; omega)
    have bF := fillTo_byte sK.byte 64
    have HF1 : Hid (∀ k, k < nk → (fillTo key 64).getD k 0 = key.getD k 0) := fun k hk => by
      unfold fillTo
      simp [List.getD, List.getElem?_append_left (show k < key.length by rw [HNK.out]; exact hk)]
    have HF2 : Hid (∀ k, nk ≤ k → k < 64 → (fillTo key 64).getD k 0 = 0) := fun k hk hk2 => by
      unfold fillTo
      rw [List.getD, List.getElem?_append_right (by rw [HNK.out]; exact hk), List.getElem?_replicate]
      split <;> rfl
    have HMC : Hid (macL key b = dig (markL (fillTo key 64) 92 ++ dig (markL (fillTo key 64) 54 ++ b))) := by
      unfold Hid macL fk
      rw [HKK.out]
    generalize fillTo key 64 = F at lF bF HF1 HF2 HMC
    have HLF : Hid (F.length = 64) := lF
    have HBF : Hid (∀ x ∈ F, 0 ≤ x ∧ x < 256) := bF
    clear lF bF
    go_wp2_with fail
    go_loopw [5, 6, 7] (fun vi vo i wr => ∃ k : Nat, k ≤ 64 ∧ i = .int .i64 k ∧ wr.ownsRow w.heap.size 5 1 vi (markL (F.take k) 54).length ((markL (F.take k) 54).map (Value.int .u8)) ∧ wr.ownsRow w.heap.size 5 1 vo (markL (F.take k) 92).length ((markL (F.take k) 92).map (Value.int .u8)) ∧ (∀ g, vi.ownBlock = some g → vo.ownBlock ≠ some g) ∧ Below w.heap.size w wr) (fun _ _ i _ => 64 - (intOf i).toNat)
    case atStart => exact ⟨0, by omega, rfl, World.ownsRow_nil _ _ _ _, World.ownsRow_nil _ _ _ _, by simp [Value.ownBlock], Below.refl _ _⟩
    case round =>
      obtain ⟨k, hk64, rfl, howi, howo, hne, hbel⟩ := hrel
      by_cases hlt : k < 64
      · have hlti : (k : Int) < 64 := by omega
        have y2 := getD_byte HBF.out k
        have HTI : Hid _ := markL_snoc F k 54 (by rw [HLF.out]; exact hlt)
        have HTO : Hid _ := markL_snoc F k 92 (by rw [HLF.out]; exact hlt)
        have hmi : (markL (F.take k) 54).length = k := by rw [markL_length, List.length_take, HLF.out]; omega
        have hmo : (markL (F.take k) 92).length = k := by rw [markL_length, List.length_take, HLF.out]; omega
        have zi := xor_byteB y2 (m := 54) (by omega)
        have zo := xor_byteB y2 (m := 92) (by omega)
        have HZI : Hid _ := zi
        have HZO : Hid _ := zo
        clear zi zo
        generalize markL (F.take k) 54 = pi at howi HTI hmi
        generalize markL (F.take k) 92 = po at howo HTO hmo
        by_cases hkn : k < nk
        · have hkni : (k : Int) < (nk : Int) := by omega
          obtain ⟨bd, od, rfl, hbd, hcd2⟩ := sK.spot k (by rw [HNK.out]; exact hkn)
          rw [← HF1.out k hkn] at hcd2
          have cd := (hbel.cell (p := ⟨bd, od + k, none⟩) hbd).trans hcd2
          generalize F.getD k 0 = y at cd y2 HTI HTO HZI HZO
          have hlti2 := howi.lt
          have hlto2 := howo.lt
          go_wp2_with (at_builtin; refine wpList_append_atB _ rfl _ _ 26 rfl w.heap.size 5 Tryz.underlying26 info5 _ _ rfl rfl pi [bits .xor .u8 y 54] (howi.alloc _) (Sl.one2B _ _ _ _ rfl HZI.out (by first | rfl | decide)) (by rw [hmi]; simp; omega) (by have := hbel.size; simp; omega) ?_)
          intro vi2 w2 ho2 hg2 hw2
          have ho2' : w2.ownsRow w.heap.size 5 1 vi2 (pi ++ [bits .xor .u8 y 54]).length ((pi ++ [bits .xor .u8 y 54]).map (Value.int .u8)) := by simpa [hmi] using ho2
          have hb2 : Below w.heap.size w w2 := (hbel.alloc hbel.size _).grown hg2 (by have := hbel.size; simp; omega) (fun k hk => (hlti2 k hk).1)
          have howo2 := owns_keepB howo (fun k hk => (hg2.block k (by have := (hlto2 k hk).2; simp; omega) (fun e => hne k e.symm hk)).trans (heap_alloc_old _ _ (hlto2 k hk).2))
          have hs2 : ∀ g, vi2.ownBlock = some g → u6.ownBlock ≠ some g := by
            intro g hg e
            rcases hw2 with h | h
            · exact hne g (h ▸ hg) e
            · have h1 := (hlto2 g e).2
              rw [h] at hg
              simp at hg
              omega
          clear ho2 hg2 hw2 howi
          go_wp2_with (at_builtin; refine wpList_append_atB _ rfl _ _ 26 rfl w.heap.size 5 Tryz.underlying26 info5 _ _ rfl rfl po [bits .xor .u8 y 92] (howo2.alloc _) (Sl.one2B _ _ _ _ rfl HZO.out (by first | rfl | decide)) (by rw [hmo]; simp; omega) (by have := hb2.size; simp; omega) ?_)
          intro vo3 w3 ho3 hg3 hw3
          have hlt3 := howo2.lt
          have hlt4 := ho2'.lt
          have ho3' : w3.ownsRow w.heap.size 5 1 vo3 (po ++ [bits .xor .u8 y 92]).length ((po ++ [bits .xor .u8 y 92]).map (Value.int .u8)) := by simpa [hmo] using ho3
          have hb3 : Below w.heap.size w w3 := (hb2.alloc hb2.size _).grown hg3 (by have := hb2.size; simp; omega) (fun k hk => (hlt3 k hk).1)
          have ho2'' := owns_keepB ho2' (fun k hk => (hg3.block k (by have := (hlt4 k hk).2; simp; omega) (fun e => hs2 k hk e.symm)).trans (heap_alloc_old _ _ (hlt4 k hk).2))
          have hs3 : ∀ g, vi2.ownBlock = some g → vo3.ownBlock ≠ some g := by
            intro g hg e
            rcases hw3 with h | h
            · exact hs2 g hg (h ▸ e)
            · have h1 := (hlt4 g hg).2
              rw [h] at e
              simp at e
              omega
          clear ho3 hg3 hw3 ho2' howo2 howo hlti2 hlto2 hlt3 hlt4 hb2 hbel hne hs2
          go_wp2
          go_roundw
          case rel => exact ⟨k + 1, by omega, by go_num, by rw [HTI.out]; exact ho2'', by rw [HTO.out]; exact ho3', hs3, hb3⟩
          case measure => simp [intOf]; omega
        · have hkni : ¬ (k : Int) < (nk : Int) := by omega
          have HY0 : Hid (F.getD k 0 = 0) := HF2.out k (by omega) hlt
          rw [HY0.out] at HTI HTO HZI HZO
          have hlti2 := howi.lt
          have hlto2 := howo.lt
          go_wp2_with (at_builtin; refine wpList_append_atB _ rfl _ _ 26 rfl w.heap.size 5 Tryz.underlying26 info5 _ _ rfl rfl pi [bits .xor .u8 0 54] (howi.alloc _) (Sl.one2B _ _ _ _ rfl HZI.out (by first | rfl | decide)) (by rw [hmi]; simp; omega) (by have := hbel.size; simp; omega) ?_)
          intro vi2 w2 ho2 hg2 hw2
          have ho2' : w2.ownsRow w.heap.size 5 1 vi2 (pi ++ [bits .xor .u8 0 54]).length ((pi ++ [bits .xor .u8 0 54]).map (Value.int .u8)) := by simpa [hmi] using ho2
          have hb2 : Below w.heap.size w w2 := (hbel.alloc hbel.size _).grown hg2 (by have := hbel.size; simp; omega) (fun k hk => (hlti2 k hk).1)
          have howo2 := owns_keepB howo (fun k hk => (hg2.block k (by have := (hlto2 k hk).2; simp; omega) (fun e => hne k e.symm hk)).trans (heap_alloc_old _ _ (hlto2 k hk).2))
          have hs2 : ∀ g, vi2.ownBlock = some g → u6.ownBlock ≠ some g := by
            intro g hg e
            rcases hw2 with h | h
            · exact hne g (h ▸ hg) e
            · have h1 := (hlto2 g e).2
              rw [h] at hg
              simp at hg
              omega
          clear ho2 hg2 hw2 howi
          go_wp2_with (at_builtin; refine wpList_append_atB _ rfl _ _ 26 rfl w.heap.size 5 Tryz.underlying26 info5 _ _ rfl rfl po [bits .xor .u8 0 92] (howo2.alloc _) (Sl.one2B _ _ _ _ rfl HZO.out (by first | rfl | decide)) (by rw [hmo]; simp; omega) (by have := hb2.size; simp; omega) ?_)
          intro vo3 w3 ho3 hg3 hw3
          have hlt3 := howo2.lt
          have hlt4 := ho2'.lt
          have ho3' : w3.ownsRow w.heap.size 5 1 vo3 (po ++ [bits .xor .u8 0 92]).length ((po ++ [bits .xor .u8 0 92]).map (Value.int .u8)) := by simpa [hmo] using ho3
          have hb3 : Below w.heap.size w w3 := (hb2.alloc hb2.size _).grown hg3 (by have := hb2.size; simp; omega) (fun k hk => (hlt3 k hk).1)
          have ho2'' := owns_keepB ho2' (fun k hk => (hg3.block k (by have := (hlt4 k hk).2; simp; omega) (fun e => hs2 k hk e.symm)).trans (heap_alloc_old _ _ (hlt4 k hk).2))
          have hs3 : ∀ g, vi2.ownBlock = some g → vo3.ownBlock ≠ some g := by
            intro g hg e
            rcases hw3 with h | h
            · exact hs2 g hg (h ▸ e)
            · have h1 := (hlt4 g hg).2
              rw [h] at e
              simp at e
              omega
          clear ho3 hg3 hw3 ho2' howo2 howo hlti2 hlto2 hlt3 hlt4 hb2 hbel hne hs2
          go_wp2
          go_roundw
          case rel => exact ⟨k + 1, by omega, by go_num, by rw [HTI.out]; exact ho2'', by rw [HTO.out]; exact ho3', hs3, hb3⟩
          case measure => simp [intOf]; omega
      · have hlti : ¬ (k : Int) < 64 := by omega
        have HK : Hid (F.take k = F) := by unfold Hid; exact List.take_of_length_le (by rw [HLF.out]; omega)
        rw [HK.out] at howi howo
        have lmi := markL_length F 54
        have lmo := markL_length F 92
        rw [HLF.out] at lmi lmo
        have si := Sl.ofOwns howi (by omega) (markL_byte HBF.out (by omega))
        have so := Sl.ofOwns howo (by omega) (markL_byte HBF.out (by omega))
        have d1 : Below w.heap.size w wr := B0.trans (hbel.mono B0.size)
        generalize markL F 54 = MI at si lmi HMC
        generalize markL F 92 = MO at so lmo HMC
        clear howi howo hne
        go_wp2_with fail
        refine (ref_joined _ _ MI b wr si (sb0.below hbel) (by omega) (by omega)).mono ?_
        rintro e w2 ⟨v2, rfl, ho2, c2⟩
        have ld1 : (MI ++ b).length ≤ 10000 := by rw [List.length_append]; omega
        have s2 := Sl.ofOwns ho2 (by omega) (fun x hx => (List.mem_append.1 hx).elim (si.byte x) (hb.byte x))
        have d2 : Below w.heap.size w w2 := d1.trans (c2.mono d1.size)
        go_wp2_with fail
        refine (digested_any v2 (MI ++ b) w2 s2 ld1).mono ?_
        rintro e w3 ⟨v3, rfl, ho3, c3⟩
        have ld := dig_length (MI ++ b)
        have s3 := Sl.ofOwns ho3 (by rw [ld]; omega) (dig_byte _)
        have d3 : Below w.heap.size w w3 := d2.trans (c3.mono d2.size)
        generalize dig (MI ++ b) = DI at ld s3 HMC
        go_wp2_with fail
        refine (ref_joined _ v3 MO DI w3 ((so.below c2).below c3) s3 (by omega) (by omega)).mono ?_
        rintro e w4 ⟨v4, rfl, ho4, c4⟩
        have s4 := Sl.ofOwns ho4 (by rw [List.length_append]; omega) (fun x hx => (List.mem_append.1 hx).elim (so.byte x) (s3.byte x))
        have d4 : Below w.heap.size w w4 := d3.trans (c4.mono d3.size)
        go_wp2_with fail
        refine (digested_any v4 (MO ++ DI) w4 s4 (by rw [List.length_append]; omega)).mono ?_
        rintro e w5 ⟨v5, rfl, ho5, c5⟩
        go_wp2
        go_ret
        refine ⟨v5, rfl, ?_, d4.trans (c5.mono d4.size)⟩
        rw [HMC.out]
        exact owns_lower ho5 d4.size
end Go.Proofs.YtakgfdbjgeopdaaGreatDoor
