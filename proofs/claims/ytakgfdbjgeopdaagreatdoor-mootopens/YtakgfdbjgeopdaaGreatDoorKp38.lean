/-
  The walk of the document's number modulo 2^130 - 5.
-/
import Derived.Test.YtakgfdbjgeopdaaGreatDoorKp36
import Derived.Test.YtakgfdbjgeopdaaGreatDoorKp37
import Derived.Test.YtakgfdbjgeopdaaGreatDoorKp16
namespace Go.Proofs.YtakgfdbjgeopdaaGreatDoor
open Go.RowKit

/-- how great the number is after so many turns -/
def Bnd : Nat → Int → Prop
  | 0, V => V < 1942668892225729070919461906823518906642406839052139521251812409738904285205208498176
  | 1, V => V < 11417981541647679048466287755595961091061972992
  | 2, V => V < 1361129467683753853853498429727072845824 + 67108864
  | _, V => V < 1361129467683753853853498429727072845824
theorem Bnd.succ {t : Nat} {V lo hi : Int} (h : Bnd t V) (hs : lo + 1361129467683753853853498429727072845824 * hi = V) (h0 : 0 ≤ lo) (h1 : lo < 1361129467683753853853498429727072845824) (h2 : 0 ≤ hi) : Bnd (t + 1) (lo + hi * 5) ∧ (lo + hi * 5) % pp = V % pp := by
  refine ⟨?_, ?_⟩
  · match t with
    | 0 =>
      have h : V < 1942668892225729070919461906823518906642406839052139521251812409738904285205208498176 := h
      show lo + hi * 5 < 11417981541647679048466287755595961091061972992
      omega
    | 1 =>
      have h : V < 11417981541647679048466287755595961091061972992 := h
      show lo + hi * 5 < 1361129467683753853853498429727072845824 + 67108864
      omega
    | 2 =>
      have h : V < 1361129467683753853853498429727072845824 + 67108864 := h
      show lo + hi * 5 < 1361129467683753853853498429727072845824
      have : hi ≤ 1 := by omega
      omega
    | t + 3 =>
      have h : V < 1361129467683753853853498429727072845824 := h
      show lo + hi * 5 < 1361129467683753853853498429727072845824
      have : hi = 0 := by omega
      omega
  · rw [← hs, show lo + 1361129467683753853853498429727072845824 * hi = lo + hi * 5 + pp * hi by unfold pp; omega, Int.add_mul_emod_self_left]

set_option maxHeartbeats 2000000 in
set_option maxRecDepth 100000 in
theorem red_any (va : Value) (a : List Int) (w : World) (ha : Dl w va a) (la : a.length ≤ 100) (hV : Bnd 0 (leN a)) :
    Calls Tryz.prog 194 #[va, .int .i64 130, .int .i64 5] w fun e w' => ∃ v', e = .returned v' ∧ ∃ r, Dl w' v' r ∧ leN r = leN a % pp ∧ r.length ≤ 48 ∧ Below w.heap.size w w' := by
  go_enter Tryz.func194, Tryz.ntmps194
  go_wp2_with fail
  go_loopw [0, 7] (fun av tv wr => ∃ (t : Nat) (d : List Int), t ≤ 4 ∧ tv = .int .i64 t ∧ Dl wr av d ∧ leN d % pp = leN a % pp ∧ Bnd t (leN d) ∧ d.length + 13 * t ≤ 100 ∧ Below w.heap.size w wr) (fun _ tv _ => 4 - (intOf tv).toNat)
  case atStart => exact ⟨0, a, by omega, rfl, ha, rfl, hV, by omega, Below.refl _ _⟩
  case round =>
    clear ha
    obtain ⟨t, d, ht, rfl, hd, hv, hB, hlen, hbel⟩ := hrel
    have hcs := cut_sum hd.dig
    obtain ⟨q1, q2, q3, q4⟩ := hcs
    have hll := loK_len d d.length
    have hhl := hiK_len d d.length
    by_cases ht4 : t < 4
    · have hti : (t : Int) < 4 := by omega
      have HN := hB.succ q1 q2 q3 q4
      obtain ⟨HB1, HM1⟩ := HN
      have HB1 : Hid (Bnd (t + 1) (leN (loK d d.length) + leN (hiK d d.length) * 5)) := HB1
      have HM1 : Hid ((leN (loK d d.length) + leN (hiK d d.length) * 5) % pp = leN d % pp) := HM1
      clear q1 q2 q3 q4 hB
      go_wp2_with fail
      refine (dcut_any _ d wr hd (by omega)).mono ?_
      rintro e w2 ⟨vl, vh, rfl, sl, sh, b2⟩
      generalize loK d d.length = L at sl HB1 HM1 hll
      generalize hiK d d.length = H at sh HB1 HM1 hhl
      have B2 : Below w.heap.size w w2 := hbel.trans (b2.mono hbel.size)
      clear hd
      go_wp2_with fail
      have bA : Below w2.heap.size w2 (w2.alloc (.cells #[.int .i64 5] 3)) := (Below.refl _ _).alloc (Nat.le_refl _) _
      refine (times_digits vh _ H [5] _ (sh.below bA) (Dl.one w2 5 3 rfl (by omega)) (by omega) (by simp)).mono ?_
      rintro e w3 ⟨vm, rfl, M, sm, vM, lM, b3⟩
      have C3 : Below w2.heap.size w2 w3 := bA.trans (b3.mono bA.size)
      have B3 : Below w.heap.size w w3 := B2.trans (C3.mono B2.size)
      have lM2 : M.length = H.length + 2 := by rw [lM]; simp
      rw [leN_one] at vM
      clear bA b3 lM
      go_wp2_with fail
      refine (added_any vl vm L M w3 (sl.below C3) sm (by omega) (by omega)).mono ?_
      rintro e w4 ⟨v4, rfl, R, sr, vR, lR, b4⟩
      rw [vM] at vR
      have B4 : Below w.heap.size w w4 := B3.trans (b4.mono B3.size)
      have HLR : Hid (R.length + 13 * (t + 1) ≤ 100) := by unfold Hid; omega
      rw [← vR] at HB1 HM1
      clear vM vR lR lM2 hlen hll hhl sl sh sm b4 C3 B3 B2 b2
      go_wp2
      go_roundw
      case rel => exact ⟨t + 1, R, by omega, by go_num, sr, HM1.out.trans hv, HB1.out, HLR.out, B4⟩
      case measure => simp [intOf]; omega
    · have hti : ¬ (t : Int) < 4 := by omega
      have HT : Hid (t = 4) := by unfold Hid; omega
      have HB4 : Hid (leN d < 1361129467683753853853498429727072845824) := by
        have h := hB
        rw [HT.out] at h
        exact h
      have HL48 : Hid (d.length ≤ 48) := by unfold Hid; omega
      have HD0 : Hid (0 ≤ leN d) := hd.dig.nonneg
      have hl48 : d.length ≤ 48 := HL48.out
      clear hB hlen q1 q2 q3 q4 hll hhl
      go_wp2_with fail
      have bA : Below wr.heap.size wr (wr.alloc (.cells #[.int .i64 5] 3)) := (Below.refl _ _).alloc (Nat.le_refl _) _
      refine (added_any _ _ d [5] _ (hd.below bA) (Dl.one wr 5 3 rfl (by omega)) (by omega) (by simp)).mono ?_
      rintro e w2 ⟨vu, rfl, U, su, vU, lU, b2⟩
      have C2 : Below wr.heap.size wr w2 := bA.trans (b2.mono bA.size)
      rw [leN_one] at vU
      have lU2 : U.length ≤ 100 := by simp at lU; omega
      clear bA b2 lU
      have hcs := cut_sum su.dig
      obtain ⟨q1, q2, q3, q4⟩ := hcs
      have hll := loK_len U U.length
      have hhl := hiK_len U U.length
      go_wp2_with fail
      refine (dcut_any _ U w2 su (by omega)).mono ?_
      rintro e w3 ⟨vl, vh, rfl, sl, sh, b3⟩
      generalize loK U U.length = L at sl hll q1 q2 q3
      generalize hiK U U.length = H at sh hhl q1 q4
      have C3 : Below wr.heap.size wr w3 := C2.trans (b3.mono C2.size)
      have B3 : Below w.heap.size w w3 := hbel.trans (C3.mono hbel.size)
      go_wp2_with fail
      refine (no_digits vh H w3 sh (by omega)).mono ?_
      rintro e w4 ⟨rfl, rfl⟩
      by_cases hH : leN H = 0
      · rw [decide_eq_true hH]
        have HV : Hid (leN d = leN a % pp) := by
          have h1 := HB4.out
          have h2 := HD0.out
          unfold Hid
          rw [← hv]
          refine (Int.emod_eq_of_lt h2 ?_).symm
          unfold pp
          omega
        have sd := hd.below C3
        clear q1 q2 q3 q4 hH sl sh su vU
        go_wp2
        go_ret
        exact ⟨_, rfl, d, sd, HV.out, HL48.out, B3⟩
      · rw [decide_eq_false hH]
        have HV : Hid (leN L = leN a % pp) := by
          have h1 := HB4.out
          have h2 := HD0.out
          unfold Hid
          rw [← hv]
          have h3 : leN L = leN d - pp := by unfold pp; omega
          rw [h3, ← Int.emod_eq_of_lt (a := leN d - pp) (b := pp) (by unfold pp at *; omega) (by unfold pp at *; omega), Int.sub_emod_right]
        have HLL : Hid (L.length ≤ 48) := by unfold Hid; omega
        clear q1 q2 q3 q4 hH sh su vU
        go_wp2
        go_ret
        exact ⟨_, rfl, L, sl, HV.out, HLL.out, B3⟩
end Go.Proofs.YtakgfdbjgeopdaaGreatDoor
/-
  The walk of the document's tag.
-/
namespace Go.Proofs.YtakgfdbjgeopdaaGreatDoor
open Go.RowKit

set_option maxRecDepth 100000 in
theorem Sl.between {w : World} {a : Option Addr} {n cap : Nat} {l : List Int} (h : Sl w (.slice a n cap) l) (lo hi : Nat) (hlo : lo ≤ hi) (hhi : hi ≤ l.length) (li hj : Int) (hli : li = (lo : Int)) (hhj : hj = (hi : Int)) :
    ∃ a' n' c', (∀ W, (Instr.slice 26 (.slice a n cap) (some (.int .i64 li)) (some (.int .i64 hj)) none).run Tryz.prog W = .ok (.slice a' n' c') W) ∧ Sl w (.slice a' n' c') ((l.take hi).drop lo) := by
  subst hli
  subst hhj
  have hw := h.window lo hi hlo hhi
  obtain ⟨⟨a', cap', e, hc, hn, h1⟩, hla, hba⟩ := h
  simp only [Value.slice.injEq] at e
  obtain ⟨rfl, rfl, rfl⟩ := e
  refine ⟨_, hi - lo, _, fun W => ?_, by simpa [sliced] using hw⟩
  rw [run_slice_lh (P := Tryz.prog) W 26 a _ cap Tryz.underlying26 .i64 .i64 _ _ (by omega) (by omega) (by omega)]
  have e : Tryz.prog.elem 26 = 5 := by kernel_rfl
  rw [e, size5w]
  simp [Result.andThen, sliced]

theorem byteN_leN {l : List Int} (h : Digs l) (k : Nat) : byteN (leN l) k = l.getD k 0 := by
  have h1 := carP_byte (fun j => l.getD j 0) (max l.length (k + 1)) k (by omega)
  rw [sumP_leP, leP_past _ (by omega)] at h1
  rw [← h1]
  have hb := h.get k
  have hc : carP (fun j => l.getD j 0) k = 0 := by
    unfold carP
    rw [sumP_leP]
    have := leP_bound h k
    exact Int.ediv_eq_zero_of_lt this.1 this.2
  simp only [hc]
  omega
theorem takeP_snoc (l : List Int) (k : Nat) (h : k < l.length) : l.take (k + 1) = l.take k ++ [l.getD k 0] := by
  rw [List.take_succ_eq_append_getElem h, getD_at h]
theorem prod_bnd {A p R : Int} (h1 : 0 ≤ A) (h2 : A < pp) (h3 : 0 ≤ p) (h4 : p < 87112285931760246646623899502532662132736) (h5 : 0 ≤ R) (h6 : R < 340282366920938463463374607431768211456) : Bnd 0 ((A + p) * R) := by
  show (A + p) * R < _
  have h7 : (A + p) * R ≤ (pp + 87112285931760246646623899502532662132736) * 340282366920938463463374607431768211456 := Int.mul_le_mul (by omega) (by omega) h5 (by unfold pp; omega)
  have h8 : (pp + 87112285931760246646623899502532662132736) * 340282366920938463463374607431768211456 < 1942668892225729070919461906823518906642406839052139521251812409738904285205208498176 := by unfold pp; decide
  omega

set_option maxHeartbeats 4000000 in
set_option maxRecDepth 100000 in
theorem tagged_any (vk vd : Value) (key data : List Int) (w : World) (hk : Sl w vk key) (hd : Sl w vd data) (lk : key.length = 32) (ld : data.length ≤ 4000) :
    Calls Tryz.prog 144 #[vk, vd] w fun e w' => ∃ v', e = .returned v' ∧ Sl w' v' (tagL key data) ∧ Below w.heap.size w w' := by
  obtain ⟨ak, ck, rfl⟩ := hk.aShape
  obtain ⟨ad, cd, rfl⟩ := hd.aShape
  have hke : ∃ B off, ak = some ⟨B, off, none⟩ ∧ B < w.heap.size ∧ ∀ i, i < 32 → w.cell? ⟨B, off + i, none⟩ = some (.int .u8 (key.getD i 0)) := by
    obtain ⟨⟨a, c, e, hc, _, h1⟩, _, _⟩ := hk
    simp only [Value.slice.injEq] at e
    obtain ⟨rfl, _, rfl⟩ := e
    rcases h1 with rfl | ⟨B, off, rfl, hb, hcell⟩
    · simp at lk
    · exact ⟨B, off, rfl, hb, fun i hi => hcell i (by omega)⟩
  obtain ⟨B, off, rfl, hB, hcell⟩ := hke
  have HCK : Hid (∀ i, i < 32 → w.cell? ⟨B, off + i, none⟩ = some (.int .u8 (key.getD i 0))) := hcell
  have HYK : Hid (∀ x ∈ key, 0 ≤ x ∧ x < 256) := hk.byte
  have hck : 32 ≤ ck := by obtain ⟨⟨_, _, e, hc, _⟩, _⟩ := hk; simp only [Value.slice.injEq] at e; obtain ⟨_, _, rfl⟩ := e; omega
  have HSK : Hid _ := hk
  have HSD : Hid _ := hd
  have HLK : Hid (key.length = 32) := lk
  rw [lk] at HSK ⊢
  obtain ⟨C, hC⟩ : ∃ C, C = clampL (key.take 16) := ⟨_, rfl⟩
  have lC : C.length = 16 := by rw [hC]; exact clampL_length _
  have HC : Hid (∀ k, k < 16 → C.getD k 0 = clampAt k (key.getD k 0)) := fun k h => by rw [hC, clampL_get _ _ h, getD_taken _ _ _ h]
  have HDC : Hid (Digs C) := by rw [hC]; exact clampL_byte (fun x hx => hk.byte x (List.mem_of_mem_take hx))
  have HTG : Hid (tagL key data = leB 16 (accN (leN C) data + leN (key.drop 16))) := by rw [hC]; rfl
  clear hcell hk hd lk hC
  go_enter Tryz.func144, Tryz.ntmps144
  go_wp2_with fail
  go_loopw [5, 6] (fun rv iv wr => ∃ (k : Nat), k ≤ 16 ∧ iv = .int .i64 k ∧ wr.ownsRow w.heap.size 3 1 rv (C.take k).length ((C.take k).map (Value.int .i64)) ∧ Below w.heap.size w wr) (fun _ iv _ => 16 - (intOf iv).toNat)
  case atStart => exact ⟨0, by omega, rfl, by simpa using World.ownsRow_nil _ _ _ _, Below.refl _ _⟩
  case round =>
    obtain ⟨k, hk, rfl, hown, hbel⟩ := hrel
    have hlt := hown.lt
    by_cases hk16 : k < 16
    · have hki : (k : Int) < 16 := by omega
      have ca := (hbel.cell (p := ⟨B, off + k, none⟩) hB).trans (HCK.out k (by omega))
      have HS : Hid (C.take (k + 1) = C.take k ++ [clampAt k (key.getD k 0)]) := by
        unfold Hid
        rw [takeP_snoc C k (by omega), HC.out k hk16]
      have b1 := getD_byte HYK.out k
      have hpl : (C.take k).length = k := by rw [List.length_take]; omega
      generalize key.getD k 0 = x at ca HS b1
      generalize C.take k = r at hown HS hpl
      obtain ⟨x1, x2⟩ := b1
      by_cases h3 : k % 4 = 3
      · have h3i : (k : Int) % 4 = 3 := by omega
        have HS2 : Hid (C.take (k + 1) = r ++ [x % 16]) := by
          unfold Hid
          rw [HS.out, clampAt, if_pos h3]
        clear HS h3
        go_wp2_with (at_builtin; refine wpList_append_digit _ rfl _ _ rfl w.heap.size _ r wr.heap.size (x % 16) rfl rfl (hown.alloc _) (by simp) (by omega) (by have := hbel.size; simp; omega) ?_)
        intro v2 w2 ho2 hg2
        have hb2 : Below w.heap.size w w2 := (hbel.alloc hbel.size _).grown hg2 (by have := hbel.size; simp; omega) (fun k hk => (hlt k hk).1)
        have HO2 : Hid (w2.ownsRow w.heap.size 3 1 v2 (r ++ [x % 16]).length ((r ++ [x % 16]).map (Value.int .i64))) := by
          unfold Hid
          simpa [hpl] using ho2
        clear ho2 hg2 hown hlt hbel ca
        go_wp2
        go_roundw
        case rel => exact ⟨k + 1, by omega, by go_num, by rw [HS2.out]; exact HO2.out, hb2⟩
        case measure => simp [intOf]; omega
      · have h3i : ¬ (k : Int) % 4 = 3 := by omega
        by_cases h0 : k % 4 = 0 ∧ 0 < k
        · have h0i : (k : Int) % 4 = 0 := by omega
          have hpi : (0 : Int) < (k : Int) := by omega
          have HS2 : Hid (C.take (k + 1) = r ++ [x / 4 * 4]) := by
            unfold Hid
            rw [HS.out, clampAt, if_neg h3, if_pos h0]
          clear HS
          go_wp2_with (at_builtin; refine wpList_append_digit _ rfl _ _ rfl w.heap.size _ r wr.heap.size (x / 4 * 4) rfl rfl (hown.alloc _) (by simp) (by omega) (by have := hbel.size; simp; omega) ?_)
          intro v2 w2 ho2 hg2
          have hb2 : Below w.heap.size w w2 := (hbel.alloc hbel.size _).grown hg2 (by have := hbel.size; simp; omega) (fun k hk => (hlt k hk).1)
          have HO2 : Hid (w2.ownsRow w.heap.size 3 1 v2 (r ++ [x / 4 * 4]).length ((r ++ [x / 4 * 4]).map (Value.int .i64))) := by
            unfold Hid
            simpa [hpl] using ho2
          clear ho2 hg2 hown hlt hbel ca
          go_wp2
          go_roundw
          case rel => exact ⟨k + 1, by omega, by go_num, by rw [HS2.out]; exact HO2.out, hb2⟩
          case measure => simp [intOf]; omega
        · by_cases h4 : k % 4 = 0
          · have h0i : (k : Int) % 4 = 0 := by omega
            have hpi : ¬ (0 : Int) < (k : Int) := by omega
            have HS2 : Hid (C.take (k + 1) = r ++ [x]) := by
              unfold Hid
              rw [HS.out, clampAt, if_neg h3, if_neg h0]
            clear HS
            go_wp2_with (at_builtin; refine wpList_append_digit _ rfl _ _ rfl w.heap.size _ r wr.heap.size (x) rfl rfl (hown.alloc _) (by simp) (by omega) (by have := hbel.size; simp; omega) ?_)
            intro v2 w2 ho2 hg2
            have hb2 : Below w.heap.size w w2 := (hbel.alloc hbel.size _).grown hg2 (by have := hbel.size; simp; omega) (fun k hk => (hlt k hk).1)
            have HO2 : Hid (w2.ownsRow w.heap.size 3 1 v2 (r ++ [x]).length ((r ++ [x]).map (Value.int .i64))) := by
              unfold Hid
              simpa [hpl] using ho2
            clear ho2 hg2 hown hlt hbel ca
            go_wp2
            go_roundw
            case rel => exact ⟨k + 1, by omega, by go_num, by rw [HS2.out]; exact HO2.out, hb2⟩
            case measure => simp [intOf]; omega
          · have h0i : ¬ (k : Int) % 4 = 0 := by omega
            have HS2 : Hid (C.take (k + 1) = r ++ [x]) := by
              unfold Hid
              rw [HS.out, clampAt, if_neg h3, if_neg h0]
            clear HS
            go_wp2_with (at_builtin; refine wpList_append_digit _ rfl _ _ rfl w.heap.size _ r wr.heap.size (x) rfl rfl (hown.alloc _) (by simp) (by omega) (by have := hbel.size; simp; omega) ?_)
            intro v2 w2 ho2 hg2
            have hb2 : Below w.heap.size w w2 := (hbel.alloc hbel.size _).grown hg2 (by have := hbel.size; simp; omega) (fun k hk => (hlt k hk).1)
            have HO2 : Hid (w2.ownsRow w.heap.size 3 1 v2 (r ++ [x]).length ((r ++ [x]).map (Value.int .i64))) := by
              unfold Hid
              simpa [hpl] using ho2
            clear ho2 hg2 hown hlt hbel ca
            go_wp2
            go_roundw
            case rel => exact ⟨k + 1, by omega, by go_num, by rw [HS2.out]; exact HO2.out, hb2⟩
            case measure => simp [intOf]; omega
    · have hki : ¬ (k : Int) < 16 := by omega
      have HCT : Hid (C.take k = C) := by unfold Hid; exact List.take_of_length_le (by omega)
      rw [HCT.out] at hown
      have hrd : Dl wr u5 C := Dl.ofOwns hown HDC.out
      have HRD : Hid _ := hrd
      clear hown hlt hrd
      have HR0 : Hid (0 ≤ leN C ∧ leN C < 340282366920938463463374607431768211456) := by
        have h := leP_bound HDC.out 16
        rw [leP_past 16 (by omega)] at h
        exact ⟨h.1, by have := h.2; omega⟩
      go_wp2_with fail
      rename World => w5
      go_loopw [8, 9] (fun av tv wq => ∃ (j : Nat) (d : List Int), 16 * j ≤ data.length + 15 ∧ tv = .int .i64 (16 * (j : Int)) ∧ Dl wq av d ∧ leN d = accK (leN C) data j ∧ d.length ≤ 48 ∧ Below w5.heap.size w5 wq) (fun _ tv _ => data.length - (intOf tv).toNat)
      case atStart => exact ⟨0, [], by omega, rfl, Dl.nil _, rfl, by simp, Below.refl _ _⟩
      case round =>
        obtain ⟨j, d, hj, rfl, sd, vd, ldd, hbq⟩ := hrel
        have hB2 : Below w.heap.size w wr := hbel.trans (hbq.mono hbel.size)
        have hB3 := hB2
        have hbq5 := hbq
        have hr5 : Dl wr u5 C := HRD.out.below hbq
        by_cases hjd : 16 * j < data.length
        · have hjdi : 16 * (j : Int) < (data.length : Int) := by omega
          have b1 := accK_range (leN C) data j
          have hpl : (piece data j).length ≤ 16 := by unfold piece; rw [List.length_take]; omega
          have hdp : Digs (piece data j) := fun x hx => HSD.out.byte x (List.mem_of_mem_drop (List.mem_of_mem_take hx))
          have HDP : Hid (Digs (piece data j ++ [1])) := hdp.snoc (by omega)
          have HPB : Hid (0 ≤ leN (piece data j ++ [1]) ∧ leN (piece data j ++ [1]) < 87112285931760246646623899502532662132736) := by
            have h := leP_bound HDP.out 17
            rw [leP_past 17 (by simp; omega)] at h
            exact ⟨h.1, by have := h.2; omega⟩
          clear hdp
          by_cases hend : (data.length : Int) < 16 * (j : Int) + 16
          · obtain ⟨a1, n1, c1, hc, sp⟩ := HSD.out.between (16 * j) data.length (by omega) (Nat.le_refl _) (16 * (j : Int)) (data.length : Int) (by omega) rfl
            rw [show (data.take data.length).drop (16 * j) = piece data j by
              unfold piece
              rw [List.take_of_length_le (Nat.le_refl _), List.take_of_length_le (by rw [List.length_drop]; omega)]] at sp
            clear hbq hB2
            go_wp2_with fail
            refine (digitsOf_any _ (piece data j) wr (sp.below hB3) (by omega)).mono ?_
            rintro e w2 ⟨vp, rfl, op, c2⟩
            have hlt := op.lt
            go_wp2_with (at_builtin; refine wpList_append_digit _ rfl _ _ rfl wr.heap.size _ (piece data j) w2.heap.size 1 rfl rfl (op.alloc _) (by simp) (by omega) (by have := c2.size; simp; omega) ?_)
            intro vb w3 ob hg3
            have c3 : Below wr.heap.size wr w3 := (c2.alloc c2.size _).grown hg3 (by have := c2.size; simp; omega) (fun k hk => (hlt k hk).1)
            have sb : Dl w3 vb (piece data j ++ [1]) := Dl.ofOwns (base := wr.heap.size) (by simpa using ob) HDP.out
            clear op hlt ob hg3 c2
            go_wp2_with fail
            refine (added_any _ vb d (piece data j ++ [1]) w3 (sd.below c3) sb (by omega) (by simp; omega)).mono ?_
            rintro e w4 ⟨vs, rfl, S, ss, vS, lS, b4⟩
            have lS2 : S.length ≤ 49 := by simp at lS; omega
            have c4 : Below wr.heap.size wr w4 := c3.trans (b4.mono c3.size)
            clear sb lS
            go_wp2_with fail
            refine (times_digits vs _ S C w4 ss (hr5.below c4) (by omega) (by omega)).mono ?_
            rintro e w6 ⟨vq, rfl, Q, sq, vQ, lQ, b6⟩
            have c6 : Below wr.heap.size wr w6 := c4.trans (b6.mono c4.size)
            have HBQ : Hid (Bnd 0 (leN Q)) := by
              unfold Hid
              rw [vQ, vS, vd]
              exact prod_bnd b1.1 b1.2 HPB.out.1 HPB.out.2 HR0.out.1 HR0.out.2
            have HVQ : Hid (leN Q % pp = accK (leN C) data (j + 1)) := by
              unfold Hid
              rw [vQ, vS, vd, accK]
            clear ss vS vQ vd
            go_wp2_with fail
            refine (red_any vq Q w6 sq (by omega) HBQ.out).mono ?_
            rintro e w7 ⟨vz, rfl, Z, sz, vZ, lZ, b7⟩
            rw [HVQ.out] at vZ
            have c7 : Below w5.heap.size w5 w7 := hbq5.trans ((c6.trans (b7.mono c6.size)).mono hbq5.size)
            clear sq b7 c6 b6 c4 b4 c3 sp hc
            go_wp2
            go_roundw
            case rel => exact ⟨j + 1, Z, by omega, congrArg (Value.int .i64) (by omega), sz, vZ, lZ, c7⟩
            case measure => simp [intOf]; omega
          · obtain ⟨a1, n1, c1, hc, sp⟩ := HSD.out.between (16 * j) (16 * j + 16) (by omega) (by omega) (16 * (j : Int)) (16 * (j : Int) + 16) (by omega) (by omega)
            rw [show (data.take (16 * j + 16)).drop (16 * j) = piece data j by
              unfold piece
              rw [List.drop_take, show 16 * j + 16 - 16 * j = 16 by omega]] at sp
            clear hbq hB2
            go_wp2_with fail
            refine (digitsOf_any _ (piece data j) wr (sp.below hB3) (by omega)).mono ?_
            rintro e w2 ⟨vp, rfl, op, c2⟩
            have hlt := op.lt
            go_wp2_with (at_builtin; refine wpList_append_digit _ rfl _ _ rfl wr.heap.size _ (piece data j) w2.heap.size 1 rfl rfl (op.alloc _) (by simp) (by omega) (by have := c2.size; simp; omega) ?_)
            intro vb w3 ob hg3
            have c3 : Below wr.heap.size wr w3 := (c2.alloc c2.size _).grown hg3 (by have := c2.size; simp; omega) (fun k hk => (hlt k hk).1)
            have sb : Dl w3 vb (piece data j ++ [1]) := Dl.ofOwns (base := wr.heap.size) (by simpa using ob) HDP.out
            clear op hlt ob hg3 c2
            go_wp2_with fail
            refine (added_any _ vb d (piece data j ++ [1]) w3 (sd.below c3) sb (by omega) (by simp; omega)).mono ?_
            rintro e w4 ⟨vs, rfl, S, ss, vS, lS, b4⟩
            have lS2 : S.length ≤ 49 := by simp at lS; omega
            have c4 : Below wr.heap.size wr w4 := c3.trans (b4.mono c3.size)
            clear sb lS
            go_wp2_with fail
            refine (times_digits vs _ S C w4 ss (hr5.below c4) (by omega) (by omega)).mono ?_
            rintro e w6 ⟨vq, rfl, Q, sq, vQ, lQ, b6⟩
            have c6 : Below wr.heap.size wr w6 := c4.trans (b6.mono c4.size)
            have HBQ : Hid (Bnd 0 (leN Q)) := by
              unfold Hid
              rw [vQ, vS, vd]
              exact prod_bnd b1.1 b1.2 HPB.out.1 HPB.out.2 HR0.out.1 HR0.out.2
            have HVQ : Hid (leN Q % pp = accK (leN C) data (j + 1)) := by
              unfold Hid
              rw [vQ, vS, vd, accK]
            clear ss vS vQ vd
            go_wp2_with fail
            refine (red_any vq Q w6 sq (by omega) HBQ.out).mono ?_
            rintro e w7 ⟨vz, rfl, Z, sz, vZ, lZ, b7⟩
            rw [HVQ.out] at vZ
            have c7 : Below w5.heap.size w5 w7 := hbq5.trans ((c6.trans (b7.mono c6.size)).mono hbq5.size)
            clear sq b7 c6 b6 c4 b4 c3 sp hc
            go_wp2
            go_roundw
            case rel => exact ⟨j + 1, Z, by omega, congrArg (Value.int .i64) (by omega), sz, vZ, lZ, c7⟩
            case measure => simp [intOf]; omega
        · have hjdi : ¬ 16 * (j : Int) < (data.length : Int) := by omega
          have HJ : Hid (j = pieces data) := by unfold Hid pieces; omega
          have HVD : Hid (leN d = accN (leN C) data) := by
            unfold Hid accN
            rw [vd, HJ.out]
          obtain ⟨a1, n1, c1, hc, sp⟩ := HSK.out.between 16 32 (by omega) (by rw [HLK.out]; omega) 16 32 rfl rfl
          rw [List.take_of_length_le (by rw [HLK.out]; omega)] at sp
          have lp : (key.drop 16).length = 16 := by rw [List.length_drop, HLK.out]
          have HDP : Hid (Digs (key.drop 16)) := fun x hx => HYK.out x (List.mem_of_mem_drop hx)
          generalize key.drop 16 = P at sp lp HDP HTG
          clear vd hbq hr5
          go_wp2_with fail
          refine (digitsOf_any _ P wr (sp.below hB2) (by omega)).mono ?_
          rintro e w2 ⟨vp, rfl, op, c2⟩
          have sp2 : Dl w2 vp P := Dl.ofOwns op HDP.out
          clear op
          go_wp2_with fail
          refine (added_any _ vp d P w2 (sd.below c2) sp2 (by omega) (by omega)).mono ?_
          rintro e w3 ⟨vs, rfl, S, ss, vS, lS, b3⟩
          rw [HVD.out] at vS
          have c3 : Below wr.heap.size wr w3 := c2.trans (b3.mono c2.size)
          have B3 : Below w.heap.size w w3 := hB2.trans (c3.mono hB2.size)
          obtain ⟨sa, cs, rfl, hcs⟩ := ss.shape
          obtain ⟨gs, _, _, hgs, hcells⟩ := ss.at_
          have HGS : Hid _ := hgs
          have HCS : Hid _ := hcells
          have HDS : Hid (Digs S) := ss.dig
          have lS2 : S.length ≤ 1000 := by omega
          obtain ⟨T, hT⟩ : ∃ T, T = leB 16 (leN S) := ⟨_, rfl⟩
          have HT : Hid (tagL key data = T) := by
            unfold Hid
            rw [HTG.out, hT, vS]
          have lT : T.length = 16 := by rw [hT]; exact leB_length _ _
          have HTB : Hid (∀ x ∈ T, 0 ≤ x ∧ x < 256) := by rw [hT]; exact leB_byte _ _
          have HTK : Hid (∀ i, i < 16 → T.getD i 0 = S.getD i 0) := fun i hi => by rw [hT, leB_get _ _ _ hi, byteN_leN ss.dig]
          clear hgs hcells ss hT vS lS sd sp sp2 hc c2 c3 b3 hB2 hB3 hbq5 HTG
          rename World => w6
          go_wp2_with fail
          go_loopw [16, 17] (fun ov iv wq => ∃ (m : Nat), m ≤ 16 ∧ iv = .int .i64 m ∧ wq.ownsRow w6.heap.size 5 1 ov (T.take m).length ((T.take m).map (Value.int .u8)) ∧ Below w6.heap.size w6 wq) (fun _ iv _ => 16 - (intOf iv).toNat)
          case atStart => exact ⟨0, by omega, rfl, by simpa using World.ownsRow_nil _ _ _ _, Below.refl _ _⟩
          case round =>
            obtain ⟨m, hm, rfl, hown, hb6⟩ := hrel
            have hlt := hown.lt
            by_cases hm16 : m < 16
            · have hmi : (m : Int) < 16 := by omega
              have HS : Hid (T.take (m + 1) = T.take m ++ [S.getD m 0]) := by
                unfold Hid
                rw [takeP_snoc T m (by omega), HTK.out m hm16]
              have hpl : (T.take m).length = m := by rw [List.length_take]; omega
              have b1 := HDS.out.get m
              generalize T.take m = r at hown HS hpl
              by_cases hms : m < S.length
              · have hmsi : (m : Int) < (S.length : Int) := by omega
                obtain ⟨rfl, gs1⟩ := HGS.out (by omega)
                have ca := (hb6.cell (p := ⟨gs, m, none⟩) gs1).trans (HCS.out m hms)
                generalize S.getD m 0 = x at ca HS b1
                obtain ⟨x1, x2⟩ := b1
                go_wp2_with (at_builtin; refine wpList_append_sl _ rfl _ _ 26 rfl w6.heap.size 5 Tryz.underlying26 info5 _ _ rfl rfl r [x] (hown.alloc _) (Sl.one _ _ _ rfl (by omega)) (by simp; omega) (by have := hb6.size; simp; omega) ?_)
                intro v2 w2 ho2 hg2
                have hb2 : Below w6.heap.size w6 w2 := (hb6.alloc hb6.size _).grown hg2 (by have := hb6.size; simp; omega) (fun k hk => (hlt k hk).1)
                have HO2 : Hid (w2.ownsRow w6.heap.size 5 1 v2 (r ++ [x]).length ((r ++ [x]).map (Value.int .u8))) := by
                  unfold Hid
                  simpa [hpl] using ho2
                clear ho2 hg2 hown hlt hb6 ca
                go_wp2
                go_roundw
                case rel => exact ⟨m + 1, by omega, by go_num, by rw [HS.out]; exact HO2.out, hb2⟩
                case measure => simp [intOf]; omega
              · have hmsi : ¬ (m : Int) < (S.length : Int) := by omega
                rw [getD_past (l := S) (i := m) (by omega)] at HS
                clear b1
                go_wp2_with (at_builtin; refine wpList_append_sl _ rfl _ _ 26 rfl w6.heap.size 5 Tryz.underlying26 info5 _ _ rfl rfl r [0] (hown.alloc _) (Sl.one _ _ _ rfl (by omega)) (by simp; omega) (by have := hb6.size; simp; omega) ?_)
                intro v2 w2 ho2 hg2
                have hb2 : Below w6.heap.size w6 w2 := (hb6.alloc hb6.size _).grown hg2 (by have := hb6.size; simp; omega) (fun k hk => (hlt k hk).1)
                have HO2 : Hid (w2.ownsRow w6.heap.size 5 1 v2 (r ++ [0]).length ((r ++ [0]).map (Value.int .u8))) := by
                  unfold Hid
                  simpa [hpl] using ho2
                clear ho2 hg2 hown hlt hb6
                go_wp2
                go_roundw
                case rel => exact ⟨m + 1, by omega, by go_num, by rw [HS.out]; exact HO2.out, hb2⟩
                case measure => simp [intOf]; omega
            · have hmi : ¬ (m : Int) < 16 := by omega
              have HTT : Hid (T.take m = T) := by unfold Hid; exact List.take_of_length_le (by omega)
              rw [HTT.out] at hown
              go_wp2
              go_ret
              refine ⟨_, rfl, ?_, B3.trans (hb6.mono B3.size)⟩
              rw [HT.out]
              exact Sl.ofOwns hown (by omega) HTB.out
end Go.Proofs.YtakgfdbjgeopdaaGreatDoor
