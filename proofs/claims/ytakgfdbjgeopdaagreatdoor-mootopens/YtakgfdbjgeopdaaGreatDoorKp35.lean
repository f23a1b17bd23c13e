/-
  The walks of the document's own block of the stream.
-/
import Derived.Test.YtakgfdbjgeopdaaGreatDoorKp34
import Derived.Test.YtakgfdbjgeopdaaGreatDoorKp4
namespace Go.Proofs.YtakgfdbjgeopdaaGreatDoor
open Go.RowKit

theorem wordU_sum (a b c d : BitVec 32) (ha : uw a < 256) (hb : uw b < 256) (hc : uw c < 256) (hd : uw d < 256) : uw a + 256 * uw b + 65536 * uw c + 16777216 * uw d = uw (a ||| b <<< 8 ||| c <<< 16 ||| d <<< 24) := by
  have h1 := (shl_byte' b hb).2.2
  have h2 := (shl_byte' c hc).2.1
  have h3 := (shl_byte' d hd).1
  unfold uw at *
  rw [BitVec.toNat_or, BitVec.toNat_or, BitVec.toNat_or]
  generalize (b <<< 8).toNat = B at *
  generalize (c <<< 16).toNat = C at *
  generalize (d <<< 24).toNat = D at *
  generalize a.toNat = a' at *
  generalize b.toNat = b' at *
  generalize c.toNat = c' at *
  generalize d.toNat = d' at *
  rw [Nat.or_comm a' B, nat_join 8 B a' (by omega) (by omega), Nat.or_comm (B + a') C, nat_join 16 C (B + a') (by omega) (by omega), Nat.or_comm (C + (B + a')) D, nat_join 24 D (C + (B + a')) (by omega) (by omega)]
  omega

set_option maxHeartbeats 1000000 in
set_option maxRecDepth 100000 in
theorem fourLow_any (v : Value) (l : List Int) (x : Int) (k : Nat) (hx : x = 4 * (k : Int)) (w : World) (h : Sl w v l) (hk : 4 * k + 4 ≤ l.length) (hl : l.length ≤ 100000) :
    Calls Tryz.prog 189 #[v, .int .i64 x] w fun e w' => e = .returned (.int .i64 (uw (wordU l k))) ∧ ∃ m, w' = w.drewN m := by
  subst hx
  obtain ⟨⟨a, cap, rfl, hc, hn, h1⟩, hla, hba⟩ := h
  rcases h1 with rfl | ⟨b, o, rfl, hb, hcell⟩
  · simp at hk
  have HC : Hid (∀ i, i < l.length → w.cell? ⟨b, o + i, none⟩ = some (.int .u8 (uw (byteW (l.getD i 0))))) := fun i hi => by rw [uw_byte _ (getD_byte hba i)]; exact hcell i hi
  have HB : Hid (∀ i, uw (byteW (l.getD i 0)) < 256) := fun i => by rw [uw_byte _ (getD_byte hba i)]; exact (getD_byte hba i).2
  have c0 := HC.out (4 * k) (by omega)
  have c1 := HC.out (4 * k + 1) (by omega)
  have c2 := HC.out (4 * k + 2) (by omega)
  have c3 := HC.out (4 * k + 3) (by omega)
  have l0 := HB.out (4 * k)
  have l1 := HB.out (4 * k + 1)
  have l2 := HB.out (4 * k + 2)
  have l3 := HB.out (4 * k + 3)
  have HW : Hid (wordU l k = byteW (l.getD (4 * k) 0) ||| byteW (l.getD (4 * k + 1) 0) <<< 8 ||| byteW (l.getD (4 * k + 2) 0) <<< 16 ||| byteW (l.getD (4 * k + 3) 0) <<< 24) := rfl
  generalize byteW (l.getD (4 * k) 0) = x0 at c0 l0 HW
  generalize byteW (l.getD (4 * k + 1) 0) = x1 at c1 l1 HW
  generalize byteW (l.getD (4 * k + 2) 0) = x2 at c2 l2 HW
  generalize byteW (l.getD (4 * k + 3) 0) = x3 at c3 l3 HW
  have z0 := uw_lo x0
  have z1 := uw_lo x1
  have z2 := uw_lo x2
  have z3 := uw_lo x3
  have HS : Hid _ := wordU_sum x0 x1 x2 x3 l0 l1 l2 l3
  clear HC HB hcell hba
  generalize l.length = n at *
  go_enter Tryz.func189, Tryz.ntmps189
  go_wp2_with fail
  go_quiet (fail)
  go_wp2
  go_ret
  exact ⟨ret_int (by rw [HW.out, ← HS.out]; omega), _, rfl⟩

theorem in_any (n lo hi : Int) (w : World) :
    Calls Tryz.prog 22 #[.int .i64 n, .int .i64 lo, .int .i64 hi] w fun e w' => e = .returned (.bool (decide (lo ≤ n ∧ n ≤ hi))) ∧ w' = w := by
  go_enter Tryz.func22, Tryz.ntmps22
  by_cases h1 : lo ≤ n
  · by_cases h2 : n ≤ hi
    · go_wp2
      go_ret
      exact ⟨ret_bool (decide_eq_true ⟨h1, h2⟩).symm, rfl⟩
    · go_wp2
      go_ret
      exact ⟨ret_bool (decide_eq_false (by omega)).symm, rfl⟩
  · go_wp2
    go_ret
    exact ⟨ret_bool (by rw [show decide (lo ≤ n) = false from decide_eq_false (by omega)]; rfl), rfl⟩

theorem fault_any (vk vn : Value) (key nonce : List Int) (c : Int) (w : World) (hk : Sl w vk key) (hn : Sl w vn nonce) :
    Calls Tryz.prog 140 #[vk, .int .i64 c, vn] w fun e w' => e = .returned (.int .i64 (chaErr key nonce c)) ∧ w' = w := by
  obtain ⟨⟨ak, ck, rfl, _, _, _⟩, lk, _⟩ := hk
  obtain ⟨⟨an, cn, rfl, _, _, _⟩, ln, _⟩ := hn
  have H1 : Hid (key.length ≠ 32 ∨ nonce.length ≠ 12 → chaErr key nonce c = 1) := chaErr_size
  have H2 : Hid (key.length = 32 → nonce.length = 12 → (c < 0 ∨ 1073741824 < c) → chaErr key nonce c = 2) := chaErr_range
  have H3 : Hid (key.length = 32 → nonce.length = 12 → (0 ≤ c ∧ c ≤ 1073741824) → chaErr key nonce c = 0) := chaErr_ok
  generalize chaErr key nonce c = E at H1 H2 H3 ⊢
  generalize key.length = n at *
  generalize nonce.length = m at *
  go_enter Tryz.func140, Tryz.ntmps140
  by_cases h1 : (n : Int) = 32
  · by_cases h2 : (m : Int) = 12
    · go_wp2_with fail
      refine (in_any c 0 1073741824 w).mono ?_
      rintro e w1 ⟨rfl, rfl⟩
      by_cases h3 : 0 ≤ c ∧ c ≤ 1073741824
      · rw [decide_eq_true h3]
        go_wp2
        go_ret
        exact ⟨by rw [H3.out (by omega) (by omega) (by omega)]; rfl, rfl⟩
      · rw [decide_eq_false h3]
        go_wp2
        go_ret
        exact ⟨by rw [H2.out (by omega) (by omega) (by omega)]; rfl, rfl⟩
    · go_wp2
      go_ret
      exact ⟨by rw [H1.out (by omega)]; rfl, rfl⟩
  · go_wp2
    go_ret
    exact ⟨by rw [H1.out (by omega)]; rfl, rfl⟩

/-- a new row of words -/
theorem owns_built (w : World) (ws : List (BitVec 32)) {n : Nat} (hn : ws.length = n) (hl : n ≤ 1000) : (w.alloc (.cells (ws.map iw).toArray 3)).ownsRow w.heap.size 3 1 (.slice (some ⟨w.heap.size, 0, none⟩) n n) ws.length (ws.map iw) := by
  subst hn
  refine ⟨by simp, .inr ⟨w.heap.size, ws.length, (ws.map iw).toArray, rfl, Nat.le_refl _, heap_alloc_new _ _, Nat.le_refl _, by unfold maxLen; omega, by simp, ?_⟩⟩
  rw [Nat.mul_one, List.take_of_length_le (by simp)]

/-- words more behind a row of words of the call's own -/
theorem wpList_append_words (w : World) {ops : Array Oper} {rest : List Oper} {o : Oper} {a : Act} {Q : Exit → Act → World → Prop} (hgd : o.guard = none) (s y : Operand)
    (ho : o.op = .call { callee := .builtin .append, args := #[s, y], argTypes := #[88, 88] })
    (base : Nat) (v : Value) (ws xs : List (BitVec 32)) (g n : Nat) (hs : a.eval s = v) (hx : a.eval y = .slice (some ⟨g, 0, none⟩) n n) (hxs : xs.length = n) (hown : w.ownsRow base 3 1 v ws.length (ws.map iw)) (hu : ∀ i, i < n → w.cell? ⟨g, i, none⟩ = some (iw (xs.getD i 0#32)))
    (hlen : ws.length + xs.length ≤ 1000000) (hbase : base ≤ w.heap.size)
    (h : ∀ v' w', w'.ownsRow base 3 1 v' (ws ++ xs).length ((ws ++ xs).map iw) → w.grownBy w' v.ownBlock → wpList Tryz.prog ops Q rest (a.put o.dst v') w') : wpList Tryz.prog ops Q (o :: rest) a w := by
  refine wpList_plain hgd fun K hK => ?_
  obtain ⟨i, hi, hz, hsz, hby⟩ := info_parts info3
  subst hxs
  obtain ⟨v', w', hrun, r1, r2, _⟩ := run_append_own (P := Tryz.prog) w base 88 o.type 3 i (.int .i64 0) 1 8 Tryz.underlying88 hi hz hsz hby rfl (by decide) v ws.length _ hown ⟨g, 0, none⟩ xs.length xs.length (xs.map iw) (by simp)
    (by
      intro j u hj
      have hjl : j < xs.length := by
        have := (List.getElem?_eq_some_iff.1 hj).1
        simpa using this
      have hadd : (⟨g, 0, none⟩ : Addr).add j = ⟨g, j, none⟩ := by unfold Addr.add; split <;> simp_all
      rw [hadd, hu j hjl]
      simp [List.getElem?_eq_getElem hjl] at hj
      rw [← hj]
      simp [List.getD, List.getElem?_eq_getElem hjl])
    (by
      intro u hu
      obtain ⟨x, _, rfl⟩ := List.mem_map.1 hu
      rfl) (by unfold maxLen; omega) (by omega) hbase
  have r1' : w'.ownsRow base 3 1 v' (ws ++ xs).length ((ws ++ xs).map iw) := by simpa using r1
  unfold Oper.wp execOp
  simp only [ho, resolve, invoke, builtin, Sem.run_bind, Sem.run_pure, Result.andThen_ok, List.map_toArray, List.map_cons, List.map_nil, hs, hx, hrun]
  exact hK _ _ (h v' w' r1' r2)

def sig4 : List (BitVec 32) := [1634760805#32, 857760878#32, 2036477234#32, 1797285236#32]
/-- the state as far as k words of the key -/
def sBeg (key : List Int) : Nat → List (BitVec 32)
  | 0 => sig4
  | k + 1 => sBeg key k ++ [wordU key k]
theorem sBeg_length (key : List Int) (k : Nat) : (sBeg key k).length = 4 + k := by
  induction k with
  | zero => rfl
  | succ k ih => simp [sBeg, ih]; omega
theorem sBeg_all (key nonce : List Int) (c : BitVec 32) : sBeg key 8 ++ [c, wordU nonce 0, wordU nonce 1, wordU nonce 2] = begunL key c nonce := rfl
theorem turns_eight (us : List (BitVec 32)) (k : Nat) : turnsL us (k + 1) = quartL (quartL (quartL (quartL (quartL (quartL (quartL (quartL (turnsL us k) 0 4 8 12) 1 5 9 13) 2 6 10 14) 3 7 11 15) 0 5 10 15) 1 6 11 12) 2 7 8 13) 3 4 9 14 := rfl

theorem quartered_at (vs : Value) (ws : List (BitVec 32)) (a b c d : Nat) (x y z u : Int) (hx : x = (a : Int)) (hy : y = (b : Int)) (hz : z = (c : Int)) (hu : u = (d : Int)) (w : World) (h : Wl w vs ws) (hl : ws.length = 16) (ha : a < 16) (hb : b < 16) (hc : c < 16) (hd : d < 16) :
    Calls Tryz.prog 190 #[vs, .int .i64 x, .int .i64 y, .int .i64 z, .int .i64 u] w fun e w' => ∃ v', e = .returned v' ∧ Wl w' v' (quartL ws a b c d) ∧ Below w.heap.size w w' := by
  subst hx hy hz hu
  exact quartered_any vs ws a b c d w h hl ha hb hc hd

theorem built4 (W : World) (v : Int) (a b c d : BitVec 32) (hv : v = uw a) : ∀ i, i < 4 → (W.alloc (.cells #[.int .i64 v, .int .i64 (uw b), .int .i64 (uw c), .int .i64 (uw d)] 3)).cell? ⟨W.heap.size, i, none⟩ = some (iw ([a, b, c, d].getD i 0#32)) := by
  subst hv
  intro i hi
  rw [cell_of_row _ _ i _ _ _ (heap_alloc_new _ _)]
  obtain rfl | rfl | rfl | rfl : i = 0 ∨ i = 1 ∨ i = 2 ∨ i = 3 := by omega
  all_goals rfl

theorem bytesU_alt (x : BitVec 32) : bytesU x = [uw x % 256, uw x / 256 % 256, uw x / 65536 % 256, uw x / 16777216] := by
  unfold bytesU
  rw [show uw x / 16777216 % 256 = uw x / 16777216 by have := uw_hi x; have := uw_lo x; omega]

theorem ownsRow_drewN {w : World} {base e : Nat} {v : Value} {n : Nat} {xs : List Value} (h : w.ownsRow base e 1 v n xs) (m : Nat) : (w.drewN m).ownsRow base e 1 v n xs := owns_keep h (fun _ _ => rfl)
theorem below_grow {B : Nat} {w : World} (m : Nat) : Below B w (w.drewN m) := below_drewN (Below.refl _ _) m

set_option maxHeartbeats 4000000 in
set_option maxRecDepth 100000 in
theorem streamBlock_any (vk vn : Value) (key nonce : List Int) (x : Int) (c : Nat) (hx : x = (c : Int)) (w : World) (hk : Sl w vk key) (hn : Sl w vn nonce) (lk : key.length = 32) (ln : nonce.length = 12) (hc : c ≤ 2000000000) :
    Calls Tryz.prog 141 #[vk, .int .i64 x, vn] w fun e w' => ∃ v', e = .returned v' ∧ w'.ownsRow w.heap.size 5 1 v' (blockL (begunL key (BitVec.ofNat 32 c) nonce)).length ((blockL (begunL key (BitVec.ofNat 32 c) nonce)).map (Value.int .u8)) ∧ Below w.heap.size w w' := by
  subst hx
  have HCV : Hid ((c : Int) = uw (BitVec.ofNat 32 c)) := by unfold Hid uw; rw [BitVec.toNat_ofNat, Nat.mod_eq_of_lt (by omega)]
  have ho0 := owns_built w sig4 (n := 4) rfl (by omega)
  have hb0 : Below w.heap.size w (w.alloc (.cells (sig4.map iw).toArray 3)) := (Below.refl _ _).alloc (Nat.le_refl _) _
  have HO : Hid _ := ho0
  have HB0 : Hid _ := hb0
  clear ho0 hb0
  go_enter Tryz.func141, Tryz.ntmps141
  go_wp2_with fail
  go_loopw [7, 8] (fun v i wr => ∃ k : Nat, k ≤ 8 ∧ i = .int .i64 k ∧ wr.ownsRow w.heap.size 3 1 v (sBeg key k).length ((sBeg key k).map iw) ∧ Below w.heap.size w wr) (fun _ i _ => 8 - (intOf i).toNat)
  case atStart => exact ⟨0, by omega, rfl, HO.out, HB0.out⟩
  case round =>
    clear HO HB0
    obtain ⟨k, hk8, rfl, hown, hbel⟩ := hrel
    by_cases hlt8 : k < 8
    · have hlt8i : (k : Int) < 8 := by omega
      go_wp2_with fail
      refine (fourLow_any vk key _ k rfl wr (hk.below hbel) (by omega) (by omega)).mono ?_
      rintro e w1 ⟨rfl, m, rfl⟩
      replace hown := ownsRow_drewN hown m
      replace hbel := below_drewN hbel m
      have hlt := hown.lt
      have HT : Hid (sBeg key (k + 1) = sBeg key k ++ [wordU key k]) := rfl
      have hpl := sBeg_length key k
      generalize wordU key k = x at HT
      generalize sBeg key k = pre at hown HT hpl
      generalize wr.drewN m = W1 at hown hbel hlt
      go_wp2_with (at_builtin; refine wpList_append_word _ rfl _ _ rfl w.heap.size _ pre W1.heap.size x rfl rfl (hown.alloc _) (by simp) (by omega) (by have := hbel.size; simp; omega) ?_)
      intro v' w' ho hg
      have ho' : w'.ownsRow w.heap.size 3 1 v' (pre ++ [x]).length ((pre ++ [x]).map iw) := by simpa [hpl] using ho
      have hb' : Below w.heap.size w w' := (hbel.alloc hbel.size _).grown hg (by have := hbel.size; simp; omega) (fun k hk => (hlt k hk).1)
      clear ho hg hown hlt hbel
      go_wp2
      go_roundw
      case rel => exact ⟨k + 1, by omega, by go_num, by rw [HT.out]; exact ho', hb'⟩
      case measure => simp [intOf]; omega
    · have hlt8i : ¬ (k : Int) < 8 := by omega
      obtain rfl : k = 8 := by omega
      go_wp2_with fail
      refine (fourLow_any vn nonce _ 0 (by omega) wr (hn.below hbel) (by omega) (by omega)).mono ?_
      rintro e w1 ⟨rfl, m1, rfl⟩
      go_wp2_with fail
      refine (fourLow_any vn nonce _ 1 (by omega) _ (hn.below (below_drewN hbel m1)) (by omega) (by omega)).mono ?_
      rintro e w1 ⟨rfl, m2, rfl⟩
      go_wp2_with fail
      refine (fourLow_any vn nonce _ 2 (by omega) _ (hn.below (below_drewN hbel (m1 + m2))) (by omega) (by omega)).mono ?_
      rintro e w1 ⟨rfl, m3, rfl⟩
      replace hown := ownsRow_drewN hown (m1 + m2 + m3)
      replace hbel := below_drewN hbel (m1 + m2 + m3)
      have hlt := hown.lt
      have HALL : Hid (begunL key (BitVec.ofNat 32 c) nonce = sBeg key 8 ++ [BitVec.ofNat 32 c, wordU nonce 0, wordU nonce 1, wordU nonce 2]) := (sBeg_all _ _ _).symm
      have hpl := sBeg_length key 8
      generalize sBeg key 8 = pre at hown HALL hpl
      generalize wordU nonce 0 = n0 at HALL
      generalize wordU nonce 1 = n1 at HALL
      generalize wordU nonce 2 = n2 at HALL
      rw [World.drewN_drewN]
      generalize wr.drewN (m1 + m2 + m3) = W1 at hown hbel hlt
      go_wp2_with (at_builtin; refine wpList_append_words _ rfl _ _ rfl w.heap.size _ pre [BitVec.ofNat 32 c, n0, n1, n2] W1.heap.size 4 rfl rfl rfl (hown.alloc _) (built4 W1 _ _ _ _ _ HCV.out) (by rw [hpl]; simp) (by have := hbel.size; simp; omega) ?_)
      intro vs w2 ho2 hg2
      have hos : w2.ownsRow w.heap.size 3 1 vs (begunL key (BitVec.ofNat 32 c) nonce).length ((begunL key (BitVec.ofNat 32 c) nonce).map iw) := by rw [HALL.out]; simpa [hpl] using ho2
      have hb2 : Below w.heap.size w w2 := (hbel.alloc hbel.size _).grown hg2 (by have := hbel.size; simp; omega) (fun k hk => (hlt k hk).1)
      have lus := begunL_length key (BitVec.ofNat 32 c) nonce
      have hws : Wl w2 vs (begunL key (BitVec.ofNat 32 c) nonce) := Wl.ofOwns hos (by rw [lus]; omega)
      clear ho2 hg2 hown hlt hbel HALL hpl hos HCV
      generalize hus : begunL key (BitVec.ofNat 32 c) nonce = us at hws lus
      have HUS : Hid (begunL key (BitVec.ofNat 32 c) nonce = us) := hus
      clear hus
      go_wp2_with fail
      go_loopw [9, 10] (fun vx i wr => ∃ k : Nat, k ≤ 10 ∧ i = .int .i64 k ∧ Wl wr vx (turnsL us k) ∧ Below w2.heap.size w2 wr) (fun _ i _ => 10 - (intOf i).toNat)
      case atStart => exact ⟨0, by omega, rfl, hws, Below.refl _ _⟩
      case round =>
        obtain ⟨k, hk10, rfl, hwx, hbel⟩ := hrel
        have lx : (turnsL us k).length = 16 := by rw [turnsL_length]; exact lus
        by_cases hlt10 : k < 10
        · have hlt10i : (k : Int) < 10 := by omega
          have HT : Hid _ := turns_eight us k
          generalize turnsL us k = X0 at hwx lx HT
          go_wp2_with fail
          refine (quartered_at _ _ 0 4 8 12 _ _ _ _ rfl rfl rfl rfl _ hwx lx (by omega) (by omega) (by omega) (by omega)).mono ?_
          rintro e w3 ⟨vx, rfl, hwx, hb3⟩
          replace hbel := hbel.trans (hb3.mono hbel.size)
          replace lx := (quartL_length _ 0 4 8 12).trans lx
          clear hb3
          go_wp2_with fail
          refine (quartered_at _ _ 1 5 9 13 _ _ _ _ rfl rfl rfl rfl _ hwx lx (by omega) (by omega) (by omega) (by omega)).mono ?_
          rintro e w3 ⟨vx, rfl, hwx, hb3⟩
          replace hbel := hbel.trans (hb3.mono hbel.size)
          replace lx := (quartL_length _ 1 5 9 13).trans lx
          clear hb3
          go_wp2_with fail
          refine (quartered_at _ _ 2 6 10 14 _ _ _ _ rfl rfl rfl rfl _ hwx lx (by omega) (by omega) (by omega) (by omega)).mono ?_
          rintro e w3 ⟨vx, rfl, hwx, hb3⟩
          replace hbel := hbel.trans (hb3.mono hbel.size)
          replace lx := (quartL_length _ 2 6 10 14).trans lx
          clear hb3
          go_wp2_with fail
          refine (quartered_at _ _ 3 7 11 15 _ _ _ _ rfl rfl rfl rfl _ hwx lx (by omega) (by omega) (by omega) (by omega)).mono ?_
          rintro e w3 ⟨vx, rfl, hwx, hb3⟩
          replace hbel := hbel.trans (hb3.mono hbel.size)
          replace lx := (quartL_length _ 3 7 11 15).trans lx
          clear hb3
          go_wp2_with fail
          refine (quartered_at _ _ 0 5 10 15 _ _ _ _ rfl rfl rfl rfl _ hwx lx (by omega) (by omega) (by omega) (by omega)).mono ?_
          rintro e w3 ⟨vx, rfl, hwx, hb3⟩
          replace hbel := hbel.trans (hb3.mono hbel.size)
          replace lx := (quartL_length _ 0 5 10 15).trans lx
          clear hb3
          go_wp2_with fail
          refine (quartered_at _ _ 1 6 11 12 _ _ _ _ rfl rfl rfl rfl _ hwx lx (by omega) (by omega) (by omega) (by omega)).mono ?_
          rintro e w3 ⟨vx, rfl, hwx, hb3⟩
          replace hbel := hbel.trans (hb3.mono hbel.size)
          replace lx := (quartL_length _ 1 6 11 12).trans lx
          clear hb3
          go_wp2_with fail
          refine (quartered_at _ _ 2 7 8 13 _ _ _ _ rfl rfl rfl rfl _ hwx lx (by omega) (by omega) (by omega) (by omega)).mono ?_
          rintro e w3 ⟨vx, rfl, hwx, hb3⟩
          replace hbel := hbel.trans (hb3.mono hbel.size)
          replace lx := (quartL_length _ 2 7 8 13).trans lx
          clear hb3
          go_wp2_with fail
          refine (quartered_at _ _ 3 4 9 14 _ _ _ _ rfl rfl rfl rfl _ hwx lx (by omega) (by omega) (by omega) (by omega)).mono ?_
          rintro e w3 ⟨vx, rfl, hwx, hb3⟩
          replace hbel := hbel.trans (hb3.mono hbel.size)
          replace lx := (quartL_length _ 3 4 9 14).trans lx
          clear hb3
          go_wp2
          go_roundw
          case rel => exact ⟨k + 1, by omega, by go_num, by rw [HT.out]; exact hwx, hbel⟩
          case measure => simp [intOf]; omega
        · have hlt10i : ¬ (k : Int) < 10 := by omega
          obtain rfl : k = 10 := by omega
          have hws2 := hws.below hbel
          have hB3 : Below w.heap.size w wr := hb2.trans (hbel.mono hb2.size)
          have HBL : Hid (blockL us = outL (turnsL us 10) us 16) := rfl
          generalize turnsL us 10 = xs at hwx lx HBL
          obtain ⟨gx, cx, rfl, hgx, hcx, hcellx⟩ := hwx.ex
          obtain ⟨gy, cy, hvy, hgy, hcy, hcelly⟩ := hws2.ex
          rw [lus] at hvy hcy hcelly
          rw [lx] at hcx hcellx ⊢
          subst hvy
          clear hbel hws hb2 hwx hws2
          generalize wr = W3 at hgx hgy hcellx hcelly hB3 ⊢
          have HCX : Hid _ := hcellx
          have HCY : Hid _ := hcelly
          clear hcellx hcelly
          go_wp2_with fail
          go_loopw [11, 12] (fun vo i wr => ∃ k : Nat, k ≤ 16 ∧ i = .int .i64 k ∧ wr.ownsRow W3.heap.size 5 1 vo (outL xs us k).length ((outL xs us k).map (Value.int .u8)) ∧ Below W3.heap.size W3 wr) (fun _ i _ => 16 - (intOf i).toNat)
          case atStart => exact ⟨0, by omega, rfl, World.ownsRow_nil _ _ _ _, Below.refl _ _⟩
          case round =>
            obtain ⟨k, hk16, rfl, hown, hbel⟩ := hrel
            by_cases hlt16 : k < 16
            · have hlt16i : (k : Int) < 16 := by omega
              have ckx := (hbel.cell (p := ⟨gx, k, none⟩) hgx).trans (HCX.out k hlt16)
              have cky := (hbel.cell (p := ⟨gy, k, none⟩) hgy).trans (HCY.out k hlt16)
              have HT : Hid (outL xs us (k + 1) = outL xs us k ++ bytesU (xs.getD k 0#32 + us.getD k 0#32)) := rfl
              have hpl := outL_length xs us k
              generalize xs.getD k 0#32 = x at ckx HT
              generalize us.getD k 0#32 = y at cky HT
              have xl := uw_lo x
              have xh := uw_hi x
              have yl := uw_lo y
              have yh := uw_hi y
              go_wp2_with fail
              go_quiet ((go_at_call 188; exact Calls.quiet_of_same (word_at _ (x + y) (uw_sum2 _ _) _ (by omega) (by omega))))
              replace hown : (wr.drewN nq).ownsRow W3.heap.size 5 1 _ _ _ := owns_keep hown (fun _ _ => rfl)
              replace hbel := below_drewN hbel nq
              have hlt := hown.lt
              clear ckx cky xl xh yl yh
              generalize wr.drewN nq = W4 at hown hbel hlt ⊢
              have HBY := bytesU_alt (x + y)
              have HBB := bytesU_byte (x + y)
              have zl := uw_lo (x + y)
              have zh := uw_hi (x + y)
              generalize x + y = z at HT HBY HBB zl zh
              rw [HBY] at HT HBB
              clear HBY
              generalize outL xs us k = pre at hown HT hpl
              go_wp2_with (at_builtin; refine wpList_append_sl _ rfl _ _ 26 rfl W3.heap.size 5 Tryz.underlying26 info5 _ _ rfl rfl pre [uw z % 256, uw z / 256 % 256, uw z / 65536 % 256, uw z / 16777216] (hown.alloc _) (Sl.built W4 [uw z % 256, uw z / 256 % 256, uw z / 65536 % 256, uw z / 16777216] 5 rfl (by simp) HBB) (by rw [hpl]; simp; omega) (by have := hbel.size; simp; omega) ?_)
              intro v' w' ho hg
              have ho' : w'.ownsRow W3.heap.size 5 1 v' (pre ++ [uw z % 256, uw z / 256 % 256, uw z / 65536 % 256, uw z / 16777216]).length ((pre ++ [uw z % 256, uw z / 256 % 256, uw z / 65536 % 256, uw z / 16777216]).map (Value.int .u8)) := by simpa [hpl] using ho
              have hb' : Below W3.heap.size W3 w' := (hbel.alloc hbel.size _).grown hg (by have := hbel.size; simp; omega) (fun k hk => (hlt k hk).1)
              clear ho hg hown hlt hbel
              go_wp2
              go_roundw
              case rel => exact ⟨k + 1, by omega, by go_num, by rw [HT.out]; exact ho', hb'⟩
              case measure => simp [intOf]; omega
            · have hlt16i : ¬ (k : Int) < 16 := by omega
              have HK : Hid (k = 16) := by unfold Hid; omega
              go_wp2
              go_ret
              refine ⟨_, rfl, ?_, hB3.trans (hbel.mono hB3.size)⟩
              rw [HUS.out, HBL.out, ← HK.out]
              refine ⟨hown.1, ?_⟩
              rcases hown.2 with h2 | ⟨g, cap, cur, hv, hg, hr⟩
              · exact .inl h2
              · exact .inr ⟨g, cap, cur, hv, Nat.le_trans hB3.size hg, hr⟩
end Go.Proofs.YtakgfdbjgeopdaaGreatDoor
