/-
  The walks of what the tag is of: noughts behind, and a length's bytes.
-/
import Derived.Laws.OwnMore
import Derived.Maps.AppendAt
import Derived.Test.YtakgfdbjgeopdaaGreatDoorKp16
import Derived.Test.YtakgfdbjgeopdaaGreatDoorKp4
namespace Go.Proofs.YtakgfdbjgeopdaaGreatDoor
open Go.RowKit

set_option maxHeartbeats 1000000 in
theorem sfilled_any (v : Value) (l : List Int) (B : Nat) (w : World) (ho : w.ownsRow B 5 1 v l.length (l.map (Value.int .u8))) (hB : B ≤ w.heap.size) (hl : l.length ≤ 100000) :
    Calls Tryz.prog 225 #[v] w fun e w' => ∃ v', e = .returned v' ∧ w'.ownsRow B 5 1 v' (padL l).length ((padL l).map (Value.int .u8)) ∧ Below B w w' := by
  have HF : Hid (padL l = l ++ List.replicate (gap l.length) 0) := rfl
  have hg := gap_lt l.length
  have HS : Hid (∀ j, j < gap l.length → ¬ (l.length + j) % 16 = 0) := fun j hj => gap_short _ _ hj
  have HE : Hid ((l.length + gap l.length) % 16 = 0) := gap_sum _
  obtain ⟨a0, c0, rfl⟩ := owns_shape2 ho
  generalize gap l.length = G at HF hg HS HE
  go_enter Tryz.func225, Tryz.ntmps225
  go_wp2_with fail
  go_loopw [0] (fun v wr => ∃ (j : Nat) (a : Option Addr) (cap : Nat), j ≤ G ∧ v = .slice a (l.length + j) cap ∧ wr.ownsRow B 5 1 v (l ++ List.replicate j 0).length ((l ++ List.replicate j 0).map (Value.int .u8)) ∧ Below B w wr) (fun v _ => l.length + G - lenV v)
  case atStart => exact ⟨0, a0, c0, by omega, rfl, by simpa using ho, Below.refl _ _⟩
  case round =>
    clear ho
    obtain ⟨j, a, cap, hj, rfl, hown, hb⟩ := hrel
    have hlt := hown.lt
    by_cases hjn : j < G
    · have h1 := HS.out j hjn
      have h2 : ¬ ((l.length : Int) + j) % 16 = 0 := by omega
      go_wp2_with (at_builtin; refine wpList_append_sl _ rfl _ _ 26 rfl B 5 Tryz.underlying26 info5 _ _ rfl rfl (l ++ List.replicate j 0) [0] (hown.alloc _) (Sl.one _ _ _ rfl (by omega)) (by simp; omega) (by have := hb.size; simp; omega) ?_)
      intro v2 w2 ho2 hg2
      have ho2' : w2.ownsRow B 5 1 v2 (l ++ List.replicate (j + 1) 0).length ((l ++ List.replicate (j + 1) 0).map (Value.int .u8)) := by rw [← replicate_snoc]; simpa using ho2
      have hb2 : Below B w w2 := (hb.alloc (Nat.le_trans hB hb.size) _).grown hg2 (by have := hb.size; simp; omega) (fun k hk => (hlt k hk).1)
      obtain ⟨a2, c2, hv2⟩ := owns_shape2 ho2'
      rw [List.length_append, List.length_replicate] at hv2
      subst hv2
      clear ho2 hg2 hown hlt hb h1 h2
      go_wp2
      go_roundw
      case rel => exact ⟨j + 1, a2, c2, by omega, rfl, ho2', hb2⟩
      case measure => simp [lenV]; omega
    · have HJ : Hid (G = j) := by unfold Hid; omega
      have h0 := HE.out
      have h1 : ((l.length : Int) + j) % 16 = 0 := by have := HJ.out; omega
      have h2 : (((l.length : Int) + j) % 16 != 0) = false := by simp; omega
      clear h0
      go_wp2
      go_ret
      refine ⟨_, rfl, ?_, hb⟩
      rw [HF.out, HJ.out]
      exact hown

theorem byteN_wrap (x : Int) (n : Int) (k : Nat) (h : x = n / 256 ^ k) : IntKind.u8.wrap x = byteN n k := by
  subst h
  rw [IntKind.wrap_u8]
  rfl

set_option maxHeartbeats 1000000 in
theorem withLength_any (v : Value) (l : List Int) (n : Nat) (B : Nat) (w : World) (ho : w.ownsRow B 5 1 v l.length (l.map (Value.int .u8))) (hB : B ≤ w.heap.size) (hl : l.length ≤ 100000) (hn : n ≤ 100000) :
    Calls Tryz.prog 226 #[v, .int .i64 n] w fun e w' => ∃ v', e = .returned v' ∧ w'.ownsRow B 5 1 v' (l ++ leB 8 (n : Int)).length ((l ++ leB 8 (n : Int)).map (Value.int .u8)) ∧ Below B w w' := by
  go_enter Tryz.func226, Tryz.ntmps226
  go_wp2_with fail
  go_loopw [0, 1, 5] (fun v s i wr => ∃ k : Nat, k ≤ 8 ∧ i = .int .i64 k ∧ s = .int .i64 ((n : Int) / 256 ^ k) ∧ wr.ownsRow B 5 1 v (l ++ leB k (n : Int)).length ((l ++ leB k (n : Int)).map (Value.int .u8)) ∧ Below B w wr) (fun _ _ i _ => 8 - (intOf i).toNat)
  case atStart => exact ⟨0, by omega, rfl, by simp, by simpa [leB] using ho, Below.refl _ _⟩
  case round =>
    clear ho
    obtain ⟨k, hk, rfl, rfl, hown, hb⟩ := hrel
    have hlt := hown.lt
    by_cases hk8 : k < 8
    · have hki : (k : Int) < 8 := by omega
      obtain ⟨x, hx⟩ : ∃ x : Int, (n : Int) / 256 ^ k = x := ⟨_, rfl⟩
      have hp : (0 : Int) < 256 ^ k := pow256 k
      have hx0 : 0 ≤ x := by rw [← hx]; exact Int.ediv_nonneg (by omega) (by omega)
      have hx1 : x ≤ 100000 := by rw [← hx]; have := Int.ediv_le_self (256 ^ k) (show (0 : Int) ≤ n by omega); omega
      have HX : Hid ((n : Int) / 256 ^ (k + 1) = x / 256) := by unfold Hid; rw [Int.pow_succ, ← Int.ediv_ediv_of_nonneg (Int.le_of_lt hp), hx]
      have HBY : Hid (x % 256 = byteN n k) := by unfold Hid byteN; rw [hx]
      have hlk := leB_length k (n : Int)
      have HS : Hid (leB (k + 1) (n : Int) = leB k n ++ [byteN n k]) := leB_succ k _
      rw [hx]
      clear hx hp
      generalize leB k (n : Int) = pre at hown HS hlk
      generalize byteN (n : Int) k = y at HBY HS
      go_wp2_with (at_builtin; refine wpList_append_sl _ rfl _ _ 26 rfl B 5 Tryz.underlying26 info5 _ _ rfl rfl (l ++ pre) [y] (hown.alloc _) (Sl.one2 _ _ _ _ rfl ?_ ?_) (by simp; omega) (by have := hb.size; simp; omega) ?_)
      · have := HBY.out; omega
      · have := HBY.out; omega
      intro v2 w2 ho2 hg2
      have ho2' : w2.ownsRow B 5 1 v2 (l ++ (pre ++ [y])).length ((l ++ (pre ++ [y])).map (Value.int .u8)) := by rw [← List.append_assoc]; simpa [hlk] using ho2
      have hb2 : Below B w w2 := (hb.alloc (Nat.le_trans hB hb.size) _).grown hg2 (by have := hb.size; simp; omega) (fun k hk => (hlt k hk).1)
      clear ho2 hg2 hown hlt hb
      go_wp2
      go_roundw
      case rel => exact ⟨k + 1, by omega, by go_num, by rw [HX.out], by rw [HS.out]; exact ho2', hb2⟩
      case measure => simp [intOf]; omega
    · obtain rfl : k = 8 := by omega
      go_wp2
      go_ret
      exact ⟨_, rfl, hown, hb⟩

set_option maxHeartbeats 1000000 in
theorem laid_any (va vs : Value) (a s : List Int) (w : World) (ha : Sl w va a) (hs : Sl w vs s) (la : a.length ≤ 10000) (ls : s.length ≤ 10000) :
    Calls Tryz.prog 184 #[va, vs] w fun e w' => ∃ v', e = .returned v' ∧ Sl w' v' (laidL a s) ∧ Below w.heap.size w w' := by
  have HL : Hid (laidL a s = padL (padL a ++ s) ++ leB 8 (a.length : Int) ++ leB 8 (s.length : Int)) := by unfold Hid; rw [padL_app]; rfl
  have HY : Hid (∀ x ∈ laidL a s, 0 ≤ x ∧ x < 256) := laidL_byte ha.byte hs.byte
  have HN : Hid ((laidL a s).length ≤ 30000) := by unfold Hid; rw [laidL_length]; have := gap_lt a.length; have := gap_lt s.length; omega
  have hpa : (padL a).length ≤ 11000 := by rw [padL_length]; have := gap_lt a.length; omega
  have hpp : (padL (padL a ++ s)).length ≤ 30000 := by rw [padL_length, List.length_append]; have := gap_lt ((padL a).length + s.length); omega
  obtain ⟨aa, ca, rfl⟩ := ha.shape
  obtain ⟨as0, cs, rfl⟩ := hs.shape
  generalize hn : a.length = n at la HL ha ⊢
  generalize hm : s.length = m at ls HL hs ⊢
  have HNA : Hid (a.length = n) := hn
  have HMS : Hid (s.length = m) := hm
  clear hn hm
  go_enter Tryz.func184, Tryz.ntmps184
  go_wp2_with (at_builtin; refine wpList_append_sl _ rfl _ _ 26 rfl w.heap.size 5 Tryz.underlying26 info5 _ _ rfl rfl [] a (World.ownsRow_nil _ _ _ _) ha (by have := HNA.out; simp; omega) (Nat.le_refl _) ?_)
  intro v1 w1 ho1 hg1
  have b1 : Below w.heap.size w w1 := (Below.refl _ _).grown hg1 (Nat.le_refl _) (by simp [Value.ownBlock])
  replace ho1 : w1.ownsRow w.heap.size 5 1 v1 a.length (a.map (Value.int .u8)) := by simpa using ho1
  clear hg1
  go_wp2_with fail
  refine (sfilled_any v1 a w.heap.size w1 ho1 b1.size (by have := HNA.out; omega)).mono ?_
  rintro e w2 ⟨v2, rfl, ho2, b2⟩
  replace b2 := b1.trans b2
  clear ho1 b1
  have hs2 := hs.below b2
  have hlt := ho2.lt
  generalize padL a = A at HL hpa hpp ho2
  go_wp2_with (at_builtin; refine wpList_append_sl _ rfl _ _ 26 rfl w.heap.size 5 Tryz.underlying26 info5 _ _ rfl rfl A s ho2 hs2 (by have := HMS.out; omega) b2.size ?_)
  intro v3 w3 ho3 hg3
  have b3 : Below w.heap.size w w3 := b2.grown hg3 b2.size (fun k hk => (hlt k hk).1)
  clear hg3 hlt ho2 b2 hs2
  replace ho3 : w3.ownsRow w.heap.size 5 1 v3 (A ++ s).length ((A ++ s).map (Value.int .u8)) := by simpa using ho3
  have hAs : (A ++ s).length ≤ 21000 := by rw [List.length_append]; have := HMS.out; omega
  generalize A ++ s = AS at HL hpp ho3 hAs
  go_wp2_with fail
  refine (sfilled_any v3 AS w.heap.size w3 ho3 b3.size (by omega)).mono ?_
  rintro e w4 ⟨v4, rfl, ho4, b4⟩
  replace b4 := b3.trans b4
  clear ho3 b3
  generalize padL AS = X at HL hpp ho4
  go_wp2_with fail
  refine (withLength_any v4 X n w.heap.size w4 ho4 b4.size (by omega) (by omega)).mono ?_
  rintro e w5 ⟨v5, rfl, ho5, b5⟩
  replace b5 := b4.trans b5
  have hX5 : (X ++ leB 8 (n : Int)).length ≤ 30008 := by rw [List.length_append, leB_length]; omega
  clear ho4 b4
  generalize X ++ leB 8 (n : Int) = X5 at HL hX5 ho5
  go_wp2_with fail
  refine (withLength_any v5 X5 m w.heap.size w5 ho5 b5.size (by omega) (by omega)).mono ?_
  rintro e w6 ⟨v6, rfl, ho6, b6⟩
  replace b6 := b5.trans b6
  rw [← HL.out] at ho6
  go_wp2
  go_ret
  exact ⟨_, rfl, Sl.ofOwns ho6 (by have := HN.out; omega) HY.out, b6⟩

/-- have the key, the nonce and what is known lengths that they may have? -/
def fits (key nonce a : List Int) : Bool := decide (key.length = 32) && decide (nonce.length = 12) && decide (a.length ≤ 256)
set_option maxHeartbeats 1000000 in
theorem fit_any (vk vn va : Value) (key nonce a : List Int) (w : World) (hk : Sl w vk key) (hn : Sl w vn nonce) (ha : Sl w va a) :
    Calls Tryz.prog 136 #[vk, vn, va] w fun e w' => e = .returned (.bool (fits key nonce a)) ∧ w' = w := by
  have h1 := hk.len
  have h2 := hn.len
  have h3 := ha.len
  obtain ⟨ak, ck, rfl⟩ := hk.shape
  obtain ⟨an, cn, rfl⟩ := hn.shape
  obtain ⟨aa, ca, rfl⟩ := ha.shape
  unfold fits
  generalize key.length = n1 at h1 hk ⊢
  generalize nonce.length = n2 at h2 hn ⊢
  generalize a.length = n3 at h3 ha ⊢
  clear hk hn ha
  by_cases c1 : (n1 : Int) = 32
  · by_cases c2 : (n2 : Int) = 12
    · by_cases c3 : (n3 : Int) ≤ 256
      · go_enter Tryz.func136, Tryz.ntmps136
        go_wp2
        go_ret
        refine ⟨ret_bool ?_, rfl⟩
        simp; omega
      · go_enter Tryz.func136, Tryz.ntmps136
        go_wp2
        go_ret
        refine ⟨ret_bool ?_, rfl⟩
        simp; omega
    · go_enter Tryz.func136, Tryz.ntmps136
      go_wp2
      go_ret
      refine ⟨ret_bool ?_, rfl⟩
      simp; omega
  · go_enter Tryz.func136, Tryz.ntmps136
    go_wp2
    go_ret
    refine ⟨ret_bool ?_, rfl⟩
    simp; omega
end Go.Proofs.YtakgfdbjgeopdaaGreatDoor
/-
  Laws of the stream of bytes, and of lists in memory. No program is named here.
-/
namespace Go.Proofs.YtakgfdbjgeopdaaGreatDoor
open Go.RowKit

theorem getD_drop (l : List Int) (k i : Nat) : (l.drop k).getD i 0 = l.getD (k + i) 0 := by
  simp [List.getD, List.getElem?_drop]
theorem getD_take (l : List Int) (k i : Nat) (hi : i < k) : (l.take k).getD i 0 = l.getD i 0 := by
  simp [List.getD, hi]
theorem Sl.cut {w : World} {a : Option Addr} {n cap : Nat} {l : List Int} (h : Sl w (.slice a n cap) l) (lo hi : Nat) (hlo : lo ≤ hi) (hhi : hi ≤ l.length) : Sl w (sliced a lo hi cap 1) ((l.take hi).drop lo) := by
  have hd := (h.take hi hhi).len
  have hb := h.byte
  obtain ⟨⟨a', cap', e, hc, hn, h1⟩, hla, hba⟩ := h
  simp only [Value.slice.injEq] at e
  obtain ⟨rfl, rfl, rfl⟩ := e
  have hl : ((l.take hi).drop lo).length = hi - lo := by rw [List.length_drop, List.length_take]; omega
  have hbb : ∀ x ∈ (l.take hi).drop lo, 0 ≤ x ∧ x < 256 := fun x hx => hb x (List.mem_of_mem_take (List.mem_of_mem_drop hx))
  cases a with
  | none =>
    have c0 := hn rfl
    subst c0
    have h0 : l.length = 0 := by omega
    refine ⟨⟨_, _, by rw [hl]; rfl, by omega, fun _ => by omega, .inl (List.eq_nil_of_length_eq_zero (by omega))⟩, by omega, hbb⟩
  | some ad =>
    refine ⟨⟨_, _, by rw [hl]; rfl, by omega, (by intro h; split at h <;> simp at h), ?_⟩, by omega, hbb⟩
    rcases Nat.eq_or_lt_of_le hlo with he | hlt
    · exact .inl (List.eq_nil_of_length_eq_zero (by omega))
    · rcases h1 with rfl | ⟨b, off, e2, hbs, hcell⟩
      · simp at hhi; omega
      · simp only [Option.some.injEq] at e2
        subst e2
        refine .inr ⟨b, off + lo, ?_, hbs, fun i hi2 => ?_⟩
        · rw [if_neg (by omega)]
          simp [Addr.add]
        · rw [hl] at hi2
          rw [Nat.add_assoc, hcell (lo + i) (by omega), getD_drop, getD_take _ _ _ (by omega)]

theorem size5s (w : World) : (Go.sizeOf 5).run Tryz.prog w = .ok 1 w := by
  obtain ⟨i, hi, _, hsz, _⟩ := info_parts info5
  simp [sizeOf, typeInfo, hi, hsz]

set_option maxRecDepth 100000 in
theorem cut_lh (a : Option Addr) (n cap lo hi : Nat) (hlo : lo ≤ hi) (hhi : hi ≤ cap) : ∀ W, (Instr.slice 26 (.slice a n cap) (some (.int .i64 (lo : Int))) (some (.int .i64 (hi : Int))) none).run Tryz.prog W = .ok (sliced a lo hi cap 1) W := by
  intro W
  rw [run_slice_lh (P := Tryz.prog) W 26 a n cap Tryz.underlying26 .i64 .i64 _ _ (by omega) (by omega) (by omega)]
  have e : Tryz.prog.elem 26 = 5 := by kernel_rfl
  rw [e, size5s]
  simp [Result.andThen]
set_option maxRecDepth 100000 in
theorem cut_l (a : Option Addr) (n cap lo : Nat) (hlo : lo ≤ n) : ∀ W, (Instr.slice 26 (.slice a n cap) (some (.int .i64 (lo : Int))) none none).run Tryz.prog W = .ok (sliced a lo n cap 1) W := by
  intro W
  rw [run_slice_l (P := Tryz.prog) W 26 a n cap Tryz.underlying26 .i64 _ (by omega) (by omega)]
  have e : Tryz.prog.elem 26 = 5 := by kernel_rfl
  rw [e, size5s]
  simp [Result.andThen]
set_option maxRecDepth 100000 in
theorem cut_h (a : Option Addr) (n cap hi : Nat) (hhi : hi ≤ cap) : ∀ W, (Instr.slice 26 (.slice a n cap) none (some (.int .i64 (hi : Int))) none).run Tryz.prog W = .ok (sliced a 0 hi cap 1) W := by
  intro W
  rw [run_slice_h (P := Tryz.prog) W 26 a n cap Tryz.underlying26 .i64 _ (by omega) (by omega)]
  have e : Tryz.prog.elem 26 = 5 := by kernel_rfl
  rw [e, size5s]
  simp [Result.andThen]

theorem Sl.grownC {w w' : World} {v : Value} {l : List Int} {row : Option Nat} (h : Sl w v l) (hg : w.grownBy w' row) (hv : ∀ b o n c, v = .slice (some ⟨b, o, none⟩) n c → some b ≠ row) : Sl w' v l := by
  obtain ⟨⟨a, cap, rfl, hc, hn, h1⟩, h2, h3⟩ := h
  refine ⟨⟨a, cap, rfl, hc, hn, ?_⟩, h2, h3⟩
  rcases h1 with h1 | ⟨b, off, rfl, hbs, hcell⟩
  · exact .inl h1
  · refine .inr ⟨b, off, rfl, Nat.lt_of_lt_of_le hbs hg.size, fun i hi => ?_⟩
    rw [← hcell i hi]
    exact World.cell?_of_block (w := w) (hg.block b hbs (hv _ _ _ _ rfl))

/-- bytes appended to a row of the call's own, and where the row lies then -/
theorem wpList_append_at {P : Program} (w : World) {ops : Array Oper} {rest : List Oper} {o : Oper} {a : Act} {Q : Exit → Act → World → Prop} (hgd : o.guard = none) (s x : Operand) (t : TypeId)
    (ho : o.op = .call { callee := .builtin .append, args := #[s, x], argTypes := #[t, t] })
    (base e : Nat) (ht : P.underlying t = some (.slice e)) (hinfo : (P.info? e).map (fun i => (i.zero, i.size, i.bytes)) = some (some (.int .u8 0), 1, 1))
    (v u : Value) (hs : a.eval s = v) (hx : a.eval x = u) (l m : List Int) (hown : w.ownsRow base e 1 v l.length (l.map (Value.int .u8))) (hu : Sl w u m)
    (hlen : l.length + m.length ≤ 140737488355328) (hbase : base ≤ w.heap.size)
    (h : ∀ v' w', w'.ownsRow base e 1 v' (l ++ m).length ((l ++ m).map (Value.int .u8)) → w.grownBy w' v.ownBlock → (v'.ownBlock = v.ownBlock ∨ v'.ownBlock = some w.heap.size) → wpList P ops Q rest (a.put o.dst v') w') : wpList P ops Q (o :: rest) a w := by
  refine wpList_plain hgd fun K hK => ?_
  have hrun : ∃ v' w', (Builtin.append_ #[t, t] o.type #[v, u]).run P w = .ok v' w' ∧ w'.ownsRow base e 1 v' (l ++ m).length ((l ++ m).map (Value.int .u8)) ∧ w.grownBy w' v.ownBlock ∧ (v'.ownBlock = v.ownBlock ∨ v'.ownBlock = some w.heap.size) := by
    obtain ⟨i, hi, hz, hsz, hby⟩ := info_parts hinfo
    obtain ⟨⟨a, cap, rfl, hc, hn, h1⟩, _, _⟩ := hu
    cases a with
    | none =>
      have hc0 := hn rfl
      subst hc0
      have hm : m = [] := List.eq_nil_of_length_eq_zero (by omega)
      subst hm
      exact ⟨v, w, run_append_owned_none (P := P) (w := w) base t o.type e i 1 ht hi v l.length _ hown, by simpa using hown, ⟨rfl, rfl, rfl, Nat.le_refl _, fun _ _ _ => rfl⟩, .inl rfl⟩
    | some ad =>
      have hcells : ∀ j u, (m.map (Value.int .u8))[j]? = some u → w.cell? (ad.add j) = some u := by
        intro j u hj
        rcases h1 with rfl | ⟨b, off, hab, _, hcell⟩
        · simp at hj
        · obtain rfl : ad = ⟨b, off, none⟩ := by simpa using hab
          have hjl : j < m.length := by
            have := (List.getElem?_eq_some_iff.1 hj).1
            simpa using this
          have hadd : (⟨b, off, none⟩ : Addr).add j = ⟨b, off + j, none⟩ := by unfold Addr.add; split <;> simp_all
          rw [hadd, hcell j hjl]
          simp [List.getElem?_eq_getElem hjl] at hj
          rw [getD_at hjl, hj]
      obtain ⟨v', w', hr, ho, hg, _, h5⟩ := run_append_own_at (P := P) w base t o.type e i (.int .u8 0) 1 1 ht hi hz hsz hby rfl (by decide) v l.length _ hown ad m.length cap (m.map (Value.int .u8)) (by simp) hcells (ints_one m)
        (by unfold maxLen; omega) (by omega) hbase
      exact ⟨v', w', hr, by simpa using ho, hg, h5⟩
  obtain ⟨v', w', hrun, r1, r2, r3⟩ := hrun
  unfold Oper.wp execOp
  simp only [ho, resolve, invoke, builtin, Sem.run_bind, Sem.run_pure, Result.andThen_ok, List.map_toArray, List.map_cons, List.map_nil, hs, hx, hrun]
  exact hK _ _ (h v' w' r1 r2 r3)

theorem made_zeros (n : Nat) : (madeCells #[Value.int .u8 0] n).toList = (List.replicate n (0 : Int)).map (Value.int .u8) := by
  rw [toList_madeCells_one, List.map_replicate]

theorem Sl.made {w : World} {base n : Nat} {v : Value} (h : w.ownsRow base 5 1 v n (madeCells #[Value.int .u8 0] n).toList) (hn : n ≤ 140737488351232) : Sl w v (List.replicate n 0) := by
  rw [made_zeros] at h
  refine Sl.ofOwns (base := base) (e := 5) ?_ (by rw [List.length_replicate]; exact hn) (fun x hx => by rw [(List.mem_replicate.1 hx).2]; omega)
  rw [List.length_replicate]
  exact h

theorem getD_zeros (n i : Nat) : (List.replicate n (0 : Int)).getD i 0 = 0 := by
  rcases Nat.lt_or_ge i n with h | h
  · rw [getD_at (by rw [List.length_replicate]; exact h), List.getElem_replicate]
  · rw [getD_past (by rw [List.length_replicate]; exact h)]

/-- the bytes of the stream, as they are -/
theorem mixZ_at (s : List (BitVec 32)) (n i : Nat) (hi : i < n) : (mixL s (List.replicate n 0)).getD i 0 = strAt s i := by
  rw [mixL, List.length_replicate, mixTo_at _ _ _ _ hi, getD_zeros, bx_zero (strAt_byte s i).1]

/-- the state of the next counter -/
theorem strAt_next (key nonce : List Int) (c i : Nat) : strAt (begunL key (BitVec.ofNat 32 (c + 1)) nonce) i = strAt (begunL key (BitVec.ofNat 32 c) nonce) (64 + i) := by
  unfold strAt
  rw [begunL_at, begunL_at, begunL_counter, begunL_counter]
  rw [show (64 + i) / 64 = i / 64 + 1 by omega, show (64 + i) % 64 = i % 64 by omega]
  have e : BitVec.ofNat 32 (c + 1) + BitVec.ofNat 32 (i / 64) = BitVec.ofNat 32 c + BitVec.ofNat 32 (i / 64 + 1) := by
    apply BitVec.eq_of_toNat_eq
    simp [BitVec.toNat_add, BitVec.toNat_ofNat]
    omega
  rw [e]
theorem strAt_on (key nonce : List Int) (c q i : Nat) : strAt (begunL key (BitVec.ofNat 32 (c + q)) nonce) i = strAt (begunL key (BitVec.ofNat 32 c) nonce) (64 * q + i) := by
  induction q generalizing i with
  | zero => simp
  | succ q ih =>
    rw [← Nat.add_assoc, strAt_next, ih]
    congr 1
    omega
theorem strAt_first (key nonce : List Int) (c i : Nat) (hi : i < 64) : strAt (begunL key (BitVec.ofNat 32 c) nonce) i = (blockL (begunL key (BitVec.ofNat 32 c) nonce)).getD i 0 := by
  unfold strAt
  rw [begunL_at, begunL_counter, show i / 64 = 0 by omega, show i % 64 = i by omega, show BitVec.ofNat 32 0 = 0#32 from rfl, BitVec.add_zero]

theorem getD_app_left (l m : List Int) (i : Nat) (hi : i < l.length) : (l ++ m).getD i 0 = l.getD i 0 := by
  simp [List.getD, List.getElem?_append_left hi]
theorem getD_app_right (l m : List Int) (i : Nat) (hi : l.length ≤ i) : (l ++ m).getD i 0 = m.getD (i - l.length) 0 := by
  simp [List.getD, List.getElem?_append_right hi]

theorem mix_step (key nonce : List Int) (c m : Nat) : (mixL (begunL key (BitVec.ofNat 32 c) nonce) (List.replicate (64 + m) 0)).drop 64 = mixL (begunL key (BitVec.ofNat 32 (c + 1)) nonce) (List.replicate m 0) := by
  have l1 := mixL_length (begunL key (BitVec.ofNat 32 c) nonce) (List.replicate (64 + m) 0)
  have l2 := mixL_length (begunL key (BitVec.ofNat 32 (c + 1)) nonce) (List.replicate m 0)
  rw [List.length_replicate] at l1 l2
  refine list_ext (by rw [List.length_drop, l1, l2]; omega) fun i hi => ?_
  rw [List.length_drop, l1] at hi
  rw [getD_drop, mixZ_at _ _ _ (by omega), mixZ_at _ _ _ (by omega), strAt_next]

theorem mix_at (vk vn vd : Value) (key nonce d : List Int) (x : Int) (c : Nat) (hx : x = (c : Int)) (w : World) (hk : Sl w vk key) (hn : Sl w vn nonce) (hd : Sl w vd d) (lk : key.length = 32) (ln : nonce.length = 12) (hc : c ≤ 1073741824) (ld : d.length ≤ 2000) (ht : QTab w) :
    Calls Tryz.prog 137 #[vk, .int .i64 x, vn, vd] w fun e w' => ∃ v', e = .returned (.tuple #[v', .int .i64 0]) ∧ Got w w' v' (mixL (begunL key (BitVec.ofNat 32 c) nonce) d) := by
  subst hx
  exact mix_ok vk vn vd key nonce d c w hk hn hd lk ln hc ld ht
theorem block_at (vk vn : Value) (key nonce : List Int) (x : Int) (c : Nat) (hx : x = (c : Int)) (w : World) (hk : Sl w vk key) (hn : Sl w vn nonce) (lk : key.length = 32) (ln : nonce.length = 12) (hc : c ≤ 1073741824) (ht : QTab w) :
    Calls Tryz.prog 182 #[vk, .int .i64 x, vn] w fun e w' => ∃ v', e = .returned (.tuple #[v', .int .i64 0]) ∧ Got w w' v' (blockL (begunL key (BitVec.ofNat 32 c) nonce)) := by
  subst hx
  exact block_ok vk vn key nonce c w hk hn lk ln hc ht

/-- the first k parts of d, each mixed from its own block on, one behind the other -/
theorem mix_parts (key nonce d : List Int) (c q : Nat) (hq : 64 * q < d.length) :
    mixTo (begunL key (BitVec.ofNat 32 c) nonce) d (64 * q) ++ mixL (begunL key (BitVec.ofNat 32 (c + q)) nonce) ((d.take (min (64 * q + 64) d.length)).drop (64 * q)) = mixTo (begunL key (BitVec.ofNat 32 c) nonce) d (min (64 * (q + 1)) d.length) := by
  have l1 := mixTo_length (begunL key (BitVec.ofNat 32 c) nonce) d (64 * q)
  have l2 : ((d.take (min (64 * q + 64) d.length)).drop (64 * q)).length = min (64 * q + 64) d.length - 64 * q := by rw [List.length_drop, List.length_take]; omega
  have l3 := mixL_length (begunL key (BitVec.ofNat 32 (c + q)) nonce) ((d.take (min (64 * q + 64) d.length)).drop (64 * q))
  rw [l2] at l3
  refine list_ext (by rw [List.length_append, l1, l3, mixTo_length]; omega) fun i hi => ?_
  rw [List.length_append, l1, l3] at hi
  rw [mixTo_at _ _ _ i (by omega)]
  rcases Nat.lt_or_ge i (64 * q) with h | h
  · rw [getD_app_left _ _ _ (by rw [l1]; exact h), mixTo_at _ _ _ _ h]
  · rw [getD_app_right _ _ _ (by rw [l1]; exact h), l1, mixL, mixTo_at _ _ _ _ (by rw [l2]; omega), strAt_on, getD_drop, getD_take _ _ _ (by omega), show 64 * q + (i - 64 * q) = i by omega]

/-- the stream as blocks, one behind the other -/
def blocksL (key nonce : List Int) (c : Nat) : Nat → List Int
  | 0 => []
  | q + 1 => blocksL key nonce c q ++ blockL (begunL key (BitVec.ofNat 32 (c + q)) nonce)
theorem blocksL_length (key nonce : List Int) (c q : Nat) : (blocksL key nonce c q).length = 64 * q := by
  induction q with
  | zero => rfl
  | succ q ih => rw [blocksL, List.length_append, ih, blockL_length]; omega
theorem blocksL_byte (key nonce : List Int) (c q : Nat) : ∀ x ∈ blocksL key nonce c q, 0 ≤ x ∧ x < 256 := by
  induction q with
  | zero => intro x hx; cases hx
  | succ q ih =>
    intro x hx
    rcases List.mem_append.1 hx with h | h
    · exact ih x h
    · exact blockL_byte _ x h
theorem blocksL_at (key nonce : List Int) (c q i : Nat) (hi : i < 64 * q) : (blocksL key nonce c q).getD i 0 = strAt (begunL key (BitVec.ofNat 32 c) nonce) i := by
  induction q with
  | zero => omega
  | succ q ih =>
    have hl := blocksL_length key nonce c q
    rw [blocksL]
    rcases Nat.lt_or_ge i (64 * q) with h | h
    · rw [getD_app_left _ _ _ (by rw [hl]; exact h), ih h]
    · rw [getD_app_right _ _ _ (by rw [hl]; exact h), hl, ← strAt_first _ _ _ _ (by omega), strAt_on, show 64 * q + (i - 64 * q) = i by omega]
theorem blocks_all (key nonce : List Int) (c q n : Nat) (hn : n ≤ 64 * q) : mixL (begunL key (BitVec.ofNat 32 c) nonce) (List.replicate n 0) = (blocksL key nonce c q).take n := by
  have l1 := mixL_length (begunL key (BitVec.ofNat 32 c) nonce) (List.replicate n 0)
  rw [List.length_replicate] at l1
  refine list_ext (by rw [l1, List.length_take, blocksL_length]; omega) fun i hi => ?_
  rw [l1] at hi
  rw [mixZ_at _ _ _ hi, getD_take _ _ _ hi, blocksL_at _ _ _ _ _ (by omega)]

end Go.Proofs.YtakgfdbjgeopdaaGreatDoor
