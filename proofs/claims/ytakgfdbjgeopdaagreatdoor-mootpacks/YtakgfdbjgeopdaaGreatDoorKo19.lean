/-
  Laws of the stream of bytes, and of lists in memory. No program is named here.
-/
import Derived.Laws.OwnMore
import Derived.Maps.AppendAt
import Derived.Deep.RegionWith
import Derived.Test.YtakgfdbjgeopdaaGreatDoorKo5
import Derived.Test.YtakgfdbjgeopdaaGreatDoorKo18
import Derived.Test.YtakgfdbjgeopdaaGreatDoorKo6
namespace Go.Proofs.YtakgfdbjgeopdaaGreatDoor
open Go.RowKit

theorem getD_drop (l : List Int) (k i : Nat) : (l.drop k).getD i 0 = l.getD (k + i) 0 := by
  simp [List.getD, List.getElem?_drop]
theorem getD_take (l : List Int) (k i : Nat) (hi : i < k) : (l.take k).getD i 0 = l.getD i 0 := by
  simp [List.getD, hi]
theorem Sl.cut {w : World} {a : Option Addr} {n cap : Nat} {l : List Int} (h : Sl w (.slice a n cap) l) (lo hi : Nat) (hlo : lo ≤ hi) (hhi : hi ≤ l.length) : Sl w (sliced a lo hi cap 1) ((l.take hi).drop lo) := by
  have hd := (h.take hi hhi).len
  have hb := h.byte
  obtain ⟨⟨a', cap', e, hc, hn, h1⟩, hla, hba⟩ := h
  simp only [Value.slice.injEq] at e
  obtain ⟨rfl, rfl, rfl⟩ := e
  have hl : ((l.take hi).drop lo).length = hi - lo := by rw [List.length_drop, List.length_take]; omega
  have hbb : ∀ x ∈ (l.take hi).drop lo, 0 ≤ x ∧ x < 256 := fun x hx => hb x (List.mem_of_mem_take (List.mem_of_mem_drop hx))
  cases a with
  | none =>
    have c0 := hn rfl
    subst c0
    have h0 : l.length = 0 := by omega
    refine ⟨⟨_, _, by rw [hl]; rfl, by omega, fun _ => by omega, .inl (List.eq_nil_of_length_eq_zero (by omega))⟩, by omega, hbb⟩
  | some ad =>
    refine ⟨⟨_, _, by rw [hl]; rfl, by omega, (by intro h; split at h <;> simp at h), ?_⟩, by omega, hbb⟩
    rcases Nat.eq_or_lt_of_le hlo with he | hlt
    · exact .inl (List.eq_nil_of_length_eq_zero (by omega))
    · rcases h1 with rfl | ⟨b, off, e2, hbs, hcell⟩
      · simp at hhi; omega
      · simp only [Option.some.injEq] at e2
        subst e2
        refine .inr ⟨b, off + lo, ?_, hbs, fun i hi2 => ?_⟩
        · rw [if_neg (by omega)]
          simp [Addr.add]
        · rw [hl] at hi2
          rw [Nat.add_assoc, hcell (lo + i) (by omega), getD_drop, getD_take _ _ _ (by omega)]

theorem size5s (w : World) : (Go.sizeOf 5).run Tryz.prog w = .ok 1 w := by
  obtain ⟨i, hi, _, hsz, _⟩ := info_parts info5
  simp [sizeOf, typeInfo, hi, hsz]

set_option maxRecDepth 100000 in
theorem cut_lh (a : Option Addr) (n cap lo hi : Nat) (hlo : lo ≤ hi) (hhi : hi ≤ cap) : ∀ W, (Instr.slice 26 (.slice a n cap) (some (.int .i64 (lo : Int))) (some (.int .i64 (hi : Int))) none).run Tryz.prog W = .ok (sliced a lo hi cap 1) W := by
  intro W
  rw [run_slice_lh (P := Tryz.prog) W 26 a n cap Tryz.underlying26 .i64 .i64 _ _ (by omega) (by omega) (by omega)]
  have e : Tryz.prog.elem 26 = 5 := by kernel_rfl
  rw [e, size5s]
  simp [Result.andThen]
set_option maxRecDepth 100000 in
theorem cut_l (a : Option Addr) (n cap lo : Nat) (hlo : lo ≤ n) : ∀ W, (Instr.slice 26 (.slice a n cap) (some (.int .i64 (lo : Int))) none none).run Tryz.prog W = .ok (sliced a lo n cap 1) W := by
  intro W
  rw [run_slice_l (P := Tryz.prog) W 26 a n cap Tryz.underlying26 .i64 _ (by omega) (by omega)]
  have e : Tryz.prog.elem 26 = 5 := by kernel_rfl
  rw [e, size5s]
  simp [Result.andThen]
set_option maxRecDepth 100000 in
theorem cut_h (a : Option Addr) (n cap hi : Nat) (hhi : hi ≤ cap) : ∀ W, (Instr.slice 26 (.slice a n cap) none (some (.int .i64 (hi : Int))) none).run Tryz.prog W = .ok (sliced a 0 hi cap 1) W := by
  intro W
  rw [run_slice_h (P := Tryz.prog) W 26 a n cap Tryz.underlying26 .i64 _ (by omega) (by omega)]
  have e : Tryz.prog.elem 26 = 5 := by kernel_rfl
  rw [e, size5s]
  simp [Result.andThen]

theorem Sl.grownC {w w' : World} {v : Value} {l : List Int} {row : Option Nat} (h : Sl w v l) (hg : w.grownBy w' row) (hv : ∀ b o n c, v = .slice (some ⟨b, o, none⟩) n c → some b ≠ row) : Sl w' v l := by
  obtain ⟨⟨a, cap, rfl, hc, hn, h1⟩, h2, h3⟩ := h
  refine ⟨⟨a, cap, rfl, hc, hn, ?_⟩, h2, h3⟩
  rcases h1 with h1 | ⟨b, off, rfl, hbs, hcell⟩
  · exact .inl h1
  · refine .inr ⟨b, off, rfl, Nat.lt_of_lt_of_le hbs hg.size, fun i hi => ?_⟩
    rw [← hcell i hi]
    exact World.cell?_of_block (w := w) (hg.block b hbs (hv _ _ _ _ rfl))

/-- bytes appended to a row of the call's own, and where the row lies then -/
theorem wpList_append_at {P : Program} (w : World) {ops : Array Oper} {rest : List Oper} {o : Oper} {a : Act} {Q : Exit → Act → World → Prop} (hgd : o.guard = none) (s x : Operand) (t : TypeId)
    (ho : o.op = .call { callee := .builtin .append, args := #[s, x], argTypes := #[t, t] })
    (base e : Nat) (ht : P.underlying t = some (.slice e)) (hinfo : (P.info? e).map (fun i => (i.zero, i.size, i.bytes)) = some (some (.int .u8 0), 1, 1))
    (v u : Value) (hs : a.eval s = v) (hx : a.eval x = u) (l m : List Int) (hown : w.ownsRow base e 1 v l.length (l.map (Value.int .u8))) (hu : Sl w u m)
    (hlen : l.length + m.length ≤ 140737488355328) (hbase : base ≤ w.heap.size)
    (h : ∀ v' w', w'.ownsRow base e 1 v' (l ++ m).length ((l ++ m).map (Value.int .u8)) → w.grownBy w' v.ownBlock → (v'.ownBlock = v.ownBlock ∨ v'.ownBlock = some w.heap.size) → wpList P ops Q rest (a.put o.dst v') w') : wpList P ops Q (o :: rest) a w := by
  refine wpList_plain hgd fun K hK => ?_
  have hrun : ∃ v' w', (Builtin.append_ #[t, t] o.type #[v, u]).run P w = .ok v' w' ∧ w'.ownsRow base e 1 v' (l ++ m).length ((l ++ m).map (Value.int .u8)) ∧ w.grownBy w' v.ownBlock ∧ (v'.ownBlock = v.ownBlock ∨ v'.ownBlock = some w.heap.size) := by
    obtain ⟨i, hi, hz, hsz, hby⟩ := info_parts hinfo
    obtain ⟨⟨a, cap, rfl, hc, hn, h1⟩, _, _⟩ := hu
    cases a with
    | none =>
      have hc0 := hn rfl
      subst hc0
      have hm : m = [] := List.eq_nil_of_length_eq_zero (by omega)
      subst hm
      exact ⟨v, w, run_append_owned_none (P := P) (w := w) base t o.type e i 1 ht hi v l.length _ hown, by simpa using hown, ⟨rfl, rfl, rfl, Nat.le_refl _, fun _ _ _ => rfl⟩, .inl rfl⟩
    | some ad =>
      have hcells : ∀ j u, (m.map (Value.int .u8))[j]? = some u → w.cell? (ad.add j) = some u := by
        intro j u hj
        rcases h1 with rfl | ⟨b, off, hab, _, hcell⟩
        · simp at hj
        · obtain rfl : ad = ⟨b, off, none⟩ := by simpa using hab
          have hjl : j < m.length := by
            have := (List.getElem?_eq_some_iff.1 hj).1
            simpa using this
          have hadd : (⟨b, off, none⟩ : Addr).add j = ⟨b, off + j, none⟩ := by unfold Addr.add; split <;> simp_all
          rw [hadd, hcell j hjl]
          simp [List.getElem?_eq_getElem hjl] at hj
          rw [getD_at hjl, hj]
      obtain ⟨v', w', hr, ho, hg, _, h5⟩ := run_append_own_at (P := P) w base t o.type e i (.int .u8 0) 1 1 ht hi hz hsz hby rfl (by decide) v l.length _ hown ad m.length cap (m.map (Value.int .u8)) (by simp) hcells (ints_one m)
        (by unfold maxLen; omega) (by omega) hbase
      exact ⟨v', w', hr, by simpa using ho, hg, h5⟩
  obtain ⟨v', w', hrun, r1, r2, r3⟩ := hrun
  unfold Oper.wp execOp
  simp only [ho, resolve, invoke, builtin, Sem.run_bind, Sem.run_pure, Result.andThen_ok, List.map_toArray, List.map_cons, List.map_nil, hs, hx, hrun]
  exact hK _ _ (h v' w' r1 r2 r3)

theorem made_zeros (n : Nat) : (madeCells #[Value.int .u8 0] n).toList = (List.replicate n (0 : Int)).map (Value.int .u8) := by
  rw [toList_madeCells_one, List.map_replicate]

theorem Sl.made {w : World} {base n : Nat} {v : Value} (h : w.ownsRow base 5 1 v n (madeCells #[Value.int .u8 0] n).toList) (hn : n ≤ 140737488351232) : Sl w v (List.replicate n 0) := by
  rw [made_zeros] at h
  refine Sl.ofOwns (base := base) (e := 5) ?_ (by rw [List.length_replicate]; exact hn) (fun x hx => by rw [(List.mem_replicate.1 hx).2]; omega)
  rw [List.length_replicate]
  exact h

theorem getD_zeros (n i : Nat) : (List.replicate n (0 : Int)).getD i 0 = 0 := by
  rcases Nat.lt_or_ge i n with h | h
  · rw [getD_at (by rw [List.length_replicate]; exact h), List.getElem_replicate]
  · rw [getD_past (by rw [List.length_replicate]; exact h)]

/-- the bytes of the stream, as they are -/
theorem mixZ_at (s : List (BitVec 32)) (n i : Nat) (hi : i < n) : (mixL s (List.replicate n 0)).getD i 0 = strAt s i := by
  rw [mixL, List.length_replicate, mixTo_at _ _ _ _ hi, getD_zeros, bx_zero (strAt_byte s i).1]

/-- the state of the next counter -/
theorem strAt_next (key nonce : List Int) (c i : Nat) : strAt (begunL key (BitVec.ofNat 32 (c + 1)) nonce) i = strAt (begunL key (BitVec.ofNat 32 c) nonce) (64 + i) := by
  unfold strAt
  rw [begunL_at, begunL_at, begunL_counter, begunL_counter]
  rw [show (64 + i) / 64 = i / 64 + 1 by omega, show (64 + i) % 64 = i % 64 by omega]
  have e : BitVec.ofNat 32 (c + 1) + BitVec.ofNat 32 (i / 64) = BitVec.ofNat 32 c + BitVec.ofNat 32 (i / 64 + 1) := by
    apply BitVec.eq_of_toNat_eq
    simp [BitVec.toNat_add, BitVec.toNat_ofNat]
    omega
  rw [e]
theorem strAt_on (key nonce : List Int) (c q i : Nat) : strAt (begunL key (BitVec.ofNat 32 (c + q)) nonce) i = strAt (begunL key (BitVec.ofNat 32 c) nonce) (64 * q + i) := by
  induction q generalizing i with
  | zero => simp
  | succ q ih =>
    rw [← Nat.add_assoc, strAt_next, ih]
    congr 1
    omega
theorem strAt_first (key nonce : List Int) (c i : Nat) (hi : i < 64) : strAt (begunL key (BitVec.ofNat 32 c) nonce) i = (blockL (begunL key (BitVec.ofNat 32 c) nonce)).getD i 0 := by
  unfold strAt
  rw [begunL_at, begunL_counter, show i / 64 = 0 by omega, show i % 64 = i by omega, show BitVec.ofNat 32 0 = 0#32 from rfl, BitVec.add_zero]

theorem getD_app_left (l m : List Int) (i : Nat) (hi : i < l.length) : (l ++ m).getD i 0 = l.getD i 0 := by
  simp [List.getD, List.getElem?_append_left hi]
theorem getD_app_right (l m : List Int) (i : Nat) (hi : l.length ≤ i) : (l ++ m).getD i 0 = m.getD (i - l.length) 0 := by
  simp [List.getD, List.getElem?_append_right hi]

theorem mix_step (key nonce : List Int) (c m : Nat) : (mixL (begunL key (BitVec.ofNat 32 c) nonce) (List.replicate (64 + m) 0)).drop 64 = mixL (begunL key (BitVec.ofNat 32 (c + 1)) nonce) (List.replicate m 0) := by
  have l1 := mixL_length (begunL key (BitVec.ofNat 32 c) nonce) (List.replicate (64 + m) 0)
  have l2 := mixL_length (begunL key (BitVec.ofNat 32 (c + 1)) nonce) (List.replicate m 0)
  rw [List.length_replicate] at l1 l2
  refine list_ext (by rw [List.length_drop, l1, l2]; omega) fun i hi => ?_
  rw [List.length_drop, l1] at hi
  rw [getD_drop, mixZ_at _ _ _ (by omega), mixZ_at _ _ _ (by omega), strAt_next]

theorem mix_at (vk vn vd : Value) (key nonce d : List Int) (x : Int) (c : Nat) (hx : x = (c : Int)) (w : World) (hk : Sl w vk key) (hn : Sl w vn nonce) (hd : Sl w vd d) (lk : key.length = 32) (ln : nonce.length = 12) (hc : c ≤ 1073741824) (ld : d.length ≤ 2000) (ht : QTab w) :
    Calls Tryz.prog 137 #[vk, .int .i64 x, vn, vd] w fun e w' => ∃ v', e = .returned (.tuple #[v', .int .i64 0]) ∧ Got w w' v' (mixL (begunL key (BitVec.ofNat 32 c) nonce) d) := by
  subst hx
  exact mix_ok vk vn vd key nonce d c w hk hn hd lk ln hc ld ht
theorem block_at (vk vn : Value) (key nonce : List Int) (x : Int) (c : Nat) (hx : x = (c : Int)) (w : World) (hk : Sl w vk key) (hn : Sl w vn nonce) (lk : key.length = 32) (ln : nonce.length = 12) (hc : c ≤ 1073741824) (ht : QTab w) :
    Calls Tryz.prog 182 #[vk, .int .i64 x, vn] w fun e w' => ∃ v', e = .returned (.tuple #[v', .int .i64 0]) ∧ Got w w' v' (blockL (begunL key (BitVec.ofNat 32 c) nonce)) := by
  subst hx
  exact block_ok vk vn key nonce c w hk hn lk ln hc ht

/-- the first k parts of d, each mixed from its own block on, one behind the other -/
theorem mix_parts (key nonce d : List Int) (c q : Nat) (hq : 64 * q < d.length) :
    mixTo (begunL key (BitVec.ofNat 32 c) nonce) d (64 * q) ++ mixL (begunL key (BitVec.ofNat 32 (c + q)) nonce) ((d.take (min (64 * q + 64) d.length)).drop (64 * q)) = mixTo (begunL key (BitVec.ofNat 32 c) nonce) d (min (64 * (q + 1)) d.length) := by
  have l1 := mixTo_length (begunL key (BitVec.ofNat 32 c) nonce) d (64 * q)
  have l2 : ((d.take (min (64 * q + 64) d.length)).drop (64 * q)).length = min (64 * q + 64) d.length - 64 * q := by rw [List.length_drop, List.length_take]; omega
  have l3 := mixL_length (begunL key (BitVec.ofNat 32 (c + q)) nonce) ((d.take (min (64 * q + 64) d.length)).drop (64 * q))
  rw [l2] at l3
  refine list_ext (by rw [List.length_append, l1, l3, mixTo_length]; omega) fun i hi => ?_
  rw [List.length_append, l1, l3] at hi
  rw [mixTo_at _ _ _ i (by omega)]
  rcases Nat.lt_or_ge i (64 * q) with h | h
  · rw [getD_app_left _ _ _ (by rw [l1]; exact h), mixTo_at _ _ _ _ h]
  · rw [getD_app_right _ _ _ (by rw [l1]; exact h), l1, mixL, mixTo_at _ _ _ _ (by rw [l2]; omega), strAt_on, getD_drop, getD_take _ _ _ (by omega), show 64 * q + (i - 64 * q) = i by omega]

/-- the stream as blocks, one behind the other -/
def blocksL (key nonce : List Int) (c : Nat) : Nat → List Int
  | 0 => []
  | q + 1 => blocksL key nonce c q ++ blockL (begunL key (BitVec.ofNat 32 (c + q)) nonce)
theorem blocksL_length (key nonce : List Int) (c q : Nat) : (blocksL key nonce c q).length = 64 * q := by
  induction q with
  | zero => rfl
  | succ q ih => rw [blocksL, List.length_append, ih, blockL_length]; omega
theorem blocksL_byte (key nonce : List Int) (c q : Nat) : ∀ x ∈ blocksL key nonce c q, 0 ≤ x ∧ x < 256 := by
  induction q with
  | zero => intro x hx; cases hx
  | succ q ih =>
    intro x hx
    rcases List.mem_append.1 hx with h | h
    · exact ih x h
    · exact blockL_byte _ x h
theorem blocksL_at (key nonce : List Int) (c q i : Nat) (hi : i < 64 * q) : (blocksL key nonce c q).getD i 0 = strAt (begunL key (BitVec.ofNat 32 c) nonce) i := by
  induction q with
  | zero => omega
  | succ q ih =>
    have hl := blocksL_length key nonce c q
    rw [blocksL]
    rcases Nat.lt_or_ge i (64 * q) with h | h
    · rw [getD_app_left _ _ _ (by rw [hl]; exact h), ih h]
    · rw [getD_app_right _ _ _ (by rw [hl]; exact h), hl, ← strAt_first _ _ _ _ (by omega), strAt_on, show 64 * q + (i - 64 * q) = i by omega]
theorem blocks_all (key nonce : List Int) (c q n : Nat) (hn : n ≤ 64 * q) : mixL (begunL key (BitVec.ofNat 32 c) nonce) (List.replicate n 0) = (blocksL key nonce c q).take n := by
  have l1 := mixL_length (begunL key (BitVec.ofNat 32 c) nonce) (List.replicate n 0)
  rw [List.length_replicate] at l1
  refine list_ext (by rw [l1, List.length_take, blocksL_length]; omega) fun i hi => ?_
  rw [l1] at hi
  rw [mixZ_at _ _ _ hi, getD_take _ _ _ hi, blocksL_at _ _ _ _ _ (by omega)]

end Go.Proofs.YtakgfdbjgeopdaaGreatDoor
/-
  The walks of the tag of what is known and sealed, and of Seal.
-/
namespace Go.Proofs.YtakgfdbjgeopdaaGreatDoor
open Go.RowKit

set_option maxHeartbeats 2000000 in
set_option maxRecDepth 100000 in
theorem stag_ok (vk vn va vs : Value) (key nonce a s : List Int) (w : World) (hk : Sl w vk key) (hn : Sl w vn nonce) (ha : Sl w va a) (hs : Sl w vs s) (lk : key.length = 32) (ln : nonce.length = 12) (la : a.length ≤ 256) (ls : s.length ≤ 2000) (ht : QTab w) :
    Calls Tryz.prog 138 #[vk, vn, va, vs] w fun e w' => ∃ v', e = .returned (.tuple #[v', .int .i64 0]) ∧ Sl w' v' (stagL key nonce a s) ∧ Below w.heap.size w w' := by
  have HT : Hid (stagL key nonce a s = tagL ((blockL (begunL key (BitVec.ofNat 32 0) nonce)).take 32) (laidL a s)) := rfl
  have hll : (laidL a s).length ≤ 4000 := by rw [laidL_length]; have := gap_lt a.length; have := gap_lt s.length; omega
  go_enter Tryz.func138, Tryz.ntmps138
  go_wp2_with fail
  refine (block_at vk vn key nonce 0 0 rfl w hk hn lk ln (by omega) ht).mono ?_
  rintro e w1 ⟨vb, rfl, g1⟩
  have sb := g1.sl
  have b1 := g1.bel
  clear g1
  have hbl := blockL_length (begunL key (BitVec.ofNat 32 0) nonce)
  generalize blockL (begunL key (BitVec.ofNat 32 0) nonce) = bs at HT sb hbl
  obtain ⟨ab, cb, rfl⟩ := sb.shape
  rw [hbl] at sb ⊢
  obtain ⟨a1, c1, hc1', s1⟩ := sb.upTo 32 (by omega)
  have hc1 : ∀ W, (Instr.slice 26 (.slice ab 64 cb) none (some (.int .i64 32)) none).run Tryz.prog W = .ok (.slice a1 32 c1) W := hc1'
  have lt : (bs.take 32).length = 32 := by rw [List.length_take]; omega
  generalize bs.take 32 = K at HT s1 lt
  have ha1 := ha.below b1
  have hs1 := hs.below b1
  clear hc1' sb hbl
  have la2 : a.length ≤ 10000 := by omega
  have ls2 : s.length ≤ 10000 := by omega
  have HLA : Hid (a.length ≤ 10000) := la2
  have HLS : Hid (s.length ≤ 10000) := ls2
  have HLL : Hid ((laidL a s).length ≤ 4000) := hll
  clear la ls la2 ls2 hll hk hn ha hs lk ln
  go_wp2_with fail
  go_region_with (first
    | (go_at_call 184; refine (laid_any _ _ a s _ (ha1.below ((Below.refl _ _).drew)) (hs1.below ((Below.refl _ _).drew)) HLA.out HLS.out).mono ?_; rintro e w2 ⟨v2, rfl, s2, hb2⟩)
    | (go_at_call 183; refine (tag_ok _ _ K _ _ (s1.below ((Below.refl _ _).drew.trans hb2)) s2 lt HLL.out).mono ?_; rintro e w3 ⟨v3, rfl, s3, hb3⟩))
  all_goals
    go_wp2
    go_ret2
    refine ⟨v3, rfl, ?_, ?_⟩
    · rw [HT.out]; exact s3
    · have b2 : Below w.heap.size w w2 := b1.trans (((Below.refl _ _).drew.trans hb2).mono b1.size)
      exact b2.trans (hb3.mono b2.size)

theorem mix1_own (vk vn vd : Value) (key nonce d : List Int) (w : World) (hk : Sl w vk key) (hn : Sl w vn nonce) (hd : Sl w vd d) (lk : key.length = 32) (ln : nonce.length = 12) (ld : d.length ≤ 2000) (ht : QTab w) :
    Calls Tryz.prog 137 #[vk, .int .i64 1, vn, vd] w fun e w' => ∃ v', e = .returned (.tuple #[v', .int .i64 0]) ∧ w'.ownsRow w.heap.size 5 1 v' (smixL key nonce d).length ((smixL key nonce d).map (Value.int .u8)) ∧ Below w.heap.size w w' :=
  mix_own vk vn vd key nonce d 1 w hk hn hd lk ln (by omega) ld ht

theorem owns_below {w w' : World} {base e : Nat} {v : Value} {n : Nat} {xs : List Value} (h : w.ownsRow base e 1 v n xs) (hb : Below w.heap.size w w') : w'.ownsRow base e 1 v n xs :=
  owns_keep h fun k hk => hb.block k (h.lt k hk).2

theorem fits_true {key nonce a : List Int} (h : fits key nonce a = true) : key.length = 32 ∧ nonce.length = 12 ∧ a.length ≤ 256 := by
  unfold fits at h
  simp at h
  omega

set_option maxHeartbeats 2000000 in
set_option maxRecDepth 100000 in
theorem seal_ok (vk vn va vp : Value) (key nonce a p : List Int) (w : World) (hk : Sl w vk key) (hn : Sl w vn nonce) (ha : Sl w va a) (hp : Sl w vp p) (hf : fits key nonce a = true) (lp : p.length ≤ 2000) (ht : QTab w) :
    Calls Tryz.prog 89 #[vk, vn, va, vp] w fun e w' => ∃ v', e = .returned (.tuple #[v', .int .i64 0]) ∧ Sl w' v' (sealL key nonce a p) ∧ Below w.heap.size w w' := by
  obtain ⟨lk, ln, la⟩ := fits_true hf
  have hpos := ht.pos
  have HS : Hid (sealL key nonce a p = smixL key nonce p ++ stagL key nonce a (smixL key nonce p)) := rfl
  have hxl := smixL_length key nonce p
  have hxb : ∀ x ∈ smixL key nonce p, 0 ≤ x ∧ x < 256 := mixL_byte _ hp.byte
  have hpl : ¬ (2000 : Int) < (p.length : Int) := by omega
  obtain ⟨ap, cp, rfl⟩ := hp.shape
  go_enter Tryz.func89, Tryz.ntmps89
  go_wp2_with fail
  refine (fit_any vk vn va key nonce a w hk hn ha).mono ?_
  rintro e w0 ⟨rfl, rfl⟩
  rw [hf]
  go_wp2_with fail
  refine (mix1_own vk vn _ key nonce p w0 hk hn hp lk ln lp ht).mono ?_
  rintro e w1 ⟨vx, rfl, o1, b1⟩
  generalize smixL key nonce p = X at HS hxl hxb o1
  have s1 : Sl w1 vx X := Sl.ofOwns o1 (by omega) hxb
  go_wp2_with fail
  refine (stag_ok vk vn va vx key nonce a X w1 (hk.below b1) (hn.below b1) (ha.below b1) s1 lk ln la (by omega) (ht.below hpos b1)).mono ?_
  rintro e w2 ⟨vt, rfl, s2, b2⟩
  have o2 := owns_below o1 b2
  have hlt := o2.lt
  have hB2 : Below w0.heap.size w0 w2 := b1.trans (b2.mono b1.size)
  have htl := stagL_length key nonce a X
  have htb := stagL_byte key nonce a X
  generalize stagL key nonce a X = T at HS s2 htl htb
  have hX2 : X.length ≤ 2000 := by omega
  clear hxl o1 s1 b1 b2 hk hn ha hp
  go_wp2_with (at_builtin; refine wpList_append_sl _ rfl _ _ 26 rfl w0.heap.size 5 Tryz.underlying26 info5 _ _ rfl rfl X T o2 s2 (by omega) hB2.size ?_)
  intro v3 w3 ho3 hg3
  replace ho3 : w3.ownsRow w0.heap.size 5 1 v3 (X ++ T).length ((X ++ T).map (Value.int .u8)) := by simpa [htl] using ho3
  have b3 : Below w0.heap.size w0 w3 := hB2.grown hg3 hB2.size (fun k hk => (hlt k hk).1)
  go_wp2
  go_ret2
  refine ⟨v3, rfl, ?_, b3⟩
  rw [HS.out]
  refine Sl.ofOwns ho3 (by rw [List.length_append]; omega) ?_
  intro x hx
  rcases List.mem_append.1 hx with h | h
  · exact hxb x h
  · exact htb x h

theorem seal_no (vk vn va vp : Value) (key nonce a p : List Int) (w : World) (hk : Sl w vk key) (hn : Sl w vn nonce) (ha : Sl w va a) (hp : Sl w vp p) (hno : fits key nonce a = false ∨ 2000 < p.length) :
    Calls Tryz.prog 89 #[vk, vn, va, vp] w fun e w' => e = .returned (.tuple #[.slice none 0 0, .int .i64 1]) ∧ w' = w := by
  have h1 := hp.len
  obtain ⟨ap, cp, rfl⟩ := hp.shape
  by_cases hf : fits key nonce a = true
  · have hpl : (2000 : Int) < (p.length : Int) := by
      rcases hno with h | h
      · rw [hf] at h; cases h
      · omega
    go_enter Tryz.func89, Tryz.ntmps89
    go_wp2_with fail
    refine (fit_any vk vn va key nonce a w hk hn ha).mono ?_
    rintro e w0 ⟨rfl, rfl⟩
    rw [hf]
    go_wp2
    go_ret2
    exact ⟨rfl, rfl⟩
  · rw [Bool.not_eq_true] at hf
    go_enter Tryz.func89, Tryz.ntmps89
    go_wp2_with fail
    refine (fit_any vk vn va key nonce a w hk hn ha).mono ?_
    rintro e w0 ⟨rfl, rfl⟩
    rw [hf]
    go_wp2
    go_ret2
    exact ⟨rfl, rfl⟩

/-- what Seal says, and what it answers -/
def sealE (key nonce a p : List Int) : Int := if fits key nonce a = true ∧ p.length ≤ 2000 then 0 else 1
def sealR (key nonce a p : List Int) : List Int := if fits key nonce a = true ∧ p.length ≤ 2000 then sealL key nonce a p else []
theorem seal_any (vk vn va vp : Value) (key nonce a p : List Int) (w : World) (hk : Sl w vk key) (hn : Sl w vn nonce) (ha : Sl w va a) (hp : Sl w vp p) (ht : QTab w) :
    Calls Tryz.prog 89 #[vk, vn, va, vp] w fun e w' => ∃ v', e = .returned (.tuple #[v', .int .i64 (sealE key nonce a p)]) ∧ Sl w' v' (sealR key nonce a p) ∧ Below w.heap.size w w' := by
  unfold sealE sealR
  by_cases h : fits key nonce a = true ∧ p.length ≤ 2000
  · rw [if_pos h, if_pos h]
    exact seal_ok vk vn va vp key nonce a p w hk hn ha hp h.1 h.2 ht
  · rw [if_neg h, if_neg h]
    refine (seal_no vk vn va vp key nonce a p w hk hn ha hp ?_).mono ?_
    · by_cases hf : fits key nonce a = true
      · exact .inr (by have : ¬ p.length ≤ 2000 := fun hp => h ⟨hf, hp⟩; omega)
      · exact .inl (by simpa using hf)
    · rintro e w1 ⟨rfl, rfl⟩
      exact ⟨_, rfl, Sl.nil _ _, Below.refl _ _⟩
end Go.Proofs.YtakgfdbjgeopdaaGreatDoor
