/-
  The walk of the document's own joining of bytes.
-/
import Derived.Test.YtpoaabjpeigooaaDoorQBase
import Derived.Test.YtpoaabjpeigooaaDoorQPolyA
import Derived.Test.YtpoaabjpeigooaaDoorQPolyB
import Derived.Maps.AppendAt
import Derived.Deep.QuietTactic
import Derived.Deep.OwnRows
import Derived.Deep.RegionLaw
namespace Go.Proofs.YtpoaabjpeigooaaDoor
open Go.RowKit

theorem owns_keepB {w w' : World} {base e : Nat} {v : Value} {n : Nat} {xs : List Value} (h : w.ownsRow base e 1 v n xs) (hk : ∀ k, v.ownBlock = some k → w'.heap[k]? = w.heap[k]?) : w'.ownsRow base e 1 v n xs := by
  refine ⟨h.1, ?_⟩
  rcases h.2 with h2 | ⟨g, cap, cur, hv, hb, hg, hr⟩
  · exact .inl h2
  · exact .inr ⟨g, cap, cur, hv, hb, (hk g (by rw [hv]; rfl)).trans hg, hr⟩

theorem Sl.one2B (w : World) (b b' : Int) (e : TypeId) {g : Nat} (hg : g = w.heap.size) (hb : 0 ≤ b ∧ b < 256) (he : b' = b) : Sl (w.alloc (.cells #[.int .u8 b'] e)) (.slice (some ⟨g, 0, none⟩) 1 1) [b] := by
  subst he; exact Sl.one w b' e hg hb

/-- bytes appended to a row of the call's own, and where the row lies then -/
theorem wpList_append_atB {P : Program} (w : World) {ops : Array Oper} {rest : List Oper} {o : Oper} {a : Act} {Q : Exit → Act → World → Prop} (hgd : o.guard = none) (s x : Operand) (t : TypeId)
    (ho : o.op = .call { callee := .builtin .append, args := #[s, x], argTypes := #[t, t] })
    (base e : Nat) (ht : P.underlying t = some (.slice e)) (hinfo : (P.info? e).map (fun i => (i.zero, i.size, i.bytes)) = some (some (.int .u8 0), 1, 1))
    (v u : Value) (hs : a.eval s = v) (hx : a.eval x = u) (l m : List Int) (hown : w.ownsRow base e 1 v l.length (l.map (Value.int .u8))) (hu : Sl w u m)
    (hlen : l.length + m.length ≤ 140737488355328) (hbase : base ≤ w.heap.size)
    (h : ∀ v' w', w'.ownsRow base e 1 v' (l ++ m).length ((l ++ m).map (Value.int .u8)) → w.grownBy w' v.ownBlock → (v'.ownBlock = v.ownBlock ∨ v'.ownBlock = some w.heap.size) → wpList P ops Q rest (a.put o.dst v') w') : wpList P ops Q (o :: rest) a w := by
  refine wpList_plain hgd fun K hK => ?_
  have hrun : ∃ v' w', (Builtin.append_ #[t, t] o.type #[v, u]).run P w = .ok v' w' ∧ w'.ownsRow base e 1 v' (l ++ m).length ((l ++ m).map (Value.int .u8)) ∧ w.grownBy w' v.ownBlock ∧ (v'.ownBlock = v.ownBlock ∨ v'.ownBlock = some w.heap.size) := by
    obtain ⟨i, hi, hz, hsz, hby⟩ := info_parts hinfo
    obtain ⟨⟨a, cap, rfl, hc, hn, h1⟩, _, _⟩ := hu
    cases a with
    | none =>
      have hc0 := hn rfl
      subst hc0
      have hm : m = [] := List.eq_nil_of_length_eq_zero (by omega)
      subst hm
      exact ⟨v, w, run_append_owned_none (P := P) (w := w) base t o.type e i 1 ht hi v l.length _ hown, by simpa using hown, ⟨rfl, rfl, rfl, Nat.le_refl _, fun _ _ _ => rfl⟩, .inl rfl⟩
    | some ad =>
      have hcells : ∀ j u, (m.map (Value.int .u8))[j]? = some u → w.cell? (ad.add j) = some u := by
        intro j u hj
        rcases h1 with rfl | ⟨b, off, hab, _, hcell⟩
        · simp at hj
        · obtain rfl : ad = ⟨b, off, none⟩ := by simpa using hab
          have hjl : j < m.length := by
            have := (List.getElem?_eq_some_iff.1 hj).1
            simpa using this
          have hadd : (⟨b, off, none⟩ : Addr).add j = ⟨b, off + j, none⟩ := by unfold Addr.add; split <;> simp_all
          rw [hadd, hcell j hjl]
          simp [List.getElem?_eq_getElem hjl] at hj
          rw [getD_at hjl, hj]
      obtain ⟨v', w', hr, ho, hg, _, h5⟩ := run_append_own_at (P := P) w base t o.type e i (.int .u8 0) 1 1 ht hi hz hsz hby rfl (by decide) v l.length _ hown ad m.length cap (m.map (Value.int .u8)) (by simp) hcells (ints_one m)
        (by unfold maxLen; omega) (by omega) hbase
      exact ⟨v', w', hr, by simpa using ho, hg, h5⟩
  obtain ⟨v', w', hrun, r1, r2, r3⟩ := hrun
  unfold Oper.wp execOp
  simp only [ho, resolve, invoke, builtin, Sem.run_bind, Sem.run_pure, Result.andThen_ok, List.map_toArray, List.map_cons, List.map_nil, hs, hx, hrun]
  exact hK _ _ (h v' w' r1 r2 r3)

theorem Sl.spot {w : World} {a : Option Addr} {n cap : Nat} {l : List Int} (h : Sl w (.slice a n cap) l) (k : Nat) (hk : k < l.length) : ∃ bd od, a = some ⟨bd, od, none⟩ ∧ bd < w.heap.size ∧ w.cell? ⟨bd, od + k, none⟩ = some (.int .u8 (l.getD k 0)) := by
  obtain ⟨⟨a', cap', e', _, _, h1'⟩, _, _⟩ := h
  simp only [Value.slice.injEq] at e'
  obtain ⟨rfl, _, _⟩ := e'
  rcases h1' with rfl | ⟨b', o', rfl, hb', hc'⟩
  · simp at hk
  · exact ⟨b', o', rfl, hb', hc' k hk⟩

theorem take_snoc (l : List Int) (k : Nat) (hk : k < l.length) : l.take (k + 1) = l.take k ++ [l.getD k 0] := by
  rw [List.take_succ_eq_append_getElem hk, getD_at hk]

set_option maxHeartbeats 2000000 in
theorem ref_joined (va vb : Value) (la lb : List Int) (w : World) (ha : Sl w va la) (hb : Sl w vb lb) (lla : la.length ≤ 100000) (llb : lb.length ≤ 100000) :
    Calls Tryd.prog 26 #[va, vb] w fun e w' => ∃ v', e = .returned v' ∧ w'.ownsRow w.heap.size 5 1 v' (la ++ lb).length ((la ++ lb).map (Value.int .u8)) ∧ Below w.heap.size w w' := by
  obtain ⟨⟨aa, ca, rfl, _⟩, _⟩ := id ha
  obtain ⟨⟨ab, cb, rfl, _⟩, _⟩ := id hb
  obtain ⟨n, hn⟩ : ∃ n, la.length = n := ⟨_, rfl⟩
  obtain ⟨m, hm⟩ : ∃ m, lb.length = m := ⟨_, rfl⟩
  have HN : Hid (la.length = n) := hn
  have HM : Hid (lb.length = m) := hm
  rw [hn] at ha lla ⊢
  rw [hm] at hb llb ⊢
  clear hn hm
  go_enter Tryd.func26, Tryd.ntmps26
  go_wp2_with fail
  go_loopw [5, 6] (fun v i wr => ∃ k : Nat, k ≤ n ∧ i = .int .i64 k ∧ wr.ownsRow w.heap.size 5 1 v (la.take k).length ((la.take k).map (Value.int .u8)) ∧ Below w.heap.size w wr) (fun _ i _ => n - (intOf i).toNat)
  case atStart => exact ⟨0, by omega, rfl, World.ownsRow_nil _ _ _ _, Below.refl _ _⟩
  case round =>
    obtain ⟨k, hk, rfl, hown, hbel⟩ := hrel
    have hlt := hown.lt
    by_cases hkn : k < n
    · have hkni : (k : Int) < (n : Int) := by omega
      obtain ⟨bd, od, rfl, hbd, hcd2⟩ := ha.spot k (by rw [HN.out]; exact hkn)
      have cd := (hbel.cell (p := ⟨bd, od + k, none⟩) hbd).trans hcd2
      have y2 := getD_byte ha.byte k
      have HT : Hid _ := take_snoc la k (by rw [HN.out]; exact hkn)
      have hml : (la.take k).length = k := by rw [List.length_take, HN.out]; omega
      generalize la.take k = pre at hown HT hml
      generalize la.getD k 0 = y at cd y2 HT
      go_wp2_with (at_builtin; refine wpList_append_sl _ rfl _ _ 22 rfl w.heap.size 5 Tryd.underlying22 info5 _ _ rfl rfl pre [y] (hown.alloc _) (Sl.one _ _ _ rfl y2) (by rw [hml]; simp; omega) (by have := hbel.size; simp; omega) ?_)
      intro v' w' ho hg
      have ho' : w'.ownsRow w.heap.size 5 1 v' (pre ++ [y]).length ((pre ++ [y]).map (Value.int .u8)) := by simpa [hml] using ho
      have hb' : Below w.heap.size w w' := (hbel.alloc hbel.size _).grown hg (by have := hbel.size; simp; omega) (fun k hk => (hlt k hk).1)
      clear ho hg hown hlt hbel hcd2
      go_wp2
      go_roundw
      case rel => exact ⟨k + 1, by omega, by go_num, by rw [HT.out]; exact ho', hb'⟩
      case measure => simp [intOf]; omega
    · have hkni : ¬ (k : Int) < (n : Int) := by omega
      have HK : Hid (la.take k = la) := by unfold Hid; exact List.take_of_length_le (by rw [HN.out]; omega)
      rw [HK.out] at hown
      have hown0 : wr.ownsRow w.heap.size 5 1 u5 (la ++ lb.take 0).length ((la ++ lb.take 0).map (Value.int .u8)) := by simpa using hown
      clear hown hlt
      go_wp2_with fail
      go_loopw [5, 7] (fun v i wr => ∃ k : Nat, k ≤ m ∧ i = .int .i64 k ∧ wr.ownsRow w.heap.size 5 1 v (la ++ lb.take k).length ((la ++ lb.take k).map (Value.int .u8)) ∧ Below w.heap.size w wr) (fun _ i _ => m - (intOf i).toNat)
      case atStart => exact ⟨0, by omega, rfl, hown0, hbel⟩
      case round =>
        clear hown0 hbel
        obtain ⟨q, hq, rfl, hown, hbel⟩ := hrel
        have hlt := hown.lt
        by_cases hqm : q < m
        · have hqmi : (q : Int) < (m : Int) := by omega
          obtain ⟨bd, od, rfl, hbd, hcd2⟩ := hb.spot q (by rw [HM.out]; exact hqm)
          have cd := (hbel.cell (p := ⟨bd, od + q, none⟩) hbd).trans hcd2
          have y2 := getD_byte hb.byte q
          have HT : Hid (la ++ lb.take (q + 1) = la ++ lb.take q ++ [lb.getD q 0]) := by unfold Hid; rw [take_snoc lb q (by rw [HM.out]; exact hqm), List.append_assoc]
          have hml : (la ++ lb.take q).length = n + q := by rw [List.length_append, List.length_take, HN.out, HM.out]; omega
          generalize la ++ lb.take q = pre at hown HT hml
          generalize lb.getD q 0 = y at cd y2 HT
          go_wp2_with (at_builtin; refine wpList_append_sl _ rfl _ _ 22 rfl w.heap.size 5 Tryd.underlying22 info5 _ _ rfl rfl pre [y] (hown.alloc _) (Sl.one _ _ _ rfl y2) (by rw [hml]; simp; omega) (by have := hbel.size; simp; omega) ?_)
          intro v' w' ho hg
          have ho' : w'.ownsRow w.heap.size 5 1 v' (pre ++ [y]).length ((pre ++ [y]).map (Value.int .u8)) := by simpa [hml] using ho
          have hb' : Below w.heap.size w w' := (hbel.alloc hbel.size _).grown hg (by have := hbel.size; simp; omega) (fun k hk => (hlt k hk).1)
          clear ho hg hown hlt hbel hcd2
          go_wp2
          go_roundw
          case rel => exact ⟨q + 1, by omega, by go_num, by rw [HT.out]; exact ho', hb'⟩
          case measure => simp [intOf]; omega
        · have hqmi : ¬ (q : Int) < (m : Int) := by omega
          have HQ : Hid (lb.take q = lb) := by unfold Hid; exact List.take_of_length_le (by rw [HM.out]; omega)
          rw [HQ.out] at hown
          go_wp2
          go_ret
          exact ⟨_, rfl, by simpa using hown, hbel⟩
end Go.Proofs.YtpoaabjpeigooaaDoor
/-
  Numbers without an end, as digits of base 256. No program is named here.
-/
namespace Go.Proofs.YtpoaabjpeigooaaDoor
open Go.RowKit

/-- a list of digits -/
def Digs (l : List Int) : Prop := ∀ x ∈ l, 0 ≤ x ∧ x < 256
theorem Digs.get {l : List Int} (h : Digs l) (i : Nat) : 0 ≤ l.getD i 0 ∧ l.getD i 0 < 256 := getD_byte h i
theorem Digs.snoc {l : List Int} (h : Digs l) {x : Int} (hx : 0 ≤ x ∧ x < 256) : Digs (l ++ [x]) := by
  intro y hy
  rcases List.mem_append.1 hy with h1 | h1
  · exact h y h1
  · obtain rfl : y = x := by simpa using h1
    exact hx
theorem Digs.nonneg {l : List Int} (h : Digs l) : 0 ≤ leN l := (leP_bound h _).1
theorem leN_snoc (l : List Int) (x : Int) : leN (l ++ [x]) = leN l + x * 256 ^ l.length := by
  rw [leN_append, leN_one, Int.mul_comm]

/-- what stands after k digits of a sum -/
structure Plus (a b r : List Int) (k : Nat) (c : Int) : Prop where
  len : r.length = k
  dig : Digs r
  sum : leN r + c * 256 ^ k = leP a k + leP b k
  lo : 0 ≤ c
  hi : c ≤ 1
theorem Plus.zero (a b : List Int) : Plus a b [] 0 0 := ⟨rfl, (fun x hx => absurd hx (by simp)), by simp [leP, leN_nil], by omega, by omega⟩
theorem Plus.succ {a b r : List Int} {k : Nat} {c : Int} (h : Plus a b r k c) (ha : Digs a) (hb : Digs b) :
    Plus a b (r ++ [(c + a.getD k 0 + b.getD k 0) % 256]) (k + 1) ((c + a.getD k 0 + b.getD k 0) / 256) := by
  have h1 := ha.get k
  have h2 := hb.get k
  have h3 := h.lo
  have h4 := h.hi
  have h5 := h.sum
  refine ⟨by simp [h.len], h.dig.snoc (by omega), ?_, by omega, by omega⟩
  rw [leN_snoc, h.len, leP, leP, Int.pow_succ]
  have e : c + a.getD k 0 + b.getD k 0 = (c + a.getD k 0 + b.getD k 0) % 256 + 256 * ((c + a.getD k 0 + b.getD k 0) / 256) := by omega
  grind
theorem Plus.over {a b r : List Int} {k : Nat} {c : Int} (h : Plus a b r k c) (ha : a.length ≤ k) (hb : b.length ≤ k) : leN r + c * 256 ^ k = leN a + leN b := by
  rw [h.sum, leP_past k ha, leP_past k hb]

theorem leP_set {l : List Int} (t : Nat) (ht : t < l.length) (y : Int) : ∀ k, t < k → leP (l.set t y) k = leP l k + (y - l.getD t 0) * 256 ^ t := by
  intro k
  induction k with
  | zero => intro h; omega
  | succ k ih =>
    intro h
    by_cases e : t = k
    · subst e
      rw [leP, leP, getD_set_same ht, leP_congr t (fun j hj => getD_set_other (by omega) y)]
      grind
    · rw [leP, leP, ih (by omega), getD_set_other e]
      omega
theorem leN_set {l : List Int} (t : Nat) (ht : t < l.length) (y : Int) : leN (l.set t y) = leN l + (y - l.getD t 0) * 256 ^ t := by
  unfold leN
  rw [List.length_set]
  exact leP_set t ht y _ ht
theorem Digs.set {l : List Int} (h : Digs l) (t : Nat) {y : Int} (hy : 0 ≤ y ∧ y < 256) : Digs (l.set t y) := by
  intro x hx
  rcases List.mem_or_eq_of_mem_set hx with h1 | h1
  · exact h x h1
  · rw [h1]; exact hy
theorem Digs.zeros (n : Nat) : Digs (List.replicate n 0) := fun x hx => by rw [(List.mem_replicate.1 hx).2]; omega

/-- what stands after i rows of a product -/
structure MulR (a b r : List Int) (i : Nat) : Prop where
  len : r.length = a.length + b.length + 1
  dig : Digs r
  sum : leN r = leP a i * leN b
  nul : ∀ t, i + b.length ≤ t → r.getD t 0 = 0
/-- and after k digits of the next row -/
structure MulD (a b r : List Int) (i k : Nat) (c : Int) : Prop where
  len : r.length = a.length + b.length + 1
  dig : Digs r
  sum : leN r + c * 256 ^ (i + k) = leP a i * leN b + a.getD i 0 * 256 ^ i * leP b k
  nul : ∀ t, i + b.length < t → r.getD t 0 = 0
  top : k ≤ b.length → r.getD (i + b.length) 0 = 0
  lo : 0 ≤ c
  hi : c < 256
  far : k ≤ b.length ∨ (k = b.length + 1 ∧ c = 0)
theorem MulR.zero (a b : List Int) : MulR a b (List.replicate (a.length + b.length + 1) 0) 0 := by
  refine ⟨by simp, Digs.zeros _, by rw [leN_zeros]; simp [leP], fun t _ => ?_⟩
  rcases Nat.lt_or_ge t (a.length + b.length + 1) with h | h
  · simp [List.getD, h]
  · exact getD_past (by simpa using h)
theorem MulR.start {a b r : List Int} {i : Nat} (h : MulR a b r i) : MulD a b r i 0 0 := by
  refine ⟨h.len, h.dig, ?_, fun t ht => h.nul t (by omega), fun _ => h.nul _ (Nat.le_refl _), by omega, by omega, .inl (by omega)⟩
  rw [h.sum]; simp [leP]
theorem MulD.step {a b r : List Int} {i k : Nat} {c : Int} (h : MulD a b r i k c) (ha : Digs a) (hb : Digs b) (hi : i < a.length) (hk : k < b.length) :
    MulD a b (r.set (i + k) ((r.getD (i + k) 0 + c + a.getD i 0 * b.getD k 0) % 256)) i (k + 1) ((r.getD (i + k) 0 + c + a.getD i 0 * b.getD k 0) / 256) := by
  have h1 := ha.get i
  have h2 := hb.get k
  have h3 := h.dig.get (i + k)
  have h4 := h.lo
  have h5 := h.hi
  have h6 : 0 ≤ a.getD i 0 * b.getD k 0 := Int.mul_nonneg h1.1 h2.1
  have h7 : a.getD i 0 * b.getD k 0 ≤ 255 * 255 := Int.mul_le_mul (by omega) (by omega) h2.1 (by omega)
  have h8 := h.sum
  refine ⟨by simpa using h.len, h.dig.set _ (by omega), ?_, fun t ht => ?_, fun hkb => ?_, by omega, by omega, .inl (by omega)⟩
  · rw [leN_set _ (by rw [h.len]; omega), leP, ← Nat.add_assoc, Int.pow_succ]
    have e : r.getD (i + k) 0 + c + a.getD i 0 * b.getD k 0 = (r.getD (i + k) 0 + c + a.getD i 0 * b.getD k 0) % 256 + 256 * ((r.getD (i + k) 0 + c + a.getD i 0 * b.getD k 0) / 256) := by omega
    have e2 : (256 : Int) ^ (i + k) = 256 ^ i * 256 ^ k := Int.pow_add ..
    grind
  · rw [getD_set_other (by omega)]; exact h.nul t ht
  · rw [getD_set_other (by omega)]; exact h.top (by omega)
theorem MulD.last {a b r : List Int} {i k : Nat} {c : Int} (h : MulD a b r i k c) (hi : i < a.length) (hk : ¬ k < b.length) (hc : 0 < c) :
    k = b.length ∧ r.getD (i + k) 0 = 0 ∧ MulD a b (r.set (i + k) ((r.getD (i + k) 0 + c) % 256)) i (k + 1) ((r.getD (i + k) 0 + c) / 256) := by
  have hkb : k = b.length := by have := h.far; omega
  have h1 : r.getD (i + k) 0 = 0 := by rw [hkb]; exact h.top (by omega)
  have h4 := h.lo
  have h5 := h.hi
  have h8 := h.sum
  refine ⟨hkb, h1, ⟨by simpa using h.len, h.dig.set _ (by omega), ?_, fun t ht => ?_, fun hkb2 => by omega, by omega, by omega, .inr ⟨by omega, by omega⟩⟩⟩
  · have e3 : leP b (k + 1) = leP b k := by rw [leP_past (k + 1) (by omega), leP_past k (by omega)]
    rw [leN_set _ (by rw [h.len]; omega), h1, e3, show (0 + c) / 256 = 0 by omega, show (0 + c) % 256 = c by omega]
    rw [← h8]; grind
  · rw [getD_set_other (by omega)]; exact h.nul t ht
theorem MulD.row {a b r : List Int} {i k : Nat} {c : Int} (h : MulD a b r i k c) (hk : ¬ k < b.length) (hc : ¬ 0 < c) : MulR a b r (i + 1) := by
  have hc0 : c = 0 := by have := h.lo; omega
  refine ⟨h.len, h.dig, ?_, fun t ht => h.nul t (by omega)⟩
  have h8 := h.sum
  rw [hc0, leP_past k (by omega)] at h8
  rw [leP]
  grind
theorem MulR.done {a b r : List Int} (h : MulR a b r a.length) : leN r = leN a * leN b := h.sum
end Go.Proofs.YtpoaabjpeigooaaDoor
/-
  Rows of digits in memory.
-/
namespace Go.Proofs.YtpoaabjpeigooaaDoor
open Go.RowKit

/-- the slice of numbers v reads as the digits l -/
structure Dl (w : World) (v : Value) (l : List Int) : Prop where
  ex : ∃ a cap, v = .slice a l.length cap ∧ l.length ≤ cap ∧ (l = [] ∨ ∃ g, a = some ⟨g, 0, none⟩ ∧ g < w.heap.size ∧ ∀ i, i < l.length → w.cell? ⟨g, i, none⟩ = some (.int .i64 (l.getD i 0)))
  dig : Digs l

theorem Dl.below {w w' : World} {v : Value} {l : List Int} (h : Dl w v l) (hb : Below w.heap.size w w') : Dl w' v l := by
  obtain ⟨⟨a, cap, rfl, hc, h1⟩, h2⟩ := h
  refine ⟨⟨a, cap, rfl, hc, ?_⟩, h2⟩
  rcases h1 with h1 | ⟨g, ha, hg, hcell⟩
  · exact .inl h1
  · exact .inr ⟨g, ha, Nat.lt_of_lt_of_le hg hb.size, fun i hi => (hb.cell (p := ⟨g, i, none⟩) hg).trans (hcell i hi)⟩
theorem Dl.nil (w : World) : Dl w (.slice none 0 0) [] := ⟨⟨none, 0, rfl, by simp, .inl rfl⟩, fun _ h => by cases h⟩
theorem Dl.ofOwns {w : World} {base : Nat} {v : Value} {l : List Int} (h : w.ownsRow base 3 1 v l.length (l.map (Value.int .i64))) (hd : Digs l) : Dl w v l := by
  refine ⟨?_, hd⟩
  rcases h.2 with ⟨rfl, h0⟩ | ⟨g, cap, cur, rfl, _, hg, hn, _, hcs, ht⟩
  · exact ⟨none, 0, by rw [h0], by omega, .inl (List.eq_nil_of_length_eq_zero h0)⟩
  · refine ⟨_, cap, rfl, hn, .inr ⟨g, rfl, (Array.getElem?_eq_some_iff.1 hg).1, fun i hi => ?_⟩⟩
    have hc := h.cells (g := g) rfl i (.int .i64 (l.getD i 0)) (by simp [List.getElem?_eq_getElem hi, List.getD])
    have hadd : (⟨g, 0, none⟩ : Addr).add i = ⟨g, i, none⟩ := by unfold Addr.add; split <;> simp_all
    rwa [hadd] at hc
theorem Dl.one (w : World) (x : Int) (e : TypeId) {g : Nat} (hg : g = w.heap.size) (hx : 0 ≤ x ∧ x < 256) : Dl (w.alloc (.cells #[.int .i64 x] e)) (.slice (some ⟨g, 0, none⟩) 1 1) [x] := by
  subst hg
  refine ⟨⟨_, 1, rfl, by simp, .inr ⟨w.heap.size, rfl, by simp, fun i hi => ?_⟩⟩, by simpa [Digs] using hx⟩
  obtain rfl : i = 0 := by simpa using hi
  simp
theorem Dl.shape {w : World} {v : Value} {l : List Int} (h : Dl w v l) : ∃ a cap, v = .slice a l.length cap ∧ l.length ≤ cap := by
  obtain ⟨⟨a, cap, rfl, hc, _⟩, _⟩ := h
  exact ⟨a, cap, rfl, hc⟩
/-- where the digits lie, if there are any -/
theorem Dl.at_ {w : World} {a : Option Addr} {n c : Nat} {l : List Int} (h : Dl w (.slice a n c) l) : ∃ g, n = l.length ∧ n ≤ c ∧ (0 < n → a = some ⟨g, 0, none⟩ ∧ g < w.heap.size) ∧ ∀ i, i < n → w.cell? ⟨g, i, none⟩ = some (.int .i64 (l.getD i 0)) := by
  obtain ⟨⟨a', cap, e, hc, h1⟩, _⟩ := h
  simp only [Value.slice.injEq] at e
  obtain ⟨rfl, rfl, rfl⟩ := e
  rcases h1 with rfl | ⟨g, rfl, hg, hcell⟩
  · exact ⟨0, rfl, hc, fun h => by simp at h, fun i hi => by simp at hi⟩
  · exact ⟨g, rfl, hc, fun _ => ⟨rfl, hg⟩, hcell⟩

theorem info3i : (Tryd.prog.info? 3).map (fun i => (i.zero, i.size, i.bytes)) = some (some (.int .i64 0), 1, 8) := by kernel_rfl

/-- one number more behind a row of the call's own -/
theorem run_append_digit (w : World) (base ty : Nat) (v : Value) (l : List Int) (hown : w.ownsRow base 3 1 v l.length (l.map (Value.int .i64))) (g : Nat) (x : Int) (hu : w.cell? ⟨g, 0, none⟩ = some (.int .i64 x))
    (hlen : l.length ≤ 1000000) (hbase : base ≤ w.heap.size) :
    ∃ v' w', (Builtin.append_ #[42, 42] ty #[v, .slice (some ⟨g, 0, none⟩) 1 1]).run Tryd.prog w = .ok v' w' ∧ w'.ownsRow base 3 1 v' (l ++ [x]).length ((l ++ [x]).map (Value.int .i64)) ∧ w.grownBy w' v.ownBlock := by
  obtain ⟨i, hi, hz, hsz, hby⟩ := info_parts info3i
  obtain ⟨v', w', hr, ho, hg, _⟩ := run_append_own (P := Tryd.prog) w base 42 ty 3 i (.int .i64 0) 1 8 Tryd.underlying42 hi hz hsz hby rfl (by decide) v l.length _ hown ⟨g, 0, none⟩ 1 1 [.int .i64 x] (by simp)
    (by
      intro j u hj
      obtain rfl : j = 0 := by
        have := (List.getElem?_eq_some_iff.1 hj).1
        simpa using this
      simp at hj
      subst hj
      exact hu)
    (by simp [Value.oneCell']) (by unfold maxLen; omega) (by omega) hbase
  exact ⟨v', w', hr, by simpa using ho, hg⟩

theorem wpList_append_digit (w : World) {ops : Array Oper} {rest : List Oper} {o : Oper} {a : Act} {Q : Exit → Act → World → Prop} (hgd : o.guard = none) (s y : Operand)
    (ho : o.op = .call { callee := .builtin .append, args := #[s, y], argTypes := #[42, 42] })
    (base : Nat) (v : Value) (l : List Int) (g : Nat) (x : Int) (hs : a.eval s = v) (hx : a.eval y = .slice (some ⟨g, 0, none⟩) 1 1) (hown : w.ownsRow base 3 1 v l.length (l.map (Value.int .i64))) (hu : w.cell? ⟨g, 0, none⟩ = some (.int .i64 x))
    (hlen : l.length ≤ 1000000) (hbase : base ≤ w.heap.size)
    (h : ∀ v' w', w'.ownsRow base 3 1 v' (l ++ [x]).length ((l ++ [x]).map (Value.int .i64)) → w.grownBy w' v.ownBlock → wpList Tryd.prog ops Q rest (a.put o.dst v') w') : wpList Tryd.prog ops Q (o :: rest) a w := by
  refine wpList_plain hgd fun K hK => ?_
  obtain ⟨v', w', hrun, r1, r2⟩ := run_append_digit w base o.type v l hown g x hu hlen hbase
  unfold Oper.wp execOp
  simp only [ho, resolve, invoke, builtin, Sem.run_bind, Sem.run_pure, Result.andThen_ok, List.map_toArray, List.map_cons, List.map_nil, hs, hx, hrun]
  exact hK _ _ (h v' w' r1 r2)
theorem step_append_digit {ops : Array Oper} {o : Oper} {a : Act} {w : World} {K : Act → World → Prop} {Q : Exit → Act → World → Prop} {E : Prop} (hgd : o.guard = none) (s y : Operand)
    (ho : o.op = .call { callee := .builtin .append, args := #[s, y], argTypes := #[42, 42] })
    (base : Nat) (v : Value) (l : List Int) (g : Nat) (x : Int) (hs : a.eval s = v) (hx : a.eval y = .slice (some ⟨g, 0, none⟩) 1 1) (hown : w.ownsRow base 3 1 v l.length (l.map (Value.int .i64))) (hu : w.cell? ⟨g, 0, none⟩ = some (.int .i64 x))
    (hlen : l.length ≤ 1000000) (hbase : base ≤ w.heap.size)
    (h : ∀ v' w', w'.ownsRow base 3 1 v' (l ++ [x]).length ((l ++ [x]).map (Value.int .i64)) → w.grownBy w' v.ownBlock → K (a.put o.dst v') w') : if Region.wanted o (yielded ops a.tmps) = true then Oper.wp Tryd.prog o a w K Q else E := by
  have hw : Region.wanted o (yielded ops a.tmps) = true := by simp [Region.wanted, hgd]
  rw [if_pos hw]
  obtain ⟨v', w', hrun, r1, r2⟩ := run_append_digit w base o.type v l hown g x hu hlen hbase
  unfold Oper.wp execOp
  simp only [ho, resolve, invoke, builtin, Sem.run_bind, Sem.run_pure, Result.andThen_ok, List.map_toArray, List.map_cons, List.map_nil, hs, hx, hrun]
  exact h v' w' r1 r2
end Go.Proofs.YtpoaabjpeigooaaDoor
/-
  The walks of the document's digits of bytes, sums, and of whether a number is nought.
-/
namespace Go.Proofs.YtpoaabjpeigooaaDoor
open Go.RowKit

set_option maxHeartbeats 1000000 in
theorem digitsOf_any (v : Value) (l : List Int) (w : World) (h : Sl w v l) (hl : l.length ≤ 100000) :
    Calls Tryd.prog 67 #[v] w fun e w' => ∃ v', e = .returned v' ∧ w'.ownsRow w.heap.size 3 1 v' l.length (l.map (Value.int .i64)) ∧ Below w.heap.size w w' := by
  obtain ⟨⟨a, cap, rfl, hc, hn, h1⟩, hla, hba⟩ := h
  obtain ⟨B, off, HA, HB, HC⟩ : ∃ B off, Hid (0 < l.length → a = some ⟨B, off, none⟩) ∧ Hid (0 < l.length → B < w.heap.size) ∧ Hid (∀ i, i < l.length → w.cell? ⟨B, off + i, none⟩ = some (.int .u8 (l.getD i 0))) := by
    rcases h1 with rfl | ⟨B, off, rfl, hb, hcell⟩
    · exact ⟨0, 0, fun h => by simp at h, fun h => by simp at h, fun i hi => by simp at hi⟩
    · exact ⟨B, off, fun _ => rfl, fun _ => hb, hcell⟩
  have HBY : Hid (∀ x ∈ l, 0 ≤ x ∧ x < 256) := hba
  clear h1 hba hn
  go_enter Tryd.func67, Tryd.ntmps67
  go_wp2_with fail
  go_loopw [3, 4] (fun ov i wr => ∃ k : Nat, k ≤ l.length ∧ i = .int .i64 k ∧ wr.ownsRow w.heap.size 3 1 ov (l.take k).length ((l.take k).map (Value.int .i64)) ∧ Below w.heap.size w wr) (fun _ i _ => l.length - (intOf i).toNat)
  case atStart => exact ⟨0, by omega, rfl, by simpa using World.ownsRow_nil _ _ _ _, Below.refl _ _⟩
  case round =>
    obtain ⟨k, hk, rfl, hown, hb⟩ := hrel
    have hlt := hown.lt
    by_cases hkl : k < l.length
    · have hki : (k : Int) < (l.length : Int) := by omega
      have hA := HA.out (by omega)
      subst hA
      have hBs := HB.out (by omega)
      have ck := (hb.cell (p := ⟨B, off + k, none⟩) hBs).trans (HC.out k hkl)
      have hbk := getD_byte HBY.out k
      have HT : Hid (l.take (k + 1) = l.take k ++ [l.getD k 0]) := by
        unfold Hid
        rw [List.take_succ_eq_append_getElem hkl, getD_at hkl]
      have hpl : (l.take k).length = k := by rw [List.length_take]; omega
      generalize l.getD k 0 = x at ck hbk HT
      generalize l.take k = pre at hown HT hpl
      obtain ⟨x1, x2⟩ := hbk
      go_wp2_with (at_builtin; refine wpList_append_digit _ rfl _ _ rfl w.heap.size _ pre wr.heap.size x rfl rfl (hown.alloc _) (by simp) (by omega) (by have := hb.size; simp; omega) ?_)
      intro v2 w2 ho2 hg2
      have hb2 : Below w.heap.size w w2 := (hb.alloc hb.size _).grown hg2 (by have := hb.size; simp; omega) (fun k hk => (hlt k hk).1)
      have HO2 : Hid (w2.ownsRow w.heap.size 3 1 v2 (pre ++ [x]).length ((pre ++ [x]).map (Value.int .i64))) := by
        unfold Hid
        simpa [hpl] using ho2
      clear ho2 hg2 hown hlt hb ck
      go_wp2
      go_roundw
      case rel => exact ⟨k + 1, by omega, by go_num, by rw [HT.out]; exact HO2.out, hb2⟩
      case measure => simp [intOf]; omega
    · have hki : ¬ (k : Int) < (l.length : Int) := by omega
      have HK : Hid (l.take k = l) := by unfold Hid; exact List.take_of_length_le (by omega)
      go_wp2
      go_ret
      refine ⟨_, rfl, ?_, hb⟩
      rw [HK.out] at hown
      exact hown

set_option maxHeartbeats 2000000 in
theorem added_any (va vb : Value) (a b : List Int) (w : World) (ha : Dl w va a) (hb : Dl w vb b) (la : a.length ≤ 1000) (lb : b.length ≤ 1000) :
    Calls Tryd.prog 68 #[va, vb] w fun e w' => ∃ v', e = .returned v' ∧ ∃ r, Dl w' v' r ∧ leN r = leN a + leN b ∧ r.length ≤ max a.length b.length + 1 ∧ Below w.heap.size w w' := by
  obtain ⟨aa, ca, rfl, hca⟩ := ha.shape
  obtain ⟨ab, cb, rfl, hcb⟩ := hb.shape
  obtain ⟨ga, _, _, hga, hcella⟩ := ha.at_
  obtain ⟨gb, _, _, hgb, hcellb⟩ := hb.at_
  have HA : Hid _ := hga
  have HB : Hid _ := hgb
  have HCA : Hid _ := hcella
  have HCB : Hid _ := hcellb
  have HDA : Hid (Digs a) := ha.dig
  have HDB : Hid (Digs b) := hb.dig
  obtain ⟨M, hM⟩ : ∃ M, max a.length b.length = M := ⟨_, rfl⟩
  have HM : Hid (max a.length b.length = M) := hM
  have hMa : a.length ≤ M := by omega
  have hMb : b.length ≤ M := by omega
  have hMM : M ≤ 1000 := by omega
  rw [hM]
  clear hga hgb hcella hcellb ha hb hM
  go_enter Tryd.func68, Tryd.ntmps68
  go_wp2_with fail
  go_loopw [5, 6, 7] (fun ov cv i wr => ∃ (k : Nat) (c : Int) (r : List Int), (k ≤ M ∨ (k = M + 1 ∧ c = 0)) ∧ i = .int .i64 k ∧ cv = .int .i64 c ∧ Plus a b r k c ∧ wr.ownsRow w.heap.size 3 1 ov r.length (r.map (Value.int .i64)) ∧ Below w.heap.size w wr) (fun _ cv i _ => 2 * (M - (intOf i).toNat) + (intOf cv).toNat)
  case atStart => exact ⟨0, 0, [], .inl (by omega), rfl, rfl, Plus.zero a b, World.ownsRow_nil _ _ _ _, Below.refl _ _⟩
  case round =>
    obtain ⟨k, c, r, hk, rfl, rfl, hp, hown, hbel⟩ := hrel
    have hlt := hown.lt
    have c1 := hp.lo
    have c2 := hp.hi
    have hrl := hp.len
    by_cases hend : ¬ k < a.length ∧ ¬ k < b.length ∧ ¬ 0 < c
    · obtain ⟨e1, e2, e3⟩ := hend
      have e1i : ¬ (k : Int) < (a.length : Int) := by omega
      have e2i : ¬ (k : Int) < (b.length : Int) := by omega
      have HV : Hid (leN r = leN a + leN b) := by
        have h := hp.over (by omega) (by omega)
        rw [show c = 0 by omega] at h
        unfold Hid
        omega
      have HDR : Hid (Digs r) := hp.dig
      clear hp
      go_wp2
      go_ret
      exact ⟨_, rfl, r, Dl.ofOwns hown HDR.out, HV.out, by omega, hbel⟩
    · have hkM : k ≤ M := by omega
      have HS : Hid (Plus a b (r ++ [(c + a.getD k 0 + b.getD k 0) % 256]) (k + 1) ((c + a.getD k 0 + b.getD k 0) / 256)) := hp.succ HDA.out HDB.out
      have b1 := HDA.out.get k
      have b2 := HDB.out.get k
      clear hp
      by_cases ea : k < a.length <;> by_cases eb : k < b.length
      · have eai : (k : Int) < (a.length : Int) := by omega
        have ebi : (k : Int) < (b.length : Int) := by omega
        obtain ⟨rfl, ga1⟩ := HA.out (by omega)
        have ka := (hbel.cell (p := ⟨ga, k, none⟩) ga1).trans (HCA.out k ea)
        obtain ⟨rfl, gb1⟩ := HB.out (by omega)
        have kb := (hbel.cell (p := ⟨gb, k, none⟩) gb1).trans (HCB.out k eb)
        have HKM : Hid (k < M) := by unfold Hid; omega
        have HS2 : Hid (Plus a b (r ++ [(c + a.getD k 0 + b.getD k 0) % 256]) (k + 1) ((c + a.getD k 0 + b.getD k 0) / 256)) := HS.out
        clear HS
        generalize a.getD k 0 = x at ka HS2 b1
        obtain ⟨x1, x2⟩ := b1
        generalize b.getD k 0 = y at kb HS2 b2
        obtain ⟨y1, y2⟩ := b2
        clear hend hk
        go_wp2_with (at_builtin; refine wpList_append_digit _ rfl _ _ rfl w.heap.size _ r wr.heap.size ((c + x + y) % 256) rfl rfl (hown.alloc _) (by simp) (by omega) (by have := hbel.size; simp; omega) ?_)
        intro v2 w2 ho2 hg2
        have hb2 : Below w.heap.size w w2 := (hbel.alloc hbel.size _).grown hg2 (by have := hbel.size; simp; omega) (fun k hk => (hlt k hk).1)
        have HO2 : Hid (w2.ownsRow w.heap.size 3 1 v2 (r ++ [(c + x + y) % 256]).length ((r ++ [(c + x + y) % 256]).map (Value.int .i64))) := by
          unfold Hid
          simpa [hrl] using ho2
        clear ho2 hg2 hown hlt hbel ka kb
        go_wp2
        go_roundw
        case rel => exact ⟨k + 1, _, _, by have := HKM.out; omega, by go_num, rfl, HS2.out, HO2.out, hb2⟩
        case measure => have := HKM.out; simp [intOf]; omega
      · have eai : (k : Int) < (a.length : Int) := by omega
        have ebi : ¬ (k : Int) < (b.length : Int) := by omega
        obtain ⟨rfl, ga1⟩ := HA.out (by omega)
        have ka := (hbel.cell (p := ⟨ga, k, none⟩) ga1).trans (HCA.out k ea)
        have HKM : Hid (k < M) := by unfold Hid; omega
        have HS2 : Hid (Plus a b (r ++ [(c + a.getD k 0) % 256]) (k + 1) ((c + a.getD k 0) / 256)) := by
          have h := HS.out
          rw [getD_past (l := b) (by omega), Int.add_zero] at h
          exact h
        clear HS
        generalize a.getD k 0 = x at ka HS2 b1
        obtain ⟨x1, x2⟩ := b1
        clear b2
        clear hend hk
        go_wp2_with (at_builtin; refine wpList_append_digit _ rfl _ _ rfl w.heap.size _ r wr.heap.size ((c + x) % 256) rfl rfl (hown.alloc _) (by simp) (by omega) (by have := hbel.size; simp; omega) ?_)
        intro v2 w2 ho2 hg2
        have hb2 : Below w.heap.size w w2 := (hbel.alloc hbel.size _).grown hg2 (by have := hbel.size; simp; omega) (fun k hk => (hlt k hk).1)
        have HO2 : Hid (w2.ownsRow w.heap.size 3 1 v2 (r ++ [(c + x) % 256]).length ((r ++ [(c + x) % 256]).map (Value.int .i64))) := by
          unfold Hid
          simpa [hrl] using ho2
        clear ho2 hg2 hown hlt hbel ka
        go_wp2
        go_roundw
        case rel => exact ⟨k + 1, _, _, by have := HKM.out; omega, by go_num, rfl, HS2.out, HO2.out, hb2⟩
        case measure => have := HKM.out; simp [intOf]; omega
      · have eai : ¬ (k : Int) < (a.length : Int) := by omega
        have ebi : (k : Int) < (b.length : Int) := by omega
        obtain ⟨rfl, gb1⟩ := HB.out (by omega)
        have kb := (hbel.cell (p := ⟨gb, k, none⟩) gb1).trans (HCB.out k eb)
        have HKM : Hid (k < M) := by unfold Hid; omega
        have HS2 : Hid (Plus a b (r ++ [(c + b.getD k 0) % 256]) (k + 1) ((c + b.getD k 0) / 256)) := by
          have h := HS.out
          rw [getD_past (l := a) (by omega), Int.add_zero] at h
          exact h
        clear HS
        clear b1
        generalize b.getD k 0 = y at kb HS2 b2
        obtain ⟨y1, y2⟩ := b2
        clear hend hk
        go_wp2_with (at_builtin; refine wpList_append_digit _ rfl _ _ rfl w.heap.size _ r wr.heap.size ((c + y) % 256) rfl rfl (hown.alloc _) (by simp) (by omega) (by have := hbel.size; simp; omega) ?_)
        intro v2 w2 ho2 hg2
        have hb2 : Below w.heap.size w w2 := (hbel.alloc hbel.size _).grown hg2 (by have := hbel.size; simp; omega) (fun k hk => (hlt k hk).1)
        have HO2 : Hid (w2.ownsRow w.heap.size 3 1 v2 (r ++ [(c + y) % 256]).length ((r ++ [(c + y) % 256]).map (Value.int .i64))) := by
          unfold Hid
          simpa [hrl] using ho2
        clear ho2 hg2 hown hlt hbel kb
        go_wp2
        go_roundw
        case rel => exact ⟨k + 1, _, _, by have := HKM.out; omega, by go_num, rfl, HS2.out, HO2.out, hb2⟩
        case measure => have := HKM.out; simp [intOf]; omega
      · have eai : ¬ (k : Int) < (a.length : Int) := by omega
        have ebi : ¬ (k : Int) < (b.length : Int) := by omega
        have hc0 : 0 < c := by omega
        have HKM : Hid (k = M) := by unfold Hid; have := HM.out; omega
        have HS2 : Hid (Plus a b (r ++ [c % 256]) (k + 1) (c / 256)) := by
          have h := HS.out
          rw [getD_past (l := a) (by omega), getD_past (l := b) (by omega), Int.add_zero, Int.add_zero] at h
          exact h
        clear HS
        clear b1
        clear b2
        clear hend hk
        go_wp2_with (at_builtin; refine wpList_append_digit _ rfl _ _ rfl w.heap.size _ r wr.heap.size (c % 256) rfl rfl (hown.alloc _) (by simp) (by omega) (by have := hbel.size; simp; omega) ?_)
        intro v2 w2 ho2 hg2
        have hb2 : Below w.heap.size w w2 := (hbel.alloc hbel.size _).grown hg2 (by have := hbel.size; simp; omega) (fun k hk => (hlt k hk).1)
        have HO2 : Hid (w2.ownsRow w.heap.size 3 1 v2 (r ++ [c % 256]).length ((r ++ [c % 256]).map (Value.int .i64))) := by
          unfold Hid
          simpa [hrl] using ho2
        clear ho2 hg2 hown hlt hbel
        go_wp2
        go_roundw
        case rel => exact ⟨k + 1, _, _, by have := HKM.out; omega, by go_num, rfl, HS2.out, HO2.out, hb2⟩
        case measure => have := HKM.out; simp [intOf]; omega
end Go.Proofs.YtpoaabjpeigooaaDoor
/-
  Rows of numbers in memory, as arrays.
-/
namespace Go.Proofs.YtpoaabjpeigooaaDoor
open Go.RowKit

def diA (l : List Int) : Array Value := (l.map (Value.int .i64)).toArray
theorem diA_set (l : List Int) (i : Nat) (x : Int) : (diA l).setIfInBounds i (.int .i64 x) = diA (l.set i x) := by
  apply Array.ext'
  simp [diA, List.map_set]
theorem diA_store {w : World} {g : Nat} {l : List Int} {t : TypeId} (h : w.heap[g]? = some (.cells (diA l) t (0, 0))) (k : Nat) (x : Int) :
    (w.setCell ⟨g, k, none⟩ (.int .i64 x)).heap[g]? = some (.cells (diA (l.set k x)) t (0, 0)) := by
  rw [heap_setCell_same _ _ _ _ _ _ h, diA_set]
theorem diA_get (l : List Int) (i : Nat) (h : i < l.length) : (diA l)[i]? = some (.int .i64 (l.getD i 0)) := by
  simp [diA, List.getD, List.getElem?_eq_getElem h]
theorem Dl.ofRow {w : World} {g n : Nat} {l : List Int} {t : TypeId} {fr : Nat × Nat} (h : w.heap[g]? = some (.cells (diA l) t fr)) (hn : l.length = n) (hd : Digs l) : Dl w (.slice (some ⟨g, 0, none⟩) n n) l := by
  subst hn
  refine ⟨⟨_, l.length, rfl, by simp, .inr ⟨g, rfl, (Array.getElem?_eq_some_iff.1 h).1, fun i hi => ?_⟩⟩, hd⟩
  rw [cell_of_row _ _ i _ _ _ h, diA_get l i hi]
theorem made_digits (n : Nat) : madeCells #[Value.int .i64 0] n = diA (List.replicate n 0) := by
  apply Array.ext'
  rw [toList_madeCells_one]
  simp [diA]
end Go.Proofs.YtpoaabjpeigooaaDoor
/-
  The walk of the document's product.
-/
namespace Go.Proofs.YtpoaabjpeigooaaDoor
open Go.RowKit

set_option maxHeartbeats 2000000 in
set_option maxRecDepth 100000 in
theorem times_digits (va vb : Value) (a b : List Int) (w : World) (ha : Dl w va a) (hb : Dl w vb b) (la : a.length ≤ 1000) (lb : b.length ≤ 1000) :
    Calls Tryd.prog 69 #[va, vb] w fun e w' => ∃ v', e = .returned v' ∧ ∃ r, Dl w' v' r ∧ leN r = leN a * leN b ∧ r.length = a.length + b.length + 1 ∧ Below w.heap.size w w' := by
  obtain ⟨aa, ca, rfl, hca⟩ := ha.shape
  obtain ⟨ab, cb, rfl, hcb⟩ := hb.shape
  obtain ⟨ga, _, _, hga, hcella⟩ := ha.at_
  obtain ⟨gb, _, _, hgb, hcellb⟩ := hb.at_
  have HA : Hid _ := hga
  have HB : Hid _ := hgb
  have HCA : Hid _ := hcella
  have HCB : Hid _ := hcellb
  have HDA : Hid (Digs a) := ha.dig
  have HDB : Hid (Digs b) := hb.dig
  clear hga hgb hcella hcellb ha hb
  obtain ⟨i0, hi0, hz0, hz1, hz2⟩ := info_parts info3i
  obtain ⟨L, hL⟩ : ∃ L, a.length + b.length + 1 = L := ⟨_, rfl⟩
  have HL : Hid (a.length + b.length + 1 = L) := hL
  have hLi : (a.length : Int) + (b.length : Int) + 1 = (L : Int) := by omega
  rw [hL]
  go_enter Tryd.func69, Tryd.ntmps69
  go_wp2_with (at_make; refine wpList_make_row _ rfl _ _ 42 rfl 3 i0 (.int .i64 0) Tryd.underlying42 hi0 hz0 hz1 rfl _ _ L rfl rfl (by rw [hz2]; omega) (by omega) ?_)
  rw [made_digits]
  clear hi0 hz0 hz1 hz2
  go_loopw [6] (fun iv wr => ∃ (i : Nat) (r : List Int), i ≤ a.length ∧ iv = .int .i64 i ∧ MulR a b r i ∧ wr.heap[w.heap.size]? = some (.cells (diA r) 3 (0, 0)) ∧ Below w.heap.size w wr) (fun iv _ => a.length - (intOf iv).toNat)
  case atStart =>
    refine ⟨0, List.replicate L 0, by omega, rfl, ?_, heap_alloc_new _ _, (Below.refl _ _).alloc (Nat.le_refl _) _⟩
    rw [← HL.out]
    exact MulR.zero a b
  case round =>
    obtain ⟨i, r, hi, rfl, hm, hrow, hbel⟩ := hrel
    by_cases hia : i < a.length
    · have hiai : (i : Int) < (a.length : Int) := by omega
      obtain ⟨haa, ga1⟩ := HA.out (by omega)
      subst haa
      have hma := hm.start
      clear hm
      go_wp2_with fail
      go_loopw [7, 8] (fun cv kv wr => ∃ (k : Nat) (c : Int) (r : List Int), kv = .int .i64 k ∧ cv = .int .i64 c ∧ MulD a b r i k c ∧ wr.heap[w.heap.size]? = some (.cells (diA r) 3 (0, 0)) ∧ Below w.heap.size w wr) (fun cv kv _ => 300 * (b.length - (intOf kv).toNat) + (intOf cv).toNat)
      case atStart => exact ⟨0, 0, r, rfl, rfl, hma, hrow, hbel⟩
      case round =>
        clear hma hrow hbel
        obtain ⟨k, c, r, rfl, rfl, hm, hrow, hbel⟩ := hrel
        have c1 := hm.lo
        have c2 := hm.hi
        have hrl := hm.len
        have hfar := hm.far
        by_cases hkb : k < b.length
        · have hkbi : (k : Int) < (b.length : Int) := by omega
          obtain ⟨hbb, gb1⟩ := HB.out (by omega)
          subst hbb
          have ka := (hbel.cell (p := ⟨ga, i, none⟩) ga1).trans (HCA.out i hia)
          have kb := (hbel.cell (p := ⟨gb, k, none⟩) gb1).trans (HCB.out k hkb)
          have kr := (cell_of_row _ _ (i + k) _ _ _ hrow).trans (diA_get r (i + k) (by omega))
          have fr := frozen_of_row _ _ (i + k) _ _ hrow
          have b1 := HDA.out.get i
          have b2 := HDB.out.get k
          have b3 := hm.dig.get (i + k)
          have HS : Hid (MulD a b (r.set (i + k) ((r.getD (i + k) 0 + c + a.getD i 0 * b.getD k 0) % 256)) i (k + 1) ((r.getD (i + k) 0 + c + a.getD i 0 * b.getD k 0) / 256)) := hm.step HDA.out HDB.out hia hkb
          have HST : Hid (∀ u, (wr.setCell ⟨w.heap.size, i + k, none⟩ (.int .i64 u)).heap[w.heap.size]? = some (.cells (diA (r.set (i + k) u)) 3 (0, 0))) := fun u => diA_store hrow (i + k) u
          have h6 : 0 ≤ a.getD i 0 * b.getD k 0 := Int.mul_nonneg b1.1 b2.1
          have h7 : a.getD i 0 * b.getD k 0 ≤ 65025 := by
            have := Int.mul_le_mul (show a.getD i 0 ≤ 255 by omega) (show b.getD k 0 ≤ 255 by omega) b2.1 (by omega)
            omega
          have hLk : (i : Int) + (k : Int) < (L : Int) := by omega
          generalize a.getD i 0 = x at ka HS b1 h6 h7
          generalize b.getD k 0 = y at kb HS b2 h6 h7
          generalize r.getD (i + k) 0 = z at kr HS b3
          obtain ⟨x1, x2⟩ := b1
          obtain ⟨y1, y2⟩ := b2
          obtain ⟨z1, z2⟩ := b3
          have e1 : IntKind.i64.wrap (x * y) = x * y := by rw [IntKind.wrap_i64]; omega
          have e2 : IntKind.i64.wrap (z + c + x * y) = z + c + x * y := by rw [IntKind.wrap_i64]; omega
          clear hm hrow
          go_wp2_with fail
          go_quiet (fail)
          go_wp2
          go_roundw
          case rel => exact ⟨k + 1, _, _, by go_num, rfl, HS.out, HST.out _, (below_drewN hbel _).setCell (p := ⟨w.heap.size, i + k, none⟩) (Nat.le_refl _) _⟩
          case measure => simp [intOf]; omega
        · have hkbi : ¬ (k : Int) < (b.length : Int) := by omega
          by_cases hc0 : 0 < c
          · obtain ⟨hkl, hz, hs⟩ := hm.last hia hkb hc0
            have kr := (cell_of_row _ _ (i + k) _ _ _ hrow).trans (diA_get r (i + k) (by omega))
            have fr := frozen_of_row _ _ (i + k) _ _ hrow
            rw [hz, show (0 : Int) + c = c by omega] at hs
            rw [hz] at kr
            have HS : Hid (MulD a b (r.set (i + k) (c % 256)) i (k + 1) (c / 256)) := hs
            have HST : Hid (∀ u, (wr.setCell ⟨w.heap.size, i + k, none⟩ (.int .i64 u)).heap[w.heap.size]? = some (.cells (diA (r.set (i + k) u)) 3 (0, 0))) := fun u => diA_store hrow (i + k) u
            have HKL : Hid (k = b.length) := hkl
            have hLk : (i : Int) + (k : Int) < (L : Int) := by omega
            clear hm hrow hs hz hkl
            go_wp2
            go_roundw
            case rel => exact ⟨k + 1, _, _, by go_num, rfl, HS.out, HST.out _, hbel.setCell (p := ⟨w.heap.size, i + k, none⟩) (Nat.le_refl _) _⟩
            case measure => have := HKL.out; simp [intOf]; omega
          · have hm2 := hm.row hkb hc0
            clear hm
            go_wp2
            go_roundw
            case rel => exact ⟨i + 1, r, by omega, by go_num, hm2, hrow, hbel⟩
            case measure => simp [intOf]; omega
    · have hiai : ¬ (i : Int) < (a.length : Int) := by omega
      have HI : Hid (i = a.length) := by unfold Hid; omega
      have HV : Hid (leN r = leN a * leN b) := by
        have h := hm
        rw [HI.out] at h
        exact h.done
      have HR : Hid (r.length = L) := by unfold Hid; rw [hm.len]; exact HL.out
      have HDR : Hid (Digs r) := hm.dig
      clear hm
      go_wp2
      go_ret
      exact ⟨_, rfl, r, Dl.ofRow hrow HR.out HDR.out, HV.out, HR.out, hbel⟩
end Go.Proofs.YtpoaabjpeigooaaDoor
/-
  A number cut at 2^130, in digits. No program is named here.
-/
namespace Go.Proofs.YtpoaabjpeigooaaDoor
open Go.RowKit

def loK (a : List Int) : Nat → List Int
  | 0 => []
  | k + 1 => if k < 16 then loK a k ++ [a.getD k 0] else if k = 16 then loK a k ++ [a.getD k 0 % 4] else loK a k
def hiK (a : List Int) : Nat → List Int
  | 0 => []
  | k + 1 => if 16 ≤ k then hiK a k ++ [a.getD k 0 / 4 + a.getD (k + 1) 0 % 4 * 64] else hiK a k

theorem loK_digs {a : List Int} (h : Digs a) (k : Nat) : Digs (loK a k) := by
  induction k with
  | zero => intro x hx; cases hx
  | succ k ih =>
    have := h.get k
    rw [loK]
    split
    · exact ih.snoc this
    · split
      · exact ih.snoc (by omega)
      · exact ih
theorem hiK_digs {a : List Int} (h : Digs a) (k : Nat) : Digs (hiK a k) := by
  induction k with
  | zero => intro x hx; cases hx
  | succ k ih =>
    have h1 := h.get k
    have h2 := h.get (k + 1)
    rw [hiK]
    split
    · exact ih.snoc (by omega)
    · exact ih
theorem loK_low (a : List Int) (k : Nat) (hk : k ≤ 16) : (loK a k).length = k ∧ leN (loK a k) = leP a k := by
  induction k with
  | zero => exact ⟨rfl, rfl⟩
  | succ k ih =>
    obtain ⟨h1, h2⟩ := ih (by omega)
    rw [loK, if_pos (by omega)]
    exact ⟨by simp [h1], by rw [leN_snoc, h1, h2, leP]⟩
theorem loK_high (a : List Int) (k : Nat) (hk : 17 ≤ k) : (loK a k).length = 17 ∧ leN (loK a k) = leP a 16 + a.getD 16 0 % 4 * 256 ^ 16 := by
  obtain ⟨d, rfl⟩ : ∃ d, k = 17 + d := ⟨k - 17, by omega⟩
  clear hk
  induction d with
  | zero =>
    obtain ⟨h1, h2⟩ := loK_low a 16 (by omega)
    rw [Nat.add_zero, show (17 : Nat) = 16 + 1 from rfl, loK, if_neg (by omega), if_pos rfl]
    exact ⟨by simp [h1], by rw [leN_snoc, h1, h2]⟩
  | succ d ih => rw [← Nat.add_assoc, loK, if_neg (by omega), if_neg (by omega)]; exact ih
theorem loK_len (a : List Int) (k : Nat) : (loK a k).length ≤ 17 := by
  rcases Nat.lt_or_ge k 17 with h | h
  · rw [(loK_low a k (by omega)).1]; omega
  · rw [(loK_high a k h).1]; omega
theorem hiK_low (a : List Int) (k : Nat) (hk : k ≤ 16) : hiK a k = [] := by
  induction k with
  | zero => rfl
  | succ k ih => rw [hiK, if_neg (by omega)]; exact ih (by omega)
theorem hiK_high (a : List Int) (m : Nat) : (hiK a (16 + m)).length = m ∧ 256 ^ 16 * (4 * leN (hiK a (16 + m)) + a.getD 16 0 % 4) + leP a 16 = leP a (16 + m) + a.getD (16 + m) 0 % 4 * 256 ^ (16 + m) := by
  induction m with
  | zero =>
    rw [hiK_low a (16 + 0) (by omega)]
    refine ⟨rfl, ?_⟩
    rw [leN_nil, Nat.add_zero]
    omega
  | succ m ih =>
    obtain ⟨h1, h2⟩ := ih
    rw [← Nat.add_assoc, hiK, if_pos (by omega)]
    refine ⟨by simp [h1], ?_⟩
    have e4 : leP a (16 + m + 1) = leP a (16 + m) + a.getD (16 + m) 0 * 256 ^ (16 + m) := rfl
    rw [leN_snoc, h1, e4]
    have e1 : (256 : Int) ^ (16 + m + 1) = 256 ^ 16 * 256 ^ m * 256 := by rw [Int.pow_succ, Int.pow_add]
    have e2 : (256 : Int) ^ (16 + m) = 256 ^ 16 * 256 ^ m := Int.pow_add ..
    have e3 : a.getD (16 + m) 0 = 4 * (a.getD (16 + m) 0 / 4) + a.getD (16 + m) 0 % 4 := by omega
    rw [e1]
    rw [e2] at h2 ⊢
    generalize (256 : Int) ^ m = B at *
    generalize a.getD (16 + m) 0 = x at *
    generalize a.getD (16 + m + 1) 0 % 4 = p at *
    generalize x / 4 = q at *
    generalize x % 4 = s at *
    generalize (256 : Int) ^ 16 = C at *
    subst e3
    grind
theorem hiK_len (a : List Int) (k : Nat) : (hiK a k).length = k - 16 := by
  rcases Nat.lt_or_ge k 16 with h | h
  · rw [hiK_low a k (by omega)]; simp; omega
  · obtain ⟨m, rfl⟩ : ∃ m, k = 16 + m := ⟨k - 16, by omega⟩
    rw [(hiK_high a m).1]; omega

/-- what is below 2^130, and what is above -/
theorem cut_sum {a : List Int} (h : Digs a) : leN (loK a a.length) + 1361129467683753853853498429727072845824 * leN (hiK a a.length) = leN a ∧ 0 ≤ leN (loK a a.length) ∧ leN (loK a a.length) < 1361129467683753853853498429727072845824 ∧ 0 ≤ leN (hiK a a.length) := by
  have hp := leP_bound h 16
  have hh := (hiK_digs h a.length).nonneg
  rcases Nat.lt_or_ge a.length 17 with hl | hl
  · obtain ⟨h1, h2⟩ := loK_low a a.length (by omega)
    have hb := leP_bound h a.length
    rw [h2, hiK_low a a.length (by omega), leN_nil]
    have e : leP a a.length = leP a 16 := by rw [leP_past 16 (by omega)]; rfl
    refine ⟨by unfold leN; omega, hb.1, ?_, by omega⟩
    rw [e]
    have := hp.2
    omega
  · obtain ⟨h1, h2⟩ := loK_high a a.length hl
    obtain ⟨m, hm⟩ : ∃ m, a.length = 16 + m := ⟨a.length - 16, by omega⟩
    obtain ⟨h3, h4⟩ := hiK_high a m
    rw [← hm] at h3 h4
    rw [getD_past (l := a) (i := a.length) (by omega)] at h4
    have e : leP a a.length = leN a := rfl
    rw [e] at h4
    have hx := h.get 16
    rw [h2]
    refine ⟨by omega, by omega, by omega, hh⟩

theorem zero_digits {l : List Int} (h : Digs l) : ∀ k, (leP l k = 0 ↔ ∀ j, j < k → l.getD j 0 = 0) := by
  intro k
  induction k with
  | zero => exact ⟨fun _ j hj => by omega, fun _ => rfl⟩
  | succ k ih =>
    have h1 := leP_bound h k
    have h2 := h.get k
    have hp := pow256 k
    have h3 : 0 ≤ l.getD k 0 * 256 ^ k := Int.mul_nonneg h2.1 (Int.le_of_lt hp)
    rw [leP]
    constructor
    · intro e j hj
      have e1 : leP l k = 0 := by omega
      have e2 : l.getD k 0 * 256 ^ k = 0 := by omega
      by_cases c : j = k
      · subst c
        rcases Int.mul_eq_zero.1 e2 with h4 | h4
        · exact h4
        · omega
      · exact (ih.1 e1) j (by omega)
    · intro e
      rw [ih.2 (fun j hj => e j (by omega)), e k (by omega)]
      omega
end Go.Proofs.YtpoaabjpeigooaaDoor
/-
  The walks of a number that is cut at 2^130, of a power, and of whether a number is nought.
-/
namespace Go.Proofs.YtpoaabjpeigooaaDoor
open Go.RowKit

theorem power_two (w : World) : Calls Tryd.prog 89 #[.int .i64 2] w fun e w' => e = .returned (.int .i64 4) ∧ w' = w := by
  go_enter Tryd.func89, Tryd.ntmps89
  go_wp2_with fail
  go_loopw [3, 4] (fun pv iv wr => ∃ (k : Nat) (p : Int), k ≤ 2 ∧ iv = .int .i64 k ∧ pv = .int .i64 p ∧ ((k = 0 ∧ p = 1) ∨ (k = 1 ∧ p = 2) ∨ (k = 2 ∧ p = 4)) ∧ wr = w) (fun _ iv _ => 2 - (intOf iv).toNat)
  case atStart => exact ⟨0, 1, by omega, rfl, rfl, .inl ⟨rfl, rfl⟩, rfl⟩
  case round =>
    obtain ⟨k, p, hk, rfl, rfl, hp, rfl⟩ := hrel
    by_cases hk2 : k < 2
    · have hki : (k : Int) < 2 := by omega
      have p1 : 0 ≤ p ∧ p ≤ 4 := by omega
      have HP : Hid ((k = 0 ∧ p = 1) ∨ (k = 1 ∧ p = 2) ∨ (k = 2 ∧ p = 4)) := hp
      clear hp
      obtain ⟨p1, p2⟩ := p1
      go_wp2
      go_roundw
      case rel => exact ⟨k + 1, _, by omega, by go_num, rfl, by have := HP.out; omega, trivial⟩
      case measure => simp [intOf]; omega
    · have hki : ¬ (k : Int) < 2 := by omega
      have HP : Hid (p = 4) := by unfold Hid; omega
      clear hp
      go_wp2
      go_ret
      rw [HP.out]
      exact ⟨rfl, rfl⟩

theorem no_digits (va : Value) (a : List Int) (w : World) (ha : Dl w va a) (la : a.length ≤ 1000) :
    Calls Tryd.prog 80 #[va] w fun e w' => e = .returned (.bool (decide (leN a = 0))) ∧ w' = w := by
  obtain ⟨aa, ca, rfl, hca⟩ := ha.shape
  obtain ⟨ga, _, _, hga, hcella⟩ := ha.at_
  have HA : Hid _ := hga
  have HCA : Hid _ := hcella
  have HZ : Hid (∀ k, (leP a k = 0 ↔ ∀ j, j < k → a.getD j 0 = 0)) := zero_digits ha.dig
  clear hga hcella ha
  go_enter Tryd.func80, Tryd.ntmps80
  go_wp2_with fail
  go_loopw [3] (fun iv wr => ∃ (k : Nat), k ≤ a.length ∧ iv = .int .i64 k ∧ (∀ j, j < k → a.getD j 0 = 0) ∧ wr = w) (fun iv _ => a.length - (intOf iv).toNat)
  case atStart => exact ⟨0, by omega, rfl, fun j hj => by omega, rfl⟩
  case round =>
    obtain ⟨k, hk, rfl, hz, rfl⟩ := hrel
    have HZK : Hid (∀ j, j < k → a.getD j 0 = 0) := hz
    clear hz
    by_cases hka : k < a.length
    · have hki : (k : Int) < (a.length : Int) := by omega
      obtain ⟨rfl, ga1⟩ := HA.out (by omega)
      have ka := HCA.out k hka
      by_cases hx : a.getD k 0 = 0
      · have HX : Hid (a.getD k 0 = 0) := hx
        rw [hx] at ka
        clear hx
        go_wp2
        go_roundw
        case rel =>
          refine ⟨k + 1, by omega, by go_num, fun j hj => ?_, trivial⟩
          by_cases e : j = k
          · subst e; exact HX.out
          · exact HZK.out j (by omega)
        case measure => simp [intOf]; omega
      · have HX : Hid (¬ leN a = 0) := by
          unfold Hid leN
          intro e
          exact hx ((HZ.out _).1 e k hka)
        generalize a.getD k 0 = x at ka hx
        go_wp2
        go_ret
        exact ⟨ret_bool (by rw [decide_eq_false HX.out]), rfl⟩
    · have hki : ¬ (k : Int) < (a.length : Int) := by omega
      have HX : Hid (leN a = 0) := by
        unfold Hid leN
        exact (HZ.out _).2 (fun j hj => HZK.out j (by omega))
      go_wp2
      go_ret
      exact ⟨ret_bool (by rw [decide_eq_true HX.out]), rfl⟩

theorem digit_eq (x y : Int) (x1 : 0 ≤ x) (x2 : x < 256) (y1 : 0 ≤ y) (_y2 : y < 256) : IntKind.i64.wrap (IntKind.i64.wrap (x.tdiv 4) + IntKind.i64.wrap (y.tmod 4 * IntKind.i64.wrap 64)) = x / 4 + y % 4 * 64 := by
  rw [Int.tdiv_eq_ediv_of_nonneg x1, Int.tmod_eq_emod_of_nonneg y1]
  simp only [IntKind.wrap_i64]
  omega

theorem digit_eq0 (x : Int) (x1 : 0 ≤ x) (x2 : x < 256) : IntKind.i64.wrap (IntKind.i64.wrap (x.tdiv 4) + IntKind.i64.wrap 0) = x / 4 := by
  rw [Int.tdiv_eq_ediv_of_nonneg x1]
  simp only [IntKind.wrap_i64]
  omega

/-- what the two lists of a cut are, after k digits -/
def Cut (a : List Int) (w wr : World) (lv hv : Value) (k : Nat) : Prop :=
  (k ≤ 16 ∧ hv = .slice none 0 0 ∧ wr.ownsRow w.heap.size 3 1 lv (loK a k).length ((loK a k).map (Value.int .i64)) ∧ Below w.heap.size w wr) ∨
  (17 ≤ k ∧ ∃ WB : World, Below w.heap.size w WB ∧ Dl WB lv (loK a k) ∧ wr.ownsRow WB.heap.size 3 1 hv (hiK a k).length ((hiK a k).map (Value.int .i64)) ∧ Below WB.heap.size WB wr)

set_option maxHeartbeats 2000000 in
set_option maxRecDepth 100000 in
theorem dcut_any (va : Value) (a : List Int) (w : World) (ha : Dl w va a) (la : a.length ≤ 1000) :
    Calls Tryd.prog 79 #[va, .int .i64 130] w fun e w' => ∃ vl vh, e = .returned (.tuple #[vl, vh]) ∧ Dl w' vl (loK a a.length) ∧ Dl w' vh (hiK a a.length) ∧ Below w.heap.size w w' := by
  obtain ⟨aa, ca, rfl, hca⟩ := ha.shape
  obtain ⟨ga, _, _, hga, hcella⟩ := ha.at_
  have HA : Hid _ := hga
  have HCA : Hid _ := hcella
  have HDA : Hid (Digs a) := ha.dig
  clear hga hcella ha
  go_enter Tryd.func79, Tryd.ntmps79
  go_wp2_with fail
  refine (power_two w).mono ?_
  rintro e w1 ⟨rfl, rfl⟩
  go_wp2_with fail
  go_loopw [6, 7, 10] (fun lv hv iv wr => ∃ (k : Nat), k ≤ a.length ∧ iv = .int .i64 k ∧ Cut a w1 wr lv hv k) (fun _ _ iv _ => a.length - (intOf iv).toNat)
  case atStart => exact ⟨0, by omega, rfl, .inl ⟨by omega, rfl, World.ownsRow_nil _ _ _ _, Below.refl _ _⟩⟩
  case round =>
    obtain ⟨k, hk, rfl, hcut⟩ := hrel
    by_cases hka : k < a.length
    · have hki : (k : Int) < (a.length : Int) := by omega
      obtain ⟨rfl, ga1⟩ := HA.out (by omega)
      have b1 := HDA.out.get k
      rcases hcut with ⟨hk16, rfl, hown, hbel⟩ | ⟨hk17, WB, hbw1, hlo, hown, hbw⟩
      · have hlt := hown.lt
        have ka := (hbel.cell (p := ⟨ga, k, none⟩) ga1).trans (HCA.out k hka)
        by_cases hlt16 : k < 16
        · have h1 : (k : Int) < 16 := by omega
          have h2 : ¬ (k : Int) = 16 := by omega
          have h3 : ¬ (16 : Int) ≤ (k : Int) := by omega
          have HS : Hid (loK a (k + 1) = loK a k ++ [a.getD k 0]) := by unfold Hid; rw [loK, if_pos hlt16]
          have hll := (loK_low a k hk16).1
          generalize a.getD k 0 = x at ka HS b1
          generalize loK a k = r at hown HS hll
          obtain ⟨x1, x2⟩ := b1
          go_wp2_with (at_builtin; refine wpList_append_digit _ rfl _ _ rfl w1.heap.size _ r wr.heap.size x rfl rfl (hown.alloc _) (by simp) (by omega) (by have := hbel.size; simp; omega) ?_)
          intro v2 w2 ho2 hg2
          have hb2 : Below w1.heap.size w1 w2 := (hbel.alloc hbel.size _).grown hg2 (by have := hbel.size; simp; omega) (fun k hk => (hlt k hk).1)
          have HO2 : Hid (w2.ownsRow w1.heap.size 3 1 v2 (r ++ [x]).length ((r ++ [x]).map (Value.int .i64))) := by
            unfold Hid
            simpa [hll] using ho2
          clear ho2 hg2 hown hlt hbel ka
          go_wp2
          go_roundw
          case rel => exact ⟨k + 1, by omega, by go_num, .inl ⟨by omega, rfl, by rw [HS.out]; exact HO2.out, hb2⟩⟩
          case measure => simp [intOf]; omega
        · obtain rfl : k = 16 := by omega
          have HSL : Hid (loK a (16 + 1) = loK a 16 ++ [a.getD 16 0 % 4]) := by unfold Hid; rw [loK, if_neg (by omega), if_pos rfl]
          have HSH : Hid (hiK a (16 + 1) = [] ++ [a.getD 16 0 / 4 + a.getD 17 0 % 4 * 64]) := by unfold Hid; rw [hiK, if_pos (by omega), hiK_low a 16 (by omega)]
          have HDL : Hid (Digs (loK a 17)) := loK_digs HDA.out 17
          have hll := (loK_low a 16 hk16).1
          have hki2 : (16 : Int) < (a.length : Int) := by omega
          have b2 := HDA.out.get 17
          rw [show ((16 : Nat) : Int) = 16 from rfl]
          clear hki hlt16 hk16
          generalize loK a 16 = r at hown HSL hll
          have HKB : Hid (17 < a.length → w1.cell? ⟨ga, 17, none⟩ = some (.int .i64 (a.getD 17 0))) := HCA.out 17
          have HPA : Hid (¬ 17 < a.length → a.getD 17 0 = 0) := fun h => getD_past (by omega)
          generalize a.getD 16 0 = x at ka HSL HSH b1
          generalize a.getD 17 0 = y at HSH b2 HKB HPA
          obtain ⟨x1, x2⟩ := b1
          obtain ⟨y1, y2⟩ := b2
          go_wp2_with (at_builtin; refine wpList_append_digit _ rfl _ _ rfl w1.heap.size _ r wr.heap.size (x % 4) rfl rfl (hown.alloc _) (by simp) (by omega) (by have := hbel.size; simp; omega) ?_)
          intro vl WB ho2 hg2
          have hb2 : Below w1.heap.size w1 WB := (hbel.alloc hbel.size _).grown hg2 (by have := hbel.size; simp; omega) (fun k hk => (hlt k hk).1)
          have HLO : Hid (Dl WB vl (loK a (16 + 1))) := by
            unfold Hid
            rw [HSL.out]
            refine Dl.ofOwns (by simpa [hll] using ho2) ?_
            rw [← HSL.out]; exact HDL.out
          clear ho2 hg2 hown hlt hbel ka HSL
          by_cases hkb : 17 < a.length
          · have hkbi : (17 : Int) < (a.length : Int) := by omega
            have kb := (hb2.cell (p := ⟨ga, 17, none⟩) ga1).trans (HKB.out hkb)
            clear HKB HPA
            go_wp2_with fail
            go_region_law (refine step_append_digit (by rfl) _ _ (by rfl) WB.heap.size _ [] WB.heap.size (x / 4 + y % 4 * 64) (by rfl) (by rfl) (World.ownsRow_nil _ _ _ _) (by simp; exact digit_eq x y x1 x2 y1 y2) (by simp) (by simp) ?_; intro v2 w2 ho2 hg2)
            have hb3 : Below WB.heap.size WB w2 := (((Below.refl _ _).alloc (Nat.le_refl _) _).drew).grown hg2 (by simp) (by simp [Value.ownBlock])
            have HO2 : Hid (w2.ownsRow WB.heap.size 3 1 v2 ([] ++ [x / 4 + y % 4 * 64]).length (([] ++ [x / 4 + y % 4 * 64]).map (Value.int .i64))) := by
              unfold Hid
              exact ho2
            clear ho2 hg2
            go_wp2
            go_roundw
            case rel => exact ⟨16 + 1, by omega, by go_num, .inr ⟨by omega, WB, hb2, HLO.out, by rw [HSH.out]; exact HO2.out, hb3⟩⟩
            case measure => simp [intOf]; omega
          · have hkbi : ¬ (17 : Int) < (a.length : Int) := by omega
            have hy := HPA.out hkb
            subst hy
            clear HKB HPA
            go_wp2_with fail
            go_region_law (refine step_append_digit (by rfl) _ _ (by rfl) WB.heap.size _ [] WB.heap.size (x / 4 + 0 % 4 * 64) (by rfl) (by rfl) (World.ownsRow_nil _ _ _ _) (by simp; exact digit_eq0 x x1 x2) (by simp) (by simp) ?_; intro v2 w2 ho2 hg2)
            have hb3 : Below WB.heap.size WB w2 := (((Below.refl _ _).alloc (Nat.le_refl _) _).drew).grown hg2 (by simp) (by simp [Value.ownBlock])
            have HO2 : Hid (w2.ownsRow WB.heap.size 3 1 v2 ([] ++ [x / 4 + 0 % 4 * 64]).length (([] ++ [x / 4 + 0 % 4 * 64]).map (Value.int .i64))) := by
              unfold Hid
              exact ho2
            clear ho2 hg2
            go_wp2
            go_roundw
            case rel => exact ⟨16 + 1, by omega, by go_num, .inr ⟨by omega, WB, hb2, HLO.out, by rw [HSH.out]; exact HO2.out, hb3⟩⟩
            case measure => simp [intOf]; omega
      · have hlt := hown.lt
        have hbel : Below w1.heap.size w1 wr := hbw1.trans (hbw.mono hbw1.size)
        have ka := (hbel.cell (p := ⟨ga, k, none⟩) ga1).trans (HCA.out k hka)
        have h1 : ¬ (k : Int) < 16 := by omega
        have h2 : ¬ (k : Int) = 16 := by omega
        have h3 : (16 : Int) ≤ (k : Int) := by omega
        have HSL : Hid (loK a (k + 1) = loK a k) := by unfold Hid; rw [loK, if_neg (by omega), if_neg (by omega)]
        have HSH : Hid (hiK a (k + 1) = hiK a k ++ [a.getD k 0 / 4 + a.getD (k + 1) 0 % 4 * 64]) := by unfold Hid; rw [hiK, if_pos (by omega)]
        have hll := hiK_len a k
        have b2 := HDA.out.get (k + 1)
        have HLO : Hid _ := hlo
        generalize hiK a k = r at hown HSH hll
        clear hlo
        by_cases hkb : k + 1 < a.length
        · have hkbi : (k : Int) + 1 < (a.length : Int) := by omega
          have kb := (hbel.cell (p := ⟨ga, k + 1, none⟩) ga1).trans (HCA.out (k + 1) hkb)
          generalize a.getD k 0 = x at ka HSH b1
          generalize a.getD (k + 1) 0 = y at kb HSH b2
          obtain ⟨x1, x2⟩ := b1
          obtain ⟨y1, y2⟩ := b2
          go_wp2_with fail
          go_region_law (refine step_append_digit (by rfl) _ _ (by rfl) WB.heap.size _ r wr.heap.size (x / 4 + y % 4 * 64) (by rfl) (by rfl) ((hown.alloc _).drew) (by simp; exact digit_eq x y x1 x2 y1 y2) (by omega) (by have := hbw.size; simp; omega) ?_; intro v2 w2 ho2 hg2)
          have hb2 : Below WB.heap.size WB w2 := ((hbw.alloc hbw.size _).drew).grown hg2 (by have := hbw.size; simp; omega) (fun k hk => (hlt k hk).1)
          have HO2 : Hid (w2.ownsRow WB.heap.size 3 1 v2 (r ++ [x / 4 + y % 4 * 64]).length ((r ++ [x / 4 + y % 4 * 64]).map (Value.int .i64))) := by
            unfold Hid
            exact ho2
          clear ho2 hg2 hown hlt hbel ka
          go_wp2
          go_roundw
          case rel => exact ⟨k + 1, by omega, by go_num, .inr ⟨by omega, WB, hbw1, by rw [HSL.out]; exact HLO.out, by rw [HSH.out]; exact HO2.out, hb2⟩⟩
          case measure => simp [intOf]; omega
        · have hkbi : ¬ (k : Int) + 1 < (a.length : Int) := by omega
          rw [getD_past (l := a) (i := k + 1) (by omega)] at HSH
          generalize a.getD k 0 = x at ka HSH b1
          obtain ⟨x1, x2⟩ := b1
          clear b2
          go_wp2_with fail
          go_region_law (refine step_append_digit (by rfl) _ _ (by rfl) WB.heap.size _ r wr.heap.size (x / 4 + 0 % 4 * 64) (by rfl) (by rfl) ((hown.alloc _).drew) (by simp; exact digit_eq0 x x1 x2) (by omega) (by have := hbw.size; simp; omega) ?_; intro v2 w2 ho2 hg2)
          have hb2 : Below WB.heap.size WB w2 := ((hbw.alloc hbw.size _).drew).grown hg2 (by have := hbw.size; simp; omega) (fun k hk => (hlt k hk).1)
          have HO2 : Hid (w2.ownsRow WB.heap.size 3 1 v2 (r ++ [x / 4 + 0 % 4 * 64]).length ((r ++ [x / 4 + 0 % 4 * 64]).map (Value.int .i64))) := by
            unfold Hid
            exact ho2
          clear ho2 hg2 hown hlt hbel ka
          go_wp2
          go_roundw
          case rel => exact ⟨k + 1, by omega, by go_num, .inr ⟨by omega, WB, hbw1, by rw [HSL.out]; exact HLO.out, by rw [HSH.out]; exact HO2.out, hb2⟩⟩
          case measure => simp [intOf]; omega
    · have hki : ¬ (k : Int) < (a.length : Int) := by omega
      have HK : Hid (k = a.length) := by unfold Hid; omega
      have HDL : Hid (Digs (loK a a.length)) := loK_digs HDA.out _
      have HDH : Hid (Digs (hiK a a.length)) := hiK_digs HDA.out _
      have HC : Hid (Cut a w1 wr u6 u7 a.length) := by rw [← HK.out]; exact hcut
      clear hcut
      go_wp2
      go_ret2
      refine ⟨_, _, rfl, ?_⟩
      rcases HC.out with ⟨hk16, rfl, hown, hbel⟩ | ⟨hk17, WB, hbw1, hlo, hown, hbw⟩
      · refine ⟨Dl.ofOwns hown HDL.out, ?_, hbel⟩
        rw [hiK_low a _ hk16]
        exact Dl.nil _
      · exact ⟨hlo.below hbw, Dl.ofOwns hown HDH.out, hbw1.trans (hbw.mono hbw1.size)⟩
end Go.Proofs.YtpoaabjpeigooaaDoor
/-
  The walk of the document's number modulo 2^130 - 5.
-/
namespace Go.Proofs.YtpoaabjpeigooaaDoor
open Go.RowKit

/-- how great the number is after so many turns -/
def Bnd : Nat → Int → Prop
  | 0, V => V < 1942668892225729070919461906823518906642406839052139521251812409738904285205208498176
  | 1, V => V < 11417981541647679048466287755595961091061972992
  | 2, V => V < 1361129467683753853853498429727072845824 + 67108864
  | _, V => V < 1361129467683753853853498429727072845824
theorem Bnd.succ {t : Nat} {V lo hi : Int} (h : Bnd t V) (hs : lo + 1361129467683753853853498429727072845824 * hi = V) (h0 : 0 ≤ lo) (h1 : lo < 1361129467683753853853498429727072845824) (h2 : 0 ≤ hi) : Bnd (t + 1) (lo + hi * 5) ∧ (lo + hi * 5) % pp = V % pp := by
  refine ⟨?_, ?_⟩
  · match t with
    | 0 =>
      have h : V < 1942668892225729070919461906823518906642406839052139521251812409738904285205208498176 := h
      show lo + hi * 5 < 11417981541647679048466287755595961091061972992
      omega
    | 1 =>
      have h : V < 11417981541647679048466287755595961091061972992 := h
      show lo + hi * 5 < 1361129467683753853853498429727072845824 + 67108864
      omega
    | 2 =>
      have h : V < 1361129467683753853853498429727072845824 + 67108864 := h
      show lo + hi * 5 < 1361129467683753853853498429727072845824
      have : hi ≤ 1 := by omega
      omega
    | t + 3 =>
      have h : V < 1361129467683753853853498429727072845824 := h
      show lo + hi * 5 < 1361129467683753853853498429727072845824
      have : hi = 0 := by omega
      omega
  · rw [← hs, show lo + 1361129467683753853853498429727072845824 * hi = lo + hi * 5 + pp * hi by unfold pp; omega, Int.add_mul_emod_self_left]

set_option maxHeartbeats 2000000 in
set_option maxRecDepth 100000 in
theorem red_any (va : Value) (a : List Int) (w : World) (ha : Dl w va a) (la : a.length ≤ 100) (hV : Bnd 0 (leN a)) :
    Calls Tryd.prog 70 #[va, .int .i64 130, .int .i64 5] w fun e w' => ∃ v', e = .returned v' ∧ ∃ r, Dl w' v' r ∧ leN r = leN a % pp ∧ r.length ≤ 48 ∧ Below w.heap.size w w' := by
  go_enter Tryd.func70, Tryd.ntmps70
  go_wp2_with fail
  go_loopw [0, 7] (fun av tv wr => ∃ (t : Nat) (d : List Int), t ≤ 4 ∧ tv = .int .i64 t ∧ Dl wr av d ∧ leN d % pp = leN a % pp ∧ Bnd t (leN d) ∧ d.length + 13 * t ≤ 100 ∧ Below w.heap.size w wr) (fun _ tv _ => 4 - (intOf tv).toNat)
  case atStart => exact ⟨0, a, by omega, rfl, ha, rfl, hV, by omega, Below.refl _ _⟩
  case round =>
    clear ha
    obtain ⟨t, d, ht, rfl, hd, hv, hB, hlen, hbel⟩ := hrel
    have hcs := cut_sum hd.dig
    obtain ⟨q1, q2, q3, q4⟩ := hcs
    have hll := loK_len d d.length
    have hhl := hiK_len d d.length
    by_cases ht4 : t < 4
    · have hti : (t : Int) < 4 := by omega
      have HN := hB.succ q1 q2 q3 q4
      obtain ⟨HB1, HM1⟩ := HN
      have HB1 : Hid (Bnd (t + 1) (leN (loK d d.length) + leN (hiK d d.length) * 5)) := HB1
      have HM1 : Hid ((leN (loK d d.length) + leN (hiK d d.length) * 5) % pp = leN d % pp) := HM1
      clear q1 q2 q3 q4 hB
      go_wp2_with fail
      refine (dcut_any _ d wr hd (by omega)).mono ?_
      rintro e w2 ⟨vl, vh, rfl, sl, sh, b2⟩
      generalize loK d d.length = L at sl HB1 HM1 hll
      generalize hiK d d.length = H at sh HB1 HM1 hhl
      have B2 : Below w.heap.size w w2 := hbel.trans (b2.mono hbel.size)
      clear hd
      go_wp2_with fail
      have bA : Below w2.heap.size w2 (w2.alloc (.cells #[.int .i64 5] 3)) := (Below.refl _ _).alloc (Nat.le_refl _) _
      refine (times_digits vh _ H [5] _ (sh.below bA) (Dl.one w2 5 3 rfl (by omega)) (by omega) (by simp)).mono ?_
      rintro e w3 ⟨vm, rfl, M, sm, vM, lM, b3⟩
      have C3 : Below w2.heap.size w2 w3 := bA.trans (b3.mono bA.size)
      have B3 : Below w.heap.size w w3 := B2.trans (C3.mono B2.size)
      have lM2 : M.length = H.length + 2 := by rw [lM]; simp
      rw [leN_one] at vM
      clear bA b3 lM
      go_wp2_with fail
      refine (added_any vl vm L M w3 (sl.below C3) sm (by omega) (by omega)).mono ?_
      rintro e w4 ⟨v4, rfl, R, sr, vR, lR, b4⟩
      rw [vM] at vR
      have B4 : Below w.heap.size w w4 := B3.trans (b4.mono B3.size)
      have HLR : Hid (R.length + 13 * (t + 1) ≤ 100) := by unfold Hid; omega
      rw [← vR] at HB1 HM1
      clear vM vR lR lM2 hlen hll hhl sl sh sm b4 C3 B3 B2 b2
      go_wp2
      go_roundw
      case rel => exact ⟨t + 1, R, by omega, by go_num, sr, HM1.out.trans hv, HB1.out, HLR.out, B4⟩
      case measure => simp [intOf]; omega
    · have hti : ¬ (t : Int) < 4 := by omega
      have HT : Hid (t = 4) := by unfold Hid; omega
      have HB4 : Hid (leN d < 1361129467683753853853498429727072845824) := by
        have h := hB
        rw [HT.out] at h
        exact h
      have HL48 : Hid (d.length ≤ 48) := by unfold Hid; omega
      have HD0 : Hid (0 ≤ leN d) := hd.dig.nonneg
      have hl48 : d.length ≤ 48 := HL48.out
      clear hB hlen q1 q2 q3 q4 hll hhl
      go_wp2_with fail
      have bA : Below wr.heap.size wr (wr.alloc (.cells #[.int .i64 5] 3)) := (Below.refl _ _).alloc (Nat.le_refl _) _
      refine (added_any _ _ d [5] _ (hd.below bA) (Dl.one wr 5 3 rfl (by omega)) (by omega) (by simp)).mono ?_
      rintro e w2 ⟨vu, rfl, U, su, vU, lU, b2⟩
      have C2 : Below wr.heap.size wr w2 := bA.trans (b2.mono bA.size)
      rw [leN_one] at vU
      have lU2 : U.length ≤ 100 := by simp at lU; omega
      clear bA b2 lU
      have hcs := cut_sum su.dig
      obtain ⟨q1, q2, q3, q4⟩ := hcs
      have hll := loK_len U U.length
      have hhl := hiK_len U U.length
      go_wp2_with fail
      refine (dcut_any _ U w2 su (by omega)).mono ?_
      rintro e w3 ⟨vl, vh, rfl, sl, sh, b3⟩
      generalize loK U U.length = L at sl hll q1 q2 q3
      generalize hiK U U.length = H at sh hhl q1 q4
      have C3 : Below wr.heap.size wr w3 := C2.trans (b3.mono C2.size)
      have B3 : Below w.heap.size w w3 := hbel.trans (C3.mono hbel.size)
      go_wp2_with fail
      refine (no_digits vh H w3 sh (by omega)).mono ?_
      rintro e w4 ⟨rfl, rfl⟩
      by_cases hH : leN H = 0
      · rw [decide_eq_true hH]
        have HV : Hid (leN d = leN a % pp) := by
          have h1 := HB4.out
          have h2 := HD0.out
          unfold Hid
          rw [← hv]
          refine (Int.emod_eq_of_lt h2 ?_).symm
          unfold pp
          omega
        have sd := hd.below C3
        clear q1 q2 q3 q4 hH sl sh su vU
        go_wp2
        go_ret
        exact ⟨_, rfl, d, sd, HV.out, HL48.out, B3⟩
      · rw [decide_eq_false hH]
        have HV : Hid (leN L = leN a % pp) := by
          have h1 := HB4.out
          have h2 := HD0.out
          unfold Hid
          rw [← hv]
          have h3 : leN L = leN d - pp := by unfold pp; omega
          rw [h3, ← Int.emod_eq_of_lt (a := leN d - pp) (b := pp) (by unfold pp at *; omega) (by unfold pp at *; omega), Int.sub_emod_right]
        have HLL : Hid (L.length ≤ 48) := by unfold Hid; omega
        clear q1 q2 q3 q4 hH sh su vU
        go_wp2
        go_ret
        exact ⟨_, rfl, L, sl, HV.out, HLL.out, B3⟩
end Go.Proofs.YtpoaabjpeigooaaDoor
/-
  The walk of the document's tag.
-/
namespace Go.Proofs.YtpoaabjpeigooaaDoor
open Go.RowKit

set_option maxRecDepth 100000 in
theorem Sl.between {w : World} {a : Option Addr} {n cap : Nat} {l : List Int} (h : Sl w (.slice a n cap) l) (lo hi : Nat) (hlo : lo ≤ hi) (hhi : hi ≤ l.length) (li hj : Int) (hli : li = (lo : Int)) (hhj : hj = (hi : Int)) :
    ∃ a' n' c', (∀ W, (Instr.slice 22 (.slice a n cap) (some (.int .i64 li)) (some (.int .i64 hj)) none).run Tryd.prog W = .ok (.slice a' n' c') W) ∧ Sl w (.slice a' n' c') ((l.take hi).drop lo) := by
  subst hli
  subst hhj
  have hw := h.window lo hi hlo hhi
  obtain ⟨⟨a', cap', e, hc, hn, h1⟩, hla, hba⟩ := h
  simp only [Value.slice.injEq] at e
  obtain ⟨rfl, rfl, rfl⟩ := e
  refine ⟨_, hi - lo, _, fun W => ?_, by simpa [sliced] using hw⟩
  rw [run_slice_lh (P := Tryd.prog) W 22 a _ cap Tryd.underlying22 .i64 .i64 _ _ (by omega) (by omega) (by omega)]
  have e : Tryd.prog.elem 22 = 5 := by kernel_rfl
  rw [e, size5w]
  simp [Result.andThen, sliced]

theorem byteN_leN {l : List Int} (h : Digs l) (k : Nat) : byteN (leN l) k = l.getD k 0 := by
  have h1 := carP_byte (fun j => l.getD j 0) (max l.length (k + 1)) k (by omega)
  rw [sumP_leP, leP_past _ (by omega)] at h1
  rw [← h1]
  have hb := h.get k
  have hc : carP (fun j => l.getD j 0) k = 0 := by
    unfold carP
    rw [sumP_leP]
    have := leP_bound h k
    exact Int.ediv_eq_zero_of_lt this.1 this.2
  simp only [hc]
  omega
theorem takeP_snoc (l : List Int) (k : Nat) (h : k < l.length) : l.take (k + 1) = l.take k ++ [l.getD k 0] := by
  rw [List.take_succ_eq_append_getElem h, getD_at h]
theorem prod_bnd {A p R : Int} (h1 : 0 ≤ A) (h2 : A < pp) (h3 : 0 ≤ p) (h4 : p < 87112285931760246646623899502532662132736) (h5 : 0 ≤ R) (h6 : R < 340282366920938463463374607431768211456) : Bnd 0 ((A + p) * R) := by
  show (A + p) * R < _
  have h7 : (A + p) * R ≤ (pp + 87112285931760246646623899502532662132736) * 340282366920938463463374607431768211456 := Int.mul_le_mul (by omega) (by omega) h5 (by unfold pp; omega)
  have h8 : (pp + 87112285931760246646623899502532662132736) * 340282366920938463463374607431768211456 < 1942668892225729070919461906823518906642406839052139521251812409738904285205208498176 := by unfold pp; decide
  omega

set_option maxHeartbeats 4000000 in
set_option maxRecDepth 100000 in
theorem tagged_any (vk vd : Value) (key data : List Int) (w : World) (hk : Sl w vk key) (hd : Sl w vd data) (lk : key.length = 32) (ld : data.length ≤ 4000) :
    Calls Tryd.prog 56 #[vk, vd] w fun e w' => ∃ v', e = .returned v' ∧ Sl w' v' (tagL key data) ∧ Below w.heap.size w w' := by
  obtain ⟨ak, ck, rfl⟩ := hk.aShape
  obtain ⟨ad, cd, rfl⟩ := hd.aShape
  have hke : ∃ B off, ak = some ⟨B, off, none⟩ ∧ B < w.heap.size ∧ ∀ i, i < 32 → w.cell? ⟨B, off + i, none⟩ = some (.int .u8 (key.getD i 0)) := by
    obtain ⟨⟨a, c, e, hc, _, h1⟩, _, _⟩ := hk
    simp only [Value.slice.injEq] at e
    obtain ⟨rfl, _, rfl⟩ := e
    rcases h1 with rfl | ⟨B, off, rfl, hb, hcell⟩
    · simp at lk
    · exact ⟨B, off, rfl, hb, fun i hi => hcell i (by omega)⟩
  obtain ⟨B, off, rfl, hB, hcell⟩ := hke
  have HCK : Hid (∀ i, i < 32 → w.cell? ⟨B, off + i, none⟩ = some (.int .u8 (key.getD i 0))) := hcell
  have HYK : Hid (∀ x ∈ key, 0 ≤ x ∧ x < 256) := hk.byte
  have hck : 32 ≤ ck := by obtain ⟨⟨_, _, e, hc, _⟩, _⟩ := hk; simp only [Value.slice.injEq] at e; obtain ⟨_, _, rfl⟩ := e; omega
  have HSK : Hid _ := hk
  have HSD : Hid _ := hd
  have HLK : Hid (key.length = 32) := lk
  rw [lk] at HSK ⊢
  obtain ⟨C, hC⟩ : ∃ C, C = clampL (key.take 16) := ⟨_, rfl⟩
  have lC : C.length = 16 := by rw [hC]; exact clampL_length _
  have HC : Hid (∀ k, k < 16 → C.getD k 0 = clampAt k (key.getD k 0)) := fun k h => by rw [hC, clampL_get _ _ h, getD_taken _ _ _ h]
  have HDC : Hid (Digs C) := by rw [hC]; exact clampL_byte (fun x hx => hk.byte x (List.mem_of_mem_take hx))
  have HTG : Hid (tagL key data = leB 16 (accN (leN C) data + leN (key.drop 16))) := by rw [hC]; rfl
  clear hcell hk hd lk hC
  go_enter Tryd.func56, Tryd.ntmps56
  go_wp2_with fail
  go_loopw [5, 6] (fun rv iv wr => ∃ (k : Nat), k ≤ 16 ∧ iv = .int .i64 k ∧ wr.ownsRow w.heap.size 3 1 rv (C.take k).length ((C.take k).map (Value.int .i64)) ∧ Below w.heap.size w wr) (fun _ iv _ => 16 - (intOf iv).toNat)
  case atStart => exact ⟨0, by omega, rfl, by simpa using World.ownsRow_nil _ _ _ _, Below.refl _ _⟩
  case round =>
    obtain ⟨k, hk, rfl, hown, hbel⟩ := hrel
    have hlt := hown.lt
    by_cases hk16 : k < 16
    · have hki : (k : Int) < 16 := by omega
      have ca := (hbel.cell (p := ⟨B, off + k, none⟩) hB).trans (HCK.out k (by omega))
      have HS : Hid (C.take (k + 1) = C.take k ++ [clampAt k (key.getD k 0)]) := by
        unfold Hid
        rw [takeP_snoc C k (by omega), HC.out k hk16]
      have b1 := getD_byte HYK.out k
      have hpl : (C.take k).length = k := by rw [List.length_take]; omega
      generalize key.getD k 0 = x at ca HS b1
      generalize C.take k = r at hown HS hpl
      obtain ⟨x1, x2⟩ := b1
      by_cases h3 : k % 4 = 3
      · have h3i : (k : Int) % 4 = 3 := by omega
        have HS2 : Hid (C.take (k + 1) = r ++ [x % 16]) := by
          unfold Hid
          rw [HS.out, clampAt, if_pos h3]
        clear HS h3
        go_wp2_with (at_builtin; refine wpList_append_digit _ rfl _ _ rfl w.heap.size _ r wr.heap.size (x % 16) rfl rfl (hown.alloc _) (by simp) (by omega) (by have := hbel.size; simp; omega) ?_)
        intro v2 w2 ho2 hg2
        have hb2 : Below w.heap.size w w2 := (hbel.alloc hbel.size _).grown hg2 (by have := hbel.size; simp; omega) (fun k hk => (hlt k hk).1)
        have HO2 : Hid (w2.ownsRow w.heap.size 3 1 v2 (r ++ [x % 16]).length ((r ++ [x % 16]).map (Value.int .i64))) := by
          unfold Hid
          simpa [hpl] using ho2
        clear ho2 hg2 hown hlt hbel ca
        go_wp2
        go_roundw
        case rel => exact ⟨k + 1, by omega, by go_num, by rw [HS2.out]; exact HO2.out, hb2⟩
        case measure => simp [intOf]; omega
      · have h3i : ¬ (k : Int) % 4 = 3 := by omega
        by_cases h0 : k % 4 = 0 ∧ 0 < k
        · have h0i : (k : Int) % 4 = 0 := by omega
          have hpi : (0 : Int) < (k : Int) := by omega
          have HS2 : Hid (C.take (k + 1) = r ++ [x / 4 * 4]) := by
            unfold Hid
            rw [HS.out, clampAt, if_neg h3, if_pos h0]
          clear HS
          go_wp2_with (at_builtin; refine wpList_append_digit _ rfl _ _ rfl w.heap.size _ r wr.heap.size (x / 4 * 4) rfl rfl (hown.alloc _) (by simp) (by omega) (by have := hbel.size; simp; omega) ?_)
          intro v2 w2 ho2 hg2
          have hb2 : Below w.heap.size w w2 := (hbel.alloc hbel.size _).grown hg2 (by have := hbel.size; simp; omega) (fun k hk => (hlt k hk).1)
          have HO2 : Hid (w2.ownsRow w.heap.size 3 1 v2 (r ++ [x / 4 * 4]).length ((r ++ [x / 4 * 4]).map (Value.int .i64))) := by
            unfold Hid
            simpa [hpl] using ho2
          clear ho2 hg2 hown hlt hbel ca
          go_wp2
          go_roundw
          case rel => exact ⟨k + 1, by omega, by go_num, by rw [HS2.out]; exact HO2.out, hb2⟩
          case measure => simp [intOf]; omega
        · by_cases h4 : k % 4 = 0
          · have h0i : (k : Int) % 4 = 0 := by omega
            have hpi : ¬ (0 : Int) < (k : Int) := by omega
            have HS2 : Hid (C.take (k + 1) = r ++ [x]) := by
              unfold Hid
              rw [HS.out, clampAt, if_neg h3, if_neg h0]
            clear HS
            go_wp2_with (at_builtin; refine wpList_append_digit _ rfl _ _ rfl w.heap.size _ r wr.heap.size (x) rfl rfl (hown.alloc _) (by simp) (by omega) (by have := hbel.size; simp; omega) ?_)
            intro v2 w2 ho2 hg2
            have hb2 : Below w.heap.size w w2 := (hbel.alloc hbel.size _).grown hg2 (by have := hbel.size; simp; omega) (fun k hk => (hlt k hk).1)
            have HO2 : Hid (w2.ownsRow w.heap.size 3 1 v2 (r ++ [x]).length ((r ++ [x]).map (Value.int .i64))) := by
              unfold Hid
              simpa [hpl] using ho2
            clear ho2 hg2 hown hlt hbel ca
            go_wp2
            go_roundw
            case rel => exact ⟨k + 1, by omega, by go_num, by rw [HS2.out]; exact HO2.out, hb2⟩
            case measure => simp [intOf]; omega
          · have h0i : ¬ (k : Int) % 4 = 0 := by omega
            have HS2 : Hid (C.take (k + 1) = r ++ [x]) := by
              unfold Hid
              rw [HS.out, clampAt, if_neg h3, if_neg h0]
            clear HS
            go_wp2_with (at_builtin; refine wpList_append_digit _ rfl _ _ rfl w.heap.size _ r wr.heap.size (x) rfl rfl (hown.alloc _) (by simp) (by omega) (by have := hbel.size; simp; omega) ?_)
            intro v2 w2 ho2 hg2
            have hb2 : Below w.heap.size w w2 := (hbel.alloc hbel.size _).grown hg2 (by have := hbel.size; simp; omega) (fun k hk => (hlt k hk).1)
            have HO2 : Hid (w2.ownsRow w.heap.size 3 1 v2 (r ++ [x]).length ((r ++ [x]).map (Value.int .i64))) := by
              unfold Hid
              simpa [hpl] using ho2
            clear ho2 hg2 hown hlt hbel ca
            go_wp2
            go_roundw
            case rel => exact ⟨k + 1, by omega, by go_num, by rw [HS2.out]; exact HO2.out, hb2⟩
            case measure => simp [intOf]; omega
    · have hki : ¬ (k : Int) < 16 := by omega
      have HCT : Hid (C.take k = C) := by unfold Hid; exact List.take_of_length_le (by omega)
      rw [HCT.out] at hown
      have hrd : Dl wr u5 C := Dl.ofOwns hown HDC.out
      have HRD : Hid _ := hrd
      clear hown hlt hrd
      have HR0 : Hid (0 ≤ leN C ∧ leN C < 340282366920938463463374607431768211456) := by
        have h := leP_bound HDC.out 16
        rw [leP_past 16 (by omega)] at h
        exact ⟨h.1, by have := h.2; omega⟩
      go_wp2_with fail
      rename World => w5
      go_loopw [8, 9] (fun av tv wq => ∃ (j : Nat) (d : List Int), 16 * j ≤ data.length + 15 ∧ tv = .int .i64 (16 * (j : Int)) ∧ Dl wq av d ∧ leN d = accK (leN C) data j ∧ d.length ≤ 48 ∧ Below w5.heap.size w5 wq) (fun _ tv _ => data.length - (intOf tv).toNat)
      case atStart => exact ⟨0, [], by omega, rfl, Dl.nil _, rfl, by simp, Below.refl _ _⟩
      case round =>
        obtain ⟨j, d, hj, rfl, sd, vd, ldd, hbq⟩ := hrel
        have hB2 : Below w.heap.size w wr := hbel.trans (hbq.mono hbel.size)
        have hB3 := hB2
        have hbq5 := hbq
        have hr5 : Dl wr u5 C := HRD.out.below hbq
        by_cases hjd : 16 * j < data.length
        · have hjdi : 16 * (j : Int) < (data.length : Int) := by omega
          have b1 := accK_range (leN C) data j
          have hpl : (piece data j).length ≤ 16 := by unfold piece; rw [List.length_take]; omega
          have hdp : Digs (piece data j) := fun x hx => HSD.out.byte x (List.mem_of_mem_drop (List.mem_of_mem_take hx))
          have HDP : Hid (Digs (piece data j ++ [1])) := hdp.snoc (by omega)
          have HPB : Hid (0 ≤ leN (piece data j ++ [1]) ∧ leN (piece data j ++ [1]) < 87112285931760246646623899502532662132736) := by
            have h := leP_bound HDP.out 17
            rw [leP_past 17 (by simp; omega)] at h
            exact ⟨h.1, by have := h.2; omega⟩
          clear hdp
          by_cases hend : (data.length : Int) < 16 * (j : Int) + 16
          · obtain ⟨a1, n1, c1, hc, sp⟩ := HSD.out.between (16 * j) data.length (by omega) (Nat.le_refl _) (16 * (j : Int)) (data.length : Int) (by omega) rfl
            rw [show (data.take data.length).drop (16 * j) = piece data j by
              unfold piece
              rw [List.take_of_length_le (Nat.le_refl _), List.take_of_length_le (by rw [List.length_drop]; omega)]] at sp
            clear hbq hB2
            go_wp2_with fail
            refine (digitsOf_any _ (piece data j) wr (sp.below hB3) (by omega)).mono ?_
            rintro e w2 ⟨vp, rfl, op, c2⟩
            have hlt := op.lt
            go_wp2_with (at_builtin; refine wpList_append_digit _ rfl _ _ rfl wr.heap.size _ (piece data j) w2.heap.size 1 rfl rfl (op.alloc _) (by simp) (by omega) (by have := c2.size; simp; omega) ?_)
            intro vb w3 ob hg3
            have c3 : Below wr.heap.size wr w3 := (c2.alloc c2.size _).grown hg3 (by have := c2.size; simp; omega) (fun k hk => (hlt k hk).1)
            have sb : Dl w3 vb (piece data j ++ [1]) := Dl.ofOwns (base := wr.heap.size) (by simpa using ob) HDP.out
            clear op hlt ob hg3 c2
            go_wp2_with fail
            refine (added_any _ vb d (piece data j ++ [1]) w3 (sd.below c3) sb (by omega) (by simp; omega)).mono ?_
            rintro e w4 ⟨vs, rfl, S, ss, vS, lS, b4⟩
            have lS2 : S.length ≤ 49 := by simp at lS; omega
            have c4 : Below wr.heap.size wr w4 := c3.trans (b4.mono c3.size)
            clear sb lS
            go_wp2_with fail
            refine (times_digits vs _ S C w4 ss (hr5.below c4) (by omega) (by omega)).mono ?_
            rintro e w6 ⟨vq, rfl, Q, sq, vQ, lQ, b6⟩
            have c6 : Below wr.heap.size wr w6 := c4.trans (b6.mono c4.size)
            have HBQ : Hid (Bnd 0 (leN Q)) := by
              unfold Hid
              rw [vQ, vS, vd]
              exact prod_bnd b1.1 b1.2 HPB.out.1 HPB.out.2 HR0.out.1 HR0.out.2
            have HVQ : Hid (leN Q % pp = accK (leN C) data (j + 1)) := by
              unfold Hid
              rw [vQ, vS, vd, accK]
            clear ss vS vQ vd
            go_wp2_with fail
            refine (red_any vq Q w6 sq (by omega) HBQ.out).mono ?_
            rintro e w7 ⟨vz, rfl, Z, sz, vZ, lZ, b7⟩
            rw [HVQ.out] at vZ
            have c7 : Below w5.heap.size w5 w7 := hbq5.trans ((c6.trans (b7.mono c6.size)).mono hbq5.size)
            clear sq b7 c6 b6 c4 b4 c3 sp hc
            go_wp2
            go_roundw
            case rel => exact ⟨j + 1, Z, by omega, congrArg (Value.int .i64) (by omega), sz, vZ, lZ, c7⟩
            case measure => simp [intOf]; omega
          · obtain ⟨a1, n1, c1, hc, sp⟩ := HSD.out.between (16 * j) (16 * j + 16) (by omega) (by omega) (16 * (j : Int)) (16 * (j : Int) + 16) (by omega) (by omega)
            rw [show (data.take (16 * j + 16)).drop (16 * j) = piece data j by
              unfold piece
              rw [List.drop_take, show 16 * j + 16 - 16 * j = 16 by omega]] at sp
            clear hbq hB2
            go_wp2_with fail
            refine (digitsOf_any _ (piece data j) wr (sp.below hB3) (by omega)).mono ?_
            rintro e w2 ⟨vp, rfl, op, c2⟩
            have hlt := op.lt
            go_wp2_with (at_builtin; refine wpList_append_digit _ rfl _ _ rfl wr.heap.size _ (piece data j) w2.heap.size 1 rfl rfl (op.alloc _) (by simp) (by omega) (by have := c2.size; simp; omega) ?_)
            intro vb w3 ob hg3
            have c3 : Below wr.heap.size wr w3 := (c2.alloc c2.size _).grown hg3 (by have := c2.size; simp; omega) (fun k hk => (hlt k hk).1)
            have sb : Dl w3 vb (piece data j ++ [1]) := Dl.ofOwns (base := wr.heap.size) (by simpa using ob) HDP.out
            clear op hlt ob hg3 c2
            go_wp2_with fail
            refine (added_any _ vb d (piece data j ++ [1]) w3 (sd.below c3) sb (by omega) (by simp; omega)).mono ?_
            rintro e w4 ⟨vs, rfl, S, ss, vS, lS, b4⟩
            have lS2 : S.length ≤ 49 := by simp at lS; omega
            have c4 : Below wr.heap.size wr w4 := c3.trans (b4.mono c3.size)
            clear sb lS
            go_wp2_with fail
            refine (times_digits vs _ S C w4 ss (hr5.below c4) (by omega) (by omega)).mono ?_
            rintro e w6 ⟨vq, rfl, Q, sq, vQ, lQ, b6⟩
            have c6 : Below wr.heap.size wr w6 := c4.trans (b6.mono c4.size)
            have HBQ : Hid (Bnd 0 (leN Q)) := by
              unfold Hid
              rw [vQ, vS, vd]
              exact prod_bnd b1.1 b1.2 HPB.out.1 HPB.out.2 HR0.out.1 HR0.out.2
            have HVQ : Hid (leN Q % pp = accK (leN C) data (j + 1)) := by
              unfold Hid
              rw [vQ, vS, vd, accK]
            clear ss vS vQ vd
            go_wp2_with fail
            refine (red_any vq Q w6 sq (by omega) HBQ.out).mono ?_
            rintro e w7 ⟨vz, rfl, Z, sz, vZ, lZ, b7⟩
            rw [HVQ.out] at vZ
            have c7 : Below w5.heap.size w5 w7 := hbq5.trans ((c6.trans (b7.mono c6.size)).mono hbq5.size)
            clear sq b7 c6 b6 c4 b4 c3 sp hc
            go_wp2
            go_roundw
            case rel => exact ⟨j + 1, Z, by omega, congrArg (Value.int .i64) (by omega), sz, vZ, lZ, c7⟩
            case measure => simp [intOf]; omega
        · have hjdi : ¬ 16 * (j : Int) < (data.length : Int) := by omega
          have HJ : Hid (j = pieces data) := by unfold Hid pieces; omega
          have HVD : Hid (leN d = accN (leN C) data) := by
            unfold Hid accN
            rw [vd, HJ.out]
          obtain ⟨a1, n1, c1, hc, sp⟩ := HSK.out.between 16 32 (by omega) (by rw [HLK.out]; omega) 16 32 rfl rfl
          rw [List.take_of_length_le (by rw [HLK.out]; omega)] at sp
          have lp : (key.drop 16).length = 16 := by rw [List.length_drop, HLK.out]
          have HDP : Hid (Digs (key.drop 16)) := fun x hx => HYK.out x (List.mem_of_mem_drop hx)
          generalize key.drop 16 = P at sp lp HDP HTG
          clear vd hbq hr5
          go_wp2_with fail
          refine (digitsOf_any _ P wr (sp.below hB2) (by omega)).mono ?_
          rintro e w2 ⟨vp, rfl, op, c2⟩
          have sp2 : Dl w2 vp P := Dl.ofOwns op HDP.out
          clear op
          go_wp2_with fail
          refine (added_any _ vp d P w2 (sd.below c2) sp2 (by omega) (by omega)).mono ?_
          rintro e w3 ⟨vs, rfl, S, ss, vS, lS, b3⟩
          rw [HVD.out] at vS
          have c3 : Below wr.heap.size wr w3 := c2.trans (b3.mono c2.size)
          have B3 : Below w.heap.size w w3 := hB2.trans (c3.mono hB2.size)
          obtain ⟨sa, cs, rfl, hcs⟩ := ss.shape
          obtain ⟨gs, _, _, hgs, hcells⟩ := ss.at_
          have HGS : Hid _ := hgs
          have HCS : Hid _ := hcells
          have HDS : Hid (Digs S) := ss.dig
          have lS2 : S.length ≤ 1000 := by omega
          obtain ⟨T, hT⟩ : ∃ T, T = leB 16 (leN S) := ⟨_, rfl⟩
          have HT : Hid (tagL key data = T) := by
            unfold Hid
            rw [HTG.out, hT, vS]
          have lT : T.length = 16 := by rw [hT]; exact leB_length _ _
          have HTB : Hid (∀ x ∈ T, 0 ≤ x ∧ x < 256) := by rw [hT]; exact leB_byte _ _
          have HTK : Hid (∀ i, i < 16 → T.getD i 0 = S.getD i 0) := fun i hi => by rw [hT, leB_get _ _ _ hi, byteN_leN ss.dig]
          clear hgs hcells ss hT vS lS sd sp sp2 hc c2 c3 b3 hB2 hB3 hbq5 HTG
          rename World => w6
          go_wp2_with fail
          go_loopw [16, 17] (fun ov iv wq => ∃ (m : Nat), m ≤ 16 ∧ iv = .int .i64 m ∧ wq.ownsRow w6.heap.size 5 1 ov (T.take m).length ((T.take m).map (Value.int .u8)) ∧ Below w6.heap.size w6 wq) (fun _ iv _ => 16 - (intOf iv).toNat)
          case atStart => exact ⟨0, by omega, rfl, by simpa using World.ownsRow_nil _ _ _ _, Below.refl _ _⟩
          case round =>
            obtain ⟨m, hm, rfl, hown, hb6⟩ := hrel
            have hlt := hown.lt
            by_cases hm16 : m < 16
            · have hmi : (m : Int) < 16 := by omega
              have HS : Hid (T.take (m + 1) = T.take m ++ [S.getD m 0]) := by
                unfold Hid
                rw [takeP_snoc T m (by omega), HTK.out m hm16]
              have hpl : (T.take m).length = m := by rw [List.length_take]; omega
              have b1 := HDS.out.get m
              generalize T.take m = r at hown HS hpl
              by_cases hms : m < S.length
              · have hmsi : (m : Int) < (S.length : Int) := by omega
                obtain ⟨rfl, gs1⟩ := HGS.out (by omega)
                have ca := (hb6.cell (p := ⟨gs, m, none⟩) gs1).trans (HCS.out m hms)
                generalize S.getD m 0 = x at ca HS b1
                obtain ⟨x1, x2⟩ := b1
                go_wp2_with (at_builtin; refine wpList_append_sl _ rfl _ _ 22 rfl w6.heap.size 5 Tryd.underlying22 info5 _ _ rfl rfl r [x] (hown.alloc _) (Sl.one _ _ _ rfl (by omega)) (by simp; omega) (by have := hb6.size; simp; omega) ?_)
                intro v2 w2 ho2 hg2
                have hb2 : Below w6.heap.size w6 w2 := (hb6.alloc hb6.size _).grown hg2 (by have := hb6.size; simp; omega) (fun k hk => (hlt k hk).1)
                have HO2 : Hid (w2.ownsRow w6.heap.size 5 1 v2 (r ++ [x]).length ((r ++ [x]).map (Value.int .u8))) := by
                  unfold Hid
                  simpa [hpl] using ho2
                clear ho2 hg2 hown hlt hb6 ca
                go_wp2
                go_roundw
                case rel => exact ⟨m + 1, by omega, by go_num, by rw [HS.out]; exact HO2.out, hb2⟩
                case measure => simp [intOf]; omega
              · have hmsi : ¬ (m : Int) < (S.length : Int) := by omega
                rw [getD_past (l := S) (i := m) (by omega)] at HS
                clear b1
                go_wp2_with (at_builtin; refine wpList_append_sl _ rfl _ _ 22 rfl w6.heap.size 5 Tryd.underlying22 info5 _ _ rfl rfl r [0] (hown.alloc _) (Sl.one _ _ _ rfl (by omega)) (by simp; omega) (by have := hb6.size; simp; omega) ?_)
                intro v2 w2 ho2 hg2
                have hb2 : Below w6.heap.size w6 w2 := (hb6.alloc hb6.size _).grown hg2 (by have := hb6.size; simp; omega) (fun k hk => (hlt k hk).1)
                have HO2 : Hid (w2.ownsRow w6.heap.size 5 1 v2 (r ++ [0]).length ((r ++ [0]).map (Value.int .u8))) := by
                  unfold Hid
                  simpa [hpl] using ho2
                clear ho2 hg2 hown hlt hb6
                go_wp2
                go_roundw
                case rel => exact ⟨m + 1, by omega, by go_num, by rw [HS.out]; exact HO2.out, hb2⟩
                case measure => simp [intOf]; omega
            · have hmi : ¬ (m : Int) < 16 := by omega
              have HTT : Hid (T.take m = T) := by unfold Hid; exact List.take_of_length_le (by omega)
              rw [HTT.out] at hown
              go_wp2
              go_ret
              refine ⟨_, rfl, ?_, B3.trans (hb6.mono B3.size)⟩
              rw [HT.out]
              exact Sl.ofOwns hown (by omega) HTB.out
end Go.Proofs.YtpoaabjpeigooaaDoor
