/-
  Bytes in slices, told once for all walks of this seat: 'Sl w v l': the slice value v reads in the world w as the bytes l (numbers from 0 to 255). No program is named here.
-/
import Derived.WalkKit
import Derived.ProofKit
import Derived.Laws.AppendOwnNone
import Derived.Laws.BytesArg
import Derived.BigQuiet
import Derived.OpenShut
namespace Go.Proofs.YtakgfdbjgeopdaaGreatDoor
open Go.RowKit Go.ChangeShapes Go.WideShapes Go.ChangeAt

structure Sl (w : World) (v : Value) (l : List Int) : Prop where
  ex : ∃ a cap, v = .slice a l.length cap ∧ l.length ≤ cap ∧ (a = none → cap = 0) ∧ (l = [] ∨ ∃ b off, a = some ⟨b, off, none⟩ ∧ b < w.heap.size ∧ ∀ i, i < l.length → w.cell? ⟨b, off + i, none⟩ = some (.int .u8 (l.getD i 0)))
  len : l.length ≤ 140737488351232
  byte : ∀ x ∈ l, 0 ≤ x ∧ x < 256

theorem Sl.below {w w' : World} {v : Value} {l : List Int} (h : Sl w v l) (hb : Below w.heap.size w w') : Sl w' v l := by
  obtain ⟨⟨a, cap, rfl, hc, hn, h1⟩, h2, h3⟩ := h
  refine ⟨⟨a, cap, rfl, hc, hn, ?_⟩, h2, h3⟩
  rcases h1 with h1 | ⟨b, off, ha, hbs, hcell⟩
  · exact .inl h1
  · exact .inr ⟨b, off, ha, Nat.lt_of_lt_of_le hbs hb.size, fun i hi => (hb.cell (p := ⟨b, off + i, none⟩) hbs).trans (hcell i hi)⟩

theorem Sl.nil (w : World) (a : Option Addr) : Sl w (.slice a 0 0) [] := ⟨⟨a, 0, rfl, by simp, by simp, .inl rfl⟩, by simp, by simp⟩

/-- what a fresh row of bytes reads as -/
theorem Sl.ofOwns {w : World} {base e : Nat} {v : Value} {l : List Int} (h : w.ownsRow base e 1 v l.length (l.map (Value.int .u8))) (hl : l.length ≤ 140737488351232) (hb : ∀ x ∈ l, 0 ≤ x ∧ x < 256) : Sl w v l := by
  refine ⟨?_, hl, hb⟩
  rcases h.2 with ⟨rfl, h0⟩ | ⟨g, cap, cur, rfl, _, hg, hn, _, hcs, ht⟩
  · exact ⟨none, 0, by rw [h0], by omega, fun _ => rfl, .inl (List.eq_nil_of_length_eq_zero h0)⟩
  · refine ⟨_, cap, rfl, hn, by simp, .inr ⟨g, 0, rfl, (Array.getElem?_eq_some_iff.1 hg).1, fun i hi => ?_⟩⟩
    have hc := h.cells (g := g) rfl i (.int .u8 (l.getD i 0)) (by simp [List.getElem?_eq_getElem hi, List.getD])
    have hadd : (⟨g, 0, none⟩ : Addr).add i = ⟨g, i, none⟩ := by unfold Addr.add; split <;> simp_all
    rw [hadd] at hc
    simpa using hc

theorem getD_at {l : List Int} {i : Nat} (hi : i < l.length) : l.getD i 0 = l[i] := by simp [List.getD, List.getElem?_eq_getElem hi]
theorem getD_past {l : List Int} {i : Nat} (hi : l.length ≤ i) : l.getD i 0 = 0 := by simp [List.getD, List.getElem?_eq_none hi]

theorem getD_byte {l : List Int} (h : ∀ x ∈ l, 0 ≤ x ∧ x < 256) (i : Nat) : 0 ≤ l.getD i 0 ∧ l.getD i 0 < 256 := by
  rcases Nat.lt_or_ge i l.length with hi | hi
  · rw [getD_at hi]; exact h _ (List.getElem_mem hi)
  · rw [getD_past hi]; omega

/-- the string of so many bytes tells them -/
theorem strOfNums_inj {l m : List Int} (hl : ∀ x ∈ l, 0 ≤ x ∧ x < 256) (hm : ∀ x ∈ m, 0 ≤ x ∧ x < 256) : strOfNums l = strOfNums m ↔ l = m := by
  constructor
  · intro h
    have h' : (strOfNums l).data.toList = (strOfNums m).data.toList := by rw [h]
    rw [strOfNums_data, strOfNums_data] at h'
    clear h
    induction l generalizing m with
    | nil => cases m <;> simp_all
    | cons x l ih =>
      cases m with
      | nil => simp at h'
      | cons y m =>
        simp only [List.map_cons, List.cons.injEq] at h'
        have hx := hl x (by simp)
        have hy := hm y (by simp)
        have e : (UInt8.ofNat x.toNat).toNat = (UInt8.ofNat y.toNat).toNat := by rw [h'.1]
        have e1 : (UInt8.ofNat x.toNat).toNat = x.toNat := by simp; omega
        have e2 : (UInt8.ofNat y.toNat).toNat = y.toNat := by simp; omega
        rw [e1, e2] at e
        rw [ih (fun z hz => hl z (by simp [hz])) (fun z hz => hm z (by simp [hz])) h'.2]
        have : x = y := by omega
        rw [this]
  · rintro rfl; rfl

theorem wf_u8_bounds {n : Int} (h : (Lit.int .u8 n).wf = true) : 0 ≤ n ∧ n < 256 := by
  have := bounds_u8 h
  omega

theorem ints_one (l : List Int) : ∀ u ∈ l.map (Value.int .u8), u.oneCell' = true := by
  intro u hu
  obtain ⟨x, _, rfl⟩ := List.mem_map.1 hu
  rfl

/-- bytes appended to a row of the call's own, whatever slice they come from -/
theorem run_append_sl {P : Program} (w : World) (base t ty e : Nat) (ht : P.underlying t = some (.slice e)) (hinfo : (P.info? e).map (fun i => (i.zero, i.size, i.bytes)) = some (some (.int .u8 0), 1, 1))
    (v : Value) (l : List Int) (hown : w.ownsRow base e 1 v l.length (l.map (Value.int .u8))) (u : Value) (m : List Int) (hu : Sl w u m)
    (hlen : l.length + m.length ≤ 140737488355328) (hbase : base ≤ w.heap.size) :
    ∃ v' w', (Builtin.append_ #[t, t] ty #[v, u]).run P w = .ok v' w' ∧ w'.ownsRow base e 1 v' (l ++ m).length ((l ++ m).map (Value.int .u8)) ∧ w.grownBy w' v.ownBlock := by
  obtain ⟨i, hi, hz, hsz, hby⟩ := info_parts hinfo
  obtain ⟨⟨a, cap, rfl, hc, hn, h1⟩, _, _⟩ := hu
  cases a with
  | none =>
    have hc0 := hn rfl
    subst hc0
    have hm : m = [] := List.eq_nil_of_length_eq_zero (by omega)
    subst hm
    refine ⟨v, w, ?_, by simpa using hown, ⟨rfl, rfl, rfl, Nat.le_refl _, fun _ _ _ => rfl⟩⟩
    exact run_append_owned_none (P := P) (w := w) base t ty e i 1 ht hi v l.length _ hown
  | some ad =>
    have hcells : ∀ j u, (m.map (Value.int .u8))[j]? = some u → w.cell? (ad.add j) = some u := by
      intro j u hj
      rcases h1 with rfl | ⟨b, off, hab, _, hcell⟩
      · simp at hj
      · obtain rfl : ad = ⟨b, off, none⟩ := by simpa using hab
        have hjl : j < m.length := by
          have := (List.getElem?_eq_some_iff.1 hj).1
          simpa using this
        have hadd : (⟨b, off, none⟩ : Addr).add j = ⟨b, off + j, none⟩ := by unfold Addr.add; split <;> simp_all
        rw [hadd, hcell j hjl]
        simp [List.getElem?_eq_getElem hjl] at hj
        rw [getD_at hjl, hj]
    obtain ⟨v', w', hr, ho, hg, _⟩ := run_append_own (P := P) w base t ty e i (.int .u8 0) 1 1 ht hi hz hsz hby rfl (by decide) v l.length _ hown ad m.length cap (m.map (Value.int .u8)) (by simp) hcells (ints_one m)
      (by unfold maxLen; omega) (by omega) hbase
    exact ⟨v', w', hr, by simpa using ho, hg⟩

theorem wpList_append_sl {P : Program} (w : World) {ops : Array Oper} {rest : List Oper} {o : Oper} {a : Act} {Q : Exit → Act → World → Prop} (hgd : o.guard = none) (s x : Operand) (t : TypeId)
    (ho : o.op = .call { callee := .builtin .append, args := #[s, x], argTypes := #[t, t] })
    (base e : Nat) (ht : P.underlying t = some (.slice e)) (hinfo : (P.info? e).map (fun i => (i.zero, i.size, i.bytes)) = some (some (.int .u8 0), 1, 1))
    (v u : Value) (hs : a.eval s = v) (hx : a.eval x = u) (l m : List Int) (hown : w.ownsRow base e 1 v l.length (l.map (Value.int .u8))) (hu : Sl w u m)
    (hlen : l.length + m.length ≤ 140737488355328) (hbase : base ≤ w.heap.size)
    (h : ∀ v' w', w'.ownsRow base e 1 v' (l ++ m).length ((l ++ m).map (Value.int .u8)) → w.grownBy w' v.ownBlock → wpList P ops Q rest (a.put o.dst v') w') : wpList P ops Q (o :: rest) a w := by
  refine wpList_plain hgd fun K hK => ?_
  obtain ⟨v', w', hrun, r1, r2⟩ := run_append_sl (P := P) w base t o.type e ht hinfo v l hown u m hu hlen hbase
  unfold Oper.wp execOp
  simp only [ho, resolve, invoke, builtin, Sem.run_bind, Sem.run_pure, Result.andThen_ok, List.map_toArray, List.map_cons, List.map_nil, hs, hx, hrun]
  exact hK _ _ (h v' w' r1 r2)

/-- string(b) -/
theorem run_convert_sl {P : Program} (w : World) (src dst e : TypeId) (hs : P.underlying src = some (.slice e)) (he : P.underlying e = some (.int .u8)) (hd : P.underlying dst = some .string)
    (v : Value) (l : List Int) (h : Sl w v l) : (convert src dst v).run P w = .ok (.string (strOfNums l)) w := by
  obtain ⟨⟨a, cap, rfl, hc, hn, h1⟩, _, _⟩ := h
  rcases h1 with rfl | ⟨b, off, rfl, _, hcell⟩
  · cases a with
    | none => exact run_convert_bytes_nil w src e hs he _ _ dst hd
    | some ad =>
      rw [run_convert_bytes_string w src dst e _ _ _ hs he hd, run_bytesToString w ad _ _ [] (by simpa using run_loadCells_list (P := P) w ad [] (by simp))]
      rfl
  · exact run_convert_bytes_arg w src e hs he b off _ _ l rfl hcell dst hd

theorem Sl.take {w : World} {a : Option Addr} {cap n : Nat} {l : List Int} (h : Sl w (.slice a n cap) l) (m : Nat) (hm : m ≤ l.length) : Sl w (.slice a m cap) (l.take m) := by
  obtain ⟨⟨a', cap', e, hc, hn, h1⟩, hla, hba⟩ := h
  simp only [Value.slice.injEq] at e
  obtain ⟨rfl, rfl, rfl⟩ := e
  have hl : (l.take m).length = m := by rw [List.length_take]; omega
  refine ⟨⟨a, cap, by rw [hl], by omega, hn, ?_⟩, by omega, fun x hx => hba x (List.mem_of_mem_take hx)⟩
  rcases h1 with rfl | ⟨b, off, rfl, hb, hcell⟩
  · exact .inl (by simp)
  · refine .inr ⟨b, off, rfl, hb, fun i hi => ?_⟩
    rw [hcell i (by omega), getD_at (by omega), getD_at hi]
    simp

theorem Sl.drop {w : World} {b off n cap : Nat} {l : List Int} (h : Sl w (.slice (some ⟨b, off, none⟩) n cap) l) (k : Nat) (hk : k ≤ l.length) (c' : Nat) (hc' : l.length ≤ c' + k) : Sl w (.slice (some ⟨b, off + k, none⟩) (l.length - k) c') (l.drop k) := by
  obtain ⟨⟨a', cap', e, hc, hn, h1⟩, hla, hba⟩ := h
  simp only [Value.slice.injEq] at e
  obtain ⟨rfl, rfl, rfl⟩ := e
  have hl : (l.drop k).length = l.length - k := by rw [List.length_drop]
  refine ⟨⟨_, c', by rw [hl], by omega, by simp, ?_⟩, by omega, fun x hx => hba x (List.mem_of_mem_drop hx)⟩
  rcases h1 with rfl | ⟨b, off, e, hb, hcell⟩
  · exact .inl (by simp)
  · simp only [Option.some.injEq, Addr.mk.injEq, and_true] at e
    obtain ⟨rfl, rfl⟩ := e
    refine .inr ⟨_, _, rfl, hb, fun i hi => ?_⟩
    rw [Nat.add_assoc, hcell (k + i) (by omega), getD_at (by omega), getD_at hi]
    simp

/-- the shape of what a row of the call's own with at least one byte is -/
theorem owns_shape {w : World} {base e : Nat} {v : Value} {l : List Int} (h : w.ownsRow base e 1 v l.length (l.map (Value.int .u8))) (hl : l ≠ []) :
    ∃ g cap, v = .slice (some ⟨g, 0, none⟩) l.length cap ∧ base ≤ g ∧ g < w.heap.size ∧ l.length ≤ cap ∧ (∀ i, i < l.length → w.cell? ⟨g, i, none⟩ = some (.int .u8 (l.getD i 0))) ∧ (∀ i, w.frozen? ⟨g, i, none⟩ = false) := by
  rcases h.2 with ⟨rfl, h0⟩ | ⟨g, cap, cur, rfl, hb, hg, hn, _, hcs, ht⟩
  · exact absurd (List.eq_nil_of_length_eq_zero h0) hl
  · refine ⟨g, cap, rfl, hb, (Array.getElem?_eq_some_iff.1 hg).1, hn, fun i hi => ?_, fun i => ?_⟩
    · have hc := h.cells (g := g) rfl i (.int .u8 (l.getD i 0)) (by simp [List.getElem?_eq_getElem hi, List.getD])
      have hadd : (⟨g, 0, none⟩ : Addr).add i = ⟨g, i, none⟩ := by unfold Addr.add; split <;> simp_all
      rwa [hadd] at hc
    · simp [World.frozen?, hg]

theorem Sl.setOther {w : World} {v : Value} {l : List Int} (h : Sl w v l) {B : Nat} (hb : ∀ b off n cap, v = .slice (some ⟨b, off, none⟩) n cap → b < B) {p : Addr} (hp : B ≤ p.block) (u : Value) : Sl (w.setCell p u) v l := by
  obtain ⟨⟨a, cap, rfl, hc, hn, h1⟩, h2, h3⟩ := h
  refine ⟨⟨a, cap, rfl, hc, hn, ?_⟩, h2, h3⟩
  rcases h1 with h1 | ⟨b, off, rfl, hbs, hcell⟩
  · exact .inl h1
  · refine .inr ⟨b, off, rfl, by simpa [World.setCell] using hbs, fun i hi => ?_⟩
    have hlt := hb b off _ _ rfl
    rw [← hcell i hi]
    exact World.cell?_of_block (w := w) (Below.heap_setCell w p u b (by omega))

theorem Sl.built (w : World) (l : List Int) (e : TypeId) {g : Nat} (hg : g = w.heap.size) (hl : l.length ≤ 140737488351232) (hb : ∀ x ∈ l, 0 ≤ x ∧ x < 256) : Sl (w.alloc (.cells (l.map (Value.int .u8)).toArray e)) (.slice (some ⟨g, 0, none⟩) l.length l.length) l := by
  subst hg
  refine ⟨⟨_, l.length, rfl, by simp, by simp, .inr ⟨w.heap.size, 0, rfl, by simp, fun i hi => ?_⟩⟩, hl, hb⟩
  rw [cell_of_row _ _ (0 + i) _ _ _ (heap_alloc_new w _)]
  simp [List.getElem?_eq_getElem hi, List.getD]

theorem Sl.one (w : World) (b : Int) (e : TypeId) {g : Nat} (hg : g = w.heap.size) (hb : 0 ≤ b ∧ b < 256) : Sl (w.alloc (.cells #[.int .u8 b] e)) (.slice (some ⟨g, 0, none⟩) 1 1) [b] := by
  subst hg
  refine ⟨⟨_, 1, rfl, by simp, by simp, .inr ⟨w.heap.size, 0, rfl, by simp, fun i hi => ?_⟩⟩, by simp, by simpa using hb⟩
  obtain rfl : i = 0 := by simpa using hi
  simp

theorem Sl.drew {w : World} {v : Value} {l : List Int} (h : Sl w v l) : Sl w.drew v l := h.below (Below.refl _ _).drew

theorem ret_bool {a b : Bool} (h : a = b) : Ending.returned (.bool a) = .returned (.bool b) := by rw [h]

theorem ba_toList (s : ByteArray) : s.toList = s.data.toList := ByteArray.toList_eq s

theorem below_drewN {B : Nat} {a w : World} (h : Below B a w) (n : Nat) : Below B a (w.drewN n) := h.trans ⟨rfl, rfl, rfl, Nat.le_refl _, fun _ _ => rfl⟩

/-- an argument that is a slice of bytes, as the walks take it -/
theorem Sl.opened {P : Program} {H : Type} {enc : TypeId × Value → H} {W : World} {t e : TypeId} {a : Option Addr} {len cap fuel : Nat} {d : DataW H} {p : List MemPlace} (hu : P.underlying t = some (.slice e)) (he : P.underlying e = some (.int .u8)) (hce : P.cellsOf e = 1)
    (hf : DataW.trod enc P W 0 (fun _ => true) true fuel t (Value.cells (.slice a len cap)).toList = some (d, p))
    (hsz : ∀ elems spare, d = .slice elems spare → (elems.length + spare.length) ≤ 140737488351232) : ∃ l, Sl W (.slice a len cap) l := by
  rcases open_ints hu he hce hf with ⟨hcs, _⟩ | ⟨x, l, c, zs, hcs, _, hl, hm, hz, hx, hcell, hwz⟩
  · simp [Value.cells] at hcs
    obtain ⟨rfl, rfl, rfl⟩ := hcs
    exact ⟨[], Sl.nil _ _⟩
  · simp [Value.cells] at hcs
    obtain ⟨rfl, rfl, rfl⟩ := hcs
    simp only [if_true] at hz
    have hd := hsz _ _ (congrArg Prod.fst hx)
    simp only [lits, List.length_map, List.length_take, List.length_drop] at hd
    have hlen : (zs.take len).length = len := by rw [List.length_take]; omega
    refine ⟨zs.take len, ⟨⟨some x, cap, by rw [hlen], by omega, by simp, ?_⟩, by omega, ?_⟩⟩
    · by_cases h0 : len = 0
      · subst h0; exact .inl (by simp)
      · right
        obtain ⟨b, off, spot⟩ := x
        have hc0 := hcell 0 (by omega)
        have hspot : spot = none := by simpa [Addr.add] using World.cell?_spot hc0
        subst hspot
        refine ⟨b, off, rfl, by simpa [Addr.add] using World.block_lt_of_cell? W _ hc0, fun i hi => ?_⟩
        have h1 := hcell i (by omega)
        have hadd : (⟨b, off, none⟩ : Addr).add i = ⟨b, off + i, none⟩ := by unfold Addr.add; split <;> simp_all
        rw [hadd] at h1
        rw [h1, getD_at (l := zs) (by omega), getD_at hi]
        simp
    · intro n hn
      have h1 := hwz n (List.mem_of_mem_take hn)
      exact wf_u8_bounds h1

end Go.Proofs.YtakgfdbjgeopdaaGreatDoor
/-
  Shapes of rows that several packages' walks share. No program is named here.
-/
namespace Go.Proofs.YtakgfdbjgeopdaaGreatDoor
open Go.RowKit

def lenV : Value → Nat
  | .slice _ n _ => n
  | _ => 0
theorem owns_shape2 {w : World} {base e : Nat} {v : Value} {n : Nat} {xs : List Value} (h : w.ownsRow base e 1 v n xs) : ∃ a cap, v = .slice a n cap := by
  rcases h.2 with ⟨rfl, rfl⟩ | ⟨g, cap, cur, rfl, _⟩
  · exact ⟨none, 0, rfl⟩
  · exact ⟨_, cap, rfl⟩
theorem owns_lower {w : World} {base base' : Nat} {e : TypeId} {size : Nat} {v : Value} {n : Nat} {xs : List Value} (h : w.ownsRow base e size v n xs) (hb : base' ≤ base) : w.ownsRow base' e size v n xs := by
  refine ⟨h.1, ?_⟩
  rcases h.2 with h2 | ⟨g, cap, cur, hv, hg, hr⟩
  · exact .inl h2
  · exact .inr ⟨g, cap, cur, hv, Nat.le_trans hb hg, hr⟩
theorem replicate_snoc (l : List Int) (j : Nat) : l ++ List.replicate j 0 ++ [0] = l ++ List.replicate (j + 1) 0 := by
  rw [List.append_assoc, ← List.replicate_succ']
theorem Sl.shape {w : World} {v : Value} {l : List Int} (h : Sl w v l) : ∃ a cap, v = .slice a l.length cap := by
  obtain ⟨⟨a, cap, e, _⟩, _⟩ := h
  exact ⟨a, cap, e⟩

def bArr (l : List Int) : Array Value := (l.map (Value.int .u8)).toArray
theorem bArr_size (l : List Int) : (bArr l).size = l.length := by simp [bArr]
theorem bArr_one (l : List Int) : (bArr l).all (·.oneCell') = true := by simp [bArr, Value.oneCell']
theorem bArr_get (l : List Int) (i : Nat) (h : i < l.length) : (bArr l)[i]? = some (.int .u8 (l.getD i 0)) := by
  simp [bArr, List.getD, List.getElem?_eq_getElem h]
theorem bArr_set (l : List Int) (i : Nat) (x : Int) : (bArr l).setIfInBounds i (.int .u8 x) = bArr (l.set i x) := by
  apply Array.ext'
  simp [bArr, List.map_set]
end Go.Proofs.YtakgfdbjgeopdaaGreatDoor
/-
  Words of 32 bits in the walks: 'uw x' is the number of a word x. What the operations of the language make of such numbers, as equations that the walks take out of the context. No program is named here.
-/
namespace Go.Proofs.YtakgfdbjgeopdaaGreatDoor
open Go.RowKit

def uw (x : BitVec 32) : Int := (x.toNat : Int)

theorem uw_lo (x : BitVec 32) : 0 ≤ uw x := Int.natCast_nonneg _
theorem uw_hi (x : BitVec 32) : uw x < 4294967296 := by unfold uw; have := x.isLt; omega
theorem uw_inj {x y : BitVec 32} : uw x = uw y ↔ x = y := by
  unfold uw
  constructor
  · intro h; exact BitVec.eq_of_toNat_eq (by omega)
  · rintro rfl; rfl

theorem uw_and (x y : BitVec 32) : bits .and .u32 (uw x) (uw y) = uw (x &&& y) := by
  unfold uw; rw [u32_and_nat _ _ x.isLt y.isLt, BitVec.toNat_and]
theorem uw_or (x y : BitVec 32) : bits .or .u32 (uw x) (uw y) = uw (x ||| y) := by
  unfold uw; rw [u32_or_nat _ _ x.isLt y.isLt, BitVec.toNat_or]
theorem uw_xor (x y : BitVec 32) : bits .xor .u32 (uw x) (uw y) = uw (x ^^^ y) := by
  unfold uw; rw [u32_xor_nat _ _ x.isLt y.isLt, BitVec.toNat_xor]
theorem uw_add (x y : BitVec 32) : IntKind.u32.wrap (uw x + uw y) = uw (x + y) := by
  unfold uw; rw [IntKind.wrap_u32', BitVec.toNat_add]; omega

theorem uw_sum2 (a b : BitVec 32) : (uw a + uw b) % (4294967296 : Int) = uw (a + b) := by
  unfold uw; rw [BitVec.toNat_add]; omega
theorem uw_sum3 (a b c : BitVec 32) : (uw a + uw b + uw c) % (4294967296 : Int) = uw (a + b + c) := by
  rw [← uw_sum2, ← uw_sum2]; omega
theorem uw_sum4 (a b c d : BitVec 32) : (uw a + uw b + uw c + uw d) % (4294967296 : Int) = uw (a + b + c + d) := by
  rw [← uw_sum2, ← uw_sum3]; omega
theorem uw_sum5 (a b c d e : BitVec 32) : (uw a + uw b + uw c + uw d + uw e) % (4294967296 : Int) = uw (a + b + c + d + e) := by
  rw [← uw_sum2, ← uw_sum4]; omega
theorem uw_shl (x : BitVec 32) (k : Nat) : uw x * (2 : Int) ^ k % (4294967296 : Int) = uw (x <<< k) := by
  unfold uw
  rw [BitVec.toNat_shiftLeft, Nat.shiftLeft_eq, Int.natCast_emod, Int.natCast_mul, Int.natCast_pow]
  rfl
theorem uw_shr (x : BitVec 32) (k : Nat) : uw x / (2 : Int) ^ k = uw (x >>> k) := by
  unfold uw
  rw [BitVec.toNat_ushiftRight, Nat.shiftRight_eq_div_pow, Int.natCast_ediv, Int.natCast_pow]
  rfl
theorem uw_shr3 (x : BitVec 32) : uw x / (8 : Int) = uw (x >>> 3) := uw_shr x 3
theorem uw_shr10 (x : BitVec 32) : uw x / (1024 : Int) = uw (x >>> 10) := uw_shr x 10
theorem uw_not (x : BitVec 32) : (4294967295 : Int) - uw x = uw (~~~x) := by
  unfold uw
  rw [BitVec.toNat_not]
  have := x.isLt
  omega
theorem uw_rot (x : BitVec 32) (n : Nat) (h0 : 1 ≤ n) (h1 : n ≤ 31) : bits .or .u32 (uw x * 2 ^ (32 - n) % 4294967296) (uw x / 2 ^ (32 - (32 - n))) = uw (x.rotateRight n) := by
  rw [uw_shl, uw_shr, uw_or, uw_inj]
  rw [show 32 - (32 - n) = n by omega, BitVec.rotateRight_def, Nat.mod_eq_of_lt (by omega : n < 32), BitVec.or_comm]

end Go.Proofs.YtakgfdbjgeopdaaGreatDoor
/-
  The digest as plain functions of lists. No program is named here.
-/
namespace Go.Proofs.YtakgfdbjgeopdaaGreatDoor
open Go.RowKit

def zeros (n : Nat) : Nat := (119 - n % 64) % 64
def lenBytes (n : Nat) : List Int := [((n * 8 / 2 ^ 56 % 256 : Nat) : Int), ((n * 8 / 2 ^ 48 % 256 : Nat) : Int), ((n * 8 / 2 ^ 40 % 256 : Nat) : Int), ((n * 8 / 2 ^ 32 % 256 : Nat) : Int),
  ((n * 8 / 2 ^ 24 % 256 : Nat) : Int), ((n * 8 / 2 ^ 16 % 256 : Nat) : Int), ((n * 8 / 2 ^ 8 % 256 : Nat) : Int), ((n * 8 / 2 ^ 0 % 256 : Nat) : Int)]
def padTo (l : List Int) (j : Nat) : List Int := l ++ [128] ++ List.replicate j 0
def pad (l : List Int) : List Int := padTo l (zeros l.length) ++ lenBytes l.length

theorem padTo_length (l : List Int) (j : Nat) : (padTo l j).length = l.length + 1 + j := by simp [padTo]; omega
theorem padTo_succ (l : List Int) (j : Nat) : padTo l j ++ [0] = padTo l (j + 1) := by
  simp only [padTo, List.append_assoc]
  rw [← List.replicate_succ']
theorem lenBytes_length (n : Nat) : (lenBytes n).length = 8 := rfl
theorem pad_length (l : List Int) : (pad l).length % 64 = 0 ∧ l.length < (pad l).length ∧ (pad l).length ≤ l.length + 72 := by
  unfold pad
  rw [List.length_append, padTo_length, lenBytes_length]
  unfold zeros
  omega
theorem padTo_byte {l : List Int} (h : ∀ x ∈ l, 0 ≤ x ∧ x < 256) (j : Nat) : ∀ x ∈ padTo l j, 0 ≤ x ∧ x < 256 := by
  intro x hx
  simp only [padTo, List.mem_append, List.mem_singleton, List.mem_replicate] at hx
  rcases hx with (hx | rfl) | ⟨_, rfl⟩
  · exact h x hx
  · omega
  · omega
theorem lenBytes_byte (n : Nat) : ∀ x ∈ lenBytes n, 0 ≤ x ∧ x < 256 := by
  intro x hx
  simp only [lenBytes, List.mem_cons, List.not_mem_nil, or_false] at hx
  rcases hx with rfl | rfl | rfl | rfl | rfl | rfl | rfl | rfl <;> omega
theorem pad_byte {l : List Int} (h : ∀ x ∈ l, 0 ≤ x ∧ x < 256) : ∀ x ∈ pad l, 0 ≤ x ∧ x < 256 := by
  intro x hx
  rcases List.mem_append.1 hx with h1 | h1
  · exact padTo_byte h _ x h1
  · exact lenBytes_byte _ x h1

theorem lenByte_cast (n s : Nat) : ((n * 8 / 2 ^ s % 256 : Nat) : Int) = (n : Int) * 8 / 2 ^ s % 256 := by
  rw [Int.natCast_emod, Int.natCast_ediv, Int.natCast_mul, Int.natCast_pow]
  rfl
theorem lenBytes_take (n k : Nat) (hk : k < 8) : (lenBytes n).take (k + 1) = (lenBytes n).take k ++ [(n : Int) * 8 / 2 ^ (56 - 8 * k) % 256] := by
  rw [← lenByte_cast]
  obtain rfl | rfl | rfl | rfl | rfl | rfl | rfl | rfl : k = 0 ∨ k = 1 ∨ k = 2 ∨ k = 3 ∨ k = 4 ∨ k = 5 ∨ k = 6 ∨ k = 7 := by omega
  all_goals rfl

/-- the words of a list, as the cells of an array -/
def wArr (ws : List (BitVec 32)) : Array Value := (ws.map fun x => Value.int .u32 (uw x)).toArray
theorem wArr_size (ws : List (BitVec 32)) : (wArr ws).size = ws.length := by simp [wArr]
theorem wArr_get (ws : List (BitVec 32)) (i : Nat) (h : i < ws.length) : (wArr ws)[i]? = some (.int .u32 (uw (ws.getD i 0#32))) := by
  simp [wArr, List.getD, List.getElem?_eq_getElem h]
theorem wArr_set (ws : List (BitVec 32)) (i : Nat) (x : BitVec 32) : (wArr ws).setIfInBounds i (.int .u32 (uw x)) = wArr (ws.set i x) := by
  apply Array.ext'
  simp [wArr, List.map_set]

def byteW (n : Int) : BitVec 32 := BitVec.ofNat 32 n.toNat
def wordOf (l : List Int) (i : Nat) : BitVec 32 := byteW (l.getD (4 * i) 0) <<< 24 ||| byteW (l.getD (4 * i + 1) 0) <<< 16 ||| byteW (l.getD (4 * i + 2) 0) <<< 8 ||| byteW (l.getD (4 * i + 3) 0)
def sig0 (x : BitVec 32) : BitVec 32 := x.rotateRight 7 ^^^ x.rotateRight 18 ^^^ x >>> 3
def sig1 (x : BitVec 32) : BitVec 32 := x.rotateRight 17 ^^^ x.rotateRight 19 ^^^ x >>> 10
def sch0 (l : List Int) : Nat → List (BitVec 32)
  | 0 => List.replicate 64 0#32
  | k + 1 => (sch0 l k).set k (wordOf l k)
def nextW (ws : List (BitVec 32)) (i : Nat) : BitVec 32 := ws.getD (i - 16) 0#32 + sig0 (ws.getD (i - 15) 0#32) + ws.getD (i - 7) 0#32 + sig1 (ws.getD (i - 2) 0#32)
def sch1 (l : List Int) : Nat → List (BitVec 32)
  | 0 => sch0 l 16
  | k + 1 => (sch1 l k).set (16 + k) (nextW (sch1 l k) (16 + k))
def sched (l : List Int) : List (BitVec 32) := sch1 l 48
theorem sch0_length (l : List Int) (k : Nat) : (sch0 l k).length = 64 := by
  induction k with
  | zero => simp [sch0]
  | succ k ih => simp [sch0, ih]
theorem sch1_length (l : List Int) (k : Nat) : (sch1 l k).length = 64 := by
  induction k with
  | zero => exact sch0_length l 16
  | succ k ih => simp [sch1, ih]
theorem sched_length (l : List Int) : (sched l).length = 64 := sch1_length l 48

theorem uw_byte (n : Int) (h : 0 ≤ n ∧ n < 256) : uw (byteW n) = n := by
  unfold uw byteW
  rw [BitVec.toNat_ofNat]
  omega
theorem uw_zero : uw 0#32 = 0 := rfl

def kTab : List Int := [1116352408, 1899447441, 3049323471, 3921009573, 961987163, 1508970993, 2453635748, 2870763221, 3624381080, 310598401, 607225278, 1426881987, 1925078388, 2162078206, 2614888103, 3248222580, 3835390401, 4022224774, 264347078, 604807628, 770255983, 1249150122, 1555081692, 1996064986, 2554220882, 2821834349, 2952996808, 3210313671, 3336571891, 3584528711, 113926993, 338241895, 666307205, 773529912, 1294757372, 1396182291, 1695183700, 1986661051, 2177026350, 2456956037, 2730485921, 2820302411, 3259730800, 3345764771, 3516065817, 3600352804, 4094571909, 275423344, 430227734, 506948616, 659060556, 883997877, 958139571, 1322822218, 1537002063, 1747873779, 1955562222, 2024104815, 2227730452, 2361852424, 2428436474, 2756734187, 3204031479, 3329325298]
def kAt (i : Nat) : BitVec 32 := BitVec.ofNat 32 (kTab.getD i 0).toNat

structure St where
  a : BitVec 32
  b : BitVec 32
  c : BitVec 32
  d : BitVec 32
  e : BitVec 32
  f : BitVec 32
  g : BitVec 32
  h : BitVec 32

def St.cells (s : St) : Array Value := #[.int .u32 (uw s.a), .int .u32 (uw s.b), .int .u32 (uw s.c), .int .u32 (uw s.d), .int .u32 (uw s.e), .int .u32 (uw s.f), .int .u32 (uw s.g), .int .u32 (uw s.h)]

def St.list (s : St) : List (BitVec 32) := [s.a, s.b, s.c, s.d, s.e, s.f, s.g, s.h]
theorem St.cells_eq (s : St) : s.cells = wArr s.list := rfl

def choice (e f g : BitVec 32) : BitVec 32 := (e &&& f) ^^^ (~~~e &&& g)
def most (a b c : BitVec 32) : BitVec 32 := (a &&& b) ^^^ (a &&& c) ^^^ (b &&& c)
def big1 (e : BitVec 32) : BitVec 32 := e.rotateRight 6 ^^^ e.rotateRight 11 ^^^ e.rotateRight 25
def big0 (a : BitVec 32) : BitVec 32 := a.rotateRight 2 ^^^ a.rotateRight 13 ^^^ a.rotateRight 22
def upS (s : St) (k w : BitVec 32) : BitVec 32 := s.h + big1 s.e + choice s.e s.f s.g + k + w
def downS (s : St) : BitVec 32 := big0 s.a + most s.a s.b s.c
def stepS (s : St) (k w : BitVec 32) : St := { a := upS s k w + downS s, b := s.a, c := s.b, d := s.c, e := s.d + upS s k w, f := s.e, g := s.f, h := s.g }
def roundsS (ws : List (BitVec 32)) (s : St) : Nat → St
  | 0 => s
  | k + 1 => stepS (roundsS ws s k) (kAt k) (ws.getD k 0#32)
def addS (s t : St) : St := { a := s.a + t.a, b := s.b + t.b, c := s.c + t.c, d := s.d + t.d, e := s.e + t.e, f := s.f + t.f, g := s.g + t.g, h := s.h + t.h }
/-- the first i words have been added -/
def addTo (s t : St) : Nat → List (BitVec 32)
  | 0 => s.list
  | i + 1 => (addTo s t i).set i ((addTo s t i).getD i 0#32 + t.list.getD i 0#32)
theorem addTo_length (s t : St) (i : Nat) : (addTo s t i).length = 8 := by
  induction i with
  | zero => rfl
  | succ i ih => simp [addTo, ih]
theorem addTo_all (s t : St) : addTo s t 8 = (addS s t).list := rfl
def mixS (s : St) (ws : List (BitVec 32)) : St := addS s (roundsS ws s 64)
def start : St := { a := 1779033703#32, b := 3144134277#32, c := 1013904242#32, d := 2773480762#32, e := 1359893119#32, f := 2600822924#32, g := 528734635#32, h := 1541459225#32 }

/-- a word as four bytes, the highest one first -/
def bytesW (x : BitVec 32) : List Int := [uw x / 16777216 % 256, uw x / 65536 % 256, uw x / 256 % 256, uw x % 256]
def bytesL : List (BitVec 32) → List Int
  | [] => []
  | x :: r => bytesW x ++ bytesL r
def bytesS (s : St) : List Int := bytesL s.list
theorem bytesS_length (s : St) : (bytesS s).length = 32 := rfl
theorem bytesW_byte (x : BitVec 32) : ∀ n ∈ bytesW x, 0 ≤ n ∧ n < 256 := by
  intro n hn
  simp only [bytesW, List.mem_cons, List.not_mem_nil, or_false] at hn
  rcases hn with rfl | rfl | rfl | rfl <;> omega
theorem bytesL_byte (l : List (BitVec 32)) : ∀ n ∈ bytesL l, 0 ≤ n ∧ n < 256 := by
  induction l with
  | nil => intro n hn; cases hn
  | cons x r ih =>
    intro n hn
    rcases List.mem_append.1 hn with h | h
    · exact bytesW_byte x n h
    · exact ih n h
theorem bytesL_snoc (l : List (BitVec 32)) (x : BitVec 32) : bytesL (l ++ [x]) = bytesL l ++ bytesW x := by
  induction l with
  | nil => simp [bytesL]
  | cons y r ih => simp [bytesL, ih]
theorem bytesL_length (l : List (BitVec 32)) : (bytesL l).length = 4 * l.length := by
  induction l with
  | nil => rfl
  | cons x r ih => simp [bytesL, bytesW, ih]; omega

/-- the digest's words behind the first k blocks of l -/
def digS (l : List Int) : Nat → St
  | 0 => start
  | k + 1 => mixS (digS l k) (sched ((l.drop (64 * k)).take 64))
/-- the digest -/
def dig (l : List Int) : List Int := bytesS (digS (pad l) ((pad l).length / 64))
theorem dig_length (l : List Int) : (dig l).length = 32 := rfl
theorem dig_byte (l : List Int) : ∀ n ∈ dig l, 0 ≤ n ∧ n < 256 := bytesL_byte _

end Go.Proofs.YtakgfdbjgeopdaaGreatDoor
