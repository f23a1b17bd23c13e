/-
  Tags under a first half that is one, and appends within a region that draws. No program is named here.
-/
import Derived.Test.YtofnecccijedfabTagWalk
import Derived.Test.YtofnecccijedfabZerosLaw
import Derived.Deep.RegionLaw
namespace Go.Proofs.Ytofnecccijedfab
open Go.RowKit

theorem step_append_bytes {P : Program} {ops : Array Oper} {o : Oper} {a : Act} {w : World} {K : Act → World → Prop} {Q : Exit → Act → World → Prop} {E : Prop}
    (hgd : o.guard = none) (s x : Operand) (t : TypeId) (ho : o.op = .call { callee := .builtin .append, args := #[s, x], argTypes := #[t, t] })
    (base e : Nat) (ht : P.underlying t = some (.slice e)) (hinfo : (P.info? e).map (fun i => (i.zero, i.size, i.bytes)) = some (some (.int .u8 0), 1, 1))
    (v u : Value) (hs : a.eval s = v) (hx : a.eval x = u) (l m : List Int) (hown : w.ownsRow base e 1 v l.length (l.map (Value.int .u8))) (hu : Sl w u m)
    (hlen : l.length + m.length ≤ 140737488355328) (hbase : base ≤ w.heap.size)
    (h : ∀ v' w', w'.ownsRow base e 1 v' (l ++ m).length ((l ++ m).map (Value.int .u8)) → w.grownBy w' v.ownBlock → K (a.put o.dst v') w') :
    if Region.wanted o (yielded ops a.tmps) = true then Oper.wp P o a w K Q else E := by
  have hw : Region.wanted o (yielded ops a.tmps) = true := by simp [Region.wanted, hgd]
  rw [if_pos hw]
  obtain ⟨v', w', hrun, r1, r2⟩ := run_append_sl (P := P) w base t o.type e ht hinfo v l hown u m hu hlen hbase
  unfold Oper.wp execOp
  simp only [ho, resolve, invoke, builtin, Sem.run_bind, Sem.run_pure, Result.andThen_ok, List.map_toArray, List.map_cons, List.map_nil, hs, hx, hrun]
  exact h v' w' r1 r2

theorem step_append_noughts {P : Program} {ops : Array Oper} {o : Oper} {a : Act} {w : World} {K : Act → World → Prop} {Q : Exit → Act → World → Prop} {E : Prop}
    (hgd : o.guard = none) (s x : Operand) (t tn : TypeId) (ho : o.op = .call { callee := .builtin .append, args := #[s, x], argTypes := #[t, tn] })
    (base e : Nat) (kn : IntKind) (ht : P.underlying t = some (.slice e)) (htn : P.underlying tn = some (.int kn)) (hinfo : (P.info? e).map (fun i => (i.zero, i.size, i.bytes)) = some (some (.int .u8 0), 1, 1))
    (v : Value) (m : Nat) (hs : a.eval s = v) (hx : a.eval x = .int .i64 (m : Int)) (l : List Int) (hl0 : l ≠ []) (hown : w.ownsRow base e 1 v l.length (l.map (Value.int .u8))) (hm : 0 < m)
    (hlen : l.length + m ≤ 100000) (hbase : base ≤ w.heap.size)
    (h : ∀ v' w', w'.ownsRow base e 1 v' (l ++ List.replicate m 0).length ((l ++ List.replicate m 0).map (Value.int .u8)) → w.grownBy w' v.ownBlock → K (a.put o.dst v') w') :
    if Region.wanted o (yielded ops a.tmps) = true then Oper.wp P o a w K Q else E := by
  have hw : Region.wanted o (yielded ops a.tmps) = true := by simp [Region.wanted, hgd]
  rw [if_pos hw]
  obtain ⟨v', w', hrun, r1, r2⟩ := run_append_noughts (P := P) w base t tn o.type e kn ht htn hinfo v l hl0 hown m hm hlen hbase
  unfold Oper.wp execOp
  simp only [ho, resolve, invoke, builtin, Sem.run_bind, Sem.run_pure, Result.andThen_ok, List.map_toArray, List.map_cons, List.map_nil, hs, hx, hrun]
  exact h v' w' r1 r2

/-- a region that may be walked in several orders, all of which end alike but for two values -/
theorem region_mergeV {P : Program} {id : Nat} {ops : Array Oper} {K : Act → World → Prop} {Q : Exit → Act → World → Prop} {a : Act} {w : World} (R : Value → Value → World → Prop) {A : Value → Value → Act}
    (hreg : ∀ K' : Act → World → Prop, Hid (∀ x y W2, R x y W2 → K' (A x y) W2) → (Code.region id ops true).wp P (Exit.then K' Q) a w) (hrest : ∀ x y W2, R x y W2 → K (A x y) W2) : (Code.region id ops true).wp P (Exit.then K Q) a w := hreg K hrest

theorem owns_built1 (W : World) (base : Nat) (hb : base ≤ W.heap.size) (b : Int) : (W.alloc (.cells #[.int .u8 b] 5)).ownsRow base 5 1 (.slice (some ⟨W.heap.size, 0, none⟩) 1 1) [b].length ([b].map (Value.int .u8)) := by
  refine ⟨by simp, .inr ⟨W.heap.size, 1, _, rfl, hb, heap_alloc_new _ _, by simp, by unfold maxLen; omega, by simp, by simp⟩⟩

def oneL : List Int := 1 :: List.replicate 15 0
theorem oneL_length : oneL.length = 16 := rfl
theorem oneL_byte : ∀ x ∈ oneL, 0 ≤ x ∧ x < 256 := by decide
theorem oneL_clamp : leN (clampL oneL) = 1 := by decide +kernel

theorem tagL_one (S D : List Int) : tagL (oneL ++ S) D = leB 16 (accN 1 D + leN S) := by
  have e1 : (oneL ++ S).take 16 = oneL := by simp [oneL]
  have e2 : (oneL ++ S).drop 16 = S := by simp [oneL]
  rw [tagL, e1, e2, oneL_clamp]

theorem leN_mark (l : List Int) (h : l.length = 16) : leN (l ++ [1]) = leN l + 256 ^ 16 := by
  rw [leN_append, leN_one, h]; omega
theorem lt16 {l : List Int} (h : l.length = 16) (hb : ∀ x ∈ l, 0 ≤ x ∧ x < 256) : 0 ≤ leN l ∧ leN l < 340282366920938463463374607431768211456 := by
  have h1 := leP_bound hb l.length
  rw [h] at h1
  unfold leN
  rw [h]
  simpa using h1
theorem accN_one {B : List Int} (h : B.length = 16) (hb : ∀ x ∈ B, 0 ≤ x ∧ x < 256) : accN 1 B = leN B + 256 ^ 16 := by
  have e1 : piece B 0 = B := by unfold piece; simp [List.take_of_length_le (Nat.le_of_eq h)]
  have e2 : pieces B = 1 := by unfold pieces; omega
  have h1 := lt16 h hb
  rw [accN, e2, accK, accK, e1, leN_mark B h, Int.zero_add, Int.mul_one]
  refine Int.emod_eq_of_lt (by omega) ?_
  unfold pp
  omega
theorem accN_two {X Y : List Int} (hx : X.length = 16) (hy : Y.length = 16) (bx : ∀ x ∈ X, 0 ≤ x ∧ x < 256) (byy : ∀ x ∈ Y, 0 ≤ x ∧ x < 256) (hlow : leN Y < 170141183460469231731687303715884105728) : accN 1 (X ++ Y) = leN X + leN Y + 256 ^ 16 * 2 := by
  have e1 : piece (X ++ Y) 0 = X := by unfold piece; rw [Nat.mul_zero, List.drop_zero, List.take_append_of_le_length (by omega), List.take_of_length_le (by omega)]
  have e3 : piece (X ++ Y) 1 = Y := by
    unfold piece
    have h := List.drop_left (l₁ := X) (l₂ := Y)
    rw [hx] at h
    rw [show 16 * 1 = 16 from rfl, h, List.take_of_length_le (by omega)]
  have e2 : pieces (X ++ Y) = 2 := by unfold pieces; rw [List.length_append]; omega
  have h1 := lt16 hx bx
  have h2 := lt16 hy byy
  rw [accN, e2, accK, accK, accK, e1, e3, leN_mark X hx, leN_mark Y hy, Int.zero_add, Int.mul_one, Int.mul_one, Int.emod_eq_of_lt (a := leN X + 256 ^ 16) (by omega) (by unfold pp; omega)]
  rw [Int.emod_eq_of_lt (by omega) (by unfold pp; omega)]
  omega

/-- the bytes of two lists, summed with a carry -/
theorem carP_two (B S : List Int) (k : Nat) (hk : k < 16) (hb : B.length ≤ 16) (hs : S.length ≤ 16) (Z : Int) :
    (carP (fun j => B.getD j 0 + S.getD j 0) k + (B.getD k 0 + S.getD k 0)) % 256 = byteN (leN B + 256 ^ 16 * Z + leN S) k := by
  rw [carP_byte (fun j => B.getD j 0 + S.getD j 0) 16 k hk, sumP_add (fun j => B.getD j 0) (fun j => S.getD j 0), sumP_leP, sumP_leP, leP_past 16 hs, leP_past 16 hb,
    show leN B + 256 ^ 16 * Z + leN S = leN B + leN S + 256 ^ 16 * Z by omega, byteN_more _ _ _ _ hk]
theorem carP_three (B C S : List Int) (k : Nat) (hk : k < 16) (hb : B.length ≤ 16) (hc : C.length ≤ 16) (hs : S.length ≤ 16) (Z : Int) :
    (carP (fun j => B.getD j 0 + C.getD j 0 + S.getD j 0) k + (B.getD k 0 + C.getD k 0 + S.getD k 0)) % 256 = byteN (leN B + leN C + 256 ^ 16 * Z + leN S) k := by
  rw [carP_byte (fun j => B.getD j 0 + C.getD j 0 + S.getD j 0) 16 k hk, sumP_add (fun j => B.getD j 0 + C.getD j 0) (fun j => S.getD j 0), sumP_add (fun j => B.getD j 0) (fun j => C.getD j 0), sumP_leP, sumP_leP, sumP_leP, leP_past 16 hs, leP_past 16 hb, leP_past 16 hc,
    show leN B + leN C + 256 ^ 16 * Z + leN S = leN B + leN C + leN S + 256 ^ 16 * Z by omega, byteN_more _ _ _ _ hk]
end Go.Proofs.Ytofnecccijedfab
