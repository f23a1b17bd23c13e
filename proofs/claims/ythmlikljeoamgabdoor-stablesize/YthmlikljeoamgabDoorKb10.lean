/-
  Tapes of records, in plain lists of bytes: what may be written, what is recovered. No program is named here.
-/
import Derived.Test.YthmlikljeoamgabDoorKb9
import Derived.Test.YthmlikljeoamgabDoorKb6
import Derived.Test.YthmlikljeoamgabDoorKb4
namespace Go.Proofs.YthmlikljeoamgabDoor
set_option linter.unusedVariables false

/-- a record -/
def framL (b : List Int) : List Int := (b.length : Int) :: b
def recoL (b : List Int) : List Int := framL b ++ (dig (framL b)).take 4
theorem framL_length (b : List Int) : (framL b).length = b.length + 1 := rfl
theorem recoL_length (b : List Int) : (recoL b).length = b.length + 5 := by
  unfold recoL
  rw [List.length_append, framL_length, List.length_take, dig_length]
  omega
/-- the bodies of a promise and of a vote -/
def proB (b : Bal) : List Int := 1 :: (headL b.r ++ headL b.n)
def votB (v : Vt) : List Int := 2 :: (headL v.slot ++ (headL v.b.r ++ (headL v.b.n ++ comL v.w.k v.w.c v.w.s v.w.n v.w.v)))
theorem proB_length (b : Bal) : (proB b).length = 9 := rfl
theorem votB_length (v : Vt) : (votB v).length = 33 := rfl
theorem proB_byte (b : Bal) : ∀ x ∈ proB b, 0 ≤ x ∧ x < 256 := by
  intro x hx
  rcases List.mem_cons.1 hx with rfl | hx
  · omega
  · rcases List.mem_append.1 hx with hx | hx
    · exact headL_byte _ x hx
    · exact headL_byte _ x hx
theorem votB_byte (v : Vt) : ∀ x ∈ votB v, 0 ≤ x ∧ x < 256 := by
  intro x hx
  rcases List.mem_cons.1 hx with rfl | hx
  · omega
  · rcases List.mem_append.1 hx with hx | hx
    · exact headL_byte _ x hx
    · rcases List.mem_append.1 hx with hx | hx
      · exact headL_byte _ x hx
      · rcases List.mem_append.1 hx with hx | hx
        · exact headL_byte _ x hx
        · exact comL_byte _ _ _ _ _ x hx
theorem framL_byte {b : List Int} (hb : ∀ x ∈ b, 0 ≤ x ∧ x < 256) (hl : b.length ≤ 255) : ∀ x ∈ framL b, 0 ≤ x ∧ x < 256 := by
  intro x hx
  rcases List.mem_cons.1 hx with rfl | hx
  · omega
  · exact hb x hx
theorem recoL_byte {b : List Int} (hb : ∀ x ∈ b, 0 ≤ x ∧ x < 256) (hl : b.length ≤ 255) : ∀ x ∈ recoL b, 0 ≤ x ∧ x < 256 := by
  intro x hx
  rcases List.mem_append.1 hx with hx | hx
  · exact framL_byte hb hl x hx
  · exact dig_byte _ x (List.mem_of_mem_take hx)
/-- what writing answers: an error, the bytes, how many are synced -/
def wriE (d : List Int) (s : Int) (may : Prop) [Decidable may] (b : List Int) : Int := if ¬ TapB d s then 5 else if ¬ may then 2 else if 100000 < d.length + (b.length + 5) then 8 else 0
def wriD (d : List Int) (s : Int) (may : Prop) [Decidable may] (b : List Int) : List Int := if wriE d s may b = 0 then d ++ recoL b else []
def wriS (d : List Int) (s : Int) (may : Prop) [Decidable may] (b : List Int) : Int := if wriE d s may b = 0 then s else 0
/-- the command that twenty bytes tell -/
def decC (l : List Int) : Cmd := ⟨numA l 0, numA l 4, numA l 8, numA l 12, numA l 16⟩
/-- an acceptor behind a body -/
def bodyP (b : List Int) : Bal := ⟨numA b 1, numA b 5⟩
def bodyV (b : List Int) : Vt := ⟨numA b 1, ⟨numA b 5, numA b 9⟩, decC (b.drop 13)⟩
def doneB (a : Acc) (b : List Int) : Option Acc :=
  if b.length = 9 ∧ b.getD 0 0 = 1 then (if proE a (bodyP b) = 0 then some ⟨bodyP b, a.vs⟩ else none)
  else if b.length = 33 ∧ b.getD 0 0 = 2 then (if decE (b.drop 13) = 0 then (if votE a (bodyV b) = 0 then some ⟨(bodyV b).b, insV a.vs (bodyV b)⟩ else none) else none)
  else none
/-- one record more: the acceptor behind it, and how many bytes it has -/
def stepL (r : List Int) (a : Acc) : Option (Acc × Nat) :=
  if r = [] then none
  else if r.length < (r.getD 0 0).toNat + 5 then none
  else if (dig (r.take ((r.getD 0 0).toNat + 1))).take 4 ≠ (r.drop ((r.getD 0 0).toNat + 1)).take 4 then none
  else (doneB a ((r.take ((r.getD 0 0).toNat + 1)).drop 1)).map fun x => (x, (r.getD 0 0).toNat + 5)
def a0 : Acc := ⟨⟨0, 0⟩, []⟩
def nextR (r : List Int) (p : Nat × Acc) : Nat × Acc := match stepL (r.drop p.1) p.2 with
  | none => p
  | some (c, m) => (p.1 + m, c)
def itR (r : List Int) : Nat → Nat × Acc
  | 0 => (0, a0)
  | k + 1 => nextR r (itR r k)
/-- what is recovered -/
def recN (r : List Int) : Nat × Acc := itR r r.length
theorem stepL_le {r : List Int} {a c : Acc} {m : Nat} (h : stepL r a = some (c, m)) : 5 ≤ m ∧ m ≤ r.length := by
  unfold stepL at h
  split at h
  · cases h
  · split at h
    · cases h
    · split at h
      · cases h
      · obtain ⟨x, _, e⟩ := Option.map_eq_some_iff.1 h
        injection e with e1 e2
        omega
theorem nextR_none {r : List Int} {p : Nat × Acc} (h : stepL (r.drop p.1) p.2 = none) : nextR r p = p := by
  unfold nextR
  rw [h]
theorem nextR_some {r : List Int} {n : Nat} {b c : Acc} {m : Nat} (h : stepL (r.drop n) b = some (c, m)) : nextR r (n, b) = (n + m, c) := by
  unfold nextR
  rw [show stepL (r.drop (n, b).1) (n, b).2 = some (c, m) from h]
theorem itR_stuck {r : List Int} {k n : Nat} {b : Acc} (h : itR r k = (n, b)) (hs : stepL (r.drop n) b = none) (j : Nat) : itR r (k + j) = (n, b) := by
  induction j with
  | zero => exact h
  | succ j ih =>
    rw [← Nat.add_assoc, itR, ih]
    exact nextR_none hs
theorem recN_of {r : List Int} {k n : Nat} {b : Acc} (h : itR r k = (n, b)) (hk : k ≤ r.length) (hs : stepL (r.drop n) b = none) : recN r = (n, b) := by
  have := itR_stuck h hs (r.length - k)
  rw [show k + (r.length - k) = r.length by omega] at this
  exact this
theorem itR_le (r : List Int) (k : Nat) : (itR r k).1 ≤ r.length := by
  induction k with
  | zero => exact Nat.zero_le _
  | succ k ih =>
    rw [itR]
    unfold nextR
    split
    · exact ih
    · rename_i c m h
      have := (stepL_le h).2
      rw [List.length_drop] at this
      show (itR r k).1 + m ≤ r.length
      omega
/-- far enough nothing more is read -/
theorem itR_far (r : List Int) (k : Nat) : stepL (r.drop (itR r k).1) (itR r k).2 = none ∨ 5 * k ≤ (itR r k).1 := by
  induction k with
  | zero => exact .inr (Nat.zero_le _)
  | succ k ih =>
    cases h : stepL (r.drop (itR r k).1) (itR r k).2 with
    | none =>
      left
      rw [itR, nextR_none h]
      exact h
    | some x =>
      obtain ⟨c, m⟩ := x
      right
      rcases ih with ih | ih
      · rw [ih] at h; cases h
      · have e : itR r (k + 1) = ((itR r k).1 + m, c) := by rw [itR]; exact nextR_some h
        rw [e]
        have := (stepL_le h).1
        show 5 * (k + 1) ≤ (itR r k).1 + m
        omega
theorem recN_stuck (r : List Int) : stepL (r.drop (recN r).1) (recN r).2 = none := by
  rcases itR_far r r.length with h | h
  · exact h
  · have := itR_le r r.length
    have e : r = [] := List.eq_nil_of_length_eq_zero (by omega)
    subst e
    rfl
/-- a step looks at its own bytes alone -/
theorem stepL_pre {r r' : List Int} {a c : Acc} {m : Nat} (h : stepL r a = some (c, m)) (hp : r'.take m = r.take m) : stepL r' a = some (c, m) := by
  have hl := stepL_le h
  have hl' : m ≤ r'.length := by
    have e := congrArg List.length hp
    rw [List.length_take, List.length_take] at e
    omega
  unfold stepL at h
  split at h
  · cases h
  rename_i h0
  split at h
  · cases h
  rename_i h1
  split at h
  · cases h
  rename_i h2
  obtain ⟨x, hx, e⟩ := Option.map_eq_some_iff.1 h
  injection e with e1 e2
  have hg : r'.getD 0 0 = r.getD 0 0 := by
    have e := congrArg (fun l => l.getD 0 0) hp
    simp only [List.getD_eq_getElem?_getD, List.getElem?_take] at e ⊢
    rw [if_pos (by omega), if_pos (by omega)] at e
    exact e
  have ht : ∀ k, k ≤ m → r'.take k = r.take k := fun k hk => by
    have e := congrArg (List.take k) hp
    rw [List.take_take, List.take_take, Nat.min_eq_left hk] at e
    exact e
  have hd : (r'.drop ((r.getD 0 0).toNat + 1)).take 4 = (r.drop ((r.getD 0 0).toNat + 1)).take 4 := by
    have e := congrArg (List.drop ((r.getD 0 0).toNat + 1)) hp
    rw [List.drop_take, List.drop_take, show m - ((r.getD 0 0).toNat + 1) = 4 by omega] at e
    exact e
  unfold stepL
  rw [hg, if_neg (by rintro rfl; simp at hl'; omega), if_neg (by omega), ht _ (by omega), hd, if_neg h2, hx, Option.map_some, e1, e2]
theorem drop_take_take (r : List Int) {N n m : Nat} (h : n + m ≤ N) : ((r.take N).drop n).take m = (r.drop n).take m := by
  rw [List.drop_take, List.take_take, Nat.min_eq_left (by omega)]
theorem itR_mono (r : List Int) (k : Nat) : (itR r k).1 ≤ (itR r (k + 1)).1 := by
  rw [itR]
  unfold nextR
  split
  · exact Nat.le_refl _
  · show (itR r k).1 ≤ (itR r k).1 + _
    omega
/-- of a tape that is cut the same is read, as far as it goes -/
theorem itR_take {r : List Int} {N k : Nat} (h : (itR r k).1 ≤ N) : itR (r.take N) k = itR r k := by
  induction k with
  | zero => rfl
  | succ k ih =>
    have hm := itR_mono r k
    have ih := ih (by omega)
    rw [itR, ih]
    cases e : stepL (r.drop (itR r k).1) (itR r k).2 with
    | none =>
      have e2 : stepL ((r.take N).drop (itR r k).1) (itR r k).2 = none := by
        cases e3 : stepL ((r.take N).drop (itR r k).1) (itR r k).2 with
        | none => rfl
        | some x =>
          obtain ⟨c, m⟩ := x
          have hl := (stepL_le e3).2
          rw [List.length_drop, List.length_take] at hl
          have := stepL_pre (r' := r.drop (itR r k).1) e3 (drop_take_take r (by omega)).symm
          rw [e] at this
          cases this
      rw [nextR_none e2, itR, nextR_none e]
    | some x =>
      obtain ⟨c, m⟩ := x
      have e1 : itR r (k + 1) = ((itR r k).1 + m, c) := by rw [itR]; exact nextR_some e
      rw [e1] at h ⊢
      have h' : (itR r k).1 + m ≤ N := h
      have e2 := stepL_pre (r' := (r.take N).drop (itR r k).1) e (drop_take_take r h')
      exact nextR_some e2
theorem recN_more (r : List Int) (j : Nat) : itR r (r.length + j) = recN r := itR_stuck (k := r.length) (n := (recN r).1) (b := (recN r).2) rfl (recN_stuck r) j
/-- what was recovered is recovered, if it stands alone -/
theorem recN_take (r : List Int) : recN (r.take (recN r).1) = recN r := by
  have h1 : itR (r.take (recN r).1) r.length = recN r := itR_take (Nat.le_refl _)
  have hl : (r.take (recN r).1).length ≤ r.length := by rw [List.length_take]; omega
  have h2 := recN_more (r.take (recN r).1) (r.length - (r.take (recN r).1).length)
  rw [show (r.take (recN r).1).length + (r.length - (r.take (recN r).1).length) = r.length by omega, h1] at h2
  exact h2.symm
theorem recN_le (r : List Int) : (recN r).1 ≤ r.length := itR_le r r.length
/-- a whole record is read -/
theorem stepL_reco (b x : List Int) (a : Acc) : stepL (recoL b ++ x) a = (doneB a b).map fun c => (c, b.length + 5) := by
  have hl := recoL_length b
  have hg : (recoL b ++ x).getD 0 0 = (b.length : Int) := rfl
  have hn : ((b.length : Int)).toNat = b.length := Int.toNat_natCast _
  have ht : (recoL b ++ x).take (b.length + 1) = framL b := by
    unfold recoL
    rw [List.append_assoc, List.take_append_of_le_length (by rw [framL_length]; omega), List.take_of_length_le (by rw [framL_length]; omega)]
  have hd : ((recoL b ++ x).drop (b.length + 1)).take 4 = (dig (framL b)).take 4 := by
    unfold recoL
    rw [List.append_assoc, List.drop_append_of_le_length (by rw [framL_length]; omega), List.drop_of_length_le (by rw [framL_length]; omega), List.nil_append,
      List.take_append_of_le_length (by rw [List.length_take, dig_length]; omega), List.take_take]
    rfl
  unfold stepL
  rw [hg, hn, if_neg (by intro e; have := congrArg List.length e; rw [List.length_append, hl] at this; simp at this), if_neg (by rw [List.length_append, hl]; omega), ht, hd, if_neg (fun g => g rfl)]
  rfl
/-- of a record that is torn nothing is read -/
theorem stepL_torn (b x : List Int) (a : Acc) {k : Nat} (hk : k < b.length + 5) : stepL ((recoL b ++ x).take k) a = none := by
  have hl := recoL_length b
  cases k with
  | zero => rfl
  | succ k =>
    have hg : ((recoL b ++ x).take (k + 1)).getD 0 0 = (b.length : Int) := rfl
    unfold stepL
    rw [hg, Int.toNat_natCast]
    split
    · rfl
    · rw [if_pos (by rw [List.length_take, List.length_append, hl]; omega)]
theorem done_pro (a : Acc) {b : Bal} (hb : BalMay b) : doneB a (proB b) = if proE a b = 0 then some ⟨b, a.vs⟩ else none := by
  have hb' := hb
  unfold BalMay at hb'
  have e1 : numA (proB b) 1 = b.r := numA_headL b.r (by omega) (by omega) [1] (headL b.n)
  have e2 : numA (proB b) 5 = b.n := by
    have := numA_headL b.n (by omega) (by omega) (1 :: headL b.r) []
    rw [List.append_nil] at this
    exact this
  have e : bodyP (proB b) = b := by unfold bodyP; rw [e1, e2]
  unfold doneB
  rw [if_pos ⟨rfl, rfl⟩, e]
theorem decE_com {k c s n v : Int} (h : comE k c s n v = 0) : decE (comL k c s n v) = 0 ∧ decC (comL k c s n v) = ⟨k, c, s, n, v⟩ := by
  have hz := comE_zero h
  have hi := hz.2
  unfold InC at hi
  have e0 := numA_com0 k c s n v (by omega) (by omega)
  have e1 := numA_com4 k c s n v (by omega) (by omega)
  have e2 := numA_com8 k c s n v (by omega) (by omega)
  have e3 := numA_com12 k c s n v (by omega) (by omega)
  have e4 := numA_com16 k c s n v (by omega) (by omega)
  unfold decE decC
  rw [if_neg (fun g => g (comL_length k c s n v)), e0, e1, e2, e3, e4]
  exact ⟨h, rfl⟩
theorem done_vot (a : Acc) {v : Vt} (hv : VtMay v) : doneB a (votB v) = if votE a v = 0 then some ⟨v.b, insV a.vs v⟩ else none := by
  have hv' := hv
  unfold VtMay BalMay at hv'
  obtain ⟨slot, ⟨r, n⟩, ⟨k, c, s, nn, x⟩⟩ := v
  simp only at hv'
  have e1 : numA (votB ⟨slot, ⟨r, n⟩, ⟨k, c, s, nn, x⟩⟩) 1 = slot := numA_headL slot (by omega) (by omega) [2] (headL r ++ (headL n ++ comL k c s nn x))
  have e2 : numA (votB ⟨slot, ⟨r, n⟩, ⟨k, c, s, nn, x⟩⟩) 5 = r := numA_headL r (by omega) (by omega) (2 :: headL slot) (headL n ++ comL k c s nn x)
  have e3 : numA (votB ⟨slot, ⟨r, n⟩, ⟨k, c, s, nn, x⟩⟩) 9 = n := numA_headL n (by omega) (by omega) (2 :: (headL slot ++ headL r)) (comL k c s nn x)
  have ed : (votB ⟨slot, ⟨r, n⟩, ⟨k, c, s, nn, x⟩⟩).drop 13 = comL k c s nn x := rfl
  have hc := decE_com (k := k) (c := c) (s := s) (n := nn) (v := x) hv'.2.2
  have e : bodyV (votB ⟨slot, ⟨r, n⟩, ⟨k, c, s, nn, x⟩⟩) = ⟨slot, ⟨r, n⟩, ⟨k, c, s, nn, x⟩⟩ := by unfold bodyV; rw [e1, e2, e3, ed, hc.2]
  unfold doneB
  rw [if_neg (by rintro ⟨h, _⟩; cases h), if_pos ⟨rfl, rfl⟩, e, ed, if_pos hc.1]
/-- a step, told by places of the whole tape -/
theorem stepL_at (d : List Int) (n x : Nat) (a : Acc) (hn : n < d.length) (hx : (d.getD n 0).toNat = x) : stepL (d.drop n) a = if d.length < n + x + 5 then none else if (dig ((d.take (n + 1 + x)).drop n)).take 4 ≠ (d.take (n + 1 + x + 4)).drop (n + 1 + x) then none else (doneB a ((d.take (n + 1 + x)).drop (n + 1))).map fun c => (c, x + 5) := by
  have hg : (d.drop n).getD 0 0 = d.getD n 0 := by simp [List.getD]
  have e1 : (d.drop n).take (x + 1) = (d.take (n + 1 + x)).drop n := by rw [List.drop_take, show n + 1 + x - n = x + 1 by omega]
  have e2 : ((d.drop n).drop (x + 1)).take 4 = (d.take (n + 1 + x + 4)).drop (n + 1 + x) := by rw [List.drop_take, List.drop_drop, show n + 1 + x + 4 - (n + 1 + x) = 4 by omega, show n + (x + 1) = n + 1 + x by omega]
  have e3 : ((d.drop n).take (x + 1)).drop 1 = (d.take (n + 1 + x)).drop (n + 1) := by rw [e1, List.drop_drop]
  unfold stepL
  rw [hg, hx, if_neg (by intro e; have := congrArg List.length e; rw [List.length_drop] at this; simp at this; omega), List.length_drop, e3, e1, e2]
  by_cases h : d.length < n + x + 5
  · rw [if_pos (by omega), if_pos h]
  · rw [if_neg (by omega), if_neg h]
theorem stepL_end (d : List Int) (n : Nat) (a : Acc) (hn : d.length ≤ n) : stepL (d.drop n) a = none := by
  rw [List.drop_of_length_le hn]
  rfl
/-- records, one behind the other -/
def flatR (bs : List (List Int)) : List Int := bs.flatMap recoL
theorem flatR_append (l m : List (List Int)) : flatR (l ++ m) = flatR l ++ flatR m := by simp [flatR]
/-- acceptors, each behind one body more -/
structure Chn (all : List Acc) (bs : List (List Int)) : Prop where
  len : all.length = bs.length + 1
  first : all[0]? = some a0
  step : ∀ (i : Nat) (b : List Int) (a c : Acc), bs[i]? = some b → all[i]? = some a → all[i + 1]? = some c → doneB a b = some c
theorem Chn.nil : Chn [a0] [] := ⟨rfl, rfl, fun i b a c h => by simp at h⟩
theorem Chn.snoc {all : List Acc} {bs : List (List Int)} (h : Chn all bs) {a c : Acc} {b : List Int} (ha : all[bs.length]? = some a) (hd : doneB a b = some c) : Chn (all ++ [c]) (bs ++ [b]) := by
  have hl := h.len
  refine ⟨by simp [hl], ?_, ?_⟩
  · rw [List.getElem?_append_left (by omega)]; exact h.first
  · intro i b' a' c' hb ha' hc
    rcases Nat.lt_or_ge i bs.length with hi | hi
    · rw [List.getElem?_append_left hi] at hb
      rw [List.getElem?_append_left (by omega)] at ha' hc
      exact h.step i b' a' c' hb ha' hc
    · have hi2 : i = bs.length := by
        have := (List.getElem?_eq_some_iff.1 hb).1
        simp at this
        omega
      subst hi2
      rw [List.getElem?_append_left (by omega)] at ha'
      rw [List.getElem?_append_right (Nat.le_refl _)] at hb
      rw [List.getElem?_append_right (by omega)] at hc
      simp at hb
      rw [show bs.length + 1 - all.length = 0 by omega] at hc
      simp at hc
      rw [ha] at ha'
      rw [← hb, ← hc, ← Option.some.inj ha']
      exact hd
theorem Chn.at {all : List Acc} {bs : List (List Int)} (h : Chn all bs) (j : Nat) (hj : j ≤ bs.length) : ∃ a, all[j]? = some a := ⟨_, List.getElem?_eq_getElem (by have := h.len; omega)⟩
theorem take_snocB (bs : List (List Int)) (j : Nat) (b : List Int) (h : bs[j]? = some b) : bs.take (j + 1) = bs.take j ++ [b] := by
  obtain ⟨hj, e⟩ := List.getElem?_eq_some_iff.1 h
  rw [List.take_succ_eq_append_getElem hj, e]
theorem flatR_drop (bs : List (List Int)) (j : Nat) (x : List Int) : (flatR bs ++ x).drop (flatR (bs.take j)).length = flatR (bs.drop j) ++ x := by
  have e : flatR bs = flatR (bs.take j) ++ flatR (bs.drop j) := by rw [← flatR_append, List.take_append_drop]
  rw [e, List.append_assoc, List.drop_append_of_le_length (Nat.le_refl _), List.drop_of_length_le (Nat.le_refl _), List.nil_append]
theorem flatR_head (bs : List (List Int)) (j : Nat) (b : List Int) (h : bs[j]? = some b) : flatR (bs.drop j) = recoL b ++ flatR (bs.drop (j + 1)) := by
  obtain ⟨hj, e⟩ := List.getElem?_eq_some_iff.1 h
  rw [List.drop_eq_getElem_cons hj, e]
  rfl
/-- record by record -/
theorem Chn.it {all : List Acc} {bs : List (List Int)} (h : Chn all bs) (x : List Int) (j : Nat) (hj : j ≤ bs.length) {a : Acc} (ha : all[j]? = some a) : itR (flatR bs ++ x) j = ((flatR (bs.take j)).length, a) := by
  induction j generalizing a with
  | zero =>
    rw [h.first] at ha
    obtain rfl := Option.some.inj ha
    rfl
  | succ j ih =>
    obtain ⟨a', ha'⟩ := h.at j (by omega)
    have ih := ih (by omega) ha'
    obtain ⟨b, hb⟩ : ∃ b, bs[j]? = some b := ⟨_, List.getElem?_eq_getElem (by omega)⟩
    have hd := h.step j b a' a hb ha' ha
    have e : stepL ((flatR bs ++ x).drop (flatR (bs.take j)).length) a' = some (a, b.length + 5) := by
      rw [flatR_drop, flatR_head bs j b hb, List.append_assoc, stepL_reco, hd]
      rfl
    rw [itR, ih, nextR_some e, take_snocB bs j b hb, flatR_append, List.length_append]
    congr 1
    show _ = (flatR (bs.take j)).length + (flatR [b]).length
    simp [flatR, recoL_length]
theorem flatR_ge (bs : List (List Int)) : bs.length ≤ (flatR bs).length := by
  induction bs with
  | nil => exact Nat.zero_le _
  | cons b bs ih =>
    show bs.length + 1 ≤ (recoL b ++ flatR bs).length
    rw [List.length_append, recoL_length]
    omega
/-- how far a cut goes -/
theorem cut_at (bs : List (List Int)) (k : Nat) : ∃ j, j ≤ bs.length ∧ (flatR (bs.take j)).length ≤ k ∧ (j = bs.length ∨ k < (flatR (bs.take (j + 1))).length) := by
  have : ∀ n, n ≤ bs.length → ∃ j, j ≤ n ∧ (flatR (bs.take j)).length ≤ k ∧ (j = n ∨ k < (flatR (bs.take (j + 1))).length) := by
    intro n
    induction n with
    | zero => intro _; exact ⟨0, Nat.le_refl _, by simp [flatR], .inl rfl⟩
    | succ n ih =>
      intro hn
      obtain ⟨j, h1, h2, h3⟩ := ih (by omega)
      rcases h3 with rfl | h3
      · rcases Nat.lt_or_ge k (flatR (bs.take (j + 1))).length with h4 | h4
        · exact ⟨j, by omega, h2, .inr h4⟩
        · exact ⟨j + 1, Nat.le_refl _, h4, .inl rfl⟩
      · exact ⟨j, by omega, h2, .inr h3⟩
  exact this bs.length (Nat.le_refl _)
/-- of a torn tape just the whole records count -/
theorem Chn.torn {all : List Acc} {bs : List (List Int)} (h : Chn all bs) (k : Nat) : ∃ j a, j ≤ bs.length ∧ all[j]? = some a ∧ recN ((flatR bs).take k) = ((flatR (bs.take j)).length, a) ∧ (flatR (bs.take j)).length ≤ k ∧ (j = bs.length ∨ k < (flatR (bs.take (j + 1))).length) := by
  obtain ⟨j, h1, h2, h3⟩ := cut_at bs k
  obtain ⟨a, ha⟩ := h.at j h1
  refine ⟨j, a, h1, ha, ?_, h2, h3⟩
  have hi := h.it [] j h1 ha
  rw [List.append_nil] at hi
  have hi2 : itR ((flatR bs).take k) j = ((flatR (bs.take j)).length, a) := by
    rw [itR_take (by rw [hi]; exact h2), hi]
  have hdr := flatR_drop bs j []
  rw [List.append_nil, List.append_nil] at hdr
  refine recN_of hi2 ?_ ?_
  · rw [List.length_take]
    have g1 := flatR_ge (bs.take j)
    rw [List.length_take] at g1
    have g2 : (flatR (bs.take j)).length ≤ (flatR bs).length := by
      have := congrArg List.length hdr
      rw [List.length_drop] at this
      have e : flatR bs = flatR (bs.take j) ++ flatR (bs.drop j) := by rw [← flatR_append, List.take_append_drop]
      rw [e, List.length_append]
      omega
    omega
  · rw [List.drop_take, hdr]
    rcases h3 with rfl | h3
    · rw [List.drop_of_length_le (Nat.le_refl _)]
      simp [flatR, stepL]
    · rcases Nat.lt_or_ge j bs.length with hj | hj
      · obtain ⟨b, hb⟩ : ∃ b, bs[j]? = some b := ⟨_, List.getElem?_eq_getElem hj⟩
        rw [flatR_head bs j b hb]
        refine stepL_torn b _ a ?_
        rw [take_snocB bs j b hb, flatR_append, List.length_append] at h3
        have e : (flatR [b]).length = b.length + 5 := by simp [flatR, recoL_length]
        omega
      · rw [List.drop_of_length_le hj]
        simp [flatR, stepL]
theorem Chn.whole {all : List Acc} {bs : List (List Int)} (h : Chn all bs) {a : Acc} (ha : all[bs.length]? = some a) : recN (flatR bs) = ((flatR bs).length, a) := by
  have hi := h.it [] bs.length (Nat.le_refl _) ha
  rw [List.append_nil, List.take_length] at hi
  refine recN_of hi (flatR_ge bs) ?_
  rw [List.drop_of_length_le (Nat.le_refl _)]
  rfl
end Go.Proofs.YthmlikljeoamgabDoor
