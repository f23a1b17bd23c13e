/-
  A number below 2^511, taken modulo 2^255 - 19: what is above 2^255 is put below, times 19. No program is named here.
-/
import Derived.Test.YtdhoegkphhekfaaDoorCurSpec
namespace Go.Proofs.YtdhoegkphhekfaaDoor
open Go.RowKit

/-- digit j of what is below 2^255, and of what is above -/
def loD (a : List Int) (j : Nat) : Int := if j < 15 then a.getD j 0 else a.getD j 0 % 32768
def upD (a : List Int) (j : Nat) : Int := a.getD (j + 15) 0 / 32768 + a.getD (j + 16) 0 % 32768 * 2
def sW (f : Nat → Int) : Nat → Int
  | 0 => 0
  | k + 1 => sW f k + f k * 65536 ^ k

theorem sW_add (f g : Nat → Int) (k : Nat) : sW (fun j => f j + 19 * g j) k = sW f k + 19 * sW g k := by
  induction k with
  | zero => rfl
  | succ k ih => rw [sW, sW, sW, ih]; grind
theorem lo_low (a : List Int) (k : Nat) (hk : k ≤ 15) : sW (loD a) k = wP a k := by
  induction k with
  | zero => rfl
  | succ k ih => rw [sW, wP, ih (by omega), loD, if_pos (by omega)]
theorem lo_all (a : List Int) : sW (loD a) 16 = wP a 15 + a.getD 15 0 % 32768 * 65536 ^ 15 := by
  rw [sW, lo_low a 15 (by omega), loD, if_neg (by omega)]
theorem up_all (a : List Int) (m : Nat) : 32768 * 65536 ^ 15 * sW (upD a) m + (wP a 15 + a.getD 15 0 % 32768 * 65536 ^ 15) = wP a (15 + m) + a.getD (15 + m) 0 % 32768 * 65536 ^ (15 + m) := by
  induction m with
  | zero => simp [sW]
  | succ m ih =>
    rw [sW, ← Nat.add_assoc, show wP a (15 + m + 1) = wP a (15 + m) + a.getD (15 + m) 0 * 65536 ^ (15 + m) from rfl]
    have e1 : upD a m = a.getD (15 + m) 0 / 32768 + a.getD (15 + m + 1) 0 % 32768 * 2 := by
      unfold upD
      rw [show m + 15 = 15 + m by omega, show m + 16 = 15 + m + 1 by omega]
    have e2 : a.getD (15 + m) 0 = 32768 * (a.getD (15 + m) 0 / 32768) + a.getD (15 + m) 0 % 32768 := by omega
    rw [e1]
    generalize a.getD (15 + m) 0 / 32768 = q at *
    generalize a.getD (15 + m) 0 % 32768 = t at *
    generalize a.getD (15 + m + 1) 0 % 32768 = s at *
    rw [e2]
    rw [Int.pow_succ 65536 (15 + m), Int.pow_add 65536 15 m] at *
    generalize (65536 : Int) ^ 15 = W at *
    generalize (65536 : Int) ^ m = M at *
    generalize sW (upD a) m = S at *
    generalize wP a 15 = A at *
    generalize wP a (15 + m) = B at *
    grind
theorem wN_parts {a : List Int} (ha : Wd a) (hv : wN a < 6703903964971298549787012499102923063739682910296196688861780721860882015036773488400937149083451713845015929093243025426876941405973284973216824503042048) :
    sW (loD a) 16 = wN a % 57896044618658097711785492504343953926634992332820282019728792003956564819968 ∧ sW (upD a) 16 = wN a / 57896044618658097711785492504343953926634992332820282019728792003956564819968 := by
  have h := up_all a 16
  rw [← lo_all] at h
  have hb := wP_bound ha 15
  have h15 := ha.get 15
  have hl := lo_all a
  -- the digits from 31 on
  have htop : wP a (15 + 16) + a.getD (15 + 16) 0 % 32768 * 65536 ^ (15 + 16) = wN a := by
    have key : ∀ k, 32 ≤ k → wP a k < 6703903964971298549787012499102923063739682910296196688861780721860882015036773488400937149083451713845015929093243025426876941405973284973216824503042048 → wP a k = wP a 32 := by
      intro k hk
      obtain ⟨d, rfl⟩ : ∃ d, k = 32 + d := ⟨k - 32, by omega⟩
      clear hk
      induction d with
      | zero => intro _; rfl
      | succ d ih =>
        intro hlt
        rw [← Nat.add_assoc, wP] at hlt ⊢
        have g1 := ha.get (32 + d)
        have g2 := (wP_bound ha (32 + d)).1
        have g3 : (65536 : Int) ^ 32 ≤ 65536 ^ (32 + d) := by
          rw [Int.pow_add]
          have := wpow d
          have e : (65536 : Int) ^ 32 * 1 ≤ 65536 ^ 32 * 65536 ^ d := Int.mul_le_mul_of_nonneg_left (by omega) (by simp only [Int.reducePow]; omega)
          omega
        by_cases hz : a.getD (32 + d) 0 = 0
        · rw [hz] at hlt ⊢
          rw [Int.zero_mul, Int.add_zero] at hlt ⊢
          exact ih hlt
        · have g4 : 1 * 65536 ^ (32 + d) ≤ a.getD (32 + d) 0 * 65536 ^ (32 + d) := Int.mul_le_mul_of_nonneg_right (by omega) (by have := wpow (32 + d); omega)
          simp only [Int.reducePow] at g3
          omega
    have hN : wN a = wP a (max 32 a.length) := by rw [wP_past (max 32 a.length) (by omega)]
    rw [hN] at hv ⊢
    have e := key _ (by omega) hv
    rw [e] at hv ⊢
    have e32 : wP a 32 = wP a 31 + a.getD 31 0 * 65536 ^ 31 := rfl
    show wP a 31 + a.getD 31 0 % 32768 * 65536 ^ 31 = wP a 32
    rw [e32] at hv ⊢
    have g1 := ha.get 31
    have g2 := wP_bound ha 31
    clear h hb h15 hl e e32 hN key
    simp only [Int.reducePow] at *
    omega
  rw [htop] at h
  have h1 : 0 ≤ sW (loD a) 16 ∧ sW (loD a) 16 < 57896044618658097711785492504343953926634992332820282019728792003956564819968 := by
    rw [hl]
    simp only [Int.reducePow] at hb ⊢
    omega
  simp only [Int.reducePow] at h
  omega

/-- what stands after k digits -/
structure CCut (a r : List Int) (k : Nat) (c : Int) : Prop where
  len : r.length = k
  dig : Wd r
  sum : wN r + c * 65536 ^ k = sW (fun j => loD a j + 19 * upD a j) k
  lo : 0 ≤ c
  hi : c ≤ 20
theorem CCut.zero (a : List Int) : CCut a [] 0 0 := ⟨rfl, Wd.nil, by simp [sW, wN, wP], by omega, by omega⟩
theorem loD_range {a : List Int} (ha : Wd a) (k : Nat) : 0 ≤ loD a k ∧ loD a k < 65536 := by
  have := ha.get k
  unfold loD
  split <;> omega
theorem upD_range {a : List Int} (ha : Wd a) (k : Nat) : 0 ≤ upD a k ∧ upD a k < 65536 := by
  have := ha.get (k + 15)
  have := ha.get (k + 16)
  unfold upD
  omega
theorem CCut.succ {a r : List Int} {k : Nat} {c : Int} (h : CCut a r k c) (ha : Wd a) :
    CCut a (r ++ [(c + loD a k + 19 * upD a k) % 65536]) (k + 1) ((c + loD a k + 19 * upD a k) / 65536) := by
  have h1 := loD_range ha k
  have h2 := upD_range ha k
  have h3 := h.lo
  have h4 := h.hi
  have h5 := h.sum
  refine ⟨by simp [h.len], h.dig.snoc (by omega), ?_, by omega, by omega⟩
  rw [wN_snoc, h.len, sW, Int.pow_succ]
  have e : c + loD a k + 19 * upD a k = (c + loD a k + 19 * upD a k) % 65536 + 65536 * ((c + loD a k + 19 * upD a k) / 65536) := by omega
  generalize (c + loD a k + 19 * upD a k) % 65536 = x at *
  generalize (c + loD a k + 19 * upD a k) / 65536 = y at *
  generalize (65536 : Int) ^ k = W at *
  grind
theorem CCut.done {a r : List Int} {c : Int} (h : CCut a r 16 c) (ha : Wd a) (hv : wN a < 6703903964971298549787012499102923063739682910296196688861780721860882015036773488400937149083451713845015929093243025426876941405973284973216824503042048) :
    wN (r ++ [c]) = wN a % 57896044618658097711785492504343953926634992332820282019728792003956564819968 + 19 * (wN a / 57896044618658097711785492504343953926634992332820282019728792003956564819968) := by
  obtain ⟨e1, e2⟩ := wN_parts ha hv
  rw [wN_snoc, h.len, h.sum, sW_add, e1, e2]

/-- the bound ahead of the turn t -/
def cB (t : Nat) : Int :=
  if t = 0 then 6703903964971298549787012499102923063739682910296196688861780721860882015036773488400937149083451713845015929093243025426876941405973284973216824503042048
  else if t = 1 then 3705346855594118253554271520278013051304639509300498049262642688253220148477952
  else if t = 2 then 57896044618658097711785492504343953926634992332820282019728792003956564821184
  else 57896044618658097711785492504343953926634992332820282019728792003956564819968
theorem turn_bound (t : Nat) (V : Int) (h0 : 0 ≤ V) (h : V < cB t) : V < cB 0 ∧ V % 57896044618658097711785492504343953926634992332820282019728792003956564819968 + 19 * (V / 57896044618658097711785492504343953926634992332820282019728792003956564819968) < cB (t + 1) ∧
    (V % 57896044618658097711785492504343953926634992332820282019728792003956564819968 + 19 * (V / 57896044618658097711785492504343953926634992332820282019728792003956564819968)) % cP = V % cP := by
  have hm : (V % 57896044618658097711785492504343953926634992332820282019728792003956564819968 + 19 * (V / 57896044618658097711785492504343953926634992332820282019728792003956564819968)) % cP = V % cP := by
    have e : V % 57896044618658097711785492504343953926634992332820282019728792003956564819968 + 19 * (V / 57896044618658097711785492504343953926634992332820282019728792003956564819968) = V - cP * (V / 57896044618658097711785492504343953926634992332820282019728792003956564819968) := by
      unfold cP
      omega
    rw [e, Int.sub_mul_emod_self_left]
  refine ⟨?_, ?_, hm⟩
  · unfold cB at *
    repeat' split at h
    all_goals simp at *
    all_goals omega
  · unfold cB at *
    repeat' split at h
    all_goals (repeat' split)
    all_goals omega
end Go.Proofs.YtdhoegkphhekfaaDoor
