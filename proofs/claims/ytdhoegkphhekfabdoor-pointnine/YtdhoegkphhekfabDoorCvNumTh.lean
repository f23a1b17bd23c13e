/-
  Prime numbers: Fermat's little theorem, and how a number is shown to be prime. No program is named here.
-/
namespace Go.Proofs.YtdhoegkphhekfabDoor.Cv

/-- a prime number -/
def Pr (n : Nat) : Prop := 2 ≤ n ∧ ∀ m, m ∣ n → m = 1 ∨ m = n

theorem Pr.coprime {r a : Nat} (h : Pr r) (ha : ¬ r ∣ a) : Nat.gcd r a = 1 := by
  rcases h.2 _ (Nat.gcd_dvd_left r a) with h1 | h1
  · exact h1
  · exact absurd (by rw [← h1]; exact Nat.gcd_dvd_right r a) ha
theorem Pr.mul {r a b : Nat} (h : Pr r) (hd : r ∣ a * b) : r ∣ a ∨ r ∣ b := by
  by_cases ha : r ∣ a
  · exact .inl ha
  · exact .inr (Nat.Coprime.dvd_of_dvd_mul_left (h.coprime ha) hd)

/-- of n things, k -/
def ch : Nat → Nat → Nat
  | _, 0 => 1
  | 0, _ + 1 => 0
  | n + 1, k + 1 => ch n k + ch n (k + 1)
theorem ch_zero (n : Nat) : ch n 0 = 1 := by cases n <;> rfl
theorem ch_past (n k : Nat) (h : n < k) : ch n k = 0 := by
  induction n generalizing k with
  | zero => cases k with
    | zero => omega
    | succ k => rfl
  | succ n ih => cases k with
    | zero => omega
    | succ k => rw [ch, ih k (by omega), ih (k + 1) (by omega)]
theorem ch_self (n : Nat) : ch n n = 1 := by
  induction n with
  | zero => rfl
  | succ n ih => rw [ch, ih, ch_past n (n + 1) (by omega)]
theorem ch_times (n k : Nat) : ch (n + 1) (k + 1) * (k + 1) = (n + 1) * ch n k := by
  induction n generalizing k with
  | zero => cases k with
    | zero => rfl
    | succ k => rw [ch_past 1 (k + 2) (by omega), ch_past 0 (k + 1) (by omega)]; omega
  | succ n ih =>
    cases k with
    | zero =>
      have h := ih 0
      rw [ch_zero] at h
      rw [show ch (n + 1 + 1) (0 + 1) = ch (n + 1) 0 + ch (n + 1) (0 + 1) from rfl, ch_zero]
      omega
    | succ k =>
      have h1 := ih k
      have h2 := ih (k + 1)
      rw [ch]
      have e : ch (n + 1) (k + 1) = ch n k + ch n (k + 1) := rfl
      rw [Nat.add_mul, h2]
      have : ch (n + 1) (k + 1) * (k + 1 + 1) = ch (n + 1) (k + 1) * (k + 1) + ch (n + 1) (k + 1) := by rw [Nat.mul_add, Nat.mul_one]
      rw [this, h1, e]
      grind
/-- the first m summands of (x + 1)^n -/
def su (n x : Nat) : Nat → Nat
  | 0 => 0
  | m + 1 => su n x m + ch n m * x ^ m
theorem su_step (n x m : Nat) : su (n + 1) x (m + 1) = su n x (m + 1) + x * su n x m := by
  induction m with
  | zero => simp [su, ch_zero]
  | succ m ih =>
    rw [su, ih, ch]
    rw [show su n x (m + 1 + 1) = su n x (m + 1) + ch n (m + 1) * x ^ (m + 1) from rfl, show su n x (m + 1) = su n x m + ch n m * x ^ m from rfl, Nat.pow_succ]
    grind
theorem su_all (n x : Nat) : su n x (n + 1) = (x + 1) ^ n := by
  induction n with
  | zero => simp [su, ch_zero]
  | succ n ih =>
    rw [su_step, show su n x (n + 1 + 1) = su n x (n + 1) + ch n (n + 1) * x ^ (n + 1) from rfl, ch_past n (n + 1) (by omega), ih, Nat.pow_succ]
    grind
theorem Pr.dvd_ch {r k : Nat} (h : Pr r) (hk : 0 < k) (hkr : k < r) : r ∣ ch r k := by
  obtain ⟨n, rfl⟩ : ∃ n, r = n + 1 := ⟨r - 1, by omega⟩
  obtain ⟨j, rfl⟩ : ∃ j, k = j + 1 := ⟨k - 1, by omega⟩
  have e := ch_times n j
  rcases h.mul (a := ch (n + 1) (j + 1)) (b := j + 1) (by rw [e]; exact Nat.dvd_mul_right _ _) with h1 | h1
  · exact h1
  · have := Nat.le_of_dvd (by omega) h1
    omega
theorem Pr.su_mod {r x m : Nat} (h : Pr r) (hm : m < r) : su r x (m + 1) % r = 1 := by
  have h2 := h.1
  induction m with
  | zero => simp [su, ch_zero]; exact Nat.mod_eq_of_lt (by omega)
  | succ m ih =>
    rw [su]
    obtain ⟨c, hc⟩ := h.dvd_ch (k := m + 1) (by omega) hm
    rw [hc, Nat.mul_assoc, Nat.add_mul_mod_self_left]
    exact ih (by omega)
theorem Pr.fermat {r : Nat} (h : Pr r) (x : Nat) : x ^ r % r = x % r := by
  have h2 := h.1
  induction x with
  | zero => rw [Nat.zero_pow (by omega)]
  | succ x ih =>
    rw [← su_all, su, ch_self, Nat.one_mul]
    have e : su r x r % r = 1 := by
      have := h.su_mod (x := x) (m := r - 1) (by omega)
      rwa [Nat.sub_add_cancel (by omega)] at this
    rw [Nat.add_mod, e, ih]
    rw [← Nat.add_mod_mod, Nat.add_comm]
    simp
theorem Pr.little {r a : Nat} (h : Pr r) (ha : ¬ r ∣ a) : a ^ (r - 1) % r = 1 := by
  have h2 := h.1
  have e := h.fermat a
  have hp : a ^ r = a * a ^ (r - 1) := by rw [← Nat.pow_succ', show (r - 1).succ = r by omega]
  have ha1 : 0 < a := Nat.pos_of_ne_zero (fun h0 => ha (by rw [h0]; exact Nat.dvd_zero r))
  have hq : 0 < a ^ (r - 1) := Nat.pow_pos ha1
  have hd : r ∣ a * (a ^ (r - 1) - 1) := by
    rw [Nat.mul_sub, ← hp, Nat.mul_one]
    exact Nat.dvd_of_mod_eq_zero (Nat.sub_mod_eq_zero_of_mod_eq e)
  rcases h.mul hd with h1 | h1
  · exact absurd h1 ha
  · obtain ⟨c, hc⟩ := h1
    rw [show a ^ (r - 1) = 1 + r * c by omega, Nat.add_mul_mod_self_left]
    exact Nat.mod_eq_of_lt (by omega)

/-- powers that are one: also that of the greatest common divisor -/
theorem pow_gcd {r b : Nat} (hr : 2 ≤ r) (m n : Nat) (hm : b ^ m % r = 1) (hn : b ^ n % r = 1) : b ^ (Nat.gcd m n) % r = 1 := by
  induction m, n using Nat.gcd.induction with
  | H0 n => rwa [Nat.gcd_zero_left]
  | H1 m n hp ih =>
    rw [Nat.gcd_rec]
    refine ih ?_ hm
    have e : b ^ n = (b ^ m) ^ (n / m) * b ^ (n % m) := by rw [← Nat.pow_mul, ← Nat.pow_add, Nat.div_add_mod]
    rw [e, Nat.mul_mod, Nat.pow_mod, hm, Nat.one_pow, Nat.mod_eq_of_lt (show 1 < r by omega), Nat.one_mul, Nat.mod_mod] at hn
    exact hn

/-- what a certificate says of a prime divisor q of N - 1 -/
theorem pock_one {N q M a r : Nat} (hq : Pr q) (hN : N = q * M + 1) (h1 : a ^ (q * M) % N = 1) (h2 : Nat.gcd (a ^ M % N + (N - 1)) N = 1) (hr : Pr r) (hrN : r ∣ N) : q ∣ r - 1 := by
  have hr2 := hr.1
  have hq2 := hq.1
  obtain ⟨c, hc⟩ := hrN
  have e1 : a ^ (q * M) % r = 1 := by
    have := congrArg (· % r) h1
    simp only [hc, Nat.mod_mul_right_mod] at this
    rw [this]
    exact Nat.mod_eq_of_lt (by omega)
  refine Classical.byContradiction fun hno => ?_
  have hg : Nat.gcd q (r - 1) = 1 := hq.coprime hno
  have ha : ¬ r ∣ a ^ M := by
    intro hd
    have : r ∣ a ^ (q * M) := by
      rw [Nat.mul_comm, Nat.pow_mul]
      obtain ⟨k, rfl⟩ : ∃ k, q = k + 1 := ⟨q - 1, by omega⟩
      exact Nat.dvd_trans hd (Nat.dvd_mul_left _ _)
    rw [Nat.mod_eq_zero_of_dvd this] at e1
    omega
  have e2 : (a ^ M) ^ q % r = 1 := by rw [← Nat.pow_mul, Nat.mul_comm]; exact e1
  have e3 := hr.little ha
  have e4 := pow_gcd hr2 q (r - 1) e2 e3
  rw [hg, Nat.pow_one] at e4
  have e5 : r ∣ a ^ M % N + (N - 1) := by
    have hNpos : 0 < N := by omega
    have e6 : a ^ M % N % r = 1 := by rw [hc, Nat.mod_mul_right_mod]; exact e4
    have hN1 : N - 1 = q * M := by omega
    obtain ⟨t, ht⟩ : ∃ t, a ^ M % N = r * t + 1 := ⟨a ^ M % N / r, by have := Nat.div_add_mod (a ^ M % N) r; omega⟩
    rw [ht, show r * t + 1 + (N - 1) = r * t + N by omega, hc]
    exact Nat.dvd_add (Nat.dvd_mul_right _ _) (Nat.dvd_mul_right _ _)
  have e7 : r ∣ Nat.gcd (a ^ M % N + (N - 1)) N := Nat.dvd_gcd e5 ⟨c, hc⟩
  rw [h2] at e7
  have := Nat.le_of_dvd (by omega) e7
  omega

/-- each number has a prime divisor -/
theorem least_prime (n : Nat) (hn : 2 ≤ n) : ∃ r, Pr r ∧ r ∣ n := by
  induction n using Nat.strongRecOn with
  | ind n ih =>
    by_cases h : ∀ m, m ∣ n → m = 1 ∨ m = n
    · exact ⟨n, ⟨hn, h⟩, Nat.dvd_refl n⟩
    · obtain ⟨m, hm⟩ := Classical.not_forall.1 h
      have hd : m ∣ n := Classical.byContradiction fun h => hm fun h' => absurd h' h
      have h1 : m ≠ 1 := fun h => hm fun _ => .inl h
      have h2 : m ≠ n := fun h => hm fun _ => .inr h
      have hm0 : 0 < m := Nat.pos_of_dvd_of_pos hd (by omega)
      have hle := Nat.le_of_dvd (by omega) hd
      obtain ⟨r, hr, hrm⟩ := ih m (by omega) (by omega)
      exact ⟨r, hr, Nat.dvd_trans hrm hd⟩
/-- a number whose prime divisors are all great is prime -/
theorem prime_of_great (N : Nat) (h2 : 2 ≤ N) (h : ∀ r, Pr r → r ∣ N → N < r * r) : Pr N := by
  refine ⟨h2, fun m hm => ?_⟩
  obtain ⟨c, hc⟩ := hm
  refine Classical.byContradiction fun hno => ?_
  have hm1 : m ≠ 1 := fun h => hno (.inl h)
  have hmN : m ≠ N := fun h => hno (.inr h)
  have hm0 : m ≠ 0 := fun h => by rw [h, Nat.zero_mul] at hc; omega
  have hc0 : c ≠ 0 := fun h => by rw [h, Nat.mul_zero] at hc; omega
  have hc1 : c ≠ 1 := fun h => by rw [h, Nat.mul_one] at hc; exact hmN hc.symm
  obtain ⟨r, hr, hrm⟩ := least_prime m (by omega)
  obtain ⟨s, hs, hsc⟩ := least_prime c (by omega)
  have a1 := h r hr (Nat.dvd_trans hrm ⟨c, hc⟩)
  have a2 := h s hs (Nat.dvd_trans hsc ⟨m, by rw [hc, Nat.mul_comm]⟩)
  have b1 := Nat.le_of_dvd (by omega) hrm
  have b2 := Nat.le_of_dvd (by omega) hsc
  have h3 : r * s ≤ m * c := Nat.mul_le_mul b1 b2
  have h4 : N * N < r * r * (s * s) := Nat.mul_lt_mul_of_lt_of_lt a1 a2
  have h5 : r * r * (s * s) = (r * s) * (r * s) := by grind
  rw [h5] at h4
  have h6 : (r * s) * (r * s) ≤ (m * c) * (m * c) := Nat.mul_le_mul h3 h3
  rw [← hc] at h6
  omega
theorem pock {N q M a : Nat} (hq : Pr q) (hN : N = q * M + 1) (hbig : N < (q + 1) * (q + 1)) (h1 : a ^ (q * M) % N = 1) (h2 : Nat.gcd (a ^ M % N + (N - 1)) N = 1) (hN2 : 2 ≤ N) : Pr N := by
  refine prime_of_great N hN2 fun r hr hd => ?_
  have h := pock_one hq hN h1 h2 hr hd
  have hr2 := hr.1
  have hle : q ≤ r - 1 := Nat.le_of_dvd (by omega) h
  exact Nat.lt_of_lt_of_le hbig (Nat.mul_le_mul (by omega) (by omega))
theorem pock2 {N q M q' M' a a' : Nat} (hq : Pr q) (hq' : Pr q') (hne : q ≠ q') (hN : N = q * M + 1) (hN' : N = q' * M' + 1) (hbig : N < (q * q' + 1) * (q * q' + 1)) (h1 : a ^ (q * M) % N = 1) (h2 : Nat.gcd (a ^ M % N + (N - 1)) N = 1)
    (h1' : a' ^ (q' * M') % N = 1) (h2' : Nat.gcd (a' ^ M' % N + (N - 1)) N = 1) (hN2 : 2 ≤ N) : Pr N := by
  refine prime_of_great N hN2 fun r hr hd => ?_
  have h := pock_one hq hN h1 h2 hr hd
  have h' := pock_one hq' hN' h1' h2' hr hd
  have hr2 := hr.1
  have hg : Nat.gcd q q' = 1 := hq.coprime fun hd => by
    rcases hq'.2 q hd with e | e
    · have := hq.1; omega
    · exact hne e
  have hm : q * q' ∣ r - 1 := Nat.Coprime.mul_dvd_of_dvd_of_dvd hg h h'
  have hle : q * q' ≤ r - 1 := Nat.le_of_dvd (by omega) hm
  exact Nat.lt_of_lt_of_le hbig (Nat.mul_le_mul (by omega) (by omega))

/-- a power modulo N, reckoned by squaring -/
def pm (N a : Nat) : Nat → Nat → Nat
  | 0, _ => 1 % N
  | f + 1, e => if e = 0 then 1 % N else (pm N (a * a % N) f (e / 2) * (if e % 2 = 1 then a else 1)) % N
theorem pm_pow (N a f e : Nat) (he : e < 2 ^ f) : pm N a f e = a ^ e % N := by
  induction f generalizing a e with
  | zero =>
    obtain rfl : e = 0 := by simpa using he
    rfl
  | succ f ih =>
    rw [pm]
    by_cases h0 : e = 0
    · rw [if_pos h0, h0, Nat.pow_zero]
    · rw [if_neg h0, ih _ _ (by rw [Nat.pow_succ] at he; omega), ← Nat.pow_mod]
      have hs : (a * a) ^ (e / 2) = a ^ (2 * (e / 2)) := by rw [Nat.pow_mul, Nat.pow_two]
      have hd := Nat.div_add_mod e 2
      by_cases h1 : e % 2 = 1
      · rw [if_pos h1, hs, Nat.mod_mul_mod, ← Nat.pow_succ, show (2 * (e / 2)).succ = e by omega]
      · rw [if_neg h1, Nat.mul_one, Nat.mod_mod, hs, show 2 * (e / 2) = e by omega]
theorem pockC {N q M a f : Nat} (hq : Pr q) (hN : N = q * M + 1) (hbig : N < (q + 1) * (q + 1)) (hf : q * M < 2 ^ f) (h1 : pm N a f (q * M) = 1) (h2 : Nat.gcd (pm N a f M + (N - 1)) N = 1) (hN2 : 2 ≤ N) : Pr N := by
  have hq2 := hq.1
  have hM : M < 2 ^ f := Nat.lt_of_le_of_lt (Nat.le_mul_of_pos_left M (by omega)) hf
  rw [pm_pow _ _ _ _ hf] at h1
  rw [pm_pow _ _ _ _ hM] at h2
  exact pock hq hN hbig h1 h2 hN2
theorem pockD {N q M q' M' a a' f : Nat} (hq : Pr q) (hq' : Pr q') (hne : q ≠ q') (hN : N = q * M + 1) (hN' : N = q' * M' + 1) (hbig : N < (q * q' + 1) * (q * q' + 1)) (hf : q * M < 2 ^ f) (h1 : pm N a f (q * M) = 1) (h2 : Nat.gcd (pm N a f M + (N - 1)) N = 1)
    (h1' : pm N a' f (q' * M') = 1) (h2' : Nat.gcd (pm N a' f M' + (N - 1)) N = 1) (hN2 : 2 ≤ N) : Pr N := by
  have hq2 := hq.1
  have hq2' := hq'.1
  have hf' : q' * M' < 2 ^ f := by omega
  have hM : M < 2 ^ f := Nat.lt_of_le_of_lt (Nat.le_mul_of_pos_left M (by omega)) hf
  have hM' : M' < 2 ^ f := Nat.lt_of_le_of_lt (Nat.le_mul_of_pos_left M' (by omega)) hf'
  rw [pm_pow _ _ _ _ hf] at h1
  rw [pm_pow _ _ _ _ hM] at h2
  rw [pm_pow _ _ _ _ hf'] at h1'
  rw [pm_pow _ _ _ _ hM'] at h2'
  exact pock2 hq hq' hne hN hN' hbig h1 h2 h1' h2' hN2
end Go.Proofs.YtdhoegkphhekfabDoor.Cv
