/-
  Ballots, promises and votes, in the abstract: no two values are chosen in a slot. No program is named here.
-/
import Derived.Test.YticjofjghpdmpaaDoorCommon
import Derived.Test.YticjofjghpdmpaaDoorPaxSpec
namespace Go.Proofs.YticjofjghpdmpaaDoor
set_option linter.unusedVariables false

/-- how many of five -/
def cnt5 (Q : Nat → Bool) : Nat := (Q 0).toNat + (Q 1).toNat + (Q 2).toNat + (Q 3).toNat + (Q 4).toNat
theorem maj_meet (Q R : Nat → Bool) (hQ : 3 ≤ cnt5 Q) (hR : 3 ≤ cnt5 R) : ∃ q, q < 5 ∧ Q q = true ∧ R q = true := by
  apply Classical.byContradiction
  intro h
  have hh : ∀ q, q < 5 → (Q q).toNat + (R q).toNat ≤ 1 := by
    intro q hq
    cases h1 : Q q <;> cases h2 : R q <;> simp
    exact h ⟨q, hq, h1, h2⟩
  have h0 := hh 0 (by omega)
  have h1 := hh 1 (by omega)
  have h2 := hh 2 (by omega)
  have h3 := hh 3 (by omega)
  have h4 := hh 4 (by omega)
  unfold cnt5 at hQ hR
  omega

section
variable {γ : Type}

/-- more than half have voted so, at any time -/
def Ch (H : Nat → Nat → Int → γ → Prop) (s : Nat) (b : Int) (c : γ) : Prop := ∃ Q : Nat → Bool, 3 ≤ cnt5 Q ∧ ∀ q, q < 5 → Q q = true → H q s b c
/-- a value may be proposed in a ballot: more than half have promised it, and none of them had voted below it, or the greatest vote of theirs below it was for the value -/
def SafeAt (H : Nat → Nat → Int → γ → Prop) (P : Nat → Int) (s : Nat) (b : Int) (c : γ) : Prop :=
  ∃ Q : Nat → Bool, 3 ≤ cnt5 Q ∧ (∀ q, q < 5 → Q q = true → b ≤ P q) ∧
    ((∀ q, q < 5 → Q q = true → ∀ b' c', H q s b' c' → b ≤ b') ∨
      ∃ b0, b0 < b ∧ (∃ q, q < 5 ∧ Q q = true ∧ H q s b0 c) ∧ ∀ q, q < 5 → Q q = true → ∀ b' c', H q s b' c' → b' < b → b' ≤ b0)
structure PInv (H : Nat → Nat → Int → γ → Prop) (P : Nat → Int) : Prop where
  le : ∀ n s b c, H n s b c → 0 < b ∧ b ≤ P n
  uniq : ∀ n n' s b c c', H n s b c → H n' s b c' → c = c'
  safe : ∀ n s b c, H n s b c → SafeAt H P s b c

theorem PInv.later {H : Nat → Nat → Int → γ → Prop} {P : Nat → Int} (h : PInv H P) {s : Nat} {b1 : Int} {c1 : γ} (h1 : Ch H s b1 c1) : ∀ (m : Nat) (b2 : Int) (c2 : γ) (n : Nat), b2.toNat = m → b1 < b2 → H n s b2 c2 → c2 = c1 := by
  intro m
  induction m using Nat.strongRecOn with
  | ind m ih =>
    intro b2 c2 n hm hlt hv
    have hp := (h.le n s b2 c2 hv).1
    obtain ⟨Q, hQ, hP, hS⟩ := h.safe n s b2 c2 hv
    obtain ⟨Q1, hQ1, hV1⟩ := h1
    obtain ⟨q, hq, hqQ, hq1⟩ := maj_meet Q Q1 hQ hQ1
    have hq1v := hV1 q hq hq1
    rcases hS with hS | ⟨b0, hb0, ⟨q0, hq0, hq0Q, hv0⟩, hmax⟩
    · have := hS q hq hqQ b1 c1 hq1v
      omega
    · have hle := hmax q hq hqQ b1 c1 hq1v hlt
      have hp0 := (h.le q0 s b0 c2 hv0).1
      rcases (by omega : b1 = b0 ∨ b1 < b0) with rfl | hlt0
      · exact h.uniq q0 q s b1 c2 c1 hv0 hq1v
      · exact ih b0.toNat (by omega) b0 c2 q0 rfl hlt0 hv0
/-- no two values are chosen in a slot -/
theorem PInv.agree {H : Nat → Nat → Int → γ → Prop} {P : Nat → Int} (h : PInv H P) {s : Nat} {b1 b2 : Int} {c1 c2 : γ} (h1 : Ch H s b1 c1) (h2 : Ch H s b2 c2) : c1 = c2 := by
  have some1 : ∀ {b : Int} {c : γ}, Ch H s b c → ∃ n, H n s b c := by
    rintro b c ⟨Q, hQ, hV⟩
    obtain ⟨q, hq, hqQ, _⟩ := maj_meet Q Q hQ hQ
    exact ⟨q, hV q hq hqQ⟩
  obtain ⟨n1, v1⟩ := some1 h1
  obtain ⟨n2, v2⟩ := some1 h2
  rcases (by omega : b1 < b2 ∨ b1 = b2 ∨ b2 < b1) with hlt | rfl | hlt
  · exact (h.later h1 _ b2 c2 n2 rfl hlt v2).symm
  · exact h.uniq n1 n2 s b1 c1 c2 v1 v2
  · exact h.later h2 _ b1 c1 n1 rfl hlt v1

/-- one node's promise rises -/
def upP (P : Nat → Int) (n : Nat) (b : Int) : Nat → Int := fun i => if i = n then b else P i
theorem upP_le {P : Nat → Int} {n : Nat} {b : Int} (h : P n ≤ b) (q : Nat) : P q ≤ upP P n b q := by
  unfold upP
  split
  · rename_i e; rw [e]; exact h
  · exact Int.le_refl _
theorem SafeAt.up {H : Nat → Nat → Int → γ → Prop} {P : Nat → Int} {s : Nat} {b : Int} {c : γ} (h : SafeAt H P s b c) {n : Nat} {b' : Int} (hb : P n ≤ b') : SafeAt H (upP P n b') s b c := by
  obtain ⟨Q, hQ, hP, hS⟩ := h
  exact ⟨Q, hQ, fun q hq hqQ => Int.le_trans (hP q hq hqQ) (upP_le hb q), hS⟩
theorem PInv.promise {H : Nat → Nat → Int → γ → Prop} {P : Nat → Int} (h : PInv H P) {n : Nat} {b : Int} (hb : P n ≤ b) : PInv H (upP P n b) :=
  ⟨fun m s b' c hv => ⟨(h.le m s b' c hv).1, Int.le_trans (h.le m s b' c hv).2 (upP_le hb m)⟩, h.uniq, fun m s b' c hv => (h.safe m s b' c hv).up hb⟩
/-- one more vote -/
def addH (H : Nat → Nat → Int → γ → Prop) (n s : Nat) (b : Int) (c : γ) : Nat → Nat → Int → γ → Prop := fun n' s' b' c' => H n' s' b' c' ∨ (n' = n ∧ s' = s ∧ b' = b ∧ c' = c)
theorem SafeAt.vote {H : Nat → Nat → Int → γ → Prop} {P : Nat → Int} {s : Nat} {b : Int} {c : γ} (h : SafeAt H P s b c) {n t : Nat} {b' : Int} {c' : γ} (hb : P n ≤ b') : SafeAt (addH H n t b' c') (upP P n b') s b c := by
  obtain ⟨Q, hQ, hP, hS⟩ := h
  refine ⟨Q, hQ, fun q hq hqQ => Int.le_trans (hP q hq hqQ) (upP_le hb q), ?_⟩
  rcases hS with hS | ⟨b0, hb0, ⟨q0, hq0, hq0Q, hv0⟩, hmax⟩
  · left
    intro q hq hqQ b2 c2 hv
    rcases hv with hv | ⟨rfl, rfl, rfl, rfl⟩
    · exact hS q hq hqQ b2 c2 hv
    · exact Int.le_trans (hP q hq hqQ) hb
  · right
    refine ⟨b0, hb0, ⟨q0, hq0, hq0Q, .inl hv0⟩, ?_⟩
    intro q hq hqQ b2 c2 hv hlt
    rcases hv with hv | ⟨rfl, rfl, rfl, rfl⟩
    · exact hmax q hq hqQ b2 c2 hv hlt
    · have := hP q hq hqQ
      omega
theorem PInv.vote {H : Nat → Nat → Int → γ → Prop} {P : Nat → Int} (h : PInv H P) {n s : Nat} {b : Int} {c : γ} (hb : P n ≤ b) (h0 : 0 < b) (hs : SafeAt H P s b c) (hu : ∀ m c', H m s b c' → c' = c) : PInv (addH H n s b c) (upP P n b) := by
  refine ⟨?_, ?_, ?_⟩
  · rintro m t b' c' (hv | ⟨rfl, rfl, rfl, rfl⟩)
    · exact ⟨(h.le m t b' c' hv).1, Int.le_trans (h.le m t b' c' hv).2 (upP_le hb m)⟩
    · exact ⟨h0, by unfold upP; rw [if_pos rfl]; exact Int.le_refl _⟩
  · rintro m m' t b' c' c2 (hv | ⟨_, e1, e2, e3⟩) (hv' | ⟨_, e1', e2', e3'⟩)
    · exact h.uniq m m' t b' c' c2 hv hv'
    · subst e1' e2' e3'; exact hu m c' hv
    · subst e1 e2 e3; exact (hu m' c2 hv').symm
    · rw [e3, e3']
  · rintro m t b' c' (hv | ⟨rfl, rfl, rfl, rfl⟩)
    · exact (h.safe m t b' c' hv).vote hb
    · exact hs.vote hb
theorem Ch.add {H : Nat → Nat → Int → γ → Prop} {s : Nat} {b : Int} {c : γ} (h : Ch H s b c) (n t : Nat) (b' : Int) (c' : γ) : Ch (addH H n t b' c') s b c := by
  obtain ⟨Q, hQ, hV⟩ := h
  exact ⟨Q, hQ, fun q hq hqQ => .inl (hV q hq hqQ)⟩
end
end Go.Proofs.YticjofjghpdmpaaDoor
/-
  A play of acceptors and proposers, in plain lists: what holds of it behind every ply. No program is named here.
-/
namespace Go.Proofs.YticjofjghpdmpaaDoor
set_option linter.unusedVariables false

def upN {α : Type} (f : Nat → α) (n : Nat) (x : α) : Nat → α := fun i => if i = n then x else f i
theorem upN_at {α : Type} (f : Nat → α) (n : Nat) (x : α) : upN f n x n = x := if_pos rfl
theorem upN_ne {α : Type} (f : Nat → α) {n i : Nat} (x : α) (h : i ≠ n) : upN f n x i = f i := if_neg h
/-- what a proposer has gathered in its ballot -/
structure Bid where
  bal : Bal
  prom : Nat → Option (List Vt)
  what : Nat → Option Cmd
structure Mt where
  node : Nat → Acc
  bid : Nat → Option Bid
  rounds : Int
  ch : Nat → Option Cmd
def keyP (σ : Mt) : Nat → Int := fun n => (σ.node n).p.key

/-- what holds of a proposer -/
structure BInv (H : Nat → Nat → Int → Cmd → Prop) (P : Nat → Int) (rounds : Int) (B : Bid) : Prop where
  r1 : 1 ≤ B.bal.r
  r2 : B.bal.r ≤ rounds
  n1 : 0 ≤ B.bal.n
  n2 : B.bal.n ≤ 4
  prom : ∀ n vs, B.prom n = some vs → n < 5 ∧ B.bal.key ≤ P n ∧ (∀ v ∈ vs, VtMay v ∧ v.b.key ≤ B.bal.key ∧ ∃ s : Nat, s < 3 ∧ v.slot = (s : Int) ∧ H n s v.b.key v.w) ∧ ∀ s b c, H n s b c → b < B.bal.key → ∃ v ∈ vs, v.slot = (s : Int) ∧ b ≤ v.b.key
  asked : ∀ s c, B.what s = some c → s < 3 ∧ c.e = 0 ∧ SafeAt H P s B.bal.key c ∧ ∀ n c', H n s B.bal.key c' → c' = c
  not : ∀ s, B.what s = none → ∀ n c', ¬ H n s B.bal.key c'
structure MInvH (σ : Mt) (H : Nat → Nat → Int → Cmd → Prop) : Prop where
  pinv : PInv H (keyP σ)
  acc : ∀ n, n < 5 → AccMay (σ.node n)
  rng : ∀ n, n < 5 → (σ.node n).p.r ≤ σ.rounds
  cur : ∀ n, n < 5 → ∀ v ∈ (σ.node n).vs, ∃ s : Nat, s < 3 ∧ v.slot = (s : Int) ∧ H n s v.b.key v.w
  last : ∀ n s b c, H n s b c → n < 5 ∧ s < 3 ∧ ∃ v ∈ (σ.node n).vs, v.slot = (s : Int) ∧ b ≤ v.b.key
  bids : ∀ k B, σ.bid k = some B → BInv H (keyP σ) σ.rounds B
  apart : ∀ k k' B B', σ.bid k = some B → σ.bid k' = some B' → B.bal.r = B'.bal.r → k = k'
  ch : ∀ s c, σ.ch s = some c → ∃ b, Ch H s b c
  r0 : 0 ≤ σ.rounds
  r1 : σ.rounds ≤ 65536
def MInv (σ : Mt) : Prop := ∃ H, MInvH σ H

theorem key_le {a : Bal} (h : PrMay a) (r : Int) (hr : a.r ≤ r) : a.key ≤ 5 * r + 4 := by
  unfold PrMay BalMay at h
  unfold Bal.key
  omega
theorem MInvH.top {σ : Mt} {H : Nat → Nat → Int → Cmd → Prop} (h : MInvH σ H) {n s : Nat} {b : Int} {c : Cmd} (hv : H n s b c) : b ≤ 5 * σ.rounds + 4 := by
  obtain ⟨hn, _, _⟩ := h.last n s b c hv
  have h1 := (h.pinv.le n s b c hv).2
  have h2 := key_le (h.acc n hn).1 σ.rounds (h.rng n hn)
  unfold keyP at h1
  omega

/-- a proposer begins a ballot -/
def beginM (σ : Mt) (k n : Nat) : Mt := { σ with rounds := σ.rounds + 1, bid := upN σ.bid k (some ⟨⟨σ.rounds + 1, (n : Int)⟩, fun _ => none, fun _ => none⟩) }
theorem MInv.begin {σ : Mt} (h : MInv σ) (k n : Nat) (hn : n < 5) (hr : σ.rounds < 65536) : MInv (beginM σ k n) := by
  obtain ⟨H, h⟩ := h
  refine ⟨H, h.pinv, h.acc, fun m hm => ?_, h.cur, h.last, ?_, ?_, h.ch, ?_, ?_⟩
  · have := h.rng m hm
    show (σ.node m).p.r ≤ σ.rounds + 1
    omega
  · intro j B hB
    show BInv H (keyP σ) (σ.rounds + 1) B
    have hB' : upN σ.bid k _ j = some B := hB
    by_cases hj : j = k
    · subst hj
      rw [upN_at] at hB'
      obtain rfl := Option.some.inj hB'
      refine ⟨?_, ?_, ?_, ?_, ?_, ?_, ?_⟩
      · have := h.r0; show 1 ≤ σ.rounds + 1; omega
      · exact Int.le_refl _
      · show (0 : Int) ≤ (n : Int); omega
      · show (n : Int) ≤ 4; omega
      · intro m vs hm; cases hm
      · intro s c hs; cases hs
      · intro s _ m c' hv
        have h1 := h.top hv
        have h2 : (5 : Int) * (σ.rounds + 1) + (n : Int) ≤ 5 * σ.rounds + 4 := h1
        omega
    · rw [upN_ne _ _ hj] at hB'
      have hb := h.bids j B hB'
      exact ⟨hb.r1, by have := hb.r2; omega, hb.n1, hb.n2, hb.prom, hb.asked, hb.not⟩
  · intro j j' B B' hB hB' e
    have hB1 : upN σ.bid k _ j = some B := hB
    have hB2 : upN σ.bid k _ j' = some B' := hB'
    by_cases hj : j = k
    · by_cases hj' : j' = k
      · rw [hj, hj']
      · rw [upN_ne _ _ hj'] at hB2
        rw [hj, upN_at] at hB1
        have := (h.bids j' B' hB2).r2
        rw [← Option.some.inj hB1] at e
        have e' : σ.rounds + 1 = B'.bal.r := e
        omega
    · rw [upN_ne _ _ hj] at hB1
      by_cases hj' : j' = k
      · rw [hj', upN_at] at hB2
        have := (h.bids j B hB1).r2
        rw [← Option.some.inj hB2] at e
        have e' : B.bal.r = σ.rounds + 1 := e
        omega
      · rw [upN_ne _ _ hj'] at hB2
        exact h.apart j j' B B' hB1 hB2 e
  · have := h.r0; show 0 ≤ σ.rounds + 1; omega
  · show σ.rounds + 1 ≤ 65536; omega

theorem BInv.may {H : Nat → Nat → Int → Cmd → Prop} {P : Nat → Int} {r : Int} {B : Bid} (h : BInv H P r B) (hr : r ≤ 65536) : BalMay B.bal := ⟨⟨h.r1, Int.le_trans h.r2 hr⟩, h.n1, h.n2⟩
theorem MInvH.may {σ : Mt} {H : Nat → Nat → Int → Cmd → Prop} (h : MInvH σ H) {k : Nat} {B : Bid} (hB : σ.bid k = some B) : BalMay B.bal := (h.bids k B hB).may h.r1

/-- what Promise says there -/
theorem MInv.proE {σ : Mt} (h : MInv σ) {k n : Nat} {B : Bid} (hB : σ.bid k = some B) (hn : n < 5) : proE (σ.node n) B.bal = if B.bal.lt (σ.node n).p then 7 else 0 := by
  obtain ⟨H, h⟩ := h
  unfold Go.Proofs.YticjofjghpdmpaaDoor.proE
  rw [if_neg (fun g => g (h.acc n hn)), if_neg (fun g => g (h.may hB))]
/-- a node promises -/
def promM (σ : Mt) (k n : Nat) (B : Bid) : Mt := { σ with node := upN σ.node n ⟨B.bal, (σ.node n).vs⟩, bid := upN σ.bid k (some { B with prom := upN B.prom n (some (σ.node n).vs) }) }
theorem keyP_prom (σ : Mt) (k n : Nat) (B : Bid) : keyP (promM σ k n B) = upP (keyP σ) n B.bal.key := by
  funext i
  unfold keyP promM upP
  show (upN σ.node n _ i).p.key = _
  unfold upN
  split
  · rfl
  · rfl
theorem BInv.raise {H : Nat → Nat → Int → Cmd → Prop} {P : Nat → Int} {r : Int} {B : Bid} (h : BInv H P r B) {n : Nat} {b : Int} (hb : P n ≤ b) : BInv H (upP P n b) r B := by
  refine ⟨h.r1, h.r2, h.n1, h.n2, ?_, ?_, h.not⟩
  · intro m vs hm
    obtain ⟨h1, h2, h3, h4⟩ := h.prom m vs hm
    exact ⟨h1, Int.le_trans h2 (upP_le hb m), h3, h4⟩
  · intro s c hs
    obtain ⟨h1, h2, h3, h4⟩ := h.asked s c hs
    exact ⟨h1, h2, h3.up hb, h4⟩
theorem MInv.promise {σ : Mt} (h : MInv σ) {k n : Nat} {B : Bid} (hB : σ.bid k = some B) (hn : n < 5) (hl : ¬ B.bal.lt (σ.node n).p) : MInv (promM σ k n B) := by
  obtain ⟨H, h⟩ := h
  have ha := h.acc n hn
  have hm := h.may hB
  have hle : keyP σ n ≤ B.bal.key := by
    have := mt (lt_key hm.pr ha.1).2 hl
    unfold keyP
    omega
  have hb := h.bids k B hB
  refine ⟨H, ?_, ?_, ?_, ?_, ?_, ?_, ?_, h.ch, h.r0, h.r1⟩
  · rw [keyP_prom]; exact h.pinv.promise hle
  · intro i hi
    show AccMay (upN σ.node n _ i)
    by_cases hin : i = n
    · subst hin
      rw [upN_at]
      refine ⟨hm.pr, fun v hv => ⟨(ha.2.1 v hv).1, fun g => ?_⟩, ha.2.2⟩
      have h1 := mt (lt_key ha.1 (ha.2.1 v hv).1.2.1.pr).2 (ha.2.1 v hv).2
      have h2 := (lt_key hm.pr (ha.2.1 v hv).1.2.1.pr).1 g
      unfold keyP at hle
      omega
    · rw [upN_ne _ _ hin]; exact h.acc i hi
  · intro i hi
    show (upN σ.node n _ i).p.r ≤ σ.rounds
    by_cases hin : i = n
    · subst hin; rw [upN_at]; exact hb.r2
    · rw [upN_ne _ _ hin]; exact h.rng i hi
  · intro i hi v hv
    have hv' : v ∈ (upN σ.node n ⟨B.bal, (σ.node n).vs⟩ i).vs := hv
    by_cases hin : i = n
    · subst hin; rw [upN_at] at hv'; exact h.cur i hi v hv'
    · rw [upN_ne _ _ hin] at hv'; exact h.cur i hi v hv'
  · intro i s b c hv
    obtain ⟨h1, h2, v, h3, h4⟩ := h.last i s b c hv
    refine ⟨h1, h2, v, ?_, h4⟩
    show v ∈ (upN σ.node n ⟨B.bal, (σ.node n).vs⟩ i).vs
    by_cases hin : i = n
    · subst hin; rw [upN_at]; exact h3
    · rw [upN_ne _ _ hin]; exact h3
  · intro j B' hB'
    rw [keyP_prom]
    have hB2 : upN σ.bid k _ j = some B' := hB'
    by_cases hj : j = k
    · subst hj
      rw [upN_at] at hB2
      obtain rfl := Option.some.inj hB2
      have hr := hb.raise hle
      refine ⟨hr.r1, hr.r2, hr.n1, hr.n2, ?_, hr.asked, hr.not⟩
      intro m vs hmv
      have hmv' : upN B.prom n (some (σ.node n).vs) m = some vs := hmv
      by_cases hmn : m = n
      · subst hmn
        rw [upN_at] at hmv'
        obtain rfl := Option.some.inj hmv'
        refine ⟨hn, ?_, fun v hv => ?_, fun s b c hv _ => ?_⟩
        · show B.bal.key ≤ upP (keyP σ) m B.bal.key m
          unfold upP
          rw [if_pos rfl]
          exact Int.le_refl _
        · refine ⟨(ha.2.1 v hv).1, ?_, h.cur m hn v hv⟩
          have h1 := mt (lt_key ha.1 (ha.2.1 v hv).1.2.1.pr).2 (ha.2.1 v hv).2
          show v.b.key ≤ B.bal.key
          unfold keyP at hle
          omega
        · obtain ⟨_, _, v, h3, h4⟩ := h.last m s b c hv
          exact ⟨v, h3, h4⟩
      · rw [upN_ne _ _ hmn] at hmv'
        exact hr.prom m vs hmv'
    · rw [upN_ne _ _ hj] at hB2
      exact (h.bids j B' hB2).raise hle
  · intro j j' B1 B2 h1 h2 e
    have h1' : upN σ.bid k _ j = some B1 := h1
    have h2' : upN σ.bid k _ j' = some B2 := h2
    have r1 : ∃ B3, σ.bid j = some B3 ∧ B3.bal = B1.bal := by
      by_cases hj : j = k
      · subst hj; rw [upN_at] at h1'; exact ⟨B, hB, by rw [← Option.some.inj h1']⟩
      · rw [upN_ne _ _ hj] at h1'; exact ⟨B1, h1', rfl⟩
    have r2 : ∃ B3, σ.bid j' = some B3 ∧ B3.bal = B2.bal := by
      by_cases hj : j' = k
      · subst hj; rw [upN_at] at h2'; exact ⟨B, hB, by rw [← Option.some.inj h2']⟩
      · rw [upN_ne _ _ hj] at h2'; exact ⟨B2, h2', rfl⟩
    obtain ⟨B3, e3, e3'⟩ := r1
    obtain ⟨B4, e4, e4'⟩ := r2
    exact h.apart j j' B3 B4 e3 e4 (by rw [e3', e4']; exact e)
end Go.Proofs.YticjofjghpdmpaaDoor
/-
  A play of acceptors and proposers, in plain lists: asking, voting and looking. No program is named here.
-/
namespace Go.Proofs.YticjofjghpdmpaaDoor
set_option linter.unusedVariables false

/-- the lists of votes that a proposer was told, and how many -/
def listsOf (B : Bid) : List (List Vt) := (List.range 5).filterMap B.prom
def countOf (B : Bid) : Nat := cnt5 fun n => (B.prom n).isSome
theorem listsOf_mem {B : Bid} {vs : List Vt} : vs ∈ listsOf B ↔ ∃ n, n < 5 ∧ B.prom n = some vs := by simp [listsOf]
theorem MInv.pickE {σ : Mt} (h : MInv σ) {k s : Nat} {B : Bid} (hB : σ.bid k = some B) (hs : s < 3) : pickE (listsOf B) (s : Int) = 0 := by
  obtain ⟨H, h⟩ := h
  have hb := h.bids k B hB
  unfold Go.Proofs.YticjofjghpdmpaaDoor.pickE
  rw [if_neg (by omega), if_pos]
  intro l hl v hv
  obtain ⟨n, _, hp⟩ := listsOf_mem.1 hl
  exact ((hb.prom n l hp).2.2.1 v hv).1
def askM (σ : Mt) (k s : Nat) (B : Bid) (c : Cmd) : Mt := { σ with bid := upN σ.bid k (some { B with what := upN B.what s (some c) }) }
theorem MInv.ask {σ : Mt} (h : MInv σ) {k s : Nat} {B : Bid} (hB : σ.bid k = some B) (hs : s < 3) (hc : 3 ≤ countOf B) (hw : B.what s = none) {c : Cmd} (he : c.e = 0)
    (hp : pickO (listsOf B) (s : Int) = none ∨ ∃ u, pickO (listsOf B) (s : Int) = some u ∧ c = u.w) : MInv (askM σ k s B c) := by
  obtain ⟨H, h⟩ := h
  have hb := h.bids k B hB
  have hnot := hb.not s hw
  have hmem : ∀ v, v ∈ ofSlot (listsOf B).flatten (s : Int) ↔ (∃ n vs, n < 5 ∧ B.prom n = some vs ∧ v ∈ vs) ∧ v.slot = (s : Int) := by
    intro v
    rw [ofSlot_mem, List.mem_flatten]
    constructor
    · rintro ⟨⟨l, h1, h2⟩, h3⟩
      obtain ⟨n, hn, hp⟩ := listsOf_mem.1 h1
      exact ⟨⟨n, l, hn, hp, h2⟩, h3⟩
    · rintro ⟨⟨n, l, hn, hp, h2⟩, h3⟩
      exact ⟨⟨l, listsOf_mem.2 ⟨n, hn, hp⟩, h2⟩, h3⟩
  have hpr : ∀ v ∈ ofSlot (listsOf B).flatten (s : Int), PrMay v.b := by
    intro v hv
    obtain ⟨⟨n, vs, hn, hp, h2⟩, _⟩ := (hmem v).1 hv
    exact ((hb.prom n vs hp).2.2.1 v h2).1.2.1.pr
  have hsafe : SafeAt H (keyP σ) s B.bal.key c := by
    refine ⟨fun n => (B.prom n).isSome, hc, ?_, ?_⟩
    · intro q hq hqQ
      obtain ⟨vs, hvs⟩ := Option.isSome_iff_exists.1 hqQ
      exact (hb.prom q vs hvs).2.1
    · rcases bestV_none _ hpr with ⟨hnil, hbest⟩ | ⟨x, hbest, hx, hmax⟩
      · left
        intro q hq hqQ b' c' hv
        obtain ⟨vs, hvs⟩ := Option.isSome_iff_exists.1 hqQ
        apply Classical.byContradiction
        intro hlt
        obtain ⟨v, h1, h2, _⟩ := (hb.prom q vs hvs).2.2.2 s b' c' hv (by omega)
        have : v ∈ ofSlot (listsOf B).flatten (s : Int) := (hmem v).2 ⟨⟨q, vs, hq, hvs, h1⟩, h2⟩
        rw [hnil] at this
        cases this
      · right
        have hu : c = x.w := by
          rcases hp with hp | ⟨u, hp, hcu⟩
          · unfold pickO at hp
            rw [hbest] at hp
            cases hp
          · unfold pickO at hp
            rw [hbest] at hp
            rw [hcu, Option.some.inj hp]
        obtain ⟨⟨n, vs, hn, hpn, h2⟩, hxs⟩ := (hmem x).1 hx
        obtain ⟨hxm, hxle, s', hs', hxs', hxv⟩ := (hb.prom n vs hpn).2.2.1 x h2
        have es : s' = s := by omega
        subst es
        have hne : x.b.key ≠ B.bal.key := fun e => hnot n x.w (e ▸ hxv)
        refine ⟨x.b.key, by omega, ⟨n, hn, by show (B.prom n).isSome = true; rw [hpn]; rfl, hu ▸ hxv⟩, ?_⟩
        intro q hq hqQ b' c' hv hlt
        obtain ⟨ws, hws⟩ := Option.isSome_iff_exists.1 hqQ
        obtain ⟨v, h3, h4, h5⟩ := (hb.prom q ws hws).2.2.2 s' b' c' hv hlt
        have := hmax v ((hmem v).2 ⟨⟨q, ws, hq, hws, h3⟩, h4⟩)
        omega
  refine ⟨H, h.pinv, h.acc, h.rng, h.cur, h.last, ?_, ?_, h.ch, h.r0, h.r1⟩
  · intro j B' hB'
    have hB2 : upN σ.bid k _ j = some B' := hB'
    show BInv H (keyP σ) σ.rounds B'
    by_cases hj : j = k
    · subst hj
      rw [upN_at] at hB2
      obtain rfl := Option.some.inj hB2
      refine ⟨hb.r1, hb.r2, hb.n1, hb.n2, hb.prom, ?_, ?_⟩
      · intro t d ht
        have ht' : upN B.what s (some c) t = some d := ht
        by_cases hts : t = s
        · subst hts
          rw [upN_at] at ht'
          obtain rfl := Option.some.inj ht'
          exact ⟨hs, he, hsafe, fun n c' hv => absurd hv (hnot n c')⟩
        · rw [upN_ne _ _ hts] at ht'
          exact hb.asked t d ht'
      · intro t ht
        have ht' : upN B.what s (some c) t = none := ht
        by_cases hts : t = s
        · subst hts
          rw [upN_at] at ht'
          cases ht'
        · rw [upN_ne _ _ hts] at ht'
          exact hb.not t ht'
    · rw [upN_ne _ _ hj] at hB2
      exact h.bids j B' hB2
  · intro j j' B1 B2 h1 h2 e
    have h1' : upN σ.bid k _ j = some B1 := h1
    have h2' : upN σ.bid k _ j' = some B2 := h2
    have r1 : ∃ B3, σ.bid j = some B3 ∧ B3.bal = B1.bal := by
      by_cases hj : j = k
      · subst hj; rw [upN_at] at h1'; exact ⟨B, hB, by rw [← Option.some.inj h1']⟩
      · rw [upN_ne _ _ hj] at h1'; exact ⟨B1, h1', rfl⟩
    have r2 : ∃ B3, σ.bid j' = some B3 ∧ B3.bal = B2.bal := by
      by_cases hj : j' = k
      · subst hj; rw [upN_at] at h2'; exact ⟨B, hB, by rw [← Option.some.inj h2']⟩
      · rw [upN_ne _ _ hj] at h2'; exact ⟨B2, h2', rfl⟩
    obtain ⟨B3, e3, e3'⟩ := r1
    obtain ⟨B4, e4, e4'⟩ := r2
    exact h.apart j j' B3 B4 e3 e4 (by rw [e3', e4']; exact e)
/-- what is picked may be proposed -/
theorem MInv.pickW {σ : Mt} (h : MInv σ) {k s : Nat} {B : Bid} (hB : σ.bid k = some B) {u : Vt} (hp : pickO (listsOf B) (s : Int) = some u) : u.w.e = 0 := by
  obtain ⟨H, h⟩ := h
  have hb := h.bids k B hB
  have hpr : ∀ v ∈ ofSlot (listsOf B).flatten (s : Int), VtMay v := by
    intro v hv
    obtain ⟨h1, _⟩ := ofSlot_mem.1 hv
    obtain ⟨l, h2, h3⟩ := List.mem_flatten.1 h1
    obtain ⟨n, hn, hpn⟩ := listsOf_mem.1 h2
    exact ((hb.prom n l hpn).2.2.1 v h3).1
  rcases bestV_none _ (fun v hv => (hpr v hv).2.1.pr) with ⟨_, hbest⟩ | ⟨x, hbest, hx, _⟩
  · unfold pickO at hp
    rw [hbest] at hp
    cases hp
  · unfold pickO at hp
    rw [hbest] at hp
    rw [← Option.some.inj hp]
    exact (hpr x hx).2.2

/-- what Accept says there -/
theorem MInv.votE {σ : Mt} (h : MInv σ) {k n s : Nat} {B : Bid} (hB : σ.bid k = some B) (hn : n < 5) {c : Cmd} (hw : B.what s = some c) : votE (σ.node n) ⟨(s : Int), B.bal, c⟩ = if B.bal.lt (σ.node n).p then 7 else 0 := by
  obtain ⟨H, h⟩ := h
  have ha := (h.bids k B hB).asked s c hw
  unfold Go.Proofs.YticjofjghpdmpaaDoor.votE
  have hm : VtMay ⟨(s : Int), B.bal, c⟩ := ⟨by show 0 ≤ (s : Int) ∧ (s : Int) ≤ 39; omega, h.may hB, ha.2.1⟩
  rw [if_neg (fun g => g (h.acc n hn)), if_neg (fun g => g hm)]
/-- a node votes -/
def voteM (σ : Mt) (n s : Nat) (B : Bid) (c : Cmd) : Mt := { σ with node := upN σ.node n ⟨B.bal, insV (σ.node n).vs ⟨(s : Int), B.bal, c⟩⟩ }
theorem keyP_vote (σ : Mt) (n s : Nat) (B : Bid) (c : Cmd) : keyP (voteM σ n s B c) = upP (keyP σ) n B.bal.key := by
  funext i
  unfold keyP voteM upP
  show (upN σ.node n _ i).p.key = _
  unfold upN
  split
  · rfl
  · rfl
theorem MInv.vote {σ : Mt} (h : MInv σ) {k n s : Nat} {B : Bid} (hB : σ.bid k = some B) (hn : n < 5) {c : Cmd} (hw : B.what s = some c) (hl : ¬ B.bal.lt (σ.node n).p) : MInv (voteM σ n s B c) := by
  obtain ⟨H, h⟩ := h
  have ha := h.acc n hn
  have hm := h.may hB
  have hle : keyP σ n ≤ B.bal.key := by
    have := mt (lt_key hm.pr ha.1).2 hl
    unfold keyP
    omega
  have hb := h.bids k B hB
  obtain ⟨hs, hce, hsafe, huniq⟩ := hb.asked s c hw
  have hvm : VtMay ⟨(s : Int), B.bal, c⟩ := ⟨by show 0 ≤ (s : Int) ∧ (s : Int) ≤ 39; omega, hm, hce⟩
  refine ⟨addH H n s B.bal.key c, ?_, ?_, ?_, ?_, ?_, ?_, h.apart, ?_, h.r0, h.r1⟩
  · rw [keyP_vote]
    exact h.pinv.vote hle (by have := hm.pos; omega) hsafe huniq
  · intro i hi
    show AccMay (upN σ.node n _ i)
    by_cases hin : i = n
    · subst hin
      rw [upN_at]
      refine ⟨hm.pr, fun v hv => ?_, insV_rise _ ha.2.2⟩
      rcases (insV_mem ha.2.2).1 hv with rfl | ⟨hv, _⟩
      · exact ⟨hvm, fun g => by have := (lt_key hm.pr hm.pr).1 g; omega⟩
      · refine ⟨(ha.2.1 v hv).1, fun g => ?_⟩
        have h1 := mt (lt_key ha.1 (ha.2.1 v hv).1.2.1.pr).2 (ha.2.1 v hv).2
        have h2 := (lt_key hm.pr (ha.2.1 v hv).1.2.1.pr).1 g
        unfold keyP at hle
        omega
    · rw [upN_ne _ _ hin]; exact h.acc i hi
  · intro i hi
    show (upN σ.node n _ i).p.r ≤ σ.rounds
    by_cases hin : i = n
    · subst hin; rw [upN_at]; exact hb.r2
    · rw [upN_ne _ _ hin]; exact h.rng i hi
  · intro i hi v hv
    have hv' : v ∈ (upN σ.node n ⟨B.bal, insV (σ.node n).vs ⟨(s : Int), B.bal, c⟩⟩ i).vs := hv
    by_cases hin : i = n
    · subst hin
      rw [upN_at] at hv'
      rcases (insV_mem ha.2.2).1 hv' with rfl | ⟨hv', _⟩
      · exact ⟨s, hs, rfl, .inr ⟨rfl, rfl, rfl, rfl⟩⟩
      · obtain ⟨t, h1, h2, h3⟩ := h.cur i hi v hv'
        exact ⟨t, h1, h2, .inl h3⟩
    · rw [upN_ne _ _ hin] at hv'
      obtain ⟨t, h1, h2, h3⟩ := h.cur i hi v hv'
      exact ⟨t, h1, h2, .inl h3⟩
  · intro i t b d hv
    rcases hv with hv | ⟨rfl, rfl, rfl, rfl⟩
    · obtain ⟨h1, h2, v, h3, h4, h5⟩ := h.last i t b d hv
      refine ⟨h1, h2, ?_⟩
      show ∃ v ∈ (upN σ.node n ⟨B.bal, insV (σ.node n).vs ⟨(s : Int), B.bal, c⟩⟩ i).vs, v.slot = (t : Int) ∧ b ≤ v.b.key
      by_cases hin : i = n
      · subst hin
        rw [upN_at]
        by_cases hts : t = s
        · subst hts
          refine ⟨⟨(t : Int), B.bal, c⟩, (insV_mem ha.2.2).2 (.inl rfl), rfl, ?_⟩
          have := (h.pinv.le i t b d hv).2
          show b ≤ B.bal.key
          omega
        · exact ⟨v, (insV_mem ha.2.2).2 (.inr ⟨h3, by show v.slot ≠ (s : Int); omega⟩), h4, h5⟩
      · rw [upN_ne _ _ hin]; exact ⟨v, h3, h4, h5⟩
    · refine ⟨hn, hs, ⟨(t : Int), B.bal, d⟩, ?_, rfl, Int.le_refl _⟩
      show _ ∈ (upN σ.node i ⟨B.bal, insV (σ.node i).vs ⟨(t : Int), B.bal, d⟩⟩ i).vs
      rw [upN_at]
      exact (insV_mem ha.2.2).2 (.inl rfl)
  · intro j B' hB'
    rw [keyP_vote]
    show BInv (addH H n s B.bal.key c) (upP (keyP σ) n B.bal.key) σ.rounds B'
    have hB2 : σ.bid j = some B' := hB'
    have hb' := h.bids j B' hB2
    have hkey : B'.bal.key = B.bal.key → j = k := fun e => by
      have := key_inj (h.may hB2).pr hm.pr e
      exact h.apart j k B' B hB2 hB (by rw [this])
    refine ⟨hb'.r1, hb'.r2, hb'.n1, hb'.n2, ?_, ?_, ?_⟩
    · intro m vs hmv
      obtain ⟨h1, h2, h3, h4⟩ := hb'.prom m vs hmv
      refine ⟨h1, Int.le_trans h2 (upP_le hle m), fun v hv => ?_, fun t b d hv hlt => ?_⟩
      · obtain ⟨g1, g2, t, g3, g4, g5⟩ := h3 v hv
        exact ⟨g1, g2, t, g3, g4, .inl g5⟩
      · rcases hv with hv | ⟨rfl, rfl, rfl, rfl⟩
        · exact h4 t b d hv hlt
        · omega
    · intro t d ht
      obtain ⟨h1, h2, h3, h4⟩ := hb'.asked t d ht
      refine ⟨h1, h2, h3.vote hle, fun m c' hv => ?_⟩
      rcases hv with hv | ⟨_, e1, e2, e3⟩
      · exact h4 m c' hv
      · have ej := hkey e2
        subst ej
        rw [hB] at hB2
        obtain rfl := Option.some.inj hB2
        subst e1
        rw [hw] at ht
        rw [e3, Option.some.inj ht]
    · intro t ht m c' hv
      rcases hv with hv | ⟨_, e1, e2, e3⟩
      · exact hb'.not t ht m c' hv
      · have ej := hkey e2
        subst ej
        rw [hB] at hB2
        obtain rfl := Option.some.inj hB2
        subst e1
        rw [hw] at ht
        cases ht
  · intro t d ht
    obtain ⟨b, hch⟩ := h.ch t d ht
    exact ⟨b, hch.add n s B.bal.key c⟩

/-- all votes for a slot, node by node -/
def allV (σ : Mt) (s : Nat) : List Vt := ofSlot (σ.node 0).vs (s : Int) ++ (ofSlot (σ.node 1).vs (s : Int) ++ (ofSlot (σ.node 2).vs (s : Int) ++ (ofSlot (σ.node 3).vs (s : Int) ++ ofSlot (σ.node 4).vs (s : Int))))
theorem num_one {l : List Vt} (h : Rise l) (s : Int) (v : Vt) : numV (ofSlot l s) v ≤ (decide (v ∈ l ∧ v.slot = s)).toNat := by
  induction l with
  | nil => simp [numV, ofSlot]
  | cons x xs ih =>
    obtain ⟨hx, hxs⟩ := h
    have ih := ih hxs
    have e : numV (ofSlot (x :: xs) s) v = (if x.slot = s ∧ x = v then 1 else 0) + numV (ofSlot xs s) v := by
      unfold numV ofSlot
      rw [List.filter_cons]
      by_cases h1 : x.slot = s
      · rw [if_pos (by simpa using h1), List.countP_cons]
        by_cases h2 : x = v
        · have h1' : v.slot = s := h2 ▸ h1
          simp [h2, h1']
          omega
        · simp [h1, h2]
      · rw [if_neg (by simpa using h1)]
        simp [h1]
    rw [e]
    by_cases h1 : x.slot = s ∧ x = v
    · have h2 : ¬ (v ∈ xs ∧ v.slot = s) := fun g => by
        have := hx v g.1
        rw [← h1.2] at this
        omega
      rw [decide_eq_false h2] at ih
      rw [if_pos h1, decide_eq_true ⟨h1.2 ▸ List.mem_cons_self, h1.2 ▸ h1.1⟩]
      simp at ih ⊢
      omega
    · rw [if_neg h1]
      by_cases h2 : v ∈ xs ∧ v.slot = s
      · rw [decide_eq_true h2] at ih
        rw [decide_eq_true ⟨List.mem_cons_of_mem _ h2.1, h2.2⟩]
        omega
      · rw [decide_eq_false h2] at ih
        simp at ih ⊢
        omega
theorem num_append (l m : List Vt) (v : Vt) : numV (l ++ m) v = numV l v + numV m v := by unfold numV; rw [List.countP_append]
theorem MInvH.most {σ : Mt} {H : Nat → Nat → Int → Cmd → Prop} (h : MInvH σ H) {s : Nat} {v : Vt} (hv : choO (allV σ s) 5 = some v) : Ch H s v.b.key v.w := by
  have hp := List.find?_some hv
  have h5 : 5 < 2 * numV (allV σ s) v := of_decide_eq_true hp
  unfold allV at h5
  rw [num_append, num_append, num_append, num_append] at h5
  have g0 := num_one (h.acc 0 (by omega)).2.2 (s : Int) v
  have g1 := num_one (h.acc 1 (by omega)).2.2 (s : Int) v
  have g2 := num_one (h.acc 2 (by omega)).2.2 (s : Int) v
  have g3 := num_one (h.acc 3 (by omega)).2.2 (s : Int) v
  have g4 := num_one (h.acc 4 (by omega)).2.2 (s : Int) v
  refine ⟨fun q => decide (v ∈ (σ.node q).vs ∧ v.slot = (s : Int)), ?_, ?_⟩
  · show 3 ≤ (decide (v ∈ (σ.node 0).vs ∧ v.slot = (s : Int))).toNat + (decide (v ∈ (σ.node 1).vs ∧ v.slot = (s : Int))).toNat + (decide (v ∈ (σ.node 2).vs ∧ v.slot = (s : Int))).toNat + (decide (v ∈ (σ.node 3).vs ∧ v.slot = (s : Int))).toNat + (decide (v ∈ (σ.node 4).vs ∧ v.slot = (s : Int))).toNat
    omega
  · intro q hq hqQ
    obtain ⟨h1, h2⟩ := of_decide_eq_true hqQ
    obtain ⟨t, _, h4, h6⟩ := h.cur q hq v h1
    have : t = s := by omega
    subst this
    exact h6
/-- what is chosen is what was -/
theorem MInv.chosen {σ : Mt} (h : MInv σ) {s : Nat} {v : Vt} (hv : choO (allV σ s) 5 = some v) {c : Cmd} (hc : σ.ch s = some c) : c = v.w := by
  obtain ⟨H, h⟩ := h
  obtain ⟨b, hb⟩ := h.ch s c hc
  exact h.pinv.agree hb (h.most hv)
def lookM (σ : Mt) (s : Nat) (c : Cmd) : Mt := { σ with ch := upN σ.ch s (some c) }
theorem MInv.look {σ : Mt} (h : MInv σ) {s : Nat} {v : Vt} (hv : choO (allV σ s) 5 = some v) : MInv (lookM σ s v.w) := by
  obtain ⟨H, h⟩ := h
  refine ⟨H, h.pinv, h.acc, h.rng, h.cur, h.last, h.bids, h.apart, ?_, h.r0, h.r1⟩
  intro t c ht
  have ht' : upN σ.ch s (some v.w) t = some c := ht
  by_cases hts : t = s
  · subst hts
    rw [upN_at] at ht'
    rw [← Option.some.inj ht']
    exact ⟨_, h.most hv⟩
  · rw [upN_ne _ _ hts] at ht'
    exact h.ch t c ht'
/-- nothing has happened yet -/
def newM : Mt := ⟨fun _ => ⟨⟨0, 0⟩, []⟩, fun _ => none, 0, fun _ => none⟩
theorem MInv.new : MInv newM := by
  refine ⟨fun _ _ _ _ => False, ⟨?_, ?_, ?_⟩, ?_, ?_, ?_, ?_, ?_, ?_, ?_, ?_, ?_⟩
  · intro n s b c h; exact h.elim
  · intro n n' s b c c' h; exact h.elim
  · intro n s b c h; exact h.elim
  · intro n _
    exact ⟨.inr ⟨rfl, rfl⟩, fun v hv => (List.not_mem_nil hv).elim, trivial⟩
  · intro n _; exact Int.le_refl _
  · intro n _ v hv; cases hv
  · intro n s b c h; exact h.elim
  · intro k B h; cases h
  · intro k k' B B' h; cases h
  · intro s c h; cases h
  · exact Int.le_refl _
  · show (0 : Int) ≤ 65536; omega
end Go.Proofs.YticjofjghpdmpaaDoor
