/-
  The ladder: multiples of a point, told by one number each. No program is named here.
-/
import Derived.Test.YtdhoegkphhekfabDoorCvEdw
namespace Go.Proofs.YtdhoegkphhekfabDoor.Cv

/-- multiples -/
def Pt.mul {d : F} (nd : ND d) : Nat → Pt d → Pt d
  | 0, _ => Pt.o d
  | n + 1, a => (Pt.mul nd n a).add nd a
theorem Pt.o_add {d : F} (nd : ND d) (a : Pt d) : (Pt.o d).add nd a = a := by rw [Pt.comm, Pt.add_o]
theorem Pt.mul_add {d : F} (nd : ND d) (m n : Nat) (a : Pt d) : Pt.mul nd (m + n) a = (Pt.mul nd m a).add nd (Pt.mul nd n a) := by
  induction n with
  | zero => rw [Nat.add_zero, show Pt.mul nd 0 a = Pt.o d from rfl, Pt.add_o]
  | succ n ih => rw [← Nat.add_assoc, show Pt.mul nd (m + n + 1) a = (Pt.mul nd (m + n) a).add nd a from rfl, ih, Pt.assoc]; rfl
theorem Pt.mul_mul {d : F} (nd : ND d) (m n : Nat) (a : Pt d) : Pt.mul nd (m * n) a = Pt.mul nd m (Pt.mul nd n a) := by
  induction m with
  | zero => rw [Nat.zero_mul]; rfl
  | succ m ih => rw [Nat.add_mul, Nat.one_mul, Pt.mul_add, ih]; rfl
theorem Pt.mul_one {d : F} (nd : ND d) (a : Pt d) : Pt.mul nd 1 a = a := Pt.o_add nd a
theorem Pt.mul_o {d : F} (nd : ND d) (n : Nat) : Pt.mul nd n (Pt.o d) = Pt.o d := by
  induction n with
  | zero => rfl
  | succ n ih => rw [show Pt.mul nd (n + 1) (Pt.o d) = (Pt.mul nd n (Pt.o d)).add nd (Pt.o d) from rfl, ih, Pt.add_o]
theorem Pt.mul_two {d : F} (nd : ND d) (n : Nat) (a : Pt d) : Pt.mul nd (2 * n) a = (Pt.mul nd n a).add nd (Pt.mul nd n a) := by
  rw [Nat.two_mul, Pt.mul_add]
theorem Pt.diff {d : F} (nd : ND d) (n : Nat) (a : Pt d) : (Pt.mul nd (n + 1) a).add nd (Pt.mul nd n a).neg = a := by
  rw [Nat.add_comm, Pt.mul_add, Pt.assoc, Pt.add_neg, Pt.add_o, Pt.mul_one]
/-- multiples that are nothing: also that by the greatest common divisor -/
theorem Pt.mul_gcd {d : F} (nd : ND d) (a : Pt d) (m n : Nat) (hm : Pt.mul nd m a = Pt.o d) (hn : Pt.mul nd n a = Pt.o d) : Pt.mul nd (Nat.gcd m n) a = Pt.o d := by
  induction m, n using Nat.gcd.induction with
  | H0 n => rwa [Nat.gcd_zero_left]
  | H1 m n hp ih =>
    rw [Nat.gcd_rec]
    refine ih ?_ hm
    have e := Nat.div_add_mod n m
    rw [← e, Pt.mul_add, Nat.mul_comm, Pt.mul_mul, hm, Pt.mul_o, Pt.o_add] at hn
    exact hn

/-- the two numbers X and Z tell the point a (s is one or minus one) -/
def Rep (s : F) {d : F} (a : Pt d) (X Z : F) : Prop := ∃ l : F, l ≠ 0 ∧ X = s * l * (1 + a.y) ∧ Z = l * (1 - a.y)
/-- what curve and ladder have to do with each other -/
structure Fit (s d : F) : Prop where
  nd : ND d
  ss : s * s = 1
  hA : (1 - d) * 486662 * s = 2 * (1 + d)

theorem Fit.s0 {s d : F} (h : Fit s d) : s ≠ 0 := fun e => by
  have h1 := h.ss
  rw [e] at h1
  exact absurd h1 (by decide)
theorem Fit.d1 {s d : F} (h : Fit s d) : 1 - d ≠ 0 := fun e => by
  have h1 := h.hA
  have e2 : d = 1 := by clear h1 h; grobner
  rw [e2] at h1
  have e3 : (4 : F) = 0 := by clear e e2 h; grobner
  exact absurd e3 (by decide)
theorem finv_ne {a : F} (h : a ≠ 0) : finv a ≠ 0 := fun e => by
  have hi := F.inv h
  rw [e, show a * 0 = 0 by grobner] at hi
  exact absurd hi (by decide)
theorem nd_one {d y : F} (nd : ND d) : 1 - d*y*y ≠ 0 := fun e => by
  have h := nd 1 y (by clear nd; grobner)
  rw [h] at e
  have e3 : (1 : F) = 0 := by clear h nd; grobner
  exact absurd e3 (by decide)

theorem dbl1 (d x y T y' : F) (h : x*x+y*y = 1 + d*x*x*y*y) (hT : T = d*x*x*y*y) (hy : y'*(1-T) = y*y-x*x) : (1+y')*((1-d*y*y)*(1-T)) = 2*(y*y*(1-d)) := by grobner
theorem dbl2 (d x y T y' : F) (h : x*x+y*y = 1 + d*x*x*y*y) (hT : T = d*x*x*y*y) (hy : y'*(1-T) = y*y-x*x) : (1-y')*(1-T) = 2*(1-y*y) := by grobner

theorem dbl_rep (s d l y y' W B D i : F) (ss : s*s = 1) (hA : D * 486662 * s = 2 * (1 + d)) (hD : D = 1 - d) (e1 : (1+y')*(B*W) = 2*(y*y*D)) (e2 : (1-y')*W = 2*(1-y*y)) (hB : B = 1 - d*y*y) (hi : D*i = 1) (X Z : F) (hX : X = s*l*(1+y)) (hZ : Z = l*(1-y)) :
    (X+Z)*(X+Z)*((X-Z)*(X-Z)) = s*(8*s*(l*l*(l*l))*(B*W)*i)*(1+y') ∧ ((X+Z)*(X+Z)-(X-Z)*(X-Z))*((X+Z)*(X+Z) + 121665*((X+Z)*(X+Z)-(X-Z)*(X-Z))) = (8*s*(l*l*(l*l))*(B*W)*i)*(1-y') := by
  have f1 : (X+Z)*(X+Z)*((X-Z)*(X-Z)) = 16*(l*l*(l*l))*(y*y) := by
    subst hX hZ
    clear hA hD e1 e2 hB hi
    grobner
  have f2 : (2+2*(y*y)+486662*s*(1-y*y))*D = 4*B := by
    clear f1 hX hZ hi e1 e2
    grobner
  have f3 : ((X+Z)*(X+Z)-(X-Z)*(X-Z))*((X+Z)*(X+Z) + 121665*((X+Z)*(X+Z)-(X-Z)*(X-Z))) = 4*s*(l*l*(l*l))*(1-y*y)*(2+2*(y*y)+486662*s*(1-y*y)) := by
    subst hX hZ
    clear hA hD e1 e2 hB hi f1 f2
    grobner
  constructor
  · rw [f1]
    clear f1 f2 f3 hX hZ hA hD e2 hB
    grobner
  · rw [f3]
    clear f1 f3 hX hZ hA hD e1 hB
    generalize 2+2*(y*y)+486662*s*(1-y*y) = G at f2
    grobner

theorem Rep.dbl {s d : F} (h : Fit s d) {a : Pt d} {X Z : F} (hr : Rep s a X Z) :
    Rep s (a.add h.nd a) ((X+Z)*(X+Z)*((X-Z)*(X-Z))) (((X+Z)*(X+Z)-(X-Z)*(X-Z))*((X+Z)*(X+Z) + 121665*((X+Z)*(X+Z)-(X-Z)*(X-Z)))) := by
  obtain ⟨l, hl, hX, hZ⟩ := hr
  have ey : (a.add h.nd a).y * (1 - d*a.x*a.x*a.y*a.y) = a.y*a.y - a.x*a.x := ay_eq h.nd a.on a.on
  have e1 := dbl1 d a.x a.y _ _ a.on rfl ey
  have e2 := dbl2 d a.x a.y _ _ a.on rfl ey
  have hi := F.inv h.d1
  obtain ⟨g1, g2⟩ := dbl_rep s d l a.y _ _ _ _ _ h.ss h.hA rfl e1 e2 rfl hi X Z hX hZ
  refine ⟨_, ?_, g1, g2⟩
  have hin : finv (1 - d) ≠ 0 := fun e => by rw [e] at hi; exact absurd hi (by rw [show (1 - d) * 0 = 0 by grobner]; decide)
  exact F.mul_ne (F.mul_ne (F.mul_ne (F.mul_ne (by decide) h.s0) (F.mul_ne (F.mul_ne hl hl) (F.mul_ne hl hl))) (F.mul_ne (nd_one h.nd) (den2 h.nd a.on a.on))) hin

theorem on_q {d x y : F} (h : x*x+y*y = 1 + d*x*x*y*y) : x*x*(1-d*y*y) = 1-y*y := by grobner
theorem dif_p (d x1 y1 x2 y2 T y3 y4 : F) (h1 : x1*x1+y1*y1 = 1 + d*x1*x1*y1*y1) (h2 : x2*x2+y2*y2 = 1 + d*x2*x2*y2*y2) (hT : T = d*x1*x2*y1*y2) (e3 : y3*(1-T) = y1*y2-x1*x2) (e4 : y4*(1+T) = y1*y2+x1*x2) :
    (1+y3)*(1+y4)*((1-T)*(1+T))*((1-d*y1*y1)*(1-d*y2*y2)) = (y1+y2)*(y1+y2)*((1-d)*(1-d*(y1*y2)*(y1*y2))) := by
  have q1 := on_q h1
  have q2 := on_q h2
  have a3 : (1+y3)*(1-T) = 1-T+y1*y2-x1*x2 := by clear q1 q2 h1 h2 hT e4; grobner
  have a4 : (1+y4)*(1+T) = 1+T+y1*y2+x1*x2 := by clear q1 q2 h1 h2 hT e3 a3; grobner
  have s1 : (1+y3)*(1+y4)*((1-T)*(1+T)) = (1-T+y1*y2-x1*x2)*(1+T+y1*y2+x1*x2) := by rw [← a3, ← a4]; clear q1 q2 h1 h2 hT e3 e4 a3 a4; grobner
  rw [s1, hT]
  have s2 : (1-d*x1*x2*y1*y2+y1*y2-x1*x2)*(1+d*x1*x2*y1*y2+y1*y2+x1*x2)*((1-d*y1*y1)*(1-d*y2*y2)) = (1+y1*y2)*(1+y1*y2)*((1-d*y1*y1)*(1-d*y2*y2)) - (x1*x1*(1-d*y1*y1))*(x2*x2*(1-d*y2*y2))*((1+d*y1*y2)*(1+d*y1*y2)) := by clear h1 h2 hT e3 e4 q1 q2 a3 a4 s1; grobner
  rw [s2, q1, q2]
  clear h1 h2 hT e3 e4 q1 q2 a3 a4 s1 s2
  grobner
theorem dif_m (d x1 y1 x2 y2 T y3 y4 : F) (h1 : x1*x1+y1*y1 = 1 + d*x1*x1*y1*y1) (h2 : x2*x2+y2*y2 = 1 + d*x2*x2*y2*y2) (hT : T = d*x1*x2*y1*y2) (e3 : y3*(1-T) = y1*y2-x1*x2) (e4 : y4*(1+T) = y1*y2+x1*x2) :
    (1-y3)*(1-y4)*((1-T)*(1+T))*((1-d*y1*y1)*(1-d*y2*y2)) = (y1-y2)*(y1-y2)*((1-d)*(1-d*(y1*y2)*(y1*y2))) := by
  have q1 := on_q h1
  have q2 := on_q h2
  have a3 : (1-y3)*(1-T) = 1-T-y1*y2+x1*x2 := by clear q1 q2 h1 h2 hT e4; grobner
  have a4 : (1-y4)*(1+T) = 1+T-y1*y2-x1*x2 := by clear q1 q2 h1 h2 hT e3 a3; grobner
  have s1 : (1-y3)*(1-y4)*((1-T)*(1+T)) = (1-T-y1*y2+x1*x2)*(1+T-y1*y2-x1*x2) := by rw [← a3, ← a4]; clear q1 q2 h1 h2 hT e3 e4 a3 a4; grobner
  rw [s1, hT]
  have s2 : (1-d*x1*x2*y1*y2-y1*y2+x1*x2)*(1+d*x1*x2*y1*y2-y1*y2-x1*x2)*((1-d*y1*y1)*(1-d*y2*y2)) = (1-y1*y2)*(1-y1*y2)*((1-d*y1*y1)*(1-d*y2*y2)) - (x1*x1*(1-d*y1*y1))*(x2*x2*(1-d*y2*y2))*((1-d*y1*y2)*(1-d*y1*y2)) := by clear h1 h2 hT e3 e4 q1 q2 a3 a4 s1; grobner
  rw [s2, q1, q2]
  clear h1 h2 hT e3 e4 q1 q2 a3 a4 s1 s2
  grobner

theorem dif_rep (s l1 l2 y1 y2 y3 y4 u K1 K2 i : F) (ss : s*s = 1) (p : (1+y3)*(1+y4)*K1 = (y1+y2)*(y1+y2)*K2) (m : (1-y3)*(1-y4)*K1 = (y1-y2)*(y1-y2)*K2) (hu : u*(1-y4) = s*(1+y4)) (hi : K2*i = 1)
    (X1 Z1 X2 Z2 : F) (hX1 : X1 = s*l1*(1+y1)) (hZ1 : Z1 = l1*(1-y1)) (hX2 : X2 = s*l2*(1+y2)) (hZ2 : Z2 = l2*(1-y2)) :
    ((X2-Z2)*(X1+Z1)+(X2+Z2)*(X1-Z1))*((X2-Z2)*(X1+Z1)+(X2+Z2)*(X1-Z1)) = s*(16*s*(l1*l1*(l2*l2))*(1+y4)*K1*i)*(1+y3) ∧ u*(((X2-Z2)*(X1+Z1)-(X2+Z2)*(X1-Z1))*((X2-Z2)*(X1+Z1)-(X2+Z2)*(X1-Z1))) = (16*s*(l1*l1*(l2*l2))*(1+y4)*K1*i)*(1-y3) := by
  have f1 : (X2-Z2)*(X1+Z1)+(X2+Z2)*(X1-Z1) = 4*(l1*l2)*(y1+y2) := by subst hX1 hZ1 hX2 hZ2; clear p m hu hi; grobner
  have f2 : (X2-Z2)*(X1+Z1)-(X2+Z2)*(X1-Z1) = 4*s*(l1*l2)*(y2-y1) := by subst hX1 hZ1 hX2 hZ2; clear p m hu hi f1; grobner
  have g1 : (y1+y2)*(y1+y2) = (1+y3)*(1+y4)*K1*i := by clear f1 f2 m hu hX1 hZ1 hX2 hZ2 ss; grobner
  have g2 : (y1-y2)*(y1-y2) = (1-y3)*(1-y4)*K1*i := by clear f1 f2 p hu hX1 hZ1 hX2 hZ2 ss g1; grobner
  constructor
  · rw [f1]
    have e : 4*(l1*l2)*(y1+y2)*(4*(l1*l2)*(y1+y2)) = 16*(l1*l1*(l2*l2))*((y1+y2)*(y1+y2)) := by clear f1 f2 g1 g2 p m hu hi hX1 hZ1 hX2 hZ2 ss; grobner
    rw [e, g1]
    clear f1 f2 g1 g2 p m hu hi hX1 hZ1 hX2 hZ2 e
    grobner
  · rw [f2]
    have e : u*(4*s*(l1*l2)*(y2-y1)*(4*s*(l1*l2)*(y2-y1))) = 16*(s*s)*(l1*l1*(l2*l2))*(u*((y1-y2)*(y1-y2))) := by clear f1 f2 g1 g2 p m hu hi hX1 hZ1 hX2 hZ2 ss; grobner
    rw [e, g2, ss]
    have e2 : u*((1-y3)*(1-y4)*K1*i) = (u*(1-y4))*((1-y3)*K1*i) := by clear f1 f2 g1 g2 p m hu hi hX1 hZ1 hX2 hZ2 e ss; grobner
    rw [e2, hu]
    clear f1 f2 g1 g2 p m hu hi hX1 hZ1 hX2 hZ2 e e2 ss
    grobner

/-- the point's number: u (1 - y) = s (1 + y) -/
def Uv (s : F) {d : F} (a : Pt d) (u : F) : Prop := u * (1 - a.y) = s * (1 + a.y)

theorem Rep.dif {s d : F} (h : Fit s d) {a b c : Pt d} {X1 Z1 X2 Z2 u : F} (h1 : Rep s a X1 Z1) (h2 : Rep s b X2 Z2) (hc : (a.add h.nd b.neg).y = c.y) (hu : Uv s c u) (hu0 : u ≠ 0) :
    Rep s (a.add h.nd b) (((X2-Z2)*(X1+Z1)+(X2+Z2)*(X1-Z1))*((X2-Z2)*(X1+Z1)+(X2+Z2)*(X1-Z1))) (u*(((X2-Z2)*(X1+Z1)-(X2+Z2)*(X1-Z1))*((X2-Z2)*(X1+Z1)-(X2+Z2)*(X1-Z1)))) := by
  obtain ⟨l1, hl1, hX1, hZ1⟩ := h1
  obtain ⟨l2, hl2, hX2, hZ2⟩ := h2
  have e3 : (a.add h.nd b).y * (1 - d*a.x*b.x*a.y*b.y) = a.y*b.y - a.x*b.x := ay_eq h.nd a.on b.on
  have e4' : (a.add h.nd b.neg).y * (1 - d*a.x*(-b.x)*a.y*b.y) = a.y*b.y - a.x*(-b.x) := ay_eq h.nd a.on b.neg.on
  rw [hc] at e4'
  have e4 : c.y * (1 + d*a.x*b.x*a.y*b.y) = a.y*b.y + a.x*b.x := by clear e3 hu hX1 hZ1 hX2 hZ2 hc; grobner
  have p := dif_p d a.x a.y b.x b.y _ _ _ a.on b.on rfl e3 e4
  have m := dif_m d a.x a.y b.x b.y _ _ _ a.on b.on rfl e3 e4
  have hK2 : (1-d)*(1-d*(a.y*b.y)*(a.y*b.y)) ≠ 0 := F.mul_ne h.d1 (nd_one h.nd)
  have hi := F.inv hK2
  have hc1 : 1 + c.y ≠ 0 := by
    intro e
    unfold Uv at hu
    have e5 : u * (1 - c.y) = 0 := by rw [hu, e]; grobner
    rcases F.mul_zero e5 with e6 | e6
    · exact hu0 e6
    · have : (2 : F) = 0 := by clear hu e5 e4 e4' e3 p m hi hX1 hZ1 hX2 hZ2; grobner
      exact F.two this
  have p' : (1 + (a.add h.nd b).y)*(1 + c.y)*((1 - d*a.x*b.x*a.y*b.y)*(1 + d*a.x*b.x*a.y*b.y)*((1-d*a.y*a.y)*(1-d*b.y*b.y))) = (a.y+b.y)*(a.y+b.y)*((1-d)*(1-d*(a.y*b.y)*(a.y*b.y))) := by
    rw [← p]
    generalize (1 - d*a.x*b.x*a.y*b.y)*(1 + d*a.x*b.x*a.y*b.y) = q1
    generalize (1-d*a.y*a.y)*(1-d*b.y*b.y) = q2
    clear p m e3 e4 e4' hi hX1 hZ1 hX2 hZ2
    grobner
  have m' : (1 - (a.add h.nd b).y)*(1 - c.y)*((1 - d*a.x*b.x*a.y*b.y)*(1 + d*a.x*b.x*a.y*b.y)*((1-d*a.y*a.y)*(1-d*b.y*b.y))) = (a.y-b.y)*(a.y-b.y)*((1-d)*(1-d*(a.y*b.y)*(a.y*b.y))) := by
    rw [← m]
    generalize (1 - d*a.x*b.x*a.y*b.y)*(1 + d*a.x*b.x*a.y*b.y) = q1
    generalize (1-d*a.y*a.y)*(1-d*b.y*b.y) = q2
    clear p m p' e3 e4 e4' hi hX1 hZ1 hX2 hZ2
    grobner
  obtain ⟨g1, g2⟩ := dif_rep s l1 l2 a.y b.y _ c.y u _ _ _ h.ss p' m' hu hi X1 Z1 X2 Z2 hX1 hZ1 hX2 hZ2
  refine ⟨_, ?_, g1, g2⟩
  have hin : finv ((1-d)*(1-d*(a.y*b.y)*(a.y*b.y))) ≠ 0 := fun e => by rw [e] at hi; exact absurd hi (by rw [show (1-d)*(1-d*(a.y*b.y)*(a.y*b.y)) * 0 = 0 by grobner]; decide)
  exact F.mul_ne (F.mul_ne (F.mul_ne (F.mul_ne (F.mul_ne (by decide) h.s0) (F.mul_ne (F.mul_ne hl1 hl1) (F.mul_ne hl2 hl2))) hc1) (F.mul_ne (F.mul_ne (den2 h.nd a.on b.on) (den1 h.nd a.on b.on)) (F.mul_ne (nd_one h.nd) (nd_one h.nd)))) hin

/-- the two points side by side -/
structure St where
  x2 : F
  z2 : F
  x3 : F
  z3 : F
/-- a step: the first is doubled, both are added -/
def lstep (u : F) (t : St) : St :=
  ⟨(t.x2+t.z2)*(t.x2+t.z2)*((t.x2-t.z2)*(t.x2-t.z2)), ((t.x2+t.z2)*(t.x2+t.z2)-(t.x2-t.z2)*(t.x2-t.z2))*((t.x2+t.z2)*(t.x2+t.z2) + 121665*((t.x2+t.z2)*(t.x2+t.z2)-(t.x2-t.z2)*(t.x2-t.z2))),
   ((t.x3-t.z3)*(t.x2+t.z2)+(t.x3+t.z3)*(t.x2-t.z2))*((t.x3-t.z3)*(t.x2+t.z2)+(t.x3+t.z3)*(t.x2-t.z2)), u*(((t.x3-t.z3)*(t.x2+t.z2)-(t.x3+t.z3)*(t.x2-t.z2))*((t.x3-t.z3)*(t.x2+t.z2)-(t.x3+t.z3)*(t.x2-t.z2)))⟩
def swapped (t : St) : St := ⟨t.x3, t.z3, t.x2, t.z2⟩
def lbit (u : F) (b : Bool) (t : St) : St := if b then swapped (lstep u (swapped t)) else lstep u t
/-- the first n of B bits of k, the highest one first -/
def lad (u : F) (k B : Nat) : Nat → St
  | 0 => ⟨1, 0, u, 1⟩
  | n + 1 => lbit u (k / 2 ^ (B - (n + 1)) % 2 == 1) (lad u k B n)

/-- two numbers tell m times the point and the one behind it -/
def Two (s : F) {d : F} (nd : ND d) (a : Pt d) (m : Nat) (t : St) : Prop := Rep s (Pt.mul nd m a) t.x2 t.z2 ∧ Rep s (Pt.mul nd (m + 1) a) t.x3 t.z3

theorem neg_y {d : F} (a : Pt d) : a.neg.y = a.y := rfl
theorem add_neg_y {d : F} (nd : ND d) (a b : Pt d) : (a.add nd b.neg).y = (b.add nd a.neg).y := by
  show ay d a.x a.y (-b.x) b.y = ay d b.x b.y (-a.x) a.y
  unfold ay
  rw [show d*a.x*(-b.x)*a.y*b.y = d*b.x*(-a.x)*b.y*a.y by grobner, show a.y*b.y-a.x*(-b.x) = b.y*a.y-b.x*(-a.x) by grobner]

theorem Two.zero {s d : F} (h : Fit s d) {a : Pt d} {m : Nat} {t : St} {u : F} (ht : Two s h.nd a m t) (hu : Uv s a u) (hu0 : u ≠ 0) : Two s h.nd a (2 * m) (lstep u t) := by
  obtain ⟨h1, h2⟩ := ht
  constructor
  · rw [Pt.mul_two]
    exact Rep.dbl h h1
  · have hd : ((Pt.mul h.nd m a).add h.nd (Pt.mul h.nd (m + 1) a).neg).y = a.y := by rw [add_neg_y, Pt.diff]
    have e : Pt.mul h.nd (2 * m + 1) a = (Pt.mul h.nd m a).add h.nd (Pt.mul h.nd (m + 1) a) := by rw [← Pt.mul_add]; congr 1; omega
    rw [e]
    exact Rep.dif h h1 h2 hd hu hu0
theorem Two.one {s d : F} (h : Fit s d) {a : Pt d} {m : Nat} {t : St} {u : F} (ht : Two s h.nd a m t) (hu : Uv s a u) (hu0 : u ≠ 0) : Two s h.nd a (2 * m + 1) (swapped (lstep u (swapped t))) := by
  obtain ⟨h1, h2⟩ := ht
  constructor
  · have hd : ((Pt.mul h.nd (m + 1) a).add h.nd (Pt.mul h.nd m a).neg).y = a.y := by rw [Pt.diff]
    have e : Pt.mul h.nd (2 * m + 1) a = (Pt.mul h.nd (m + 1) a).add h.nd (Pt.mul h.nd m a) := by rw [← Pt.mul_add]; congr 1; omega
    rw [e]
    exact Rep.dif h h2 h1 hd hu hu0
  · rw [show 2 * m + 1 + 1 = 2 * (m + 1) by omega, Pt.mul_two]
    exact Rep.dbl h h2

theorem Two.begun {s d : F} (h : Fit s d) {a : Pt d} {u : F} (hu : Uv s a u) : Two s h.nd a 0 ⟨1, 0, u, 1⟩ := by
  have ss := h.ss
  constructor
  · refine ⟨s * finv 2, F.mul_ne h.s0 (finv_ne F.two), ?_, ?_⟩
    · show 1 = s * (s * finv 2) * (1 + 1)
      have h2 := F.inv F.two
      generalize finv 2 = i at h2
      clear hu h
      grobner
    · show 0 = s * finv 2 * (1 - 1)
      clear hu
      grobner
  · show Rep s (Pt.mul h.nd (0 + 1) a) u 1
    rw [Nat.zero_add, Pt.mul_one]
    have hy : 1 - a.y ≠ 0 := by
      intro e
      unfold Uv at hu
      rw [e] at hu
      have e2 : s * 2 = 0 := by
        clear ss h
        grobner
      rcases F.mul_zero e2 with e3 | e3
      · exact h.s0 e3
      · exact F.two e3
    have hi := F.inv hy
    unfold Uv at hu
    refine ⟨finv (1 - a.y), fun e => ?_, ?_, ?_⟩
    · rw [e] at hi
      exact absurd hi (by rw [show (1 - a.y) * 0 = 0 by grobner]; decide)
    · generalize finv (1 - a.y) = i at hi
      clear ss h hy
      grobner
    · generalize finv (1 - a.y) = i at hi
      clear ss h hy hu
      grobner
theorem lad_two {s d : F} (h : Fit s d) {a : Pt d} {u : F} (hu : Uv s a u) (hu0 : u ≠ 0) (k B : Nat) (hk : k < 2 ^ B) (n : Nat) (hn : n ≤ B) : Two s h.nd a (k / 2 ^ (B - n)) (lad u k B n) := by
  induction n with
  | zero => rw [Nat.sub_zero, Nat.div_eq_of_lt hk]; exact Two.begun h hu
  | succ n ih =>
    have ih := ih (by omega)
    have e : k / 2 ^ (B - n) = k / 2 ^ (B - (n + 1)) / 2 := by rw [Nat.div_div_eq_div_mul, ← Nat.pow_succ]; congr 2; omega
    rw [e] at ih
    unfold lad lbit
    generalize k / 2 ^ (B - (n + 1)) = j at ih
    have hj := Nat.div_add_mod j 2
    by_cases hb : j % 2 = 1
    · rw [if_pos (by rw [hb]; rfl)]
      have := Two.one h ih hu hu0
      rwa [show 2 * (j / 2) + 1 = j by omega] at this
    · rw [if_neg (by simpa using hb)]
      have := Two.zero h ih hu hu0
      rwa [show 2 * (j / 2) = j by omega] at this

/-- what the ladder answers -/
def fk (k B : Nat) (u : F) : F := (lad u k B B).x2 * finv (lad u k B B).z2
theorem Rep.val {s d : F} (h : Fit s d) {a : Pt d} {X Z : F} (hr : Rep s a X Z) : (a.y = 1 ∧ Z = 0 ∧ X * finv Z = 0) ∨ (a.y ≠ 1 ∧ Z ≠ 0 ∧ Uv s a (X * finv Z)) := by
  obtain ⟨l, hl, hX, hZ⟩ := hr
  by_cases hy : a.y = 1
  · have hZ0 : Z = 0 := by rw [hZ, hy]; clear hX hZ; grobner
    refine .inl ⟨hy, hZ0, ?_⟩
    rw [hZ0, finv_zero]
    clear hX hZ hZ0
    grobner
  · have hy' : 1 - a.y ≠ 0 := fun e => hy (by clear hX hZ; grobner)
    have hZ0 : Z ≠ 0 := by rw [hZ]; exact F.mul_ne hl hy'
    refine .inr ⟨hy, hZ0, ?_⟩
    have hi := F.inv hZ0
    unfold Uv
    refine F.cancel hl ?_
    generalize finv Z = i at hi
    subst hX
    have ss := h.ss
    clear h
    grobner
theorem fk_ok {s d : F} (h : Fit s d) {a : Pt d} {u : F} (hu : Uv s a u) (hu0 : u ≠ 0) (k B : Nat) (hk : k < 2 ^ B) :
    ((Pt.mul h.nd k a).y = 1 ∧ (lad u k B B).z2 = 0 ∧ fk k B u = 0) ∨ ((Pt.mul h.nd k a).y ≠ 1 ∧ (lad u k B B).z2 ≠ 0 ∧ Uv s (Pt.mul h.nd k a) (fk k B u)) := by
  have ht := (lad_two h hu hu0 k B hk B (Nat.le_refl B)).1
  rw [Nat.sub_self, Nat.pow_zero, Nat.div_one] at ht
  exact Rep.val h ht
theorem Uv.uniq {s d : F} (h : Fit s d) {a : Pt d} {u v : F} (hu : Uv s a u) (hv : Uv s a v) : u = v := by
  have hy : 1 - a.y ≠ 0 := by
    intro e
    unfold Uv at hu
    rw [e] at hu
    have e2 : s * 2 = 0 := by
      have ss := h.ss
      clear h hv
      grobner
    rcases F.mul_zero e2 with e3 | e3
    · exact h.s0 e3
    · exact F.two e3
  unfold Uv at hu hv
  refine F.cancel hy ?_
  clear hy
  grobner
/-- it does not matter in which order -/
theorem fk_comm {s d : F} (h : Fit s d) {a : Pt d} {u : F} (hu : Uv s a u) (k m B : Nat) (hk : k < 2 ^ B) (hm : m < 2 ^ B) (hk0 : fk k B u ≠ 0) (hm0 : fk m B u ≠ 0) (hu0 : u ≠ 0) : fk m B (fk k B u) = fk k B (fk m B u) := by
  rcases fk_ok h hu hu0 k B hk with ⟨_, _, e⟩ | ⟨y1, _, u1⟩
  · exact absurd e hk0
  rcases fk_ok h hu hu0 m B hm with ⟨_, _, e⟩ | ⟨y2, _, u2⟩
  · exact absurd e hm0
  have e : Pt.mul h.nd m (Pt.mul h.nd k a) = Pt.mul h.nd k (Pt.mul h.nd m a) := by rw [← Pt.mul_mul, ← Pt.mul_mul, Nat.mul_comm]
  rcases fk_ok h u1 hk0 m B hm with ⟨y3, _, e3⟩ | ⟨y3, _, u3⟩
  · rcases fk_ok h u2 hm0 k B hk with ⟨y4, _, e4⟩ | ⟨y4, _, u4⟩
    · rw [e3, e4]
    · rw [e] at y3; exact absurd y3 y4
  · rcases fk_ok h u2 hm0 k B hk with ⟨y4, _, e4⟩ | ⟨y4, _, u4⟩
    · rw [e] at y3; exact absurd y4 y3
    · rw [← e] at u4
      exact Uv.uniq h u3 u4
end Go.Proofs.YtdhoegkphhekfabDoor.Cv
