/-
  Curves of Edwards' form x^2 + y^2 = 1 + d x^2 y^2 over the numbers modulo 2^255 - 19, d no square: points may be added, always, and it does not matter in which order. No program is named here.
-/
import Derived.Test.YtdhoegkphhekfabDoorCvFieldP
namespace Go.Proofs.YtdhoegkphhekfabDoor.Cv

/-- a point of the curve -/
def On (d x y : F) : Prop := x * x + y * y = 1 + d * x * x * y * y

theorem cp (d x1 y1 x2 y2 T : F) (h1 : x1*x1+y1*y1 = 1 + d*x1*x1*y1*y1) (h2 : x2*x2+y2*y2 = 1 + d*x2*x2*y2*y2) (hT : T = d*x1*x2*y1*y2) (hTT : T*T = 1) :
  (x1+T*y1)*(x1+T*y1) = d*(x1*y1*(x2+y2))*(x1*y1*(x2+y2)) := by grobner
theorem cm (d x1 y1 x2 y2 T : F) (h1 : x1*x1+y1*y1 = 1 + d*x1*x1*y1*y1) (h2 : x2*x2+y2*y2 = 1 + d*x2*x2*y2*y2) (hT : T = d*x1*x2*y1*y2) (hTT : T*T = 1) :
  (x1-T*y1)*(x1-T*y1) = d*(x1*y1*(x2-y2))*(x1*y1*(x2-y2)) := by grobner
theorem ct (d x1 y1 x2 y2 T : F) (hT : T = d*x1*x2*y1*y2) (hTT : T*T = 1) (e1 : x1*y1*(x2+y2) = 0) (e2 : x1*y1*(x2-y2) = 0) : (2:F) = 0 := by grobner
theorem never {d x1 y1 x2 y2 : F} (nd : ND d) (h1 : On d x1 y1) (h2 : On d x2 y2) (hTT : (d*x1*x2*y1*y2)*(d*x1*x2*y1*y2) = 1) : False := by
  have e1 := nd _ _ (cp d x1 y1 x2 y2 _ h1 h2 rfl hTT)
  have e2 := nd _ _ (cm d x1 y1 x2 y2 _ h1 h2 rfl hTT)
  exact F.two (ct d x1 y1 x2 y2 _ rfl hTT e1 e2)
theorem den1 {d x1 y1 x2 y2 : F} (nd : ND d) (h1 : On d x1 y1) (h2 : On d x2 y2) : 1 + d*x1*x2*y1*y2 ≠ 0 := by
  intro h
  refine never nd h1 h2 ?_
  generalize d*x1*x2*y1*y2 = T at h
  grobner
theorem den2 {d x1 y1 x2 y2 : F} (nd : ND d) (h1 : On d x1 y1) (h2 : On d x2 y2) : 1 - d*x1*x2*y1*y2 ≠ 0 := by
  intro h
  refine never nd h1 h2 ?_
  generalize d*x1*x2*y1*y2 = T at h
  grobner

/-- a sum's two numbers -/
def ax (d x1 y1 x2 y2 : F) : F := (x1*y2+y1*x2) * finv (1 + d*x1*x2*y1*y2)
def ay (d x1 y1 x2 y2 : F) : F := (y1*y2-x1*x2) * finv (1 - d*x1*x2*y1*y2)
theorem ax_eq {d x1 y1 x2 y2 : F} (nd : ND d) (h1 : On d x1 y1) (h2 : On d x2 y2) : ax d x1 y1 x2 y2 * (1 + d*x1*x2*y1*y2) = x1*y2+y1*x2 := by
  have h := F.inv (den1 nd h1 h2)
  unfold ax
  generalize finv (1 + d*x1*x2*y1*y2) = i at h
  generalize 1 + d*x1*x2*y1*y2 = T at h
  grobner
theorem ay_eq {d x1 y1 x2 y2 : F} (nd : ND d) (h1 : On d x1 y1) (h2 : On d x2 y2) : ay d x1 y1 x2 y2 * (1 - d*x1*x2*y1*y2) = y1*y2-x1*x2 := by
  have h := F.inv (den2 nd h1 h2)
  unfold ay
  generalize finv (1 - d*x1*x2*y1*y2) = i at h
  generalize 1 - d*x1*x2*y1*y2 = T at h
  grobner
theorem on_key (d x1 y1 x2 y2 : F) (h1 : x1*x1+y1*y1 = 1 + d*x1*x1*y1*y1) (h2 : x2*x2+y2*y2 = 1 + d*x2*x2*y2*y2) :
  (x1*y2+y1*x2)*(x1*y2+y1*x2)*((1-d*x1*x2*y1*y2)*(1-d*x1*x2*y1*y2)) + (y1*y2-x1*x2)*(y1*y2-x1*x2)*((1+d*x1*x2*y1*y2)*(1+d*x1*x2*y1*y2)) = (1-d*x1*x2*y1*y2)*(1-d*x1*x2*y1*y2)*((1+d*x1*x2*y1*y2)*(1+d*x1*x2*y1*y2)) + d*(x1*y2+y1*x2)*(x1*y2+y1*x2)*(y1*y2-x1*x2)*(y1*y2-x1*x2) := by grobner
theorem on_fin (d N M a b x y : F) (K : N*N*(b*b) + M*M*(a*a) = b*b*(a*a) + d*N*N*M*M) (ha : a ≠ 0) (hb : b ≠ 0) (e1 : x*a = N) (e2 : y*b = M) : x*x + y*y = 1 + d*x*x*y*y := by
  refine F.cancel (F.mul_ne (F.mul_ne ha hb) (F.mul_ne ha hb)) ?_
  subst e1 e2
  grobner
theorem on_add {d x1 y1 x2 y2 : F} (nd : ND d) (h1 : On d x1 y1) (h2 : On d x2 y2) : On d (ax d x1 y1 x2 y2) (ay d x1 y1 x2 y2) :=
  on_fin d _ _ _ _ _ _ (on_key d x1 y1 x2 y2 h1 h2) (den1 nd h1 h2) (den2 nd h1 h2) (ax_eq nd h1 h2) (ay_eq nd h1 h2)

set_option maxHeartbeats 4000000 in
set_option maxRecDepth 100000 in
theorem assoc_x (d x1 y1 x2 y2 x3 y3 : F) (h1 : x1*x1+y1*y1 = 1 + d*x1*x1*y1*y1) (h2 : x2*x2+y2*y2 = 1 + d*x2*x2*y2*y2) (h3 : x3*x3+y3*y3 = 1 + d*x3*x3*y3*y3) :
  ((1 - d*x1*x2*y1*y2)*(x1*y2+y1*x2)*y3 + (1 + d*x1*x2*y1*y2)*(y1*y2-x1*x2)*x3) * ((1 - d*x2*x3*y2*y3)*(1 + d*x2*x3*y2*y3) + d*x1*y1*(x2*y3+y2*x3)*(y2*y3-x2*x3))
   = (x1*(1 + d*x2*x3*y2*y3)*(y2*y3-x2*x3) + y1*(1 - d*x2*x3*y2*y3)*(x2*y3+y2*x3)) * ((1 - d*x1*x2*y1*y2)*(1 + d*x1*x2*y1*y2) + d*x3*y3*(x1*y2+y1*x2)*(y1*y2-x1*x2)) := by grobner
set_option maxHeartbeats 4000000 in
set_option maxRecDepth 100000 in
theorem assoc_y (d x1 y1 x2 y2 x3 y3 : F) (h1 : x1*x1+y1*y1 = 1 + d*x1*x1*y1*y1) (h2 : x2*x2+y2*y2 = 1 + d*x2*x2*y2*y2) (h3 : x3*x3+y3*y3 = 1 + d*x3*x3*y3*y3) :
  ((1 + d*x1*x2*y1*y2)*(y1*y2-x1*x2)*y3 - (1 - d*x1*x2*y1*y2)*(x1*y2+y1*x2)*x3) * ((1 - d*x2*x3*y2*y3)*(1 + d*x2*x3*y2*y3) - d*x1*y1*(x2*y3+y2*x3)*(y2*y3-x2*x3))
   = (y1*(1 + d*x2*x3*y2*y3)*(y2*y3-x2*x3) - x1*(1 - d*x2*x3*y2*y3)*(x2*y3+y2*x3)) * ((1 - d*x1*x2*y1*y2)*(1 + d*x1*x2*y1*y2) - d*x3*y3*(x1*y2+y1*x2)*(y1*y2-x1*x2)) := by grobner

/-- the last step: fractions that are alike -/
theorem assoc_fin_x (d x1 y1 x3 y3 a b N M a' b' N' M' x12 y12 x23 y23 A B : F)
    (K : (b*N*y3 + a*M*x3) * (b'*a' + d*x1*y1*N'*M') = (x1*a'*M' + y1*b'*N') * (b*a + d*x3*y3*N*M))
    (e1 : x12*a = N) (e2 : y12*b = M) (e3 : x23*a' = N') (e4 : y23*b' = M')
    (ha : a ≠ 0) (hb : b ≠ 0) (ha' : a' ≠ 0) (hb' : b' ≠ 0) (hs : 1 + d*x12*x3*y12*y3 ≠ 0) (hs' : 1 + d*x1*x23*y1*y23 ≠ 0)
    (eA : A*(1 + d*x12*x3*y12*y3) = x12*y3+y12*x3) (eB : B*(1 + d*x1*x23*y1*y23) = x1*y23+y1*x23) : A = B := by
  subst e1 e2 e3 e4
  have K2 : (a*b*(a'*b')) * ((x12*y3+y12*x3)*(1 + d*x1*x23*y1*y23)) = (a*b*(a'*b')) * ((x1*y23+y1*x23)*(1 + d*x12*x3*y12*y3)) := by
    clear eA eB ha hb ha' hb' hs hs'
    grobner
  have K3 := F.cancel (F.mul_ne (F.mul_ne ha hb) (F.mul_ne ha' hb')) K2
  rw [← eA, ← eB] at K3
  refine F.cancel (F.mul_ne hs hs') ?_
  clear K K2 eA eB ha hb ha' hb'
  generalize 1 + d*x12*x3*y12*y3 = u at K3 hs
  generalize 1 + d*x1*x23*y1*y23 = v at K3 hs'
  grobner
theorem assoc_fin_y (d x1 y1 x3 y3 a b N M a' b' N' M' x12 y12 x23 y23 A B : F)
    (K : (a*M*y3 - b*N*x3) * (b'*a' - d*x1*y1*N'*M') = (y1*a'*M' - x1*b'*N') * (b*a - d*x3*y3*N*M))
    (e1 : x12*a = N) (e2 : y12*b = M) (e3 : x23*a' = N') (e4 : y23*b' = M')
    (ha : a ≠ 0) (hb : b ≠ 0) (ha' : a' ≠ 0) (hb' : b' ≠ 0) (hs : 1 - d*x12*x3*y12*y3 ≠ 0) (hs' : 1 - d*x1*x23*y1*y23 ≠ 0)
    (eA : A*(1 - d*x12*x3*y12*y3) = y12*y3-x12*x3) (eB : B*(1 - d*x1*x23*y1*y23) = y1*y23-x1*x23) : A = B := by
  subst e1 e2 e3 e4
  have K2 : (a*b*(a'*b')) * ((y12*y3-x12*x3)*(1 - d*x1*x23*y1*y23)) = (a*b*(a'*b')) * ((y1*y23-x1*x23)*(1 - d*x12*x3*y12*y3)) := by
    clear eA eB ha hb ha' hb' hs hs'
    grobner
  have K3 := F.cancel (F.mul_ne (F.mul_ne ha hb) (F.mul_ne ha' hb')) K2
  rw [← eA, ← eB] at K3
  refine F.cancel (F.mul_ne hs hs') ?_
  clear K K2 eA eB ha hb ha' hb'
  generalize 1 - d*x12*x3*y12*y3 = u at K3 hs
  generalize 1 - d*x1*x23*y1*y23 = v at K3 hs'
  grobner

/-- a point of the curve -/
structure Pt (d : F) where
  x : F
  y : F
  on : On d x y
theorem Pt.ext' {d : F} {a b : Pt d} (hx : a.x = b.x) (hy : a.y = b.y) : a = b := by
  cases a; cases b; simp only at hx hy; subst hx hy; rfl

def Pt.add {d : F} (nd : ND d) (a b : Pt d) : Pt d := ⟨ax d a.x a.y b.x b.y, ay d a.x a.y b.x b.y, on_add nd a.on b.on⟩
def Pt.o (d : F) : Pt d := ⟨0, 1, by unfold On; grobner⟩
def Pt.neg {d : F} (a : Pt d) : Pt d := ⟨-a.x, a.y, by have h := a.on; unfold On at *; grobner⟩

theorem Pt.comm {d : F} (nd : ND d) (a b : Pt d) : a.add nd b = b.add nd a := by
  apply Pt.ext'
  · show ax d a.x a.y b.x b.y = ax d b.x b.y a.x a.y
    unfold ax
    rw [show d*a.x*b.x*a.y*b.y = d*b.x*a.x*b.y*a.y by grobner, show a.x*b.y+a.y*b.x = b.x*a.y+b.y*a.x by grobner]
  · show ay d a.x a.y b.x b.y = ay d b.x b.y a.x a.y
    unfold ay
    rw [show d*a.x*b.x*a.y*b.y = d*b.x*a.x*b.y*a.y by grobner, show a.y*b.y-a.x*b.x = b.y*a.y-b.x*a.x by grobner]
theorem Pt.assoc {d : F} (nd : ND d) (a b c : Pt d) : (a.add nd b).add nd c = a.add nd (b.add nd c) := by
  have hab := on_add nd a.on b.on
  have hbc := on_add nd b.on c.on
  apply Pt.ext'
  · exact assoc_fin_x d a.x a.y c.x c.y _ _ _ _ _ _ _ _ _ _ _ _ _ _ (assoc_x d a.x a.y b.x b.y c.x c.y a.on b.on c.on) (ax_eq nd a.on b.on) (ay_eq nd a.on b.on) (ax_eq nd b.on c.on) (ay_eq nd b.on c.on)
      (den1 nd a.on b.on) (den2 nd a.on b.on) (den1 nd b.on c.on) (den2 nd b.on c.on) (den1 nd hab c.on) (den1 nd a.on hbc) (ax_eq nd hab c.on) (ax_eq nd a.on hbc)
  · exact assoc_fin_y d a.x a.y c.x c.y _ _ _ _ _ _ _ _ _ _ _ _ _ _ (assoc_y d a.x a.y b.x b.y c.x c.y a.on b.on c.on) (ax_eq nd a.on b.on) (ay_eq nd a.on b.on) (ax_eq nd b.on c.on) (ay_eq nd b.on c.on)
      (den1 nd a.on b.on) (den2 nd a.on b.on) (den1 nd b.on c.on) (den2 nd b.on c.on) (den2 nd hab c.on) (den2 nd a.on hbc) (ay_eq nd hab c.on) (ay_eq nd a.on hbc)
theorem Pt.add_o {d : F} (nd : ND d) (a : Pt d) : a.add nd (Pt.o d) = a := by
  have e1 := ax_eq nd a.on (Pt.o d).on
  have e2 := ay_eq nd a.on (Pt.o d).on
  have hx : (Pt.o d).x = 0 := rfl
  have hy : (Pt.o d).y = 1 := rfl
  rw [hx, hy] at e1 e2
  apply Pt.ext'
  · show ax d a.x a.y 0 1 = a.x
    generalize ax d a.x a.y 0 1 = r at e1
    clear e2
    grobner
  · show ay d a.x a.y 0 1 = a.y
    generalize ay d a.x a.y 0 1 = r at e2
    clear e1
    grobner
theorem Pt.add_neg {d : F} (nd : ND d) (a : Pt d) : a.add nd a.neg = Pt.o d := by
  have ho := a.on
  have e1 := ax_eq nd a.on a.neg.on
  have e2 := ay_eq nd a.on a.neg.on
  have n1 := den1 nd a.on a.neg.on
  have n2 := den2 nd a.on a.neg.on
  have hx : a.neg.x = -a.x := rfl
  have hy : a.neg.y = a.y := rfl
  rw [hx, hy] at e1 e2 n1 n2
  unfold On at ho
  apply Pt.ext'
  · show ax d a.x a.y (-a.x) a.y = 0
    refine F.cancel n1 ?_
    generalize ax d a.x a.y (-a.x) a.y = r at e1
    clear e2 n2 n1
    grobner
  · show ay d a.x a.y (-a.x) a.y = 1
    refine F.cancel n2 ?_
    generalize ay d a.x a.y (-a.x) a.y = r at e2
    clear e1 n1 n2
    grobner
end Go.Proofs.YtdhoegkphhekfabDoor.Cv
