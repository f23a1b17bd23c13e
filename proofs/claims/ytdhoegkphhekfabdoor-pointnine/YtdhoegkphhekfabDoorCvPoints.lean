/-
  Points whose multiples by a secret are never nothing. No program is named here.
-/
import Derived.Test.YtdhoegkphhekfabDoorCvOrders
namespace Go.Proofs.YtdhoegkphhekfabDoor.Cv

theorem y_one {d : F} (h1 : 1 - d ≠ 0) {a : Pt d} (hy : a.y = 1) : a = Pt.o d := by
  have ho := a.on
  unfold On at ho
  rw [hy] at ho
  apply Pt.ext'
  · have e : (1 - d) * (a.x * a.x) = 0 := by clear h1 hy; grobner
    rcases F.mul_zero e with e | e
    · exact absurd e h1
    · rcases F.mul_zero e with e | e <;> exact e
  · exact hy
theorem y_minus {d : F} (nd : ND d) (h1 : 1 - d ≠ 0) {a : Pt d} (hy : 1 + a.y = 0) : a.add nd a = Pt.o d := by
  have hy' : a.y = -1 := by grobner
  have ho := a.on
  unfold On at ho
  have e : (1 - d) * (a.x * a.x) = 0 := by rw [hy'] at ho; clear h1 hy hy'; grobner
  have hx : a.x = 0 := by
    rcases F.mul_zero e with e | e
    · exact absurd e h1
    · rcases F.mul_zero e with e | e <;> exact e
  have ey : (a.add nd a).y * (1 - d*a.x*a.x*a.y*a.y) = a.y*a.y - a.x*a.x := ay_eq nd a.on a.on
  refine y_one h1 ?_
  rw [hx, hy'] at ey
  generalize (a.add nd a).y = r at ey
  clear hx hy hy' ho e h1 nd
  grobner

theorem never_small {s d : F} (h : Fit s d) {a : Pt d} {u : F} (hu : Uv s a u) (hu0 : u ≠ 0) {q : Nat} (hq : Pr q) (C : Nat) (hC : 8 * q < 2 ^ C) (z0 : (lad u (8 * q) C C).z2 = 0) (z8 : (lad u 8 C C).z2 ≠ 0)
    (k m B : Nat) (hk : k < 2 ^ B) (hkm : k = 8 * m) (h0 : 0 < m) (hm : m < q) (hodd : 2 < q) : fk k B u ≠ 0 := by
  have h8 : 8 < 2 ^ C := by omega
  have hq8 : Pt.mul h.nd q (Pt.mul h.nd 8 a) = Pt.o d := by
    rcases fk_ok h hu hu0 (8 * q) C hC with ⟨y, _, _⟩ | ⟨_, z, _⟩
    · rw [← Pt.mul_mul, Nat.mul_comm]
      exact y_one h.d1 y
    · exact absurd z0 z
  have h8n : (Pt.mul h.nd 8 a).y ≠ 1 := by
    rcases fk_ok h hu hu0 8 C h8 with ⟨_, z, _⟩ | ⟨y, _, _⟩
    · exact absurd z z8
    · exact y
  have key : ∀ n, ¬ q ∣ n → Pt.mul h.nd n (Pt.mul h.nd 8 a) ≠ Pt.o d := by
    intro n hn e
    have e2 := Pt.mul_gcd h.nd _ q n hq8 e
    rw [hq.coprime hn, Pt.mul_one] at e2
    exact h8n (by rw [e2]; rfl)
  have hqm : ¬ q ∣ m := fun hd => by have := Nat.le_of_dvd h0 hd; omega
  have hq2 : ¬ q ∣ 2 * m := fun hd => by
    rcases hq.mul hd with e | e
    · have := Nat.le_of_dvd (by omega) e; omega
    · exact hqm e
  have ek : Pt.mul h.nd k a = Pt.mul h.nd m (Pt.mul h.nd 8 a) := by rw [← Pt.mul_mul, hkm, Nat.mul_comm]
  intro hz
  rcases fk_ok h hu hu0 k B hk with ⟨y, _, _⟩ | ⟨_, _, v⟩
  · exact key m hqm (ek.symm.trans (y_one h.d1 y))
  · rw [hz] at v
    unfold Uv at v
    have e : s * (1 + (Pt.mul h.nd k a).y) = 0 := by rw [← v]; grobner
    rcases F.mul_zero e with e | e
    · exact h.s0 e
    · have e2 := y_minus h.nd h.d1 e
      rw [← Pt.mul_two, Pt.mul_mul, ek, ← Pt.mul_mul] at e2
      exact key _ hq2 e2

def D1 : F := 20800338683988658368647408995589388737092878452977063003340006470870624536394
def D2 : F := 28692721048178265397853269683490922171210976843790175684556505508326675974058
theorem fpow_pm (d : F) (n : Nat) (hn : n < 2 ^ 255) : (fpow d n).val = pm P25 d.val 255 n := (pm_pow P25 d.val 255 n hn).symm
theorem fit1 : Fit 1 D1 := ⟨nd_of D1 (Fin.ext ((fpow_pm _ _ (by decide +kernel)).trans (by decide +kernel))), by decide, by decide +kernel⟩
theorem fit2 : Fit (-1) D2 := ⟨nd_of D2 (Fin.ext ((fpow_pm _ _ (by decide +kernel)).trans (by decide +kernel))), by decide +kernel, by decide +kernel⟩
def pt2 : Pt D2 := ⟨32065679123207371837161887042422126473440588175635437574654347924003801580755, 3, by unfold On; decide +kernel⟩
theorem uv2 : Uv (-1) pt2 2 := by unfold Uv; decide +kernel
theorem some2 (k m B : Nat) (hk : k < 2 ^ B) (hkm : k = 8 * m) (h0 : 0 < m) (hm : m < 2 ^ 252) : fk k B 2 ≠ 0 :=
  never_small fit2 uv2 (by decide) pr_14474011_77 257 (by decide +kernel) (z_zero 2 _ _ (by decide +kernel)) (z_some 2 _ _ (by decide +kernel)) k m B hk hkm h0 (Nat.lt_trans hm (by decide +kernel)) (by decide)
def pt3 : Pt D2 := ⟨3682169400040840111092909783844767488804033305061471942786024437441852950726, 2, by unfold On; decide +kernel⟩
theorem uv3 : Uv (-1) pt3 3 := by unfold Uv; decide +kernel
theorem some3 (k m B : Nat) (hk : k < 2 ^ B) (hkm : k = 8 * m) (h0 : 0 < m) (hm : m < 2 ^ 252) : fk k B 3 ≠ 0 :=
  never_small fit2 uv3 (by decide) pr_14474011_77 257 (by decide +kernel) (z_zero 3 _ _ (by decide +kernel)) (z_some 3 _ _ (by decide +kernel)) k m B hk hkm h0 (Nat.lt_trans hm (by decide +kernel)) (by decide)
def pt4 : Pt D1 := ⟨20508589649930586089570533404659280742315514376806881400292713504627928619041, 34737626771194858627071295502606372355980995399692169211837275202373938891970, by unfold On; decide +kernel⟩
theorem uv4 : Uv 1 pt4 4 := by unfold Uv; decide +kernel
theorem some4 (k m B : Nat) (hk : k < 2 ^ B) (hkm : k = 8 * m) (h0 : 0 < m) (hm : m < 2 ^ 252) : fk k B 4 ≠ 0 :=
  never_small fit1 uv4 (by decide) pr_72370055_76 257 (by decide +kernel) (z_zero 4 _ _ (by decide +kernel)) (z_some 4 _ _ (by decide +kernel)) k m B hk hkm h0 (Nat.lt_trans hm (by decide +kernel)) (by decide)
def pt5 : Pt D2 := ⟨21614971902811018776371083671337489151686871949735244119412540222766402942130, 28948022309329048855892746252171976963317496166410141009864396001978282409976, by unfold On; decide +kernel⟩
theorem uv5 : Uv (-1) pt5 5 := by unfold Uv; decide +kernel
theorem some5 (k m B : Nat) (hk : k < 2 ^ B) (hkm : k = 8 * m) (h0 : 0 < m) (hm : m < 2 ^ 252) : fk k B 5 ≠ 0 :=
  never_small fit2 uv5 (by decide) pr_14474011_77 257 (by decide +kernel) (z_zero 5 _ _ (by decide +kernel)) (z_some 5 _ _ (by decide +kernel)) k m B hk hkm h0 (Nat.lt_trans hm (by decide +kernel)) (by decide)
def pt6 : Pt D1 := ⟨19376780039462327808380171548702722817192514675710707759395090655240387290537, 24812590550853470447908068216147408825700710999780120865598053715981384922836, by unfold On; decide +kernel⟩
theorem uv6 : Uv 1 pt6 6 := by unfold Uv; decide +kernel
theorem some6 (k m B : Nat) (hk : k < 2 ^ B) (hkm : k = 8 * m) (h0 : 0 < m) (hm : m < 2 ^ 252) : fk k B 6 ≠ 0 :=
  never_small fit1 uv6 (by decide) pr_72370055_76 257 (by decide +kernel) (z_zero 6 _ _ (by decide +kernel)) (z_some 6 _ _ (by decide +kernel)) k m B hk hkm h0 (Nat.lt_trans hm (by decide +kernel)) (by decide)
def pt7 : Pt D1 := ⟨17925512123371862172136608251410747952113741228168584786973621899917666135609, 14474011154664524427946373126085988481658748083205070504932198000989141204988, by unfold On; decide +kernel⟩
theorem uv7 : Uv 1 pt7 7 := by unfold Uv; decide +kernel
theorem some7 (k m B : Nat) (hk : k < 2 ^ B) (hkm : k = 8 * m) (h0 : 0 < m) (hm : m < 2 ^ 252) : fk k B 7 ≠ 0 :=
  never_small fit1 uv7 (by decide) pr_72370055_76 257 (by decide +kernel) (z_zero 7 _ _ (by decide +kernel)) (z_some 7 _ _ (by decide +kernel)) k m B hk hkm h0 (Nat.lt_trans hm (by decide +kernel)) (by decide)
def pt8 : Pt D1 := ⟨14793505554161292162952879661203002155632242541060023780761963224178504248572, 51463150772140531299364882226083514601453326518062472906425592892405835395511, by unfold On; decide +kernel⟩
theorem uv8 : Uv 1 pt8 8 := by unfold Uv; decide +kernel
theorem some8 (k m B : Nat) (hk : k < 2 ^ B) (hkm : k = 8 * m) (h0 : 0 < m) (hm : m < 2 ^ 252) : fk k B 8 ≠ 0 :=
  never_small fit1 uv8 (by decide) pr_72370055_76 257 (by decide +kernel) (z_zero 8 _ _ (by decide +kernel)) (z_some 8 _ _ (by decide +kernel)) k m B hk hkm h0 (Nat.lt_trans hm (by decide +kernel)) (by decide)
def pt9 : Pt D1 := ⟨9771384041963202563870679428059935816164187996444183106833894008023910952347, 46316835694926478169428394003475163141307993866256225615783033603165251855960, by unfold On; decide +kernel⟩
theorem uv9 : Uv 1 pt9 9 := by unfold Uv; decide +kernel
theorem some9 (k m B : Nat) (hk : k < 2 ^ B) (hkm : k = 8 * m) (h0 : 0 < m) (hm : m < 2 ^ 252) : fk k B 9 ≠ 0 :=
  never_small fit1 uv9 (by decide) pr_72370055_76 257 (by decide +kernel) (z_zero 9 _ _ (by decide +kernel)) (z_some 9 _ _ (by decide +kernel)) k m B hk hkm h0 (Nat.lt_trans hm (by decide +kernel)) (by decide)
def pt10 : Pt D1 := ⟨46350544086598272700915486025736097039828607082174142178859791712669962060968, 5263276783514372519253226591303995811512272030256389274520799273086960438178, by unfold On; decide +kernel⟩
theorem uv10 : Uv 1 pt10 10 := by unfold Uv; decide +kernel
theorem some10 (k m B : Nat) (hk : k < 2 ^ B) (hkm : k = 8 * m) (h0 : 0 < m) (hm : m < 2 ^ 252) : fk k B 10 ≠ 0 :=
  never_small fit1 uv10 (by decide) pr_72370055_76 257 (by decide +kernel) (z_zero 10 _ _ (by decide +kernel)) (z_some 10 _ _ (by decide +kernel)) k m B hk hkm h0 (Nat.lt_trans hm (by decide +kernel)) (by decide)
def pt11 : Pt D1 := ⟨44641080531145002766614471963518746256294209407851541410468560344819738692368, 9649340769776349618630915417390658987772498722136713669954798667326094136659, by unfold On; decide +kernel⟩
theorem uv11 : Uv 1 pt11 11 := by unfold Uv; decide +kernel
theorem some11 (k m B : Nat) (hk : k < 2 ^ B) (hkm : k = 8 * m) (h0 : 0 < m) (hm : m < 2 ^ 252) : fk k B 11 ≠ 0 :=
  never_small fit1 uv11 (by decide) pr_72370055_76 257 (by decide +kernel) (z_zero 11 _ _ (by decide +kernel)) (z_some 11 _ _ (by decide +kernel)) k m B hk hkm h0 (Nat.lt_trans hm (by decide +kernel)) (by decide)
def pt12 : Pt D2 := ⟨34196106732627306722680834125398945623228640181324725157439122419039833836186, 52632767835143725192532265913039958115122720302563892745207992730869604381773, by unfold On; decide +kernel⟩
theorem uv12 : Uv (-1) pt12 12 := by unfold Uv; decide +kernel
theorem some12 (k m B : Nat) (hk : k < 2 ^ B) (hkm : k = 8 * m) (h0 : 0 < m) (hm : m < 2 ^ 252) : fk k B 12 ≠ 0 :=
  never_small fit2 uv12 (by decide) pr_14474011_77 257 (by decide +kernel) (z_zero 12 _ _ (by decide +kernel)) (z_some 12 _ _ (by decide +kernel)) k m B hk hkm h0 (Nat.lt_trans hm (by decide +kernel)) (by decide)
def pt13 : Pt D1 := ⟨23186388564182142132257943652719722374607179821088188255287612417599000678868, 41354317584755784079846780360245681376167851666300201442663422859968974871393, by unfold On; decide +kernel⟩
theorem uv13 : Uv 1 pt13 13 := by unfold Uv; decide +kernel
theorem some13 (k m B : Nat) (hk : k < 2 ^ B) (hkm : k = 8 * m) (h0 : 0 < m) (hm : m < 2 ^ 252) : fk k B 13 ≠ 0 :=
  never_small fit1 uv13 (by decide) pr_72370055_76 257 (by decide +kernel) (z_zero 13 _ _ (by decide +kernel)) (z_some 13 _ _ (by decide +kernel)) k m B hk hkm h0 (Nat.lt_trans hm (by decide +kernel)) (by decide)
def pt14 : Pt D2 := ⟨33899274838782884861046332592755978208534479991647388742683308848632235697164, 53442502724915167118571223850163649778432300614911029556672731080575290603031, by unfold On; decide +kernel⟩
theorem uv14 : Uv (-1) pt14 14 := by unfold Uv; decide +kernel
theorem some14 (k m B : Nat) (hk : k < 2 ^ B) (hkm : k = 8 * m) (h0 : 0 < m) (hm : m < 2 ^ 252) : fk k B 14 ≠ 0 :=
  never_small fit2 uv14 (by decide) pr_14474011_77 257 (by decide +kernel) (z_zero 14 _ _ (by decide +kernel)) (z_some 14 _ _ (by decide +kernel)) k m B hk hkm h0 (Nat.lt_trans hm (by decide +kernel)) (by decide)
def pt15 : Pt D1 := ⟨32887437911889007803214493316549785766790460049742049874249928852770381949080, 36185027886661311069865932815214971204146870208012676262330495002472853012469, by unfold On; decide +kernel⟩
theorem uv15 : Uv 1 pt15 15 := by unfold Uv; decide +kernel
theorem some15 (k m B : Nat) (hk : k < 2 ^ B) (hkm : k = 8 * m) (h0 : 0 < m) (hm : m < 2 ^ 252) : fk k B 15 ≠ 0 :=
  never_small fit1 uv15 (by decide) pr_72370055_76 257 (by decide +kernel) (z_zero 15 _ _ (by decide +kernel)) (z_some 15 _ _ (by decide +kernel)) k m B hk hkm h0 (Nat.lt_trans hm (by decide +kernel)) (by decide)
def pt16 : Pt D1 := ⟨51561416144477174548144136147003824708919917097186314789366716055861091945046, 34056496834504763359873819120202325839197054313423695305722818825856802835265, by unfold On; decide +kernel⟩
theorem uv16 : Uv 1 pt16 16 := by unfold Uv; decide +kernel
theorem some16 (k m B : Nat) (hk : k < 2 ^ B) (hkm : k = 8 * m) (h0 : 0 < m) (hm : m < 2 ^ 252) : fk k B 16 ≠ 0 :=
  never_small fit1 uv16 (by decide) pr_72370055_76 257 (by decide +kernel) (z_zero 16 _ _ (by decide +kernel)) (z_some 16 _ _ (by decide +kernel)) k m B hk hkm h0 (Nat.lt_trans hm (by decide +kernel)) (by decide)
def pt17 : Pt D1 := ⟨38861663903288537055342652200867762152127298789841464568860011149915485842567, 25731575386070265649682441113041757300726663259031236453212796446202917697756, by unfold On; decide +kernel⟩
theorem uv17 : Uv 1 pt17 17 := by unfold Uv; decide +kernel
theorem some17 (k m B : Nat) (hk : k < 2 ^ B) (hkm : k = 8 * m) (h0 : 0 < m) (hm : m < 2 ^ 252) : fk k B 17 ≠ 0 :=
  never_small fit1 uv17 (by decide) pr_72370055_76 257 (by decide +kernel) (z_zero 17 _ _ (by decide +kernel)) (z_some 17 _ _ (by decide +kernel)) k m B hk hkm h0 (Nat.lt_trans hm (by decide +kernel)) (by decide)
def pt18 : Pt D1 := ⟨39403970968009270696389903822670562210240359001089214987096528919327943574536, 15235801215436341503101445395879987875430261140215863689402313685251727584198, by unfold On; decide +kernel⟩
theorem uv18 : Uv 1 pt18 18 := by unfold Uv; decide +kernel
theorem some18 (k m B : Nat) (hk : k < 2 ^ B) (hkm : k = 8 * m) (h0 : 0 < m) (hm : m < 2 ^ 252) : fk k B 18 ≠ 0 :=
  never_small fit1 uv18 (by decide) pr_72370055_76 257 (by decide +kernel) (z_zero 18 _ _ (by decide +kernel)) (z_some 18 _ _ (by decide +kernel)) k m B hk hkm h0 (Nat.lt_trans hm (by decide +kernel)) (by decide)
end Go.Proofs.YtdhoegkphhekfabDoor.Cv
