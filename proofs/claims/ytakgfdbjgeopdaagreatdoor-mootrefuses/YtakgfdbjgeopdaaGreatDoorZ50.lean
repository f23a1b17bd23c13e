/- Part 50 of the walk: what the functions of the program do, one by one. -/
import Derived.Test.YtakgfdbjgeopdaaGreatDoorZ49
set_option maxRecDepth 100000
set_option maxHeartbeats 4000000
open Go.Proofs.Tryz
set_option linter.unusedVariables false
namespace Go.Proofs.YtakgfdbjgeopdaaGreatDoor
open Go.RowKit
theorem Lj(k:Int)(w:World) :
  Calls prog 65 #[.int .i64 k] w fun e w'=>e=.returned (.bool (decide (1≤k∧k≤9)))∧w'=w:=by
 by_cases h1:1≤k
 ·by_cases h9:k<10
  ·rw[decide_eq_true ⟨h1,by omega⟩];go_enter func65,ntmps65
   go_wp2
   go_ret;exact⟨Ab (by simp),rfl⟩
  ·rw[decide_eq_false (by omega)];go_enter func65,ntmps65
   go_wp2
   go_ret;exact⟨Ab (by simp),rfl⟩
 ·rw[decide_eq_false (by omega)];go_enter func65,ntmps65
  go_wp2
  go_ret;exact⟨Ab (by simp),rfl⟩
theorem RK(k:Int)(w:World) :
  Calls prog 101 #[.int .i64 k] w fun e w'=>e=.returned (.bool (k==1))∧w'=w:=by
 go_enter func101,ntmps101
 go_wp2
 go_ret;exact⟨rfl,rfl⟩
def inB(x:Lac):Nat→Bool
 | 0=>true
 | j+1=>inB x j&&(!F7 j x.k||decide (0≤FV x j∧FV x j≤Ku j))
def EN(x:Lac):Nat→Bool
 | 0=>true
 | j+1=>EN x j&&(F7 j x.k||decide (FV x j=0))
theorem Mf{x:Lac}{j m:Nat}(h1:F7 j x.k=true)(h:¬ (0≤FV x j∧FV x j≤Ku j))(hj:j<m):inB x m=false:=by
 induction m with
 | zero=>omega
 | succ m ih =>
  rw[inB];by_cases e:j=m
  ·subst e;rw[h1,decide_eq_false h];simp
  ·rw[ih (by omega),Bool.false_and]
theorem IS{x:Lac}{j m:Nat}(h1:F7 j x.k=false)(h:¬ FV x j=0)(hj:j<m):EN x m=false:=by
 induction m with
 | zero=>omega
 | succ m ih =>
  rw[EN];by_cases e:j=m
  ·subst e;rw[h1,decide_eq_false h];simp
  ·rw[ih (by omega),Bool.false_and]
theorem Uk(k:Nat)(h9:k≤9)(n a p:Int)(d:List Int)(y:Value)(w:World)(tw:LWTab w)(tb:LBTab w) :
  Calls prog 66 #[.agg (laA (k:Int) n a p y)] w fun e w'=>e=.returned (.bool (inB ⟨(k:Int),n,a,p,d⟩ 3))∧Below w.heap.size w w':=by
 obtain⟨W0,hW0⟩:∃ W0,w.alloc (.cells (laA (k:Int) n a p y) 68)=W0:=⟨_,rfl⟩;have r0:W0.heap[w.heap.size]?=some (.cells (laA (k:Int) n a p y) 68):=by rw[← hW0];exact heap_alloc_new _ _
 have bW:Below w.heap.size w W0:=by rw[← hW0];exact(Below.refl _ _).alloc (Nat.le_refl _) _
 have HR:Hid (Below w.heap.size w W0∧W0.heap[w.heap.size]?=some (.cells (laA (k:Int) n a p y) 68)):=⟨bW,r0⟩;clear r0 bW;unfold laA at hW0 ⊢;go_enter func66,ntmps66
 go_wp2_with fail
 clear hW0;refine(G0 w.heap.size W0).mono ?_;rintro e w2 ⟨rfl,b2⟩;have H2:Hid (Below w.heap.size w w2∧w2.heap[w.heap.size]?=some (.cells (laA (k:Int) n a p y) 68)):=⟨HR.out.1.trans (b2.mono HR.out.1.size),(b2.block _ (Array.getElem?_eq_some_iff.1 HR.out.2).1).trans HR.out.2⟩;clear b2 HR;go_wp2_with fail
 go_loopw [6] (fun iv wr=>∃ j:Nat,j≤3∧iv=.int .i64 (j:Int)∧Hid (inB ⟨(k:Int),n,a,p,d⟩ j=true)∧Hid (Below w.heap.size w wr∧wr.heap[w.heap.size]?=some (.cells (laA (k:Int) n a p y) 68))) (fun iv _=>((3:Int)-intOf iv).toNat)
 case atStart=>exact⟨0,by omega,rfl,rfl,H2⟩
 case round =>
  obtain⟨j,hj3,rfl,HI,HP⟩:=hrel;by_cases hlt:j<3
  ·have hlI:(j:Int)<3:=by omega
   have j0:(0:Int)≤(j:Int):=by omega
   have ck:wr.cell? ⟨w.heap.size,0,none⟩=some (.int .i64 (k:Int)):=by rw[cell_of_row _ _ 0 _ _ _ HP.out.2];rfl
   have lpi:=Nv w.heap.size j hlt;have ib:=Sz j hlt;have cm:=(tw.below HP.out.1).has k j (by omega) hlt;have im:=Lz k j hlt;have ix:=L2 k (by omega);have cb:=(tb.below HP.out.1).bnd j hlt;have ca:=(cell_of_row _ _ (j+1) _ _ _ HP.out.2).trans (QI ⟨(k:Int),n,a,p,d⟩ y hlt);cases hu:F7 j (k:Int)with
   | false =>
    have HI2:Hid (inB ⟨(k:Int),n,a,p,d⟩ (j+1)=true):=by unfold Hid;rw[inB,HI.out,hu];rfl
    rw[hu]at cm
    generalize FV ⟨(k:Int),n,a,p,d⟩ j=v at ca;generalize Ku j=B at cb;clear hu;go_wp2_with fail
    go_quiet (fail)
    have HQ:Hid (Below w.heap.size w (wr.drewN nq)∧(wr.drewN nq).heap[w.heap.size]?=some (.cells (laA (k:Int) n a p y) 68)):=⟨Ag HP.out.1 nq,HP.out.2⟩;clear HP ca cb lpi ib cm im ix ck;go_wp2
    go_roundw
    case rel=>exact⟨j+1,by omega,by go_num,HI2,HQ⟩
    case measure=>simp[intOf];omega
   | true =>
    by_cases hok:0≤FV ⟨(k:Int),n,a,p,d⟩ j∧FV ⟨(k:Int),n,a,p,d⟩ j≤Ku j
    ·have HI2:Hid (inB ⟨(k:Int),n,a,p,d⟩ (j+1)=true):=by unfold Hid;rw[inB,HI.out,decide_eq_true hok];simp
     rw[hu]at cm
     generalize FV ⟨(k:Int),n,a,p,d⟩ j=v at hok ca;generalize Ku j=B at cb hok;have v0:¬ v<0:=by omega
     have v1:¬ B<v:=by omega
     have hdd:(decide (v<0)||decide (B<v))=false:=by simp;omega
     have HDD:Hid ((decide (v<0)||decide (B<v))=false):=hdd;clear hu hdd hok;go_wp2_with fail
     go_quiet (fail)
     rw[HDD.out];have HQ:Hid (Below w.heap.size w (wr.drewN nq)∧(wr.drewN nq).heap[w.heap.size]?=some (.cells (laA (k:Int) n a p y) 68)):=⟨Ag HP.out.1 nq,HP.out.2⟩;clear HP ca cb lpi ib cm im ix ck;go_wp2
     go_roundw
     case rel=>exact⟨j+1,by omega,by go_num,HI2,HQ⟩
     case measure=>simp[intOf];omega
    ·have HF:Hid (inB ⟨(k:Int),n,a,p,d⟩ 3=false):=Mf hu hok hlt;rw[hu]at cm
     generalize FV ⟨(k:Int),n,a,p,d⟩ j=v at hok ca;generalize Ku j=B at cb hok;by_cases v0:v<0
     ·have HV2:Hid (decide (v<0)=true):=decide_eq_true v0;clear hok hu;go_wp2_with fail
      go_quiet (fail)
      have HQ:Hid (Below w.heap.size w (wr.drewN nq)):=Ag HP.out.1 nq;clear HP ca cb lpi ib cm im ix ck;go_wp2
      go_ret;exact⟨by rw[HF.out];rfl,HQ.out⟩
     ·have v1:B<v:=by omega
      clear hok hu;go_wp2_with fail
      go_quiet (fail)
      have HQ:Hid (Below w.heap.size w (wr.drewN nq)):=Ag HP.out.1 nq;clear HP ca cb lpi ib cm im ix ck;go_wp2
      go_ret;exact⟨by rw[HF.out];rfl,HQ.out⟩
  ·obtain rfl:j=3:=by omega
   have hlI:¬ ((3:Nat):Int)<3:=by omega
   go_wp2
   go_ret;exact⟨by rw[HI.out];rfl,HP.out.1⟩
theorem Mc(k:Nat)(h9:k≤9)(n a p:Int)(d:List Int)(hdl:d.length≤140737488351232)(a0:Option Addr)(cp:Nat)(w:World)(tw:LWTab w) :
  Calls prog 67 #[.agg (laA (k:Int) n a p (.slice a0 d.length cp))] w fun e w'=>e=.returned (.bool (EN ⟨(k:Int),n,a,p,d⟩ 3&&(decide (d=[])||decide (k=1))))∧Below w.heap.size w w':=by
 obtain⟨W0,hW0⟩:∃ W0,w.alloc (.cells (laA (k:Int) n a p (.slice a0 d.length cp)) 68)=W0:=⟨_,rfl⟩;have r0:W0.heap[w.heap.size]?=some (.cells (laA (k:Int) n a p (.slice a0 d.length cp)) 68):=by rw[← hW0];exact heap_alloc_new _ _
 have bW:Below w.heap.size w W0:=by rw[← hW0];exact(Below.refl _ _).alloc (Nat.le_refl _) _
 have HR:Hid (Below w.heap.size w W0∧W0.heap[w.heap.size]?=some (.cells (laA (k:Int) n a p (.slice a0 d.length cp)) 68)):=⟨bW,r0⟩;clear r0 bW;unfold laA at hW0 ⊢;go_enter func67,ntmps67
 go_wp2_with fail
 clear hW0;refine(G0 w.heap.size W0).mono ?_;rintro e w2 ⟨rfl,b2⟩;have H2:Hid (Below w.heap.size w w2∧w2.heap[w.heap.size]?=some (.cells (laA (k:Int) n a p (.slice a0 d.length cp)) 68)):=⟨HR.out.1.trans (b2.mono HR.out.1.size),(b2.block _ (Array.getElem?_eq_some_iff.1 HR.out.2).1).trans HR.out.2⟩;clear b2 HR;go_wp2_with fail
 go_loopw [6] (fun iv wr=>∃ j:Nat,j≤3∧iv=.int .i64 (j:Int)∧Hid (EN ⟨(k:Int),n,a,p,d⟩ j=true)∧Hid (Below w.heap.size w wr∧wr.heap[w.heap.size]?=some (.cells (laA (k:Int) n a p (.slice a0 d.length cp)) 68))) (fun iv _=>((3:Int)-intOf iv).toNat)
 case atStart=>exact⟨0,by omega,rfl,rfl,H2⟩
 case round =>
  obtain⟨j,hj3,rfl,HI,HP⟩:=hrel;have ck:wr.cell? ⟨w.heap.size,0,none⟩=some (.int .i64 (k:Int)):=by rw[cell_of_row _ _ 0 _ _ _ HP.out.2];rfl
  by_cases hlt:j<3
  ·have hlI:(j:Int)<3:=by omega
   have j0:(0:Int)≤(j:Int):=by omega
   have lpi:=Nv w.heap.size j hlt;have cm:=(tw.below HP.out.1).has k j (by omega) hlt;have im:=Lz k j hlt;have ix:=L2 k (by omega);have ca:=(cell_of_row _ _ (j+1) _ _ _ HP.out.2).trans (QI ⟨(k:Int),n,a,p,d⟩ (.slice a0 d.length cp) hlt);by_cases hv0:FV ⟨(k:Int),n,a,p,d⟩ j=0
   ·have HI2:Hid (EN ⟨(k:Int),n,a,p,d⟩ (j+1)=true):=by unfold Hid;rw[EN,HI.out,decide_eq_true hv0];simp
    rw[hv0]at ca
    clear hv0;go_wp2
    go_roundw
    case rel=>exact⟨j+1,by omega,by go_num,HI2,HP⟩
    case measure=>simp[intOf];omega
   ·cases hu:F7 j (k:Int)with
    | true =>
     have HI2:Hid (EN ⟨(k:Int),n,a,p,d⟩ (j+1)=true):=by unfold Hid;rw[EN,HI.out,hu];rfl
     rw[hu]at cm
     generalize FV ⟨(k:Int),n,a,p,d⟩ j=v at hv0 ca;have hb0:(v != 0)=true:=U0 hv0;clear hu hv0;go_wp2
     go_roundw
     case rel=>exact⟨j+1,by omega,by go_num,HI2,HP⟩
     case measure=>simp[intOf];omega
    | false =>
     have HF:Hid (EN ⟨(k:Int),n,a,p,d⟩ 3=false):=IS hu hv0 hlt;rw[hu]at cm
     generalize FV ⟨(k:Int),n,a,p,d⟩ j=v at hv0 ca;have hb0:(v != 0)=true:=U0 hv0;clear hu hv0;go_wp2
     go_ret;exact⟨by rw[HF.out];rfl,HP.out.1⟩
  ·obtain rfl:j=3:=by omega
   have hlI:¬ ((3:Nat):Int)<3:=by omega
   have cd:wr.cell? ⟨w.heap.size,4,none⟩=some (.slice a0 d.length cp):=by rw[cell_of_row _ _ 4 _ _ _ HP.out.2];rfl
   by_cases hd0:d=[]
   ·have HE:Hid (decide (d=[])=true):=decide_eq_true hd0;have hb:((d.length:Int)==0)=true:=Pc (by rw[hd0];rfl);clear hd0;go_wp2_with fail
    go_ret;exact⟨by rw[HI.out,HE.out];rfl,HP.out.1⟩
   ·have HE:Hid (decide (d=[])=false):=decide_eq_false hd0;have hb:((d.length:Int)==0)=false:=Uz (fun e=>hd0 (List.eq_nil_of_length_eq_zero (by omega)));clear hd0;go_wp2_with fail
    refine(RK (k:Int) wr).mono ?_;rintro e w3 ⟨rfl,rfl⟩;by_cases hk1:k=1
    ·have HK:Hid (decide (k=1)=true):=decide_eq_true hk1;have h1:((k:Int)==1)=true:=Pc (by omega);rw[h1];clear hk1 h1;go_wp2
     go_ret;exact⟨by rw[HI.out,HE.out,HK.out];rfl,HP.out.1⟩
    ·have HK:Hid (decide (k=1)=false):=decide_eq_false hk1;have h1:((k:Int)==1)=false:=Uz (by omega);rw[h1];clear hk1 h1;go_wp2
     go_ret;exact⟨by rw[HI.out,HE.out,HK.out];rfl,HP.out.1⟩
def OM(x:Lac):Int:=if inB x 3=false then 2 else if 2000<x.d.length then 1 else if(EN x 3&&(decide (x.d=[])||decide (x.k=1)))=false then 3 else 0
theorem Ul(k:Nat)(h1:1≤k)(h9:k≤9)(n a p:Int)(d:List Int)(hdl:d.length≤140737488351232)(a0:Option Addr)(cp:Nat)(w:World)(tw:LWTab w)(tb:LBTab w) :
  Calls prog 35 #[.agg (laA (k:Int) n a p (.slice a0 d.length cp))] w fun e w'=>e=.returned (.int .i64 (OM ⟨(k:Int),n,a,p,d⟩))∧Below w.heap.size w w':=by
 obtain⟨W0,hW0⟩:∃ W0,w.alloc (.cells (laA (k:Int) n a p (.slice a0 d.length cp)) 68)=W0:=⟨_,rfl⟩;have r0:W0.heap[w.heap.size]?=some (.cells (laA (k:Int) n a p (.slice a0 d.length cp)) 68):=by rw[← hW0];exact heap_alloc_new _ _
 have bW:Below w.heap.size w W0:=by rw[← hW0];exact(Below.refl _ _).alloc (Nat.le_refl _) _
 have ck:W0.cell? ⟨w.heap.size,0,none⟩=some (.int .i64 (k:Int)):=by rw[cell_of_row _ _ 0 _ _ _ r0];rfl
 have hkk:decide (1≤(k:Int)∧(k:Int)≤9)=true:=decide_eq_true ⟨by omega,by omega⟩;have hlt0:w.heap.size<W0.heap.size:=(Array.getElem?_eq_some_iff.1 r0).1;have r1:=r0;have HB:Hid (Below w.heap.size w W0∧W0.heap[w.heap.size]?=some (.cells (laA (k:Int) n a p (.slice a0 d.length cp)) 68)):=⟨bW,r0⟩;unfold laA at hW0 r1;have R1:Hid _:=r1;have HK1:Hid (decide ((k:Int)=1)=decide (k=1)):=by unfold Hid;rw[decide_eq_decide];omega
 obtain⟨bi,hbi⟩:∃ b,inB ⟨(k:Int),n,a,p,d⟩ 3=b:=⟨_,rfl⟩;obtain⟨bf,hbf⟩:∃ b,(EN ⟨(k:Int),n,a,p,d⟩ 3&&(decide (d=[])||decide (k=1)))=b:=⟨_,rfl⟩;have HE:Hid (OM ⟨(k:Int),n,a,p,d⟩=if bi=false then 2 else if 2000<d.length then 1 else if bf=false then 3 else 0):=by
  unfold Hid OM;simp only;rw[HK1.out,hbi,hbf]
 have HBI:Hid (inB ⟨(k:Int),n,a,p,d⟩ 3=bi):=hbi;have HBF:Hid ((EN ⟨(k:Int),n,a,p,d⟩ 3&&(decide (d=[])||decide (k=1)))=bf):=hbf;clear r0 r1 bW hbi hbf;unfold laA;go_enter func35,ntmps35
 go_wp2_with fail
 clear hW0;refine(Lj (k:Int) W0).mono ?_;rintro e w1 ⟨rfl,rfl⟩;rw[hkk];go_wp2_with (refine wpList_load_row rfl 68 _ rfl w.heap.size rfl 68 _ (0,0) _ R1.out underlying68 rfl Hp ?_)
 refine(Uk k h9 n a p d _ _ (tw.below HB.out.1) (tb.below HB.out.1)).mono ?_;rintro e w2 ⟨rfl,b2⟩;rw[HBI.out];have H2:Hid (Below w.heap.size w w2∧w2.heap[w.heap.size]?=some (.cells (laA (k:Int) n a p (.slice a0 d.length cp)) 68)):=⟨HB.out.1.trans (b2.mono HB.out.1.size),(b2.block _ hlt0).trans HB.out.2⟩;have R2:=H2.out.2;unfold laA at R2;have R3:Hid _:=R2;have cd2:w2.cell? ⟨w.heap.size,4,none⟩=some (.slice a0 d.length cp):=by rw[cell_of_row _ _ 4 _ _ _ H2.out.2];rfl
 clear b2 R2 HB R1 ck hkk;cases bi with
 | false =>
  go_wp2
  go_ret;exact⟨by rw[HE.out];rfl,H2.out.1⟩
 | true =>
  by_cases hd2:(2000:Int)<(d.length:Int)
  ·have HE2:Hid (OM ⟨(k:Int),n,a,p,d⟩=1):=by unfold Hid;rw[HE.out,if_neg (by decide),if_pos (by omega)]
   go_wp2
   go_ret;exact⟨by rw[HE2.out];rfl,H2.out.1⟩
  ·have HE2:Hid (OM ⟨(k:Int),n,a,p,d⟩=if bf=false then 3 else 0):=by unfold Hid;rw[HE.out,if_neg (by decide),if_neg (by omega)]
   go_wp2_with (refine wpList_load_row rfl 68 _ rfl w.heap.size rfl 68 _ (0,0) _ R3.out underlying68 rfl Hp ?_)
   refine(Mc k h9 n a p d hdl a0 cp w2 (tw.below H2.out.1)).mono ?_;rintro e w3 ⟨rfl,b3⟩;rw[HBF.out];have H3:Hid (Below w.heap.size w w3):=H2.out.1.trans (b3.mono H2.out.1.size);clear b3 H2 R3 cd2;cases bf with
   | false =>
    go_wp2
    go_ret;exact⟨by rw[HE2.out];rfl,H3.out⟩
   | true =>
    go_wp2
    go_ret;exact⟨by rw[HE2.out];rfl,H3.out⟩
theorem OL(k n a p:Int)(m:Nat)(hk:¬ (1≤k∧k≤9))(a0:Option Addr)(cp:Nat)(w:World) :
  Calls prog 35 #[.agg (laA k n a p (.slice a0 m cp))] w fun e w'=>e=.returned (.int .i64 4)∧Below w.heap.size w w':=by
 obtain⟨W0,hW0⟩:∃ W0,w.alloc (.cells (laA k n a p (.slice a0 m cp)) 68)=W0:=⟨_,rfl⟩;have r0:W0.heap[w.heap.size]?=some (.cells (laA k n a p (.slice a0 m cp)) 68):=by rw[← hW0];exact heap_alloc_new _ _
 have bW:Below w.heap.size w W0:=by rw[← hW0];exact(Below.refl _ _).alloc (Nat.le_refl _) _
 have ck:W0.cell? ⟨w.heap.size,0,none⟩=some (.int .i64 k):=by rw[cell_of_row _ _ 0 _ _ _ r0];rfl
 have hkk:decide (1≤k∧k≤9)=false:=decide_eq_false hk;have HB:Hid (Below w.heap.size w W0):=bW;unfold laA at hW0;clear r0 bW hk;unfold laA;go_enter func35,ntmps35
 go_wp2_with fail
 clear hW0;refine(Lj k W0).mono ?_;rintro e w1 ⟨rfl,rfl⟩;rw[hkk];go_wp2
 go_ret;exact⟨rfl,HB.out⟩
theorem Rl(x:Lac)(hk:1≤x.k∧x.k≤9):OM x=AQ x:=by
 obtain⟨k,n,a,p,d⟩:=x;simp only at hk;have hl:AQ ⟨k,n,a,p,d⟩=if(D3 k=true∧¬ (0≤n∧n≤4))∨(D0 k=true∧¬ (0≤a∧a≤1048576))∨(DL k=true∧¬ (0≤p∧p≤100000))then 2
   else if 2000<d.length then 1
   else if(D3 k=false∧n≠0)∨(D0 k=false∧a≠0)∨(DL k=false∧p≠0)∨(k≠1∧d≠[])then 3
   else 0:=if_neg (fun e=>e hk)
 have hc:OM ⟨k,n,a,p,d⟩=if inB ⟨k,n,a,p,d⟩ 3=false then 2 else if 2000<d.length then 1 else if(EN ⟨k,n,a,p,d⟩ 3&&(decide (d=[])||decide (k=1)))=false then 3 else 0:=rfl;by_cases h2:(D3 k=true∧¬ (0≤n∧n≤4))∨(D0 k=true∧¬ (0≤a∧a≤1048576))∨(DL k=true∧¬ (0≤p∧p≤100000))
 ·have hi:inB ⟨k,n,a,p,d⟩ 3=false:=by
   rcases h2 with⟨h3,h4⟩|⟨h3,h4⟩|⟨h3,h4⟩
   ·exact Mf (x:=⟨k,n,a,p,d⟩) (j:=0) (m:=3) h3 h4 (by omega)
   ·exact Mf (x:=⟨k,n,a,p,d⟩) (j:=1) (m:=3) h3 h4 (by omega)
   ·exact Mf (x:=⟨k,n,a,p,d⟩) (j:=2) (m:=3) h3 h4 (by omega)
  rw[hl,if_pos h2,hc,if_pos hi]
 ·have hi:inB ⟨k,n,a,p,d⟩ 3=true:=by
   have q1:D3 k=true→0≤n∧n≤4:=fun e=>Decidable.byContradiction fun f=>h2 (.inl ⟨e,f⟩);have q2:D0 k=true→0≤a∧a≤1048576:=fun e=>Decidable.byContradiction fun f=>h2 (.inr (.inl ⟨e,f⟩));have q3:DL k=true→0≤p∧p≤100000:=fun e=>Decidable.byContradiction fun f=>h2 (.inr (.inr ⟨e,f⟩));simp only[inB,Bool.true_and,Bool.and_eq_true,Bool.or_eq_true,Bool.not_eq_true',decide_eq_true_eq];refine⟨⟨?_,?_⟩,?_⟩
   ·cases hu:D3 k with
    | false=>exact .inl hu
    | true=>exact .inr (q1 hu)
   ·cases hu:D0 k with
    | false=>exact .inl hu
    | true=>exact .inr (q2 hu)
   ·cases hu:DL k with
    | false=>exact .inl hu
    | true=>exact .inr (q3 hu)
  rw[hl,if_neg h2,hc,hi,if_neg (by decide)];by_cases h3:2000<d.length
  ·rw[if_pos h3,if_pos h3]
  ·rw[if_neg h3,if_neg h3];by_cases h4:(D3 k=false∧n≠0)∨(D0 k=false∧a≠0)∨(DL k=false∧p≠0)∨(k≠1∧d≠[])
   ·have hf:(EN ⟨k,n,a,p,d⟩ 3&&(decide (d=[])||decide (k=1)))=false:=by
     rcases h4 with⟨h5,h6⟩|⟨h5,h6⟩|⟨h5,h6⟩|⟨h5,h6⟩
     ·rw[IS (x:=⟨k,n,a,p,d⟩) (j:=0) (m:=3) h5 h6 (by omega)];rfl
     ·rw[IS (x:=⟨k,n,a,p,d⟩) (j:=1) (m:=3) h5 h6 (by omega)];rfl
     ·rw[IS (x:=⟨k,n,a,p,d⟩) (j:=2) (m:=3) h5 h6 (by omega)];rfl
     ·rw[decide_eq_false h5,decide_eq_false h6];simp
    rw[if_pos h4,if_pos hf]
   ·have hf:(EN ⟨k,n,a,p,d⟩ 3&&(decide (d=[])||decide (k=1)))=true:=by
     have q1:D3 k=false→n=0:=fun e=>Decidable.byContradiction fun f=>h4 (.inl ⟨e,f⟩);have q2:D0 k=false→a=0:=fun e=>Decidable.byContradiction fun f=>h4 (.inr (.inl ⟨e,f⟩));have q3:DL k=false→p=0:=fun e=>Decidable.byContradiction fun f=>h4 (.inr (.inr (.inl ⟨e,f⟩)));have q4:¬ k=1→d=[]:=fun e=>Decidable.byContradiction fun f=>h4 (.inr (.inr (.inr ⟨e,f⟩)));simp only[EN,Bool.true_and,Bool.and_eq_true,Bool.or_eq_true,decide_eq_true_eq];refine⟨⟨⟨?_,?_⟩,?_⟩,?_⟩
     ·cases hu:D3 k with
      | true=>exact .inl hu
      | false=>exact .inr (q1 hu)
     ·cases hu:D0 k with
      | true=>exact .inl hu
      | false=>exact .inr (q2 hu)
     ·cases hu:DL k with
      | true=>exact .inl hu
      | false=>exact .inr (q3 hu)
     ·by_cases e:k=1
      ·exact .inr e
      ·exact .inl (q4 e)
    rw[if_neg h4,if_neg (fun e=>Bool.noConfusion (hf.symm.trans e))]
theorem Rk(k n a p:Int)(d:List Int)(hdl:d.length≤140737488351232)(a0:Option Addr)(cp:Nat)(w:World)(tw:LWTab w)(tb:LBTab w) :
  Calls prog 35 #[.agg (laA k n a p (.slice a0 d.length cp))] w fun e w'=>e=.returned (.int .i64 (AQ ⟨k,n,a,p,d⟩))∧Below w.heap.size w w':=by
 by_cases hk:1≤k∧k≤9
 ·rw[← Rl _ hk];obtain⟨m,rfl⟩:∃ m:Nat,k=(m:Int):=⟨k.toNat,by omega⟩;exact Ul m (by omega) (by omega) n a p d hdl a0 cp w tw tb
 ·have h:=OL k n a p d.length hk a0 cp w;rw[show AQ ⟨k,n,a,p,d⟩=4 from if_pos hk];exact h
def laV(x:Lac)(y:Value):List Value:=[.int .i64 x.k,.int .i64 x.n,.int .i64 x.a,.int .i64 x.p,y]
def zLa:Value:=.agg #[.int .i64 0,.int .i64 0,.int .i64 0,.int .i64 0,.slice none 0 0]
theorem Yy:(prog.info? 68).map (fun i=>(i.zero,i.size,i.bytes))=some (some zLa,5,56):=by kernel_rfl
def ZN:Lac:=⟨0,0,0,0,[]⟩
structure Sk(w:World)(x:Value)(F:Nat→Lac)(n:Nat):Prop where
 ex:∃ a cap,x=.slice a n cap∧(n=0∨∃ b off,a=some ⟨b,off,none⟩∧b<w.heap.size∧∀ i,i<n→∃ y,w.rangeAt b (off+5*i) (laV (F i) y)∧Sl w y (F i).d)
 len:n≤2513169434916
theorem Sk.below{w w':World}{x:Value}{F:Nat→Lac}{n:Nat}(h:Sk w x F n)(hb:Below w.heap.size w w'):Sk w' x F n:=by
 obtain⟨⟨a,cap,rfl,h1⟩,h2⟩:=h;refine⟨⟨a,cap,rfl,?_⟩,h2⟩;rcases h1 with h1|⟨b,off,ha,hbs,hcell⟩
 ·exact .inl h1
 ·refine .inr ⟨b,off,ha,Nat.lt_of_lt_of_le hbs hb.size,fun i hi=>?_⟩;obtain⟨y,h3,h4⟩:=hcell i hi;exact⟨y,fun j u hj=>(hb.cell (p:=⟨b,off+5*i+j,none⟩) hbs).trans (h3 j u hj),h4.below hb⟩
theorem Sk.shape{w:World}{x:Value}{F:Nat→Lac}{n:Nat}(h:Sk w x F n):∃ a cap,x=.slice a n cap:=by
 obtain⟨⟨a,cap,e,_⟩,_⟩:=h;exact⟨a,cap,e⟩
theorem Sk.spot{w:World}{a:Option Addr}{n cap:Nat}{F:Nat→Lac}(h:Sk w (.slice a n cap) F n)(i:Nat)(hi:i<n):∃ b off xa xm xp,a=some ⟨b,off,none⟩∧b<w.heap.size∧w.rangeAt b (off+5*i) (laV (F i) (.slice xa xm xp))∧Sl w (.slice xa xm xp) (F i).d:=by
 obtain⟨⟨a',cap',e,h1⟩,_⟩:=h;simp only[Value.slice.injEq]at e;obtain⟨rfl,_,rfl⟩:=e;rcases h1 with rfl|⟨b,off,rfl,hb,hcell⟩
 ·omega
 ·obtain⟨y,h3,h4⟩:=hcell i hi;obtain⟨xa,xp,rfl⟩:=h4.shapeT;exact⟨b,off,xa,_,xp,rfl,hb,h3,h4⟩
def acL(F:Nat→Lac)(Y:Nat→Value):Nat→List Value
 | 0=>[]
 | n+1=>acL F Y n++laV (F n) (Y n)
theorem FL(F:Nat→Lac)(Y:Nat→Value)(n:Nat):(acL F Y n).length=5*n:=by
 induction n with
 | zero=>rfl
 | succ n ih=>rw[acL,List.length_append,ih];show _+5=_;omega
theorem VI(F:Nat→Lac)(Y:Nat→Value){n i j:Nat}{u:Value}(hi:i<n)(hj:(laV (F i) (Y i))[j]?=some u):(acL F Y n)[5*i+j]?=some u:=by
 have hj8:j<5:=(List.getElem?_eq_some_iff.1 hj).1;induction n with
 | zero=>omega
 | succ n ih =>
  rw[acL];by_cases e:i=n
  ·subst e;rw[List.getElem?_append_right (by rw[FL];omega),FL,show 5*i+j-5*i=j by omega];exact hj
  ·rw[List.getElem?_append_left (by rw[FL];omega)];exact ih (by omega)
theorem Rd{F F':Nat→Lac}{Y Y':Nat→Value}{n:Nat}(h:∀ i,i<n→Y i=Y' i)(g:∀ i,i<n→F i=F' i):acL F Y n=acL F' Y' n:=by
 induction n with
 | zero=>rfl
 | succ n ih=>rw[acL,acL,ih (fun i hi=>h i (by omega)) (fun i hi=>g i (by omega)),h n (by omega),g n (by omega)]
def laY(Y:Nat→Value)(n:Nat)(v:Value):Nat→Value:=fun i=>if i=n then v else Y i
theorem Ub(Y:Nat→Value)(n:Nat)(v:Value):laY Y n v n=v:=if_pos rfl
theorem Uc(Y:Nat→Value){n i:Nat}(v:Value)(h:i≠n):laY Y n v i=Y i:=if_neg h
def He(w:World)(F:Nat→Lac)(Y:Nat→Value)(n:Nat):Prop:=∀ i,i<n→w.ownsRow 0 5 1 (Y i) (F i).d.length ((F i).d.map (Value.int .u8))∧(F i).d.length≤140737488351232∧∀ x∈(F i).d,0≤x∧x<256
theorem He.below{w w':World}{F:Nat→Lac}{Y:Nat→Value}{n:Nat}(h:He w F Y n)(b:Below w.heap.size w w'):He w' F Y n:=fun i hi =>
 ⟨AT (h i hi).1 (fun k hk=>b.block k ((h i hi).1.lt k hk).2),(h i hi).2⟩
theorem He.grown{w w':World}{F:Nat→Lac}{Y:Nat→Value}{n:Nat}(h:He w F Y n){b e k m:Nat}{u:Value}{ys:List Value}(hu:w.ownsRow b e k u m ys)(he:5≠e)(hg:w.grownBy w' u.ownBlock):He w' F Y n:=fun i hi =>
 ⟨I5 (h i hi).1 hg (LA (h i hi).1 hu he),(h i hi).2⟩
theorem Ud{w:World}{base e m n:Nat}{v:Value}{us:List Value}(h:w.ownsRow base e m v n us)(hn:0<n):∃ b cap,v=.slice (some ⟨b,0,none⟩) n cap∧b<w.heap.size∧base≤b∧∀ j u,us[j]?=some u→w.cell? ⟨b,j,none⟩=some u:=by
 rcases h.2 with⟨_,h0⟩|⟨q,cap,cur,rfl,hb,hg,_⟩
 ·omega
 ·refine⟨q,cap,rfl,(Array.getElem?_eq_some_iff.1 hg).1,hb,fun j u hj=>?_⟩;have h1:=h.cells (g:=q) rfl j u hj;have hadd:(⟨q,0,none⟩:Addr).add j=⟨q,j,none⟩:=by unfold Addr.add;split<;>simp_all
  rwa [hadd]at h1
theorem Sk.ofAc{w:World}{base n:Nat}{v:Value}{F:Nat→Lac}{Y:Nat→Value}(h:w.ownsRow base 68 5 v n (acL F Y n))(hs:He w F Y n)(hn:n≤2513169434916):Sk w v F n:=by
 refine⟨?_,hn⟩;by_cases h0:n=0
 ·obtain⟨g,c,rfl⟩:=AD h;exact⟨g,c,rfl,.inl h0⟩
 ·obtain⟨b,cap,rfl,hb,_,hr⟩:=Ud h (by omega);refine⟨_,cap,rfl,.inr ⟨b,0,rfl,hb,fun i hi=>⟨Y i,fun j u hj=>?_,Sl.ofOwns (hs i hi).1 (hs i hi).2.1 (hs i hi).2.2⟩⟩⟩;rw[Nat.zero_add];exact hr _ _ (VI F Y hi hj)
theorem Yq:prog.elem 36=68:=by kernel_rfl
theorem YW(w:World):(Go.sizeOf 68).run prog w=.ok 5 w:=by
 have h:(prog.info? 68).map (·.size)=some 5:=by kernel_rfl
 cases hi:prog.info? 68 with
 | none=>rw[hi]at h;cases h
 | some i =>
  rw[hi]at h
  simp at h;simp[sizeOf,typeInfo,hi,h]
theorem Fx(b o n c:Nat)(i:Nat)(hi:i<n)(w:World):(Instr.indexAt 36 (.slice (some ⟨b,o,none⟩) n c) (.int .i64 (i:Int))).run prog w=.ok (.pointer (some ⟨b,o+5*i,none⟩)) w:=by
 rw[run_indexAt_slice (P:=prog) w 36 _ n c .i64 _ underlying36,if_pos ⟨by omega,by omega⟩,Yq,YW];simp[Result.andThen,Addr.add_mid,Nat.mul_comm]
end Go.Proofs.YtakgfdbjgeopdaaGreatDoor
