/- Part 34 of the walk: what the functions of the program do, one by one. -/
import Derived.Test.YtakgfdbjgeopdaaGreatDoorZ33
set_option maxRecDepth 100000
set_option maxHeartbeats 4000000
open Go.Proofs.Tryz
set_option linter.unusedVariables false
namespace Go.Proofs.YtakgfdbjgeopdaaGreatDoor
open Go.RowKit
def OV(l:List Int)(j:Nat):List Int:=(List.range 5).map fun i=>if i<j then Ad l (4*i)else 0
def rowOf(m:List Int):Array Value:=(m.map (Value.int .i64)).toArray
theorem T1(l:List Int)(j:Nat)(hj:j<5):(rowOf (OV l j)).setIfInBounds j (.int .i64 (Ad l (4*j)))=rowOf (OV l (j+1)):=by
 rcases(by omega:j=0∨j=1∨j=2∨j=3∨j=4)with rfl|rfl|rfl|rfl|rfl
 all_goals rfl
theorem Jp(v:Value)(l:List Int)(w:World)(h:Sl w v l)(ht:NTab w) :
  Calls prog 61 #[v] w fun e w'=>e=.returned (.tuple #[.agg (ID l),.int .i64 (BY l)])∧Below w.heap.size w w':=by
 have hlen:=h.len;obtain⟨a,cp,rfl⟩:=h.shape;by_cases h1:l.length=20
 ·have HE:Hid (BY l=Ba (Ad l 0) (Ad l 4) (Ad l 8) (Ad l 12) (Ad l 16)):=if_neg (fun g=>g h1);have hs:=h;have HL:Hid (l.length=20):=h1;rw[h1]at hs ⊢
  clear h h1 hlen;have b0:Below w.heap.size w (w.alloc (.cells (cmA 0 0 0 0 0) 25)):=(Below.refl _ _).alloc (Nat.le_refl _) _;have z0:(w.alloc (.cells (cmA 0 0 0 0 0) 25)).heap.size=w.heap.size+1:=by simp
  have r0:=heap_alloc_new w (.cells (cmA 0 0 0 0 0) 25);have b1:Below (w.heap.size+1) (w.alloc (.cells (cmA 0 0 0 0 0) 25)) ((w.alloc (.cells (cmA 0 0 0 0 0) 25)).alloc (.cells (cmA 0 0 0 0 0) 25)):=(Below.refl _ _).alloc (by omega) _;have r1:=heap_alloc_new (w.alloc (.cells (cmA 0 0 0 0 0) 25)) (.cells (cmA 0 0 0 0 0) 25);rw[z0]at r1
  replace r0:=(b1.block w.heap.size (by omega)).trans r0;have d1:=b0.trans (b1.mono (Nat.le_succ _));have z1:((w.alloc (.cells (cmA 0 0 0 0 0) 25)).alloc (.cells (cmA 0 0 0 0 0) 25)).heap.size=w.heap.size+1+1:=by simp
  have hW:(w.alloc (.cells #[.int .i64 0,.int .i64 0,.int .i64 0,.int .i64 0,.int .i64 0] 25)).alloc (.cells #[.int .i64 0,.int .i64 0,.int .i64 0,.int .i64 0,.int .i64 0] 25)=(w.alloc (.cells (cmA 0 0 0 0 0) 25)).alloc (.cells (cmA 0 0 0 0 0) 25):=rfl;clear b0 b1 z0;generalize (w.alloc (.cells (cmA 0 0 0 0 0) 25)).alloc (.cells (cmA 0 0 0 0 0) 25)=W at r0 r1 d1 z1 hW;go_enter func61,ntmps61
  go_wp2_with fail
  clear hW;refine(FD (w.heap.size+1) W).mono ?_;rintro e w2 ⟨rfl,b2⟩;replace r0:=(b2.block w.heap.size (by omega)).trans r0;replace r1:=(b2.block (w.heap.size+1) (by omega)).trans r1;have d2:=d1.trans (b2.mono d1.size);have HR0:Hid _:=r0;have HR1:Hid (w2.heap[w.heap.size+1]?=some (.cells (rowOf (OV l 0)) 25)):=r1;clear r0 r1 b2 d1 z1;have hix:=Oa (w.heap.size+1);go_wp2_with fail
  go_loopw [13] (fun iv wr=>∃ j:Nat,j≤5∧iv=.int .i64 (j:Int)∧wr.heap[w.heap.size]?=some (.cells (cmA 0 0 0 0 0) 25)∧wr.heap[w.heap.size+1]?=some (.cells (rowOf (OV l j)) 25)∧Below w.heap.size w wr) (fun iv _=>(5-intOf iv).toNat)
  case atStart=>exact⟨0,by omega,rfl,HR0.out,HR1.out,d2⟩
  case round =>
   obtain⟨j,hj,rfl,hr0,hr1,hbel⟩:=hrel;clear HR0 HR1;by_cases hj5:j<5
   ·have hji:(j:Int)<5:=by omega
    have hij:=hix j hj5;have hcell:∃ x,wr.cell? ⟨w.heap.size+1,j,none⟩=some (.int .i64 x):=⟨(OV l j).getD j 0,(cell_of_row _ _ j _ _ _ hr1).trans (by simp[rowOf,OV,hj5])⟩;obtain⟨x,hx⟩:=hcell;have hfz:=frozen_of_row wr _ j _ _ hr1;have HR0:Hid _:=hr0;have HR1:Hid _:=hr1;have HS:=T1 l j hj5;clear hix hr0 hr1;go_wp2_with fail
    refine(GC (.slice a 20 cp) l (4*j) wr (hs.below hbel) (by rw[HL.out];omega) _ (by omega)).mono ?_;rintro e w5 ⟨rfl,rfl⟩;have q0:(w5.setCell ⟨w.heap.size+1,j,none⟩ (.int .i64 (Ad l (4*j)))).heap[w.heap.size]?=some (.cells (cmA 0 0 0 0 0) 25):=(heap_setCell_other _ _ _ _ (by simp)).trans HR0.out;have q1:(w5.setCell ⟨w.heap.size+1,j,none⟩ (.int .i64 (Ad l (4*j)))).heap[w.heap.size+1]?=some (.cells (rowOf (OV l (j+1))) 25):=by
     rw[heap_setCell_same _ _ _ _ _ _ HR1.out,HS]
    have q2:Below w.heap.size w (w5.setCell ⟨w.heap.size+1,j,none⟩ (.int .i64 (Ad l (4*j)))):=hbel.setCell (p:=⟨w.heap.size+1,j,none⟩) (Nat.le_succ _) _;have Q0:Hid _:=q0;have Q1:Hid _:=q1;clear HS q0 q1 HR0 HR1;generalize Ad l (4*j)=X at Q0 Q1 q2 ⊢;go_wp2
    go_roundw
    case rel=>exact⟨j+1,by omega,by go_num,Q0.out,Q1.out,q2⟩
    case measure=>simp[intOf];omega
   ·obtain rfl:j=5:=by omega
    rw[show((5:Nat):Int)=5 from rfl];have hr1':wr.heap[w.heap.size+1]?=some (.cells (cmA (Ad l 0) (Ad l 4) (Ad l 8) (Ad l 12) (Ad l 16)) 25):=hr1;clear hr1 hix;have HV0:Hid (BY l=0→ID l=cmA (Ad l 0) (Ad l 4) (Ad l 8) (Ad l 12) (Ad l 16)):=fun h=>if_pos h;have HV1:Hid (¬ BY l=0→ID l=cmA 0 0 0 0 0):=fun h=>if_neg h;have hT:=ht.below hbel;generalize Ad l 0=k at HE HV0 hr1';generalize Ad l 4=c at HE HV0 hr1';generalize Ad l 8=s at HE HV0 hr1';generalize Ad l 12=n at HE HV0 hr1';generalize Ad l 16=v at HE HV0 hr1';have hi:=Fp k c s n v;have hi0:=Fp 0 0 0 0 0;have lt1:=(Array.getElem?_eq_some_iff.1 hr1').1;go_wp2_with (refine wpList_load_row rfl 25 _ rfl (w.heap.size+1) rfl 25 _ (0,0) _ hr1' underlying25 rfl hi ?_)
    refine(Dp k c s n v wr hT).mono ?_;rintro e w6 ⟨rfl,b6⟩;have d6:=hbel.trans (b6.mono hbel.size);have q0:=(b6.block w.heap.size (by omega)).trans hr0;have q1:=(b6.block (w.heap.size+1) lt1).trans hr1';clear hr0 hr1' b6 hT hbel;by_cases h2:Ba k c s n v=0
    ·have HZ:Hid (BY l=0):=HE.out.trans h2;have HV:Hid (ID l=cmA k c s n v):=HV0.out HZ.out;rw[h2];clear h2 HE HV0 HV1;go_wp2_with (first|(refine wpList_load_row rfl 25 _ rfl (w.heap.size+1) rfl 25 _ (0,0) _ q1 underlying25 rfl hi ?_)|(refine wpList_store_row rfl 25 (.tmp 2) (.tmp 30) rfl w.heap.size (cmA k c s n v) rfl rfl 25 _ q0 hi rfl (Qx k c s n v) ?_))
     have r2:=setRow_heap w6 w.heap.size _ (cmA k c s n v) 25 _ q0;refine bodyPost_ret (Iv rfl _ _ w.heap.size 25 _ (0,0) _ rfl r2 underlying25 rfl hi) rfl ?_;rw[HZ.out,HV.out];exact⟨rfl,BM d6 (Nat.le_refl _) _⟩
    ·have HZ:Hid (BY l=Ba k c s n v):=HE.out;have HV:Hid (ID l=cmA 0 0 0 0 0):=HV1.out (by rw[HE.out];exact h2);clear HE HV0 HV1;go_wp2_with (refine wpList_store_row rfl 25 (.tmp 2) (.tmp 28) rfl w.heap.size (cmA 0 0 0 0 0) rfl rfl 25 _ q0 hi0 rfl (Qx 0 0 0 0 0) ?_)
     have r2:=setRow_heap w6 w.heap.size _ (cmA 0 0 0 0 0) 25 _ q0;refine bodyPost_ret (Iv rfl _ _ w.heap.size 25 _ (0,0) _ rfl r2 underlying25 rfl hi0) rfl ?_;rw[HZ.out,HV.out];exact⟨rfl,BM d6 (Nat.le_refl _) _⟩
 ·have h1':¬ (l.length:Int)=20:=by omega
  have HE:Hid (BY l=1):=if_pos h1;have HV:Hid (ID l=cmA 0 0 0 0 0):=if_neg (by rw[HE.out];omega);have bb:Below w.heap.size w (w.alloc (.cells (cmA 0 0 0 0 0) 25)):=(Below.refl _ _).alloc (Nat.le_refl _) _;have bc:=Bc.made w 0 0 0 0 0;go_enter func61,ntmps61
  go_wp2
  refine bodyPost_ret (Iv rfl _ _ w.heap.size 25 _ (0,0) _ rfl (heap_alloc_new _ _) underlying25 rfl (Fp 0 0 0 0 0)) rfl ?_;rw[HE.out,HV.out];exact⟨rfl,bb⟩
theorem GU(c r u:Int):(tkA c r u).all (·.oneCell')=true:=by simp[tkA,Value.oneCell']
theorem O3(v:Value)(l:List Int)(w:World)(h:Sl w v l)(hl:6≤l.length) :
  Calls prog 98 #[v] w fun e w'=>e=.returned (.agg (tkA (l.getD 0 0) (l.getD 1 0) (Ad l 2)))∧Below w.heap.size w w':=by
 have hlen:=h.len;obtain⟨a,cp,rfl⟩:=h.shape;have bb:Below w.heap.size w (w.alloc (.cells (tkA 0 0 0) 23)):=(Below.refl _ _).alloc (Nat.le_refl _) _;have rr:=heap_alloc_new w (.cells (tkA 0 0 0) 23);have hs:=h.below bb;have hW:w.alloc (.cells #[.int .i64 0,.int .i64 0,.int .i64 0] 23)=w.alloc (.cells (tkA 0 0 0) 23):=rfl;generalize w.alloc (.cells (tkA 0 0 0) 23)=W0 at bb rr hs hW;obtain⟨bd,od,rfl,hbd,x0⟩:=hs.spotO 0 (by omega);obtain⟨bd1,od1,e1,_,x1⟩:=hs.spotO 1 (by omega);simp only[Option.some.injEq,Addr.mk.injEq,and_true]at e1;obtain⟨rfl,rfl⟩:=e1;rw[Nat.add_zero]at x0
 have y0:=Ak h.byte 0;have y1:=Ak h.byte 1;have i0:(0:Int)<(l.length:Int):=by omega
 have i1:(1:Int)<(l.length:Int):=by omega
 have hN:Calls prog 99 #[.slice (some ⟨bd,od,none⟩) l.length cp,.int .i64 2] W0.drew fun e w'=>e=.returned (.int .i64 (Ad l 2))∧w'=W0.drew :=
  GC _ l 2 _ (hs.below (Below.refl _ _).drew) (by omega) 2 rfl
 have HN:Hid _:=hN;clear hN;generalize l.getD 0 0=b0 at x0 y0;generalize l.getD 1 0=b1 at x1 y1;generalize Ad l 2=b2 at HN;generalize l.length=N at hlen hl i0 i1 HN ⊢;clear h hs;have hi:=IW b0 b1 b2;go_enter func98,ntmps98
 go_wp2_with fail
 refine Aq 11 (by kernel_rfl) (by kernel_rfl) ?_;simp only[List.take_succ_cons,List.take_zero,List.drop_succ_cons,List.drop_zero]
 repeat (go_big_quiet_step (fail))
 go_big_quiet_want
 go_big_quiet_op
 refine⟨_,HN.out,?_⟩
 go_big_quiet_on
 repeat (go_big_quiet_step (fail))
 refine wpQuiet_nil ?_;clear hW;have rr':W0.drew.heap[w.heap.size]?=some (.cells (tkA 0 0 0) 23):=rr;have bb':Below w.heap.size w W0.drew:=bb.drew;clear rr bb x0 x1 HN;generalize W0.drew=W at rr' bb' ⊢;go_wp2_with (refine wpList_store_row rfl 23 (.tmp 2) (.tmp 13) rfl w.heap.size (tkA b0 b1 b2) rfl rfl 23 _ rr' hi rfl (GU b0 b1 b2) ?_)
 have r2:=setRow_heap W w.heap.size _ (tkA b0 b1 b2) 23 _ rr';exact bodyPost_ret (v:=.agg (tkA b0 b1 b2)) (results_cell_row rfl _ _ w.heap.size 23 _ (0,0) _ rfl r2 underlying23 rfl hi) rfl ⟨rfl,BM bb' (Nat.le_refl _) _⟩
def D2(key l:List Int):Int :=
 if key.length≠32∨l.length≠22 then 1
 else if(EQ key (l.take 6)).take 16≠l.drop 6 then 6
 else Xr (l.getD 0 0) (l.getD 1 0) (Ad l 2)
def KA(key l:List Int):Array Value:=if D2 key l=0 then tkA (l.getD 0 0) (l.getD 1 0) (Ad l 2)else tkA 0 0 0
theorem Lv{key l:List Int}(h:key.length≠32∨l.length≠22):D2 key l=1:=if_pos h
theorem UN{key l:List Int}(h1:key.length=32)(h2:l.length=22)(h:¬ (EQ key (l.take 6)).take 16=l.drop 6):D2 key l=6:=by
 unfold D2;rw[if_neg (by omega),if_pos h]
theorem UO{key l:List Int}(h1:key.length=32)(h2:l.length=22)(h:(EQ key (l.take 6)).take 16=l.drop 6):D2 key l=Xr (l.getD 0 0) (l.getD 1 0) (Ad l 2):=by
 unfold D2;rw[if_neg (by omega),if_neg (fun g=>g h)]
theorem QL{key l:List Int}(h:D2 key l=0):KA key l=tkA (l.getD 0 0) (l.getD 1 0) (Ad l 2):=if_pos h
theorem GH{key l:List Int}(h:¬ D2 key l=0):KA key l=tkA 0 0 0:=if_neg h
theorem P8(l:List Int):Ad (l.take 6) 2=Ad l 2:=by
 unfold Ad;rw[AY _ _ _ (by omega),AY _ _ _ (by omega),AY _ _ _ (by omega),AY _ _ _ (by omega)]
theorem Sn(vk vb:Value)(key l:List Int)(w:World)(hk:Sl w vk key)(hb:Sl w vb l)(ht:AI w) :
  Calls prog 60 #[vk,vb] w fun e w'=>e=.returned (.tuple #[.agg (KA key l),.int .i64 (D2 key l)])∧Below w.heap.size w w':=by
 have lk:=hk.len;have ll:=hb.len;obtain⟨ak,ck,rfl⟩:=hk.shape;obtain⟨ab,cb,rfl⟩:=hb.shape;have bb:Below w.heap.size w (w.alloc (.cells (tkA 0 0 0) 23)):=(Below.refl _ _).alloc (Nat.le_refl _) _;have rr:=heap_alloc_new w (.cells (tkA 0 0 0) 23);have hi0:=IW 0 0 0;by_cases h1:key.length=32
 ·by_cases h2:l.length=22
  ·have H1:Hid (key.length=32):=h1;have H2:Hid (l.length=22):=h2;rw[h1]at hk ⊢
   rw[h2]at hb ⊢
   clear lk ll h1 h2;have hW:w.alloc (.cells #[.int .i64 0,.int .i64 0,.int .i64 0] 23)=w.alloc (.cells (tkA 0 0 0) 23):=rfl;generalize w.alloc (.cells (tkA 0 0 0) 23)=W at bb rr hW;obtain⟨a6,c6,r6',s6⟩:=hb.upTo 6 (by have:=H2.out;omega);have r6:∀ W,(Instr.slice 26 (.slice ab 22 cb) none (some (.int .i64 6)) none).run prog W=.ok (.slice a6 6 c6) W:=r6';obtain⟨a7,c7,r7',s7⟩:=hb.from 6 (by have:=H2.out;omega);have r7:∀ W,(Instr.slice 26 (.slice ab 22 cb) (some (.int .i64 6)) none none).run prog W=.ok (.slice a7 16 c7) W:=r7';clear r6' r7';have L6:Hid ((l.take 6).length=6):=by unfold Hid;rw[List.length_take,H2.out];rfl
   go_enter func60,ntmps60
   go_wp2_with fail
   clear hW;refine(Vu _ _ key (l.take 6) W (hk.below bb) (s6.below bb) (by rw[H1.out];omega) (by rw[L6.out];omega) (ht.below bb)).mono ?_;rintro e w1 ⟨v1,rfl,s1,b1⟩;have d1:=bb.trans (b1.mono bb.size);have q1:=(b1.block w.heap.size (Array.getElem?_eq_some_iff.1 rr).1).trans rr;have s71:=s7.below d1;clear b1 bb rr;go_wp2_with fail
   refine(GN v1 (.slice a7 16 c7) _ _ w1 s1 s71).mono ?_;rintro e w2 ⟨rfl,m,rfl⟩;have d2:Below w.heap.size w (w1.drewN m):=Ag d1 m;have q2:(w1.drewN m).heap[w.heap.size]?=some (.cells (tkA 0 0 0) 23):=q1;clear q1 d1 s1 s71;generalize w1.drewN m=W2 at d2 q2 ⊢;by_cases h3:(EQ key (l.take 6)).take 16=l.drop 6
   ·have HE:=UO H1.out H2.out h3;have HV0:Hid (D2 key l=0→KA key l=tkA (l.getD 0 0) (l.getD 1 0) (Ad l 2)):=QL;have HV1:Hid (¬ D2 key l=0→KA key l=tkA 0 0 0):=GH;have HX:Hid ((l.take 6).getD 0 0=l.getD 0 0∧(l.take 6).getD 1 0=l.getD 1 0∧Ad (l.take 6) 2=Ad l 2):=⟨AY _ _ _ (by omega),AY _ _ _ (by omega),P8 l⟩;rw[decide_eq_true h3];clear h3;go_wp2_with fail
    refine(O3 (.slice a6 6 c6) (l.take 6) W2 (s6.below d2) (by rw[L6.out];omega)).mono ?_;rintro e w3 ⟨rfl,b3⟩;rw[HX.out.1,HX.out.2.1,HX.out.2.2];have d3:=d2.trans (b3.mono d2.size);have q3:=(b3.block w.heap.size (Array.getElem?_eq_some_iff.1 q2).1).trans q2;clear b3 q2 d2 HX;generalize l.getD 0 0=c at HE HV0 ⊢;generalize l.getD 1 0=r at HE HV0 ⊢;generalize Ad l 2=u at HE HV0 ⊢;have hi:=IW c r u;have b4:Below w3.heap.size w3 (w3.alloc (.cells (tkA 0 0 0) 23)):=(Below.refl _ _).alloc (Nat.le_refl _) _;have r4:=heap_alloc_new w3 (.cells (tkA 0 0 0) 23);have hW:w3.alloc (.cells #[.int .i64 0,.int .i64 0,.int .i64 0] 23)=w3.alloc (.cells (tkA 0 0 0) 23):=rfl;generalize w3.alloc (.cells (tkA 0 0 0) 23)=W4 at b4 r4 hW;have lt3:w.heap.size<w3.heap.size:=(Array.getElem?_eq_some_iff.1 q3).1
    go_upto_region 10 with(refine wpList_store_row rfl 23 (.tmp 9) (.tmp 38) rfl w3.heap.size (tkA c r u) rfl rfl 23 _ r4 hi rfl (GU c r u) ?_)
    clear hW;have q4:=setRow_heap W4 w3.heap.size _ (tkA c r u) 23 _ r4;replace q3:=((b4.block w.heap.size lt3).trans q3);replace q3:=(setRow_other W4 w3.heap.size w.heap.size (tkA c r u) (by omega)).trans q3;have d4:=BM (d3.trans (b4.mono d3.size)) (show w.heap.size≤w3.heap.size by omega) (tkA c r u);generalize W4.setRow w3.heap.size (tkA c r u)=W5 at q3 q4 d4 ⊢;clear r4 b4 d3;generalize w3.heap.size=G at q4 lt3 ⊢;go_wp2_with (refine wpList_load_row rfl 23 _ rfl G rfl 23 _ (0,0) _ q4 underlying23 rfl hi ?_)
    refine(Ln c r u W5).mono ?_;rintro e w6 ⟨rfl,b6⟩;have d6:=d4.trans (b6.mono d4.size);replace q3:=(b6.block w.heap.size (Array.getElem?_eq_some_iff.1 q3).1).trans q3;replace q4:=(b6.block G (Array.getElem?_eq_some_iff.1 q4).1).trans q4;clear b6 d4;by_cases h4:Ec c r u
    ·have HZ:Hid (D2 key l=0):=HE.trans (Xu h4);have HV:Hid (KA key l=tkA c r u):=HV0.out HZ.out;rw[decide_eq_true h4];clear HE HV0 HV1 h4;go_wp2_with (first|(refine wpList_load_row rfl 23 _ rfl G rfl 23 _ (0,0) _ q4 underlying23 rfl hi ?_)|(refine wpList_store_row rfl 23 (.tmp 4) (.tmp 43) rfl w.heap.size (tkA c r u) rfl rfl 23 _ q3 hi rfl (GU c r u) ?_))
     have r2:=setRow_heap w6 w.heap.size _ (tkA c r u) 23 _ q3;refine bodyPost_ret (Iv rfl _ _ w.heap.size 23 _ (0,0) _ rfl r2 underlying23 rfl hi) rfl ?_;rw[HZ.out,HV.out];exact⟨rfl,BM d6 (Nat.le_refl _) _⟩
    ·have HZ:Hid (D2 key l=2):=HE.trans (Xt h4);have HV:Hid (KA key l=tkA 0 0 0):=HV1.out (by rw[HZ.out];omega);rw[decide_eq_false h4];clear HE HV0 HV1 h4;go_wp2_with (refine wpList_store_row rfl 23 (.tmp 4) (.tmp 42) rfl w.heap.size (tkA 0 0 0) rfl rfl 23 _ q3 hi0 rfl (GU 0 0 0) ?_)
     have r2:=setRow_heap w6 w.heap.size _ (tkA 0 0 0) 23 _ q3;refine bodyPost_ret (Iv rfl _ _ w.heap.size 23 _ (0,0) _ rfl r2 underlying23 rfl hi0) rfl ?_;rw[HZ.out,HV.out];exact⟨rfl,BM d6 (Nat.le_refl _) _⟩
   ·have HZ:Hid (D2 key l=6):=UN H1.out H2.out h3;have HV:Hid (KA key l=tkA 0 0 0):=GH (by rw[HZ.out];omega);rw[decide_eq_false h3];clear h3;go_wp2_with (refine wpList_store_row rfl 23 (.tmp 4) (.tmp 36) rfl w.heap.size (tkA 0 0 0) rfl rfl 23 _ q2 hi0 rfl (GU 0 0 0) ?_)
    have r2:=setRow_heap W2 w.heap.size _ (tkA 0 0 0) 23 _ q2;refine bodyPost_ret (Iv rfl _ _ w.heap.size 23 _ (0,0) _ rfl r2 underlying23 rfl hi0) rfl ?_;rw[HZ.out,HV.out];exact⟨rfl,BM d2 (Nat.le_refl _) _⟩
  ·have h2':¬ (l.length:Int)=22:=by omega
   have HZ:Hid (D2 key l=1):=Lv (.inr h2);have HV:Hid (KA key l=tkA 0 0 0):=GH (by rw[HZ.out];omega);rw[h1]at hk ⊢
   clear h1;go_enter func60,ntmps60
   go_wp2
   refine bodyPost_ret (Iv rfl _ _ w.heap.size 23 _ (0,0) _ rfl (heap_alloc_new _ _) underlying23 rfl hi0) rfl ?_;rw[HZ.out,HV.out];exact⟨rfl,bb⟩
 ·have h1':¬ (key.length:Int)=32:=by omega
  have HZ:Hid (D2 key l=1):=Lv (.inl h1);have HV:Hid (KA key l=tkA 0 0 0):=GH (by rw[HZ.out];omega);go_enter func60,ntmps60
  go_wp2
  refine bodyPost_ret (Iv rfl _ _ w.heap.size 23 _ (0,0) _ rfl (heap_alloc_new _ _) underlying23 rfl hi0) rfl ?_;rw[HZ.out,HV.out];exact⟨rfl,bb⟩
end Go.Proofs.YtakgfdbjgeopdaaGreatDoor
namespace Go.Proofs.YtakgfdbjgeopdaaGreatDoor
def NK(l:List Int):Int:=if l=[]then 13 else if 7<l.getD 0 0 then 2 else BS (K3 (l.getD 0 0)) 0 0 noB (l.drop 1)
def Mr(l:List Int):List Int:=if NK l=0 then I6 (K3 (l.getD 0 0)) (l.drop 1)else[]
def unT(l:List Int):List Int:=(Mr l).take 22
def unQ(l:List Int):List Int:=(Mr l).drop 22
def unB(l:List Int):Prop:=NK l=0∧(Mr l).length=42∧D2 Mh (unT l)=0
instance (l:List Int):Decidable (unB l):=by unfold unB;exact inferInstance
def unE(l:List Int):Int:=if NK l≠0 then NK l else if(Mr l).length≠42 then 3 else if D2 Mh (unT l)≠0 then D2 Mh (unT l)else BY (unQ l)
theorem V3{l:List Int}(h:unE l=0):unB l∧BY (unQ l)=0:=by
 unfold unE at h;split at h
 ·rename_i g;exact absurd h g
 ·rename_i g1
  split at h
  ·cases h
  ·rename_i g2
   split at h
   ·rename_i g;exact absurd h g
   ·rename_i g3
    exact⟨⟨Decidable.not_not.1 g1,Decidable.not_not.1 g2,Decidable.not_not.1 g3⟩,h⟩
theorem aT{l:List Int}(h:unE l=0):0<l.length:=by
 obtain⟨⟨h1,_⟩,_⟩:=V3 h;cases l with
 | nil=>cases h1
 | cons x r=>simp
def opE(l:List Int)(now:Int):Int :=
 if unE l≠0 then unE l
 else if Ad (unQ l) 0≠0∧Ad (unQ l) 4≠l.getD 0 0 then 11
 else DO ((unT l).getD 0 0) ((unT l).getD 1 0) (Ad (unT l) 2) (Ad (unQ l) 0) (Ad (unQ l) 4) (Ad (unQ l) 8) (Ad (unQ l) 12) (Ad (unQ l) 16) now
def opA(l:List Int)(now:Int):Array Value:=if opE l now=0 then cmA (Ad (unQ l) 0) (Ad (unQ l) 4) (Ad (unQ l) 8) (Ad (unQ l) 12) (Ad (unQ l) 16)else cmA 0 0 0 0 0
theorem Mq{l:List Int}{now:Int}(h:opE l now≠0):opA l now=cmA 0 0 0 0 0:=if_neg h
theorem U9{l:List Int}{now:Int}(h:opE l now=0):opA l now=cmA (Ad (unQ l) 0) (Ad (unQ l) 4) (Ad (unQ l) 8) (Ad (unQ l) 12) (Ad (unQ l) 16):=if_pos h
def Nod.askd(p:Nod)(i:Nat):Nod × List Let :=
 if(CP p.vo.p p.asked (p.wants.take 40)).1=[]then({ p with asked:=(CP p.vo.p p.asked (p.wants.take 40)).2 },[])
 else if p.vo.p.n=(i:Int)then(Nod.enqueue { p with asked:=(CP p.vo.p p.asked (p.wants.take 40)).2 } (CP p.vo.p p.asked (p.wants.take 40)).1,[])
 else({ p with asked:=(CP p.vo.p p.asked (p.wants.take 40)).2 },[{ Ca 6 with slot:=p.agreed.length,what:=(CP p.vo.p p.asked (p.wants.take 40)).1,src:=i,dst:=p.vo.p.n.toNat }])
noncomputable def doP(i:Nat):List Cmd→Nod→List Tol→Nod × List Tol
 | [],p,ts=>(p,ts)
 | c::l,p,ts =>
  if doE p.sto c≠0 then(p,ts)
  else doP i l (Nod.unwant { p with sto:=doS p.sto c,done:=p.done+1 } c) (if(p.asked c).isSome=true then ts++[⟨i,c.c,c.s,doC p.sto c,doA p.sto c⟩]else ts)
def Nod.syncd(p:Nod)(i:Nat)(ls:List Let):Nod × List Let:=if p.sy<(p.d.length:Int)∧Dx p.d p.sy≠0 then(p,ls)else Cq i p.pend { p.syn with pend:=[] } ls
def Nod.taught(p:Nod)(i:Nat)(ls:List Let):Nod × List Let:=if p.leads then(IP p i 5,ls++DJ p i 5)else(p,ls)
noncomputable def Nod.piece(p:Nod)(i:Nat)(ls:List Let)(ts:List Tol):Nod × List Let × List Tol :=
 let a:=doP i (p.agreed.drop p.done) p ts
 let b:=a.1.askd i
 let c:=b.1.propose.syncd i (ls++b.2)
 let d:=c.1.taught i c.2
 (d.1,d.2,a.2)
noncomputable def Nod.sub0(p:Nod)(i:Nat)(e:Int)(c:Cmd)(ts:List Tol):Nod × List Tol :=
 if p.up=false then(p,ts)
 else if e≠0 then({ p with bad:=p.bad+1 },ts)
 else if c∈p.agreed.take p.done then(p,ts++[⟨i,c.c,c.s,doC p.sto c,doA p.sto c⟩])
 else(p.want c,ts)
def Sc(l:List Int)(now:Int):Cmd:=if opE l now=0 then⟨Ad (unQ l) 0,Ad (unQ l) 4,Ad (unQ l) 8,Ad (unQ l) 12,Ad (unQ l) 16⟩else Rn
theorem YG(l:List Int)(now:Int):opA l now=cmC (Sc l now):=by unfold opA Sc;split<;>rfl
noncomputable def Nod.subm(p:Nod)(i:Nat)(d:List Int)(ts:List Tol):Nod × List Tol:=p.sub0 i (opE d (p.done:Int)) (Sc d (p.done:Int)) ts
def Meet.set(M:Meet)(i:Nat)(p:Nod)(ls:List Let)(ts:List Tol):Meet:=⟨upN M.node i p,ls,ts⟩
noncomputable def Meet.act(M:Meet)(x:Lac):Meet :=
 let i:=x.n.toNat
 if x.k=1 then M.set i ((M.node i).subm i x.d M.told).1 M.lets ((M.node i).subm i x.d M.told).2
 else if x.k=2 then M.set i (if(M.node i).up then(M.node i).lead i else M.node i) M.lets M.told
 else if x.k=3 then M.set i (if(M.node i).up then((M.node i).piece i M.lets M.told).1 else M.node i) (if(M.node i).up then((M.node i).piece i M.lets M.told).2.1 else M.lets) (if(M.node i).up then((M.node i).piece i M.lets M.told).2.2 else M.told)
 else if x.k=4∨x.k=5∨x.k=6 then M.move x.k x.a.toNat
 else if x.k=7 then M.comeAll
 else if x.k=8 then M.set i (if(M.node i).up then(M.node i).crash x.p else M.node i) M.lets M.told
 else if x.k=9 then M.set i (if(M.node i).up then M.node i else(M.node i).start) M.lets M.told
 else M
noncomputable def Meet.acts(M:Meet)(l:List Lac):Meet:=l.foldl Meet.act M
end Go.Proofs.YtakgfdbjgeopdaaGreatDoor
