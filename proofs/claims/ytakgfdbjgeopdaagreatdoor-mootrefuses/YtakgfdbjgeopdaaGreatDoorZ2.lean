/- Part 2 of the walk: what the functions of the program do, one by one. -/
import Derived.Test.YtakgfdbjgeopdaaGreatDoorZ1
set_option maxRecDepth 100000
set_option maxHeartbeats 4000000
open Go.Proofs.Tryz
namespace Go.Proofs.YtakgfdbjgeopdaaGreatDoor
open Go.RowKit
theorem Hz(x:BitVec 32)(h:uw x<256):uw x*16777216=uw (x <<< 24)∧uw x*65536=uw (x <<< 16)∧uw x*256=uw (x <<< 8):=by
 have h0:=CV x;have e24:=Fg x 24;have e16:=Fg x 16;have e8:=Fg x 8;rw[← e24,← e16,← e8];refine⟨?_,?_,?_⟩
 ·rw[show(2:Int)^24=16777216 from rfl];omega
 ·rw[show(2:Int)^16=65536 from rfl];omega
 ·rw[show(2:Int)^8=256 from rfl];omega
theorem FF(g off n cap:Nat)(ws:List (BitVec 32))(v:Value)(l:List Int)(w:World)(hw:w.heap[g]?=some (.cells (Av ws) 233 (0,0)))(hws:ws.length=16)(hoff:off+n≤16)(hn0:0<n)
  (h:Sl w v l)(hl:l.length=4*n)(hvb:∀ b o m c,v=.slice (some ⟨b,o,none⟩) m c→b<g) :
  Calls prog 221 #[.slice (some ⟨g,off,none⟩) n cap,v] w fun e w'=>e=.returned (.tuple #[])∧w'.heap[g]?=some (.cells (Av (CT ws off l n)) 233 (0,0))∧Below g w w':=by
 obtain⟨⟨a,cap',rfl,hc,hn,h1⟩,hla,hba⟩:=h;rcases h1 with rfl|⟨b,o,rfl,hb,hcell⟩
 ·simp at hl;omega
 have hbg:=hvb _ _ _ _ rfl;clear hvb;rw[hl]at hc hla hcell ⊢
 have HC:Hid (∀ i,i<4*n→w.cell? ⟨b,o+i,none⟩=some (.int .u8 (uw (BR (l.getD i 0))))):=fun i hi=>by rw[IX _ (Ak hba i)];exact hcell i hi
 have HB:Hid (∀ i,uw (BR (l.getD i 0))<256):=fun i=>by rw[IX _ (Ak hba i)];exact(Ak hba i).2
 clear hl hn hcell hba;go_enter func221,ntmps221
 go_wp2_with fail
 go_loopw [7] (fun i wr=>∃ k:Nat,k≤n∧i=.int .i64 k∧wr.heap[g]?=some (.cells (Av (CT ws off l k)) 233 (0,0))∧Below g w wr) (fun i _=>n-(intOf i).toNat)
 case atStart=>exact⟨0,by omega,rfl,hw,Below.refl _ _⟩
 case round =>
  clear hw;obtain⟨k,hk,rfl,hW,hbel⟩:=hrel;by_cases hkn:k<n
  ·have hfw:wr.frozen? ⟨g,off+k,none⟩=false:=frozen_of_row wr _ (off+k) _ _ hW;have hz:=Bw (CT ws off l k) (off+k) (by rw[CY];omega);have hcw:wr.cell? ⟨g,off+k,none⟩=some (.int .u32 (uw ((CT ws off l k).getD (off+k) 0#32))):=(cell_of_row wr _ (off+k) _ _ _ hW).trans hz;have c0:=(hbel.cell (p:=⟨b,o+(4*k),none⟩) hbg).trans (HC.out (4*k) (by omega));have c1:=(hbel.cell (p:=⟨b,o+(4*k+1),none⟩) hbg).trans (HC.out (4*k+1) (by omega));have c2:=(hbel.cell (p:=⟨b,o+(4*k+2),none⟩) hbg).trans (HC.out (4*k+2) (by omega));have c3:=(hbel.cell (p:=⟨b,o+(4*k+3),none⟩) hbg).trans (HC.out (4*k+3) (by omega));have l0:=HB.out (4*k);have l1:=HB.out (4*k+1);have l2:=HB.out (4*k+2);have l3:=HB.out (4*k+3);obtain⟨wd,HW,HV⟩:∃ wd,Hid (wd=VF l k)∧Hid (CT ws off l (k+1)=(CT ws off l k).set (off+k) wd):=⟨_,rfl,rfl⟩;unfold VF at HW;generalize BR (l.getD (4*k) 0)=x0 at c0 l0 HW;generalize BR (l.getD (4*k+1) 0)=x1 at c1 l1 HW;generalize BR (l.getD (4*k+2) 0)=x2 at c2 l2 HW;generalize BR (l.getD (4*k+3) 0)=x3 at c3 l3 HW;obtain⟨y1,s1,e1⟩:∃ y,uw x1*256=uw y∧x1 <<< 8=y:=⟨_,(Hz x1 l1).2.2,rfl⟩;obtain⟨y2,s2,e2⟩:∃ y,uw x2*65536=uw y∧x2 <<< 16=y:=⟨_,(Hz x2 l2).2.1,rfl⟩;obtain⟨y3,s3,e3⟩:∃ y,uw x3*16777216=uw y∧x3 <<< 24=y:=⟨_,(Hz x3 l3).1,rfl⟩;rw[e1,e2,e3]at HW
   clear e1 e2 e3;have z0:=CV x0;have z1:=CV x1;have z2:=CV x2;have z3:=CV x3;clear hz;go_wp2_with fail
   refine Aq 36 (by kernel_rfl) (by kernel_rfl) ?_;simp only[List.take_succ_cons,List.take_zero,List.drop_succ_cons,List.drop_zero]
   repeat (go_big_quiet_step (fail))
   refine wpQuiet_nil ?_;go_wp2
   rw[I7,I7,I7,← HW.out];go_roundw
   case rel=>exact⟨k+1,by omega,by go_num,by rw[HV.out];exact DW hW (off+k) wd,(hbel.setCell (p:=⟨g,off+k,none⟩) (Nat.le_refl _) _).drew⟩
   case measure=>simp[intOf];omega
  ·have HK:Hid (k=n):=by unfold Hid;omega
   go_wp2
   go_end0
   exact⟨rfl,by rw[← HK.out];exact hW,hbel⟩
theorem Cd{B:Nat}{a w:World}(h:Below B a w){g:Nat}(hg:B≤g)(cs:Array Value):Below B a (w.setRow g cs) :=
 h.trans ⟨rfl,rfl,rfl,by simp,fun k hk=>setRow_other w g k cs (by omega)⟩
theorem KP(vk vn:Value)(key nonce:List Int)(c:Nat)(w:World)(hk:Sl w vk key)(hn:Sl w vn nonce)(lk:key.length=32)(ln:nonce.length=12)(hc:c≤2000000000) :
  Calls prog 181 #[vk,.int .i64 c,vn] w fun e w'=>e=.returned (.agg (Av (Bz key (BitVec.ofNat 32 c) nonce)))∧Below w.heap.size w w':=by
 have hvk:∀ b o m c,vk=.slice (some ⟨b,o,none⟩) m c→b<w.heap.size:=by
  intro b o m c e;obtain⟨⟨a,cap,rfl,_,_,h1⟩,_,_⟩:=hk;rcases h1 with rfl|⟨b',off',e',hb,_⟩
  ·simp at lk
  ·rw[e']at e
   simp only[Value.slice.injEq,Option.some.injEq,Addr.mk.injEq,and_true]at e;omega
 have hvn:∀ b o m c,vn=.slice (some ⟨b,o,none⟩) m c→b<w.heap.size:=by
  intro b o m c e;obtain⟨⟨a,cap,rfl,_,_,h1⟩,_,_⟩:=hn;rcases h1 with rfl|⟨b',off',e',hb,_⟩
  ·simp at ln
  ·rw[e']at e
   simp only[Value.slice.injEq,Option.some.injEq,Addr.mk.injEq,and_true]at e;omega
 go_enter func181,ntmps181
 go_wp2_with fail
 generalize hW0:(w.alloc _).alloc _=W0;have hr0:W0.heap[w.heap.size+1]?=some (.cells (Av Gd) 233 (0,0)):=by rw[← hW0];exact heap_alloc2_new _ _ _
 have hq0:W0.heap[w.heap.size]?=some (.cells (Av (List.replicate 16 0#32)) 233 (0,0)):=by rw[← hW0];exact heap_alloc2_old _ _ _
 have hb0:Below w.heap.size w W0:=by rw[← hW0];exact((Below.refl _ _).alloc (Nat.le_refl _) _).alloc (by simp) _
 clear hW0;refine(FF (w.heap.size+1) 4 8 12 Gd vk key W0 hr0 rfl (by omega) (by omega) (hk.below hb0) lk (fun b o m c e=>Nat.lt_succ_of_lt (hvk b o m c e))).mono ?_;rintro e w1 ⟨rfl,hr1,hb1⟩;have hq1:=(hb1.block w.heap.size (by omega)).trans hq0;have hB1:Below w.heap.size w w1:=hb0.trans (hb1.mono (by omega));have hl1:(CT Gd 4 key 8).length=16:=by rw[CY];rfl
 have HG:Hid (Bz key (BitVec.ofNat 32 c) nonce=CT ((CT Gd 4 key 8).set 12 (BitVec.ofNat 32 c)) 13 nonce 3):=rfl;have hcv:(c:Int)=uw (BitVec.ofNat 32 c):=by unfold uw;rw[BitVec.toNat_ofNat,Nat.mod_eq_of_lt (by omega)]
 have HCV:Hid ((c:Int)=uw (BitVec.ofNat 32 c)):=hcv;clear hr0 hq0 hb0 hb1 hcv;generalize CT Gd 4 key 8=vs at hr1 hl1 HG;have hcw:=(cell_of_row w1 _ 12 _ _ _ hr1).trans (Bw vs 12 (by omega));have hfw:=frozen_of_row w1 _ 12 _ _ hr1;go_wp2_with fail
 rw[HCV.out];generalize hcw2:BitVec.ofNat 32 c=cw at HG ⊢;have HCW:Hid (BitVec.ofNat 32 c=cw):=hcw2;clear hcw2;generalize hW2:w1.setCell _ _=W2;have hr2:W2.heap[w.heap.size+1]?=some (.cells (Av (vs.set 12 cw)) 233 (0,0)):=by rw[← hW2];exact DW hr1 12 cw
 have hq2:W2.heap[w.heap.size]?=some (.cells (Av (List.replicate 16 0#32)) 233 (0,0)):=by rw[← hW2];exact(heap_setCell_other _ _ _ _ (by simp)).trans hq1
 have hB2:Below w.heap.size w W2:=by rw[← hW2];exact hB1.setCell (p:=⟨w.heap.size+1,12,none⟩) (by simp) _
 clear hW2 hr1 hq1 hB1 hcw hfw;refine(FF (w.heap.size+1) 13 3 3 (vs.set 12 cw) vn nonce W2 hr2 (by simpa using hl1) (by omega) (by omega) (hn.below hB2) ln (fun b o m c e=>Nat.lt_succ_of_lt (hvn b o m c e))).mono ?_;rintro e w3 ⟨rfl,hr3,hb3⟩;have hq3:=(hb3.block w.heap.size (by omega)).trans hq2;have hB3:Below w.heap.size w w3:=hB2.trans (hb3.mono (by omega));have hl3:(CT (vs.set 12 cw) 13 nonce 3).length=16:=by rw[CY];simpa using hl1
 clear hr2 hq2 hB2 hb3;rw[← HG.out]at hr3 hl3
 generalize hus:Bz key cw nonce=us at hr3 hl3;have HUS:Hid (Bz key cw nonce=us):=hus;clear hus;have hsz:(prog.info? 233).map (·.size)=some (Av us).size:=by rw[AP,hl3];kernel_rfl
 have hone:(Av us).all (·.oneCell')=true:=by simp[Av,Value.oneCell']
 go_wp2_with (first|(refine wpList_load_row rfl 233 _ rfl (w.heap.size+1) rfl 233 _ (0,0) _ hr3 underlying233 rfl hsz ?_)|(refine wpList_store_row rfl 233 _ _ rfl w.heap.size _ rfl rfl 233 _ hq3 hsz (by rw[AP,AP,hl3];rfl) hone ?_))
 refine bodyPost_ret (v:=.agg (Av us)) (results_cell_row rfl _ _ w.heap.size 233 _ (0,0) _ rfl (setRow_heap w3 w.heap.size _ _ 233 _ hq3) underlying233 rfl hsz) rfl ⟨by rw[HCW.out,HUS.out],Cd hB3 (Nat.le_refl _) _⟩
def So:Array Value:=(DV.map fun(n:Nat)=>Value.int .i64 (n:Int)).toArray
def C1(w:World):Prop:=∃ t fr,w.heap[4]?=some (.cells So t fr)
theorem C1.below{w w':World}(h:C1 w){B:Nat}(hB:4<B)(hb:Below B w w'):C1 w':=by
 obtain⟨t,fr,h⟩:=h;exact⟨t,fr,(hb.block _ hB).trans h⟩
theorem C1.pos{w:World}(h:C1 w):4<w.heap.size:=by
 obtain⟨t,fr,h⟩:=h;exact(Array.getElem?_eq_some_iff.1 h).1
theorem Yx(j:Nat)(hj:j<8):∀ w,(Instr.index 289 (.agg So) (.int .i64 (j:Int))).run prog w=.ok (.agg #[.int .i64 ((DV.getD (4*j) 0:Nat):Int),.int .i64 ((DV.getD (4*j+1) 0:Nat):Int),.int .i64 ((DV.getD (4*j+2) 0:Nat):Int),.int .i64 ((DV.getD (4*j+3) 0:Nat):Int)]) w:=by
 intro w;obtain rfl|rfl|rfl|rfl|rfl|rfl|rfl|rfl:j=0∨j=1∨j=2∨j=3∨j=4∨j=5∨j=6∨j=7:=by omega
 all_goals kernel_rfl
theorem bX(w:World)(o1 o2 o3:Obj){W:World}(h:((w.alloc o1).alloc o2).alloc o3=W) :
  W.heap[w.heap.size]?=some o1∧W.heap[w.heap.size+1]?=some o2∧W.heap[w.heap.size+1+1]?=some o3∧W.heap.size=w.heap.size+3∧Below w.heap.size w W:=by
 subst h;refine⟨?_,?_,?_,by simp,(((Below.refl _ _).alloc (Nat.le_refl _) _).alloc (by simp) _).alloc (by simp;omega) _⟩
 ·rw[heap_alloc_old _ _ (by simp;omega)];exact heap_alloc2_old w o1 o2
 ·rw[heap_alloc_old _ _ (by simp)];exact heap_alloc2_new w o1 o2
 ·have:=heap_alloc_new ((w.alloc o1).alloc o2) o3;simpa using this
theorem Y5:∀ (S:List (BitVec 32)),S.length=16→∃ s0 s1 s2 s3 s4 s5 s6 s7 s8 s9 s10 s11 s12 s13 s14 s15,S=[s0,s1,s2,s3,s4,s5,s6,s7,s8,s9,s10,s11,s12,s13,s14,s15]
 | [s0,s1,s2,s3,s4,s5,s6,s7,s8,s9,s10,s11,s12,s13,s14,s15],_=>⟨s0,s1,s2,s3,s4,s5,s6,s7,s8,s9,s10,s11,s12,s13,s14,s15,rfl⟩
theorem Wu(S:List (BitVec 32))(hS:S.length=16)(j:Nat)(hj:j<16):∀ w,(Instr.index 233 (.agg (Av S)) (.int .i64 (j:Int))).run prog w=.ok (.int .u32 (uw (S.getD j 0#32))) w:=by
 intro w;obtain⟨s0,s1,s2,s3,s4,s5,s6,s7,s8,s9,s10,s11,s12,s13,s14,s15,rfl⟩:=Y5 S hS;obtain rfl|rfl|rfl|rfl|rfl|rfl|rfl|rfl|rfl|rfl|rfl|rfl|rfl|rfl|rfl|rfl:j=0∨j=1∨j=2∨j=3∨j=4∨j=5∨j=6∨j=7∨j=8∨j=9∨j=10∨j=11∨j=12∨j=13∨j=14∨j=15:=by omega
 all_goals kernel_rfl
theorem Cn{P:Program}{ops:Array Oper}{Q:Exit→Act→World→Prop}{l:List Oper}{a:Act}{w:World}(h:wpList P ops Q l a w):wpList P ops Q l a w:=h
theorem E6(w:World)(o1 o2 o3:Obj):(((w.alloc o1).alloc o2).alloc o3).heap[w.heap.size+1+1]?=some o3:=by
 have:=heap_alloc_new ((w.alloc o1).alloc o2) o3;simpa using this
theorem Ov(w:World)(o1 o2 o3:Obj)(cs old:Array Value)(t:TypeId)(h3:o3=.cells old t (0,0)){W:World}(h:(((w.alloc o1).alloc o2).alloc o3).setRow (w.heap.size+1+1) cs=W) :
  W.heap[w.heap.size]?=some o1∧W.heap[w.heap.size+1]?=some o2∧W.heap[w.heap.size+1+1]?=some (.cells cs t (0,0))∧W.heap.size=w.heap.size+3∧Below w.heap.size w W:=by
 subst h;subst h3;have n3:=E6 w o1 o2 (.cells old t (0,0));refine⟨?_,?_,setRow_heap _ _ _ _ t _ n3,by simp,Cd ((((Below.refl _ _).alloc (Nat.le_refl _) _).alloc (by simp) _).alloc (by simp;omega) _) (by omega) _⟩
 ·rw[setRow_other _ _ _ _ (by omega),heap_alloc_old _ _ (by simp;omega)];exact heap_alloc2_old w o1 o2
 ·rw[setRow_other _ _ _ _ (by omega),heap_alloc_old _ _ (by simp)];exact heap_alloc2_new w o1 o2
theorem bQ(A:List Int)(n:Nat)(z0 z1 z2 z3 a b c d:Int)(R:List Int)(hA:A.length=n):((((A++z0::z1::z2::z3::R).set n a).set (n+1) b).set (n+2) c).set (n+3) d=A++[a,b,c,d]++R:=by
 subst hA;rw[List.set_append_right _ _ (Nat.le_refl _),List.set_append_right _ _ (by omega),List.set_append_right _ _ (by omega),List.set_append_right _ _ (by omega)];simp
theorem IQ{w:World}{g:Nat}{l:List Int}{t:TypeId}(h:w.heap[g]?=some (.cells (AK l) t (0,0)))(k:Nat)(x:Int) :
  (w.setCell ⟨g,k,none⟩ (.int .u8 x)).heap[g]?=some (.cells (AK (l.set k x)) t (0,0)):=by
 rw[heap_setCell_same _ _ _ _ _ _ h,Td]
theorem Ju(w:World)(G k:Nat)(h:k≠G)(a b c d:Nat)(x y z u:Value):((((w.setCell ⟨G,a,none⟩ x).setCell ⟨G,b,none⟩ y).setCell ⟨G,c,none⟩ z).setCell ⟨G,d,none⟩ u).heap[k]?=w.heap[k]?:=by
 rw[heap_setCell_other _ _ _ _ (by simpa using h),heap_setCell_other _ _ _ _ (by simpa using h),heap_setCell_other _ _ _ _ (by simpa using h),heap_setCell_other _ _ _ _ (by simpa using h)]
def Dt(s t:List (BitVec 32))(j:Nat):List Int:=PI s t j++List.replicate (64-4*j) 0
theorem GD(s t:List (BitVec 32))(j:Nat)(hj:j≤16):(Dt s t j).length=64:=by
 rw[Dt,List.length_append,ET,List.length_replicate];omega
theorem PR(s t:List (BitVec 32))(j:Nat)(hj:j<16)(x:BitVec 32)(hx:XQ s t j=x):((((Dt s t j).set (4*j) (uw x%256)).set (4*j+1) (uw x/256%256)).set (4*j+2) (uw x/65536%256)).set (4*j+3) (uw x/16777216%256)=Dt s t (j+1):=by
 have e:List.replicate (64-4*j) (0:Int)=0::0::0::0::List.replicate (64-4*(j+1)) 0:=by
  rw[show 64-4*j=64-4*(j+1)+1+1+1+1 by omega];rfl
 rw[Dt,e,bQ _ _ _ _ _ _ _ _ _ _ _ (ET s t j),Dt,PI,Jg,hx]
theorem FH(ws:List (BitVec 32))(w:World)(hws:ws.length=16)(ht:C1 w) :
  Calls prog 220 #[.agg (Av ws)] w fun e w'=>e=.returned (.agg (AK (BU ws)))∧Below w.heap.size w w':=by
 have hpos:=ht.pos;have hsz:(prog.info? 233).map (·.size)=some (Av ws).size:=by rw[AP,hws];kernel_rfl
 have hone:(Av ws).all (·.oneCell')=true:=by simp[Av,Value.oneCell']
 go_enter func220,ntmps220
 go_wp2_with ((with_reducible (refine Cn ?_));first
  | (refine wpList_load_row rfl 233 _ rfl w.heap.size rfl 233 _ (0,0) _ (heap_alloc2_old _ _ _) underlying233 rfl hsz ?_)
  | (refine wpList_store_row rfl 233 _ _ rfl (w.heap.size+1+1) _ rfl rfl 233 (Av (List.replicate 16 0#32)) (E6 _ _ _ _) hsz (by rw[AP,AP,hws];rfl) hone ?_))
 generalize hW0:World.setRow _ _ _=W0;obtain⟨hF,hR,hS,hs0,hb0⟩:=Ov w _ _ _ _ (Av (List.replicate 16 0#32)) 233 rfl hW0;clear hW0;have hR:W0.heap[w.heap.size+1]?=some (.cells (AK (List.replicate 64 0)) 186 (0,0)):=hR;have hq0:C1 W0:=ht.below hpos hb0
 go_loopw [10] (fun i wr=>∃ k:Nat,k≤10∧i=.int .i64 k∧wr.heap[w.heap.size+1+1]?=some (.cells (Av (CS ws k)) 233 (0,0))∧Below (w.heap.size+1+1) W0 wr) (fun i _=>10-(intOf i).toNat)
 case atStart=>exact⟨0,by omega,rfl,hS,Below.refl _ _⟩
 case round =>
  clear hS;obtain⟨k,hk,rfl,hS,hbel⟩:=hrel;by_cases hk10:k<10
  ·obtain⟨tq,frq,hq⟩:=hq0.below (by omega) hbel;have hk10i:(k:Int)<10:=by omega
   have hixA:=Yx;have hszq:(prog.info? 289).map (·.size)=some So.size:=by kernel_rfl
   generalize So=qa at hq hszq hixA;have HT:Hid (CS ws (k+1)=FJ (CS ws k) 8):=rfl;have hl0:(CS ws k).length=16:=by rw[FK];exact hws
   generalize CS ws k=S at HT hS hl0;go_wp2_with ((with_reducible (refine Cn ?_));refine wpList_load_row rfl 289 (.global 4) rfl 4 rfl tq _ frq _ hq underlying289 rfl hszq ?_)
   clear hq
   go_loopw [13] (fun i wr=>∃ j:Nat,j≤8∧i=.int .i64 j∧wr.heap[w.heap.size+1+1]?=some (.cells (Av (FJ S j)) 233 (0,0))∧Below (w.heap.size+1+1) W0 wr) (fun i _=>8-(intOf i).toNat)
   case atStart=>exact⟨0,by omega,rfl,hS,hbel⟩
   case round =>
    clear hS hbel;obtain⟨j,hj,rfl,hS,hbel⟩:=hrel;have hbs:=hbel.size;by_cases hj8:j<8
    ·have hix:=hixA j hj8;have hj8i:(j:Int)<8:=by omega
     have HU:Hid (FJ S (j+1)=JJ (FJ S j) (DV.getD (4*j) 0) (DV.getD (4*j+1) 0) (DV.getD (4*j+2) 0) (DV.getD (4*j+3) 0)):=rfl;have l0:=IU (4*j);have l1:=IU (4*j+1);have l2:=IU (4*j+2);have l3:=IU (4*j+3);have hlj:(FJ S j).length=16:=by rw[GV];exact hl0
     generalize DV.getD (4*j) 0=q0 at hix HU l0;generalize DV.getD (4*j+1) 0=q1 at hix HU l1;generalize DV.getD (4*j+2) 0=q2 at hix HU l2;generalize DV.getD (4*j+3) 0=q3 at hix HU l3;generalize FJ S j=X at HU hS hlj;clear hixA;go_wp2_with fail
     refine(Od (w.heap.size+1+1) X _ ((heap_alloc_old _ _ (by omega)).trans hS) hlj q0 q1 q2 q3 l0 l1 l2 l3).mono ?_;rintro e w1 ⟨rfl,hS1,hb1⟩;have hb2:Below (w.heap.size+1+1) W0 w1:=(hbel.alloc (by omega) _).trans hb1;clear hS hbel hb1 hbs hix;go_wp2
     go_roundw
     case rel=>exact⟨j+1,by omega,by go_num,by rw[HU.out];exact hS1,hb2⟩
     case measure=>simp[intOf];omega
    ·have HJ:Hid (j=8):=by unfold Hid;omega
     have hj8i:¬ (j:Int)<8:=by omega
     go_wp2
     go_roundw
     case rel=>exact⟨k+1,by omega,by go_num,by rw[HT.out,← HJ.out];exact hS,hbel⟩
     case measure=>simp[intOf];omega
  ·have HK:Hid (k=10):=by unfold Hid;omega
   have hk10i:¬ (k:Int)<10:=by omega
   have HB:Hid (k=10→BU ws=Dt (CS ws k) ws 16):=by rintro rfl;simp[BU,Dt]
   have hl0:(CS ws k).length=16:=by rw[FK];exact hws
   generalize CS ws k=S at HB hS hl0;have hbs:=hbel.size;have hF1:=(hbel.block w.heap.size (by omega)).trans hF;have hR1:=(hbel.block (w.heap.size+1) (by omega)).trans hR;have hB1:Below w.heap.size w wr:=hb0.trans (hbel.mono (by omega));have hsz1:(prog.info? 233).map (·.size)=some (Av S).size:=by rw[AP,hl0];kernel_rfl
   clear hF hR hb0 hbel hq0;go_wp2_with ((with_reducible (refine Cn ?_));refine wpList_load_row rfl 233 _ rfl (w.heap.size+1+1) rfl 233 _ (0,0) _ ((heap_alloc_old _ _ (by omega)).trans hS) underlying233 rfl hsz1 ?_)
   have hBG:w.heap.size+1<wr.heap.size:=by omega
   generalize hW1:wr.alloc _=W1;have hN:W1.heap[wr.heap.size]?=some (.cells (AK (Dt S ws 0)) 186 (0,0)):=by rw[← hW1];exact heap_alloc_new _ _
   have hF2:W1.heap[w.heap.size]?=some (.cells (Av ws) 233 (0,0)):=by rw[← hW1];exact(heap_alloc_old _ _ (by omega)).trans hF1
   have hR2:W1.heap[w.heap.size+1]?=some (.cells (AK (List.replicate 64 0)) 186 (0,0)):=by rw[← hW1];exact(heap_alloc_old _ _ (by omega)).trans hR1
   have hB2:Below w.heap.size w W1:=by rw[← hW1];exact hB1.alloc hB1.size _
   clear hW1 hF1 hR1 hB1 hbs hS ht hsz hsz1 hone hk10i;generalize wr.heap.size=G at hN hBG ⊢
   go_loopw [28] (fun i wr=>∃ j:Nat,j≤16∧i=.int .i64 j∧wr.heap[G]?=some (.cells (AK (Dt S ws j)) 186 (0,0))∧wr.heap[w.heap.size]?=some (.cells (Av ws) 233 (0,0))∧wr.heap[w.heap.size+1]?=some (.cells (AK (List.replicate 64 0)) 186 (0,0))∧Below w.heap.size w wr) (fun i _=>16-(intOf i).toNat)
   case atStart=>exact⟨0,by omega,rfl,hN,hF2,hR2,hB2⟩
   case round =>
    clear hN hF2 hR2 hB2;obtain⟨j,hj,rfl,hN,hF,hR,hbel⟩:=hrel;by_cases hj16:j<16
    ·have hj16i:(j:Int)<16:=by omega
     have hix:=Wu S hl0 j hj16;have cf:=(cell_of_row wr _ j _ _ _ hF).trans (Bw ws j (by omega));have hpl:=GD S ws j hj;have c0:=(cell_of_row wr _ (4*j) _ _ _ hN).trans (Dh _ (4*j) (by omega));have c1:=(cell_of_row wr _ (4*j+1) _ _ _ hN).trans (Dh _ (4*j+1) (by omega));have c2:=(cell_of_row wr _ (4*j+2) _ _ _ hN).trans (Dh _ (4*j+2) (by omega));have c3:=(cell_of_row wr _ (4*j+3) _ _ _ hN).trans (Dh _ (4*j+3) (by omega));have f0:=frozen_of_row wr _ (4*j) _ _ hN;have f1:=frozen_of_row wr _ (4*j+1) _ _ hN;have f2:=frozen_of_row wr _ (4*j+2) _ _ hN;have f3:=frozen_of_row wr _ (4*j+3) _ _ hN;obtain⟨x,hx,HX⟩:∃ x,(uw (S.getD j 0#32)+uw (ws.getD j 0#32))%(4294967296:Int)=uw x∧Hid (XQ S ws j=x):=⟨_,Cy _ _,rfl⟩;generalize S.getD j 0#32=xa at hix hx;generalize ws.getD j 0#32=xb at cf hx;have nx:=CV x;have HN:Hid _:=hN;have HF:Hid _:=hF;have HR:Hid _:=hR;have HBE:Hid _:=hbel;have HPS:Hid (((((Dt S ws j).set (4*j) (uw x%256)).set (4*j+1) (uw x/256%256)).set (4*j+2) (uw x/65536%256)).set (4*j+3) (uw x/16777216)=Dt S ws (j+1)):=by
      have h1:=PR S ws j hj16 x HX.out;rw[show uw x/16777216%256=uw x/16777216 by have:=V6 x;omega]at h1
      exact h1
     clear hN hF hR hbel hpl;go_wp2
     go_roundw
     case rel=>exact⟨j+1,by omega,by go_num,by rw[← HPS.out];exact IQ (IQ (IQ (IQ HN.out _ _) _ _) _ _) _ _,(Ju wr G _ (by omega) _ _ _ _ _ _ _ _).trans HF.out,(Ju wr G _ (by omega) _ _ _ _ _ _ _ _).trans HR.out,
       (((HBE.out.setCell (p:=⟨G,_,none⟩) (by simp;omega) _).setCell (p:=⟨G,_,none⟩) (by simp;omega) _).setCell (p:=⟨G,_,none⟩) (by simp;omega) _).setCell (p:=⟨G,_,none⟩) (by simp;omega) _⟩
     case measure=>simp[intOf];omega
    ·have HJ:Hid (j=16):=by unfold Hid;omega
     have hj16i:¬ (j:Int)<16:=by omega
     have hpl:=GD S ws j hj;have hsz:(prog.info? 186).map (·.size)=some (AK (Dt S ws j)).size:=by rw[Ay,hpl];kernel_rfl
     have hone:(AK (Dt S ws j)).all (·.oneCell')=true:=by simp[AK,Value.oneCell']
     go_wp2_with ((with_reducible (refine Cn ?_));first|(refine wpList_load_row rfl 186 _ rfl G rfl 186 _ (0,0) _ hN underlying186 rfl hsz ?_)|(refine wpList_store_row rfl 186 _ _ rfl (w.heap.size+1) _ rfl rfl 186 _ hR hsz (by rw[Ay,Ay,hpl];rfl) hone ?_))
     refine bodyPost_ret (v:=.agg (AK (Dt S ws j))) (results_cell_row rfl _ _ (w.heap.size+1) 186 _ (0,0) _ rfl (setRow_heap wr _ _ _ 186 _ hR) underlying186 rfl hsz) rfl ⟨?_,Cd hbel (by omega) _⟩;rw[HB.out HK.out,HJ.out]
def Dk(key nonce:List Int)(c:Int):Int:=if key.length≠32∨nonce.length≠12 then 1 else if c<0∨1073741824<c then 2 else 0
theorem MT{key nonce:List Int}{c:Int}(h:key.length≠32∨nonce.length≠12):Dk key nonce c=1:=by unfold Dk;rw[if_pos h]
theorem LV{key nonce:List Int}{c:Int}(hk:key.length=32)(hn:nonce.length=12)(h:c<0∨1073741824<c):Dk key nonce c=2:=by unfold Dk;rw[if_neg (by omega),if_pos h]
theorem Hg{key nonce:List Int}{c:Int}(hk:key.length=32)(hn:nonce.length=12)(h:0≤c∧c≤1073741824):Dk key nonce c=0:=by unfold Dk;rw[if_neg (by omega),if_neg (by omega)]
theorem I1(vk vn:Value)(key nonce:List Int)(c:Int)(w:World)(hk:Sl w vk key)(hn:Sl w vn nonce) :
  Calls prog 179 #[vk,.int .i64 c,vn] w fun e w'=>e=.returned (.int .i64 (Dk key nonce c))∧w'=w:=by
 obtain⟨⟨ak,ck,rfl,_,_,_⟩,lk,_⟩:=hk;obtain⟨⟨an,cn,rfl,_,_,_⟩,ln,_⟩:=hn;have H1:Hid (key.length≠32∨nonce.length≠12→Dk key nonce c=1):=MT;have H2:Hid (key.length=32→nonce.length=12→(c<0∨1073741824<c)→Dk key nonce c=2):=LV;have H3:Hid (key.length=32→nonce.length=12→(0≤c∧c≤1073741824)→Dk key nonce c=0):=Hg;generalize Dk key nonce c=E at H1 H2 H3 ⊢;generalize key.length=n at *;generalize nonce.length=m at *;go_enter func179,ntmps179
 by_cases h1:(n:Int)=32
 ·by_cases h2:(m:Int)=12
  ·by_cases h3:c<0
   ·go_wp2
    go_ret;exact⟨by rw[H2.out (by omega) (by omega) (by omega)];rfl,rfl⟩
   ·by_cases h4:1073741824<c
    ·go_wp2
     go_ret;exact⟨by rw[H2.out (by omega) (by omega) (by omega)];rfl,rfl⟩
    ·go_wp2
     go_ret;exact⟨by rw[H3.out (by omega) (by omega) (by omega)];rfl,rfl⟩
  ·go_wp2
   go_ret;exact⟨by rw[H1.out (by omega)];rfl,rfl⟩
 ·go_wp2
  go_ret;exact⟨by rw[H1.out (by omega)];rfl,rfl⟩
theorem Hf(w:World)(l:List Int)(o:Obj)(t:TypeId)(old:Array Value)(ho:o=.cells old t (0,0)){W:World}(hW:(w.alloc o).setRow w.heap.size (AK l)=W) :
  W.heap[w.heap.size]?=some (.cells (AK l) t (0,0))∧Below w.heap.size w W∧W.heap.size=w.heap.size+1:=by
 subst hW;subst ho;exact⟨setRow_heap _ _ _ _ t _ (heap_alloc_new _ _),Cd ((Below.refl _ _).alloc (Nat.le_refl _) _) (Nat.le_refl _) _,by simp⟩
theorem Sl.ofRow{w:World}{g:Nat}{l:List Int}{t:TypeId}{fr:Nat × Nat}(h:w.heap[g]?=some (.cells (AK l) t fr))(hl:l.length≤140737488351232)(hb:∀ x∈l,0≤x∧x<256):Sl w (.slice (some ⟨g,0,none⟩) l.length l.length) l:=by
 refine⟨⟨_,l.length,rfl,by simp,by simp,.inr ⟨g,0,rfl,(Array.getElem?_eq_some_iff.1 h).1,fun i hi=>?_⟩⟩,hl,hb⟩;rw[Nat.zero_add];exact(cell_of_row w _ i _ _ _ h).trans (Dh l i hi)
structure Got(w w':World)(v:Value)(l:List Int):Prop where
 sl:Sl w' v l
 bel:Below w.heap.size w w'
 new:∀ b o n c,v=.slice (some ⟨b,o,none⟩) n c→w.heap.size≤b
theorem Ti(vk vn:Value)(key nonce:List Int)(c:Nat)(w:World)(hk:Sl w vk key)(hn:Sl w vn nonce)(lk:key.length=32)(ln:nonce.length=12)(hc:c≤1073741824)(ht:C1 w) :
  Calls prog 182 #[vk,.int .i64 c,vn] w fun e w'=>∃ v',e=.returned (.tuple #[v',.int .i64 0])∧Got w w' v' (BU (Bz key (BitVec.ofNat 32 c) nonce)):=by
 go_enter func182,ntmps182
 go_wp2_with fail
 refine(I1 vk vn key nonce c w hk hn).mono ?_;rintro e w1 ⟨rfl,rfl⟩;rw[Hg lk ln (by omega)];go_wp2_with fail
 refine(KP vk vn key nonce c w1 hk hn lk ln (by omega)).mono ?_;rintro e w2 ⟨rfl,b2⟩;have hl:=F8 key (BitVec.ofNat 32 c) nonce;generalize hus:Bz key (BitVec.ofNat 32 c) nonce=us at hl;have HUS:Hid (Bz key (BitVec.ofNat 32 c) nonce=us):=hus;clear hus;go_wp2_with fail
 refine(FH us w2 hl (ht.below ht.pos b2)).mono ?_;rintro e w3 ⟨rfl,b3⟩;have hbl:=DE us;have hbb:=ED us;generalize hbs:BU us=bs at hbl hbb;have HBS:Hid (BU us=bs):=hbs;clear hbs;have hsz:(prog.info? 186).map (·.size)=some (AK bs).size:=by rw[Ay,hbl];kernel_rfl
 have hone:(AK bs).all (·.oneCell')=true:=by simp[AK,Value.oneCell']
 go_wp2_with ((with_reducible (refine Cn ?_));refine wpList_store_row rfl 186 _ _ rfl w3.heap.size _ rfl rfl 186 (AK (List.replicate 64 0)) (heap_alloc_new _ _) hsz (by rw[Ay,Ay,hbl];rfl) hone ?_)
 generalize hW4:World.setRow _ _ _=W4;obtain⟨hr,b4,_⟩:=Hf w3 bs _ 186 (AK (List.replicate 64 0)) rfl hW4
 go_ret2
 refine⟨_,rfl,?_,(b2.trans (b3.mono b2.size)).trans (b4.mono (Nat.le_trans b2.size b3.size)),fun b o n c e=>?_⟩
 ·rw[HUS.out,HBS.out];have:=Sl.ofRow hr (by omega) hbb;rw[hbl]at this
  exact this
 ·have:=Nat.le_trans b2.size b3.size;injection e with e1
  injection e1 with e2
  injection e2 with e3
  omega
end Go.Proofs.YtakgfdbjgeopdaaGreatDoor
