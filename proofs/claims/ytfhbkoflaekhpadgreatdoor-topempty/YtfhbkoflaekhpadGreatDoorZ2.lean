/- Part 2 of the walk. -/
import Derived.Laws.CopyOwn
import Derived.Deep.RegionWith
import Derived.Deep.MidRow
import Derived.Laws.Tables
import Derived.Laws.Rows
import Derived.Deep.RegionLaw
import Derived.Test.YtfhbkoflaekhpadGreatDoorZ1
set_option maxRecDepth 100000
set_option maxHeartbeats 4000000
open Go.Proofs.Tryz
set_option linter.unusedVariables false
namespace Go.Proofs.YtfhbkoflaekhpadGreatDoor
open Go.RowKit
theorem OS(w:World)(n:List Int)(_hn:n.length=5){A W:World}(hA:A=((w.alloc (.cells (Ah n) 271 (0,0))).alloc (.cells (Ah [0,0,0,0,0]) 271 (0,0))).alloc (.cells (Ah [0,0,0,0,0]) 271 (0,0)))(hW:A.setRow (w.heap.size+1+1) (Ah n)=W) :
  W.heap[w.heap.size]?=some (.cells (Ah n) 271 (0,0))∧W.heap[w.heap.size+1]?=some (.cells (Ah [0,0,0,0,0]) 271 (0,0))∧W.heap[w.heap.size+1+1]?=some (.cells (Ah n) 271 (0,0))∧Bw w W:=by
 obtain⟨a1,a2,a3,a4⟩:=Fq w (.cells (Ah n) 271 (0,0)) (.cells (Ah [0,0,0,0,0]) 271 (0,0)) (.cells (Ah [0,0,0,0,0]) 271 (0,0));rw[← hA]at a1 a2 a3 a4
 subst hW;refine⟨?_,?_,setRow_heap _ _ _ _ 271 _ a3,AU a4 (by omega) _⟩
 ·rw[setRow_other _ _ _ _ (by omega)];exact a1
 ·rw[setRow_other _ _ _ _ (by omega)];exact a2
theorem TV(n:List Int)(w:World)(hn:Lim 67108864 n) :
  Calls prog 205 #[.agg (Ah n)] w fun e w'=>∃ r,e=.returned (.agg (Ah r))∧Lim 67108864 r∧val r=val n%pp∧Bw w w':=by
 have h5:=hn.1;have hszn:=Cx h5;have x0:=hn.2 0;have hset:(n.set 0 (n.getD 0 0+5)).length=5:=by simpa using h5
 have hlim:Lim 9223372036854775808 (n.set 0 (n.getD 0 0+5)):=by
  refine⟨hset,fun j=>?_⟩;by_cases e:0=j
  ·subst e;rw[AH (by omega)];omega
  ·rw[Ax e];have:=hn.2 j;omega
 have hszs:=Cx hset;have HL:Hid (∀ m o,Carr (n.set 0 (n.getD 0 0+5)) m 5 o→Lim 67108864 m∧(0<o→val m=val n%pp)∧(¬ 0<o→val n=val n%pp)):=fun m o h=>QU hn h;have HST:Hid (∀ W:World,W.heap[w.heap.size+1+1]?=some (.cells (Ah n) 271 (0,0))→(W.setCell ⟨w.heap.size+1+1,0,none⟩ (.int .u64 (n.getD 0 0+5))).heap[w.heap.size+1+1]?=some (.cells (Ah (n.set 0 (n.getD 0 0+5))) 271 (0,0))):=fun W h=>DT h 0 _;have HC:Hid (∀ W:World,W.heap[w.heap.size+1+1]?=some (.cells (Ah n) 271 (0,0))→W.cell? ⟨w.heap.size+1+1,0,none⟩=some (.int .u64 (n.getD 0 0))):=fun W h=>(cell_of_row W _ 0 _ _ _ h).trans (Aq n 0 (by omega));generalize n.set 0 (n.getD 0 0+5)=m0 at hlim HL hszs HST hset;generalize n.getD 0 0=x at x0 HST HC;obtain⟨x1,x2⟩:=x0;obtain⟨A,hA⟩:∃ A,A=((w.alloc (.cells (Ah n) 271 (0,0))).alloc (.cells (Ah [0,0,0,0,0]) 271 (0,0))).alloc (.cells (Ah [0,0,0,0,0]) 271 (0,0)):=⟨_,rfl⟩;obtain⟨W1,hW1⟩:∃ W,A.setRow (w.heap.size+1+1) (Ah n)=W:=⟨_,rfl⟩;obtain⟨s1,s2,s3,s4⟩:=OS w n h5 hA hW1;rw[hA]at hW1
 clear hA;have c0:=HC.out W1 s3;have f0:=frozen_of_row W1 _ 0 _ _ s3;have t3:=HST.out W1 s3;have t1:(W1.setCell ⟨w.heap.size+1+1,0,none⟩ (.int .u64 (x+5))).heap[w.heap.size]?=some (.cells (Ah n) 271 (0,0)):=by rw[heap_setCell_other _ _ _ _ (by simp;omega)];exact s1
 have t2:(W1.setCell ⟨w.heap.size+1+1,0,none⟩ (.int .u64 (x+5))).heap[w.heap.size+1]?=some (.cells (Ah [0,0,0,0,0]) 271 (0,0)):=by rw[heap_setCell_other _ _ _ _ (by simp)];exact s2
 have t4:Bw w (W1.setCell ⟨w.heap.size+1+1,0,none⟩ (.int .u64 (x+5))):=s4.setCell (p:=⟨w.heap.size+1+1,0,none⟩) (by simp;omega) _;have tz:w.heap.size+1+1<(W1.setCell ⟨w.heap.size+1+1,0,none⟩ (.int .u64 (x+5))).heap.size:=(Array.getElem?_eq_some_iff.1 t3).1;have HW:Hid _:=hW1;clear hW1 s1 s2 s3 s4 HST HC;go_enter func205,ntmps205
 go_wp2_with ((with_reducible (refine Ap ?_));first
  | (refine wpList_load_row rfl 271 _ rfl (w.heap.size) rfl 271 _ (0,0) _ (heap_alloc2_old _ _ _) underlying271 rfl hszn ?_)
  | (refine wpList_store_row rfl 271 _ _ rfl (w.heap.size+1+1) _ rfl rfl 271 (Ah [0,0,0,0,0]) (Fq w _ _ _).2.2.1 hszn (by rw[Al,Al,h5];rfl) (Bn n) ?_;refine(congrArg (wpList _ _ _ _ _) HW.out).mpr ?_)
  | (refine wpList_load_row rfl 271 _ rfl (w.heap.size+1+1) rfl 271 _ (0,0) _ t3 underlying271 rfl hszs ?_))
 refine(Ph m0 _ hlim).mono ?_;rintro e w1 ⟨m1,o,rfl,hc1,hb1⟩;obtain⟨l1,g1,g2⟩:=HL.out m1 o hc1;have o1:=hc1.lo;generalize W1.setCell _ _=W2 at hb1 t1 t2 t3 t4 tz;have u1:=(hb1.block w.heap.size (by omega)).trans t1;have u2:=(hb1.block (w.heap.size+1) (by omega)).trans t2;have u3:=(hb1.block (w.heap.size+1+1) (by omega)).trans t3;have u4:Bw w w1:=t4.trans (hb1.mono t4.size);have v1:(w1.setRow (w.heap.size+1+1) (Ah m1)).heap[w.heap.size]?=some (.cells (Ah n) 271 (0,0)):=(setRow_other _ _ _ _ (by omega)).trans u1;have v2:(w1.setRow (w.heap.size+1+1) (Ah m1)).heap[w.heap.size+1]?=some (.cells (Ah [0,0,0,0,0]) 271 (0,0)):=(setRow_other _ _ _ _ (by omega)).trans u2;have v3:=setRow_heap w1 (w.heap.size+1+1) _ (Ah m1) 271 _ u3;have v4:Bw w (w1.setRow (w.heap.size+1+1) (Ah m1)):=AU u4 (by omega) _;have hsz1:=Cx l1.1;by_cases ho:0<o
 ·have g1':=g1 ho;clear g1 g2 hc1 HL c0 f0 HW;go_wp2_with ((with_reducible (refine Ap ?_));first
   | (refine wpList_store_row rfl 271 _ _ rfl (w.heap.size+1+1) _ rfl rfl 271 _ u3 hsz1 (by rw[Al,Al,l1.1,hset]) (Bn m1) ?_)
   | (refine wpList_load_row rfl 271 _ rfl (w.heap.size+1+1) rfl 271 _ (0,0) _ v3 underlying271 rfl hsz1 ?_)
   | (refine wpList_store_row rfl 271 _ _ rfl (w.heap.size+1) _ rfl rfl 271 _ v2 hsz1 (by rw[Al,Al,l1.1];rfl) (Bn m1) ?_))
  exact bodyPost_ret (v:=.agg (Ah m1)) (results_cell_row rfl _ _ (w.heap.size+1) 271 _ (0,0) _ rfl (setRow_heap _ (w.heap.size+1) _ _ 271 _ v2) underlying271 rfl hsz1) rfl ⟨m1,rfl,l1,g1',AU v4 (by omega) _⟩
 ·have g2':=g2 (by omega);clear g1 g2 hc1 HL c0 f0 HW;go_wp2_with ((with_reducible (refine Ap ?_));first
   | (refine wpList_store_row rfl 271 _ _ rfl (w.heap.size+1+1) _ rfl rfl 271 _ u3 hsz1 (by rw[Al,Al,l1.1,hset]) (Bn m1) ?_)
   | (refine wpList_load_row rfl 271 _ rfl (w.heap.size) rfl 271 _ (0,0) _ v1 underlying271 rfl hszn ?_)
   | (refine wpList_store_row rfl 271 _ _ rfl (w.heap.size+1) _ rfl rfl 271 _ v2 hszn (by rw[Al,Al,h5];rfl) (Bn n) ?_))
  exact bodyPost_ret (v:=.agg (Ah n)) (results_cell_row rfl _ _ (w.heap.size+1) 271 _ (0,0) _ rfl (setRow_heap _ (w.heap.size+1) _ _ 271 _ v2) underlying271 rfl hszn) rfl ⟨n,rfl,hn,g2',AU v4 (by omega) _⟩
theorem Uq(k q sh:Nat)(h:sh+26*q=8*k)(hs:sh<26):(0:Int)≤2^sh∧(2:Int)^sh≤33554432∧(2:Int)^sh*67108864^q=256^k:=by
 refine⟨Int.le_of_lt (Int.pow_pos (by omega)),?_,?_⟩
 ·have h1:(2:Nat)^sh≤2^25:=Nat.pow_le_pow_right (by omega) (by omega);have h2:(((2:Nat)^sh:Nat):Int)≤((2^25:Nat):Int):=Int.ofNat_le.2 h1;rw[Int.natCast_pow]at h2
  exact h2
 ·rw[show(67108864:Int)=2^26 from rfl,show(256:Int)=2^8 from rfl,← Int.pow_mul,← Int.pow_mul,← Int.pow_add,h]
theorem P0(v:Value)(b:List Int)(w:World)(h:Sl w v b)(hl:b.length≤17) :
  Calls prog 206 #[v] w fun e w'=>∃ r,e=.returned (.agg (Ah r))∧Lim 67108864 r∧val r%pp=leN b%pp∧Bw w w':=by
 obtain⟨⟨a,cap,rfl,hc,hn,h1⟩,hla,hba⟩:=h;have hcell:∃ B off,(b≠[]→a=some ⟨B,off,none⟩)∧(b≠[]→B<w.heap.size)∧∀ i,i<b.length→w.cell? ⟨B,off+i,none⟩=some (.int .u8 (b.getD i 0)):=by
  rcases h1 with rfl|⟨B,off,rfl,hb,hcell⟩
  ·exact⟨0,0,fun h=>absurd rfl h,fun h=>absurd rfl h,fun i hi=>by simp at hi⟩
  ·exact⟨B,off,fun _=>rfl,fun _=>hb,hcell⟩
 clear h1;obtain⟨B,off,ha,hB,HC0⟩:=hcell;have HC:Hid (∀ i,i<b.length→w.cell? ⟨B,off+i,none⟩=some (.int .u8 (b.getD i 0))):=HC0;have HA:Hid (b≠[]→a=some ⟨B,off,none⟩):=ha;have HB:Hid (b≠[]→B<w.heap.size):=hB;have HBY:Hid (∀ x∈b,0≤x∧x<256):=hba;obtain⟨n,HN⟩:∃ n,Hid (b.length=n):=⟨_,rfl⟩;rw[HN.out]at hl hc hla ⊢
 clear HC0 ha hB hba hn;go_enter func206,ntmps206
 go_wp2_with fail
 go_loopw [8] (fun i wr=>∃ (k:Nat) (r:List Int),k≤n∧i=.int .i64 k∧Reads b r k∧wr.heap[w.heap.size]?=some (.cells (Ah [0,0,0,0,0]) 271 (0,0))∧wr.heap[w.heap.size+1]?=some (.cells (Ah r) 271 (0,0))∧Bw w wr) (fun i _=>n-(intOf i).toNat)
 case atStart=>exact⟨0,_,by omega,rfl,Reads.zero b,heap_alloc2_old _ _ _,heap_alloc2_new _ _ _,((Below.refl _ _).alloc (Nat.le_refl _) _).alloc (by simp) _⟩
 case round =>
  obtain⟨k,r,hk,rfl,hr,hz,ho,hb⟩:=hrel;have hr5:=hr.len;by_cases hkn:k<n
  ·have hki:(k:Int)<(n:Int):=by omega
   have hne:b≠[]:=by intro e;have:=HN.out;rw[e]at this;simp at this;omega
   have hA:=HA.out hne;subst hA;have hBs:=HB.out hne;have ck:=(hb.cell (p:=⟨B,off+k,none⟩) hBs).trans (HC.out k (by rw[HN.out];exact hkn));have hbk:=Ak HBY.out k;have HS:Hid (∀ (q:Nat) (m:Int),q<5→0≤m∧m≤33554432→m*67108864^q=256^k→Reads b (r.set q (r.getD q 0+b.getD k 0*m)) (k+1)):=fun q m h1 h2 h3=>hr.succ hbk q m h1 h2 h3;have HR:Hid (∀ t,0≤r.getD t 0∧r.getD t 0≤300000000000):=fun t=>⟨hr.low t,by have:=hr.high t;omega⟩;have HK:Hid (∀ t,t<5→wr.cell? ⟨w.heap.size+1,t,none⟩=some (.int .u64 (r.getD t 0))):=fun t ht=>(cell_of_row _ _ t _ _ _ ho).trans (Aq r t (by omega));have HF:Hid (∀ t,wr.frozen? ⟨w.heap.size+1,t,none⟩=false):=fun t=>frozen_of_row _ _ t _ _ ho;have HST:Hid (∀ t x,(wr.setCell ⟨w.heap.size+1,t,none⟩ (.int .u64 x)).heap[w.heap.size+1]?=some (.cells (Ah (r.set t x)) 271 (0,0))):=fun t x=>DT ho t x;generalize b.getD k 0=x at ck HS hbk;obtain⟨x1,x2⟩:=hbk;clear hr;obtain⟨q,hq⟩:∃ q,8*k/26=q:=⟨_,rfl⟩;have hq5:q<5:=by omega
   have cq:=HK.out q hq5;have fq:=HF.out q;have rq:=HR.out q;have HSq:Hid (∀ (m:Int),0≤m∧m≤33554432→m*67108864^q=256^k→Reads b (r.set q (r.getD q 0+x*m)) (k+1)):=fun m h2 h3=>HS.out q m hq5 h2 h3;generalize r.getD q 0=y at cq rq HSq;obtain⟨y1,y2⟩:=rq;obtain⟨sh,hsh⟩:∃ sh,8*k%26=sh:=⟨_,rfl⟩;have hsh26:sh<26:=by omega
   have i1:(8*(k:Int))/26=(q:Int):=by omega
   have i2:(8*(k:Int))%26=(sh:Int):=by omega
   have i3:Int.tdiv (8*(k:Int)) 26=(q:Int):=by rw[Int.tdiv_eq_ediv_of_nonneg (by omega)];exact i1
   have i4:Int.tmod (8*(k:Int)) 26=(sh:Int):=by rw[Int.tmod_eq_emod_of_nonneg (by omega)];exact i2
   have HP:Hid ((0:Int)≤2^sh∧(2:Int)^sh≤33554432∧(2:Int)^sh*67108864^q=256^k):=Uq k q sh (by omega) hsh26;clear hq HK HF HR HS;go_wp2_with fail
   refine Ar 13 (by kernel_rfl) (by kernel_rfl) ?_;simp only[List.take_succ_cons,List.take_zero,List.drop_succ_cons,List.drop_zero]
   repeat (go_big_quiet_step (fail))
   refine wpQuiet_nil ?_;go_wp2
   obtain⟨p1,p2,p3⟩:=HP.out;have q1:0≤x*2^sh:=Int.mul_nonneg x1 p1;have q2:x*2^sh≤256*33554432:=Int.mul_le_mul (by omega) p2 p1 (by omega);rw[show IntKind.u64.wrap (x*2^sh)=x*2^sh by rw[LC];omega,show IntKind.u64.wrap (y+x*2^sh)=y+x*2^sh by rw[LC];omega];go_roundw
   case rel =>
    refine⟨k+1,_,by omega,by go_num,HSq.out (2^sh) ⟨p1,p2⟩ p3,?_,HST.out q _,?_⟩
    ·exact(heap_setCell_other _ _ _ _ (by simp)).trans hz
    ·exact(hb.setCell (p:=⟨w.heap.size+1,q,none⟩) (by simp) _).drew
   case measure=>simp[intOf];omega
  ·have HK:Hid (k=n):=by unfold Hid;omega
   have hki:¬ (k:Int)<(n:Int):=by omega
   have hsz1:=Cx hr5;have hlim:Lim 1152921504606846976 r:=⟨hr5,fun t=>⟨hr.low t,by have:=hr.high t;omega⟩⟩;have HV:Hid (val r=leN b):=by
    unfold Hid;rw[hr.sum,HK.out,← HN.out];rfl
   have hzz:w.heap.size<wr.heap.size:=(Array.getElem?_eq_some_iff.1 hz).1;clear hr;go_wp2_with ((with_reducible (refine Ap ?_));(refine wpList_load_row rfl 271 _ rfl (w.heap.size+1) rfl 271 _ (0,0) _ ho underlying271 rfl hsz1 ?_))
   refine(IT r wr hlim).mono ?_;rintro e w1 ⟨r1,rfl,l1,v1,hb1⟩;have hz1:=(hb1.block w.heap.size hzz).trans hz;have hB1:Bw w w1:=hb.trans (hb1.mono hb.size);have hsz2:=Cx l1.1;go_wp2_with ((with_reducible (refine Ap ?_));(refine wpList_store_row rfl 271 _ _ rfl (w.heap.size) _ rfl rfl 271 _ hz1 hsz2 (by rw[Al,Al,l1.1];rfl) (Bn r1) ?_))
   exact bodyPost_ret (v:=.agg (Ah r1)) (results_cell_row rfl _ _ (w.heap.size) 271 _ (0,0) _ rfl (setRow_heap w1 (w.heap.size) _ _ 271 _ hz1) underlying271 rfl hsz2) rfl ⟨r1,rfl,l1,by rw[v1,HV.out],AU hB1 (Nat.le_refl _) _⟩
def byA(l:List Int):Array Value:=(l.map (Value.int .u8)).toArray
theorem YA(l:List Int)(i:Nat)(x:Int):(byA l).setIfInBounds i (.int .u8 x)=byA (l.set i x):=by
 apply Array.ext';simp[byA,List.map_set]
theorem FU{w:World}{g:Nat}{l:List Int}{t:TypeId}(h:w.heap[g]?=some (.cells (byA l) t (0,0)))(k:Nat)(x:Int) :
  (w.setCell ⟨g,k,none⟩ (.int .u8 x)).heap[g]?=some (.cells (byA (l.set k x)) t (0,0)):=by
 rw[heap_setCell_same _ _ _ _ _ _ h,YA]
theorem Hd(l:List Int)(i:Nat)(h:i<l.length):(byA l)[i]?=some (.int .u8 (l.getD i 0)):=by
 simp[byA,List.getD,List.getElem?_eq_getElem h]
theorem Wv:(prog.info? 5).map (·.size)=some 1:=by kernel_rfl
theorem Ie(l:List Int)(n:Nat):splice ((List.replicate n (0:Int)).map (Value.int .u8)) 0 (l.map (Value.int .u8))=(l++List.replicate (n-l.length) 0).map (Value.int .u8):=by
 have e:(List.replicate n (0:Int)).map (Value.int .u8)=List.replicate n (Value.int .u8 0):=List.map_replicate;rw[e];simp only[splice,List.take_zero,List.nil_append,List.length_map,Nat.zero_add,List.drop_replicate,List.map_append,List.map_replicate]
theorem Sl.src{w:World}{sp:Option Addr}{n c:Nat}{l:List Int}(h:Sl w (.slice sp n c) l)(hp:0<l.length):∃ ad,sp=some ad∧∀ (j:Nat) (v:Value),(l.map (Value.int .u8))[j]?=some v→w.cell? (ad.add j)=some v:=by
 obtain⟨⟨a,cap,e,hc,hn,h1⟩,hla,hba⟩:=h;simp only[Value.slice.injEq]at e;obtain⟨rfl,rfl,rfl⟩:=e;rcases h1 with rfl|⟨b,off,rfl,_,hcell⟩
 ·simp at hp
 ·refine⟨_,rfl,fun j v hj=>?_⟩;have hjl:j<l.length:=by
   have:=(List.getElem?_eq_some_iff.1 hj).1;simpa using this
  have hadd:(⟨b,off,none⟩:Addr).add j=⟨b,off+j,none⟩:=by unfold Addr.add;split<;>simp_all
  rw[hadd,hcell j hjl];simp[List.getElem?_eq_getElem hjl]at hj
  rw[AN hjl,hj]
theorem Sl.ofByA{w:World}{g:Nat}{l:List Int}{t:TypeId}{fr:Nat × Nat}(h:w.heap[g]?=some (.cells (byA l) t fr))(hl:l.length≤140737488351232)(hb:∀ x∈l,0≤x∧x<256):Sl w (.slice (some ⟨g,0,none⟩) l.length l.length) l:=by
 refine⟨⟨_,l.length,rfl,by simp,by simp,.inr ⟨g,0,rfl,(Array.getElem?_eq_some_iff.1 h).1,fun i hi=>?_⟩⟩,hl,hb⟩;rw[cell_of_row _ _ (0+i) _ _ _ h,Nat.zero_add,Hd l i hi]
theorem Sl.rowOf{w:World}{g n:Nat}{l:List Int}{t:TypeId}{fr:Nat × Nat}(h:w.heap[g]?=some (.cells (byA l) t fr))(hn:l.length=n)(hl:l.length≤140737488351232)(hb:∀ x∈l,0≤x∧x<256):Sl w (.slice (some ⟨g,0,none⟩) n n) l:=by
 subst hn;exact Sl.ofByA h hl hb
theorem WQ(l:List Int)(h:l.length≤16):(l++List.replicate (17-l.length) 0).set l.length 1=l++[1]++List.replicate (16-l.length) 0:=by
 rw[List.set_append_right _ _ (Nat.le_refl _),show 17-l.length=16-l.length+1 by omega,List.replicate_succ];simp
theorem WP(l:List Int)(n:Nat):leN (l++[1]++List.replicate n 0)=leN (l++[1]):=by
 rw[QR,TT];omega
theorem Pp(v:Value)(l:List Int)(w:World)(h:Sl w v l)(hl:l.length≤16) :
  Calls prog 203 #[v] w fun e w'=>∃ r,e=.returned (.agg (Ah r))∧Lim 67108864 r∧val r%pp=leN (l++[1])%pp∧Bw w w':=by
 have hs:=h;obtain⟨⟨a,cap,rfl,hc,hn,h1⟩,hla,hba⟩:=h;have HBY:Hid (∀ x∈l,0≤x∧x<256):=hba;have HM:=WQ l hl;have HML:=WP l (16-l.length);clear h1 hba hn;go_enter func203,ntmps203
 go_wp2_with (refine wpList_copy_splice rfl _ _ 25 25 rfl 5 underlying25 Wv _ _ _ _ _ _ rfl rfl (w.heap.size+1) 0 ((List.replicate 17 (0:Int)).map (Value.int .u8)) 286 (heap_alloc2_new _ _ _) (l.map (Value.int .u8)) (by rw[List.length_map];exact(Nat.min_eq_left (show l.length≤17 by omega)).symm) (fun hp=>⟨rfl,(hs.below (((Below.refl _ _).alloc (Nat.le_refl _) _).alloc (by simp) _)).src (by simpa using hp)⟩) (by rw[List.length_map,List.length_map,List.length_replicate];omega) (Ey _) (w.heap.size+1) _ (Below.refl _ _) (Nat.le_refl _) ?_)
 intro w2 H2 hb2;have hr2:w2.heap[w.heap.size+1]?=some (.cells (byA (l++List.replicate (17-l.length) 0)) 286 (0,0)):=by
  have h3:w2.heap[w.heap.size+1]?=some (.cells (splice ((List.replicate 17 (0:Int)).map (Value.int .u8)) 0 (l.map (Value.int .u8))).toArray 286 (0,0)):=H2.out;rw[Ie]at h3
  exact h3
 have hB2:Bw w w2:=(((Below.refl _ _).alloc (Nat.le_refl _) _).alloc (by simp) _).trans (hb2.mono (by omega));have hq2:w2.heap[w.heap.size]?=some (.cells (Ah [0,0,0,0,0]) 271 (0,0)):=by
  rw[hb2.block _ (by omega)];exact heap_alloc2_old _ _ _
 clear H2 hb2;have hlen:(l++List.replicate (17-l.length) (0:Int)).length=17:=by simp;omega
 have cl:=(cell_of_row _ _ l.length _ _ _ hr2).trans (Hd _ l.length (by omega));have fl:=frozen_of_row _ _ l.length _ _ hr2;have hr3:=FU hr2 l.length 1;rw[HM]at hr3
 have hq3:(w2.setCell ⟨w.heap.size+1,l.length,none⟩ (.int .u8 1)).heap[w.heap.size]?=some (.cells (Ah [0,0,0,0,0]) 271 (0,0)):=(heap_setCell_other _ _ _ _ (by simp)).trans hq2;have hB3:Bw w (w2.setCell ⟨w.heap.size+1,l.length,none⟩ (.int .u8 1)):=hB2.setCell (p:=⟨w.heap.size+1,l.length,none⟩) (by simp) _;have hzz:w.heap.size<(w2.setCell ⟨w.heap.size+1,l.length,none⟩ (.int .u8 1)).heap.size:=(Array.getElem?_eq_some_iff.1 hq3).1;have s3:Sl (w2.setCell ⟨w.heap.size+1,l.length,none⟩ (.int .u8 1)) (.slice (some ⟨w.heap.size+1,0,none⟩) 17 17) (l++[1]++List.replicate (16-l.length) 0):=by
  refine Sl.rowOf hr3 (by simp;omega) (by simp;omega) ?_;intro x hx;rcases List.mem_append.1 hx with h|h
  ·rcases List.mem_append.1 h with h|h
   ·exact HBY.out x h
   ·simp at h;omega
  ·rw[(List.mem_replicate.1 h).2];omega
 have hlen3:(l++[1]++List.replicate (16-l.length) (0:Int)).length≤17:=by simp;omega
 have HS3:Hid _:=s3;have HHM:Hid (leN (l++[1]++List.replicate (16-l.length) 0)=leN (l++[1])):=HML;clear hr3 hr2 HM HML s3 hs;generalize l++[1]++List.replicate (16-l.length) 0=L at HS3 hlen3 HHM;generalize (l++List.replicate (17-l.length) (0:Int)).getD l.length 0=c0 at cl;go_wp2_with fail
 refine(P0 _ L _ HS3.out hlen3).mono ?_;rintro e w4 ⟨r,rfl,lr,vr,hb4⟩;have hq4:=(hb4.block w.heap.size hzz).trans hq3;have hB4:Bw w w4:=hB3.trans (hb4.mono hB3.size);have hsz2:=Cx lr.1;go_wp2_with ((with_reducible (refine Ap ?_));(refine wpList_store_row rfl 271 _ _ rfl (w.heap.size) _ rfl rfl 271 _ hq4 hsz2 (by rw[Al,Al,lr.1];rfl) (Bn r) ?_))
 exact bodyPost_ret (v:=.agg (Ah r)) (results_cell_row rfl _ _ (w.heap.size) 271 _ (0,0) _ rfl (setRow_heap w4 (w.heap.size) _ _ 271 _ hq4) underlying271 rfl hsz2) rfl ⟨r,rfl,lr,by rw[vr,HHM.out],AU hB4 (Nat.le_refl _) _⟩
def fE:Value→Nat
 | .slice _ n _=>n
 | _=>0
theorem er{w:World}{g:Nat}{old:Array Value}(t:List Int)(hg:w.heap[g]?=some (.cells old 271 (0,0)))(ho:old.size=5)(ht:t.length=5):(storeCells ⟨g,0,none⟩ (Ah t).toList).run prog w=.ok () (w.setRow g (Ah t)):=by
 have:=run_storeCells_from (P:=prog) g 271 (Ah t).toList 0 old w hg (by simp[Al];omega) (fun v hv=>by simp[Ah]at hv;obtain⟨x,_,rfl⟩:=hv;rfl);rw[this];simp[Ah]
theorem LY{P:Program}{id:Nat}{ops:Array Oper}{K:Act→World→Prop}{Q:Exit→Act→World→Prop}{a:Act}{w:World}(R:List Int→List Int→List Int→World→Prop){A:List Int→List Int→List Int→Act}
  (hreg:∀ K':Act→World→Prop,Hid (∀ x y z W2,R x y z W2→K' (A x y z) W2)→(Code.region id ops true).wp P (Exit.then K' Q) a w)(hrest:∀ x y z W2,R x y z W2→K (A x y z) W2):(Code.region id ops true).wp P (Exit.then K Q) a w:=hreg K hrest
theorem Ns(rl:List Int)(R:Int)(v:Value)(l:List Int)(w:World)(h:Sl w v l)(hl:l.length≤4000)(hr:Lim 67108864 rl)(hR:val rl%pp=R%pp) :
  Calls prog 190 #[.agg (Ah rl),v] w fun e w'=>∃ r,e=.returned (.agg (Ah r))∧Lim 67108864 r∧val r=bX R l∧Bw w w':=by
 obtain⟨a0,c0,rfl⟩:∃ a c,v=.slice a l.length c:=by
  obtain⟨⟨a,c,e,_⟩,_⟩:=h;exact⟨a,c,e⟩
 have HR:Hid (val rl%pp=R%pp):=hR;clear hR;go_enter func190,ntmps190
 go_wp2_with fail
 go_loopw [1] (fun dv wr=>∃ (k:Nat) (nl:List Int) (a:Option Addr) (c:Nat),16*k≤l.length+15∧dv=.slice a (l.length-16*k) c∧Sl w dv (l.drop (16*k))∧Lim 67108864 nl∧val nl%pp=Jw R l k%pp∧wr.heap[w.heap.size]?=some (.cells (Ah rl) 271 (0,0))∧wr.heap[w.heap.size+1]?=some (.cells (Ah [0,0,0,0,0]) 271 (0,0))∧wr.heap[w.heap.size+1+1]?=some (.cells (Ah nl) 271 (0,0))∧Bw w wr) (fun dv _=>fE dv)
 case atStart =>
  obtain⟨s1,s2,s3,s4⟩:=Fq w (.cells (Ah rl) 271 (0,0)) (.cells (Ah [0,0,0,0,0]) 271 (0,0)) (.cells (Ah [0,0,0,0,0]) 271 (0,0));exact⟨0,[0,0,0,0,0],a0,c0,by omega,rfl,h,Lim.of5 (by omega) (by omega) (by omega) (by omega) (by omega),rfl,s1,s2,s3,s4⟩
 case round =>
  clear h;obtain⟨k,nl,a,c,hk,rfl,hs,hln,hvn,hrr,hz,hn,hb⟩:=hrel;by_cases hk16:16*k<l.length
  ·obtain⟨n,hne⟩:∃ n,l.length-16*k=n:=⟨_,rfl⟩;have HNE:Hid (l.length-16*k=n):=hne;have hn0:0<n:=by omega
   have hn0i:(0:Int)<(n:Int):=by omega
   rw[hne]at hs ⊢
   have hlen:(l.drop (16*k)).length=n:=by rw[List.length_drop];exact hne
   obtain⟨n0,n1,n2,n3,n4,rfl,_⟩:=hln.split;obtain⟨r0,r1,r2,r3,r4,rfl,_⟩:=hr.split;have kn0:=(cell_of_row _ _ 0 _ _ _ hn).trans (Aq _ 0 (by simp));have kn1:=(cell_of_row _ _ 1 _ _ _ hn).trans (Aq _ 1 (by simp));have kn2:=(cell_of_row _ _ 2 _ _ _ hn).trans (Aq _ 2 (by simp));have kn3:=(cell_of_row _ _ 3 _ _ _ hn).trans (Aq _ 3 (by simp));have kn4:=(cell_of_row _ _ 4 _ _ _ hn).trans (Aq _ 4 (by simp));have kr0:=(cell_of_row _ _ 0 _ _ _ hrr).trans (Aq _ 0 (by simp));have kr1:=(cell_of_row _ _ 1 _ _ _ hrr).trans (Aq _ 1 (by simp));have kr2:=(cell_of_row _ _ 2 _ _ _ hrr).trans (Aq _ 2 (by simp));have kr3:=(cell_of_row _ _ 3 _ _ _ hrr).trans (Aq _ 3 (by simp));have kr4:=(cell_of_row _ _ 4 _ _ _ hrr).trans (Aq _ 4 (by simp));simp only[List.getD_cons_zero,List.getD_cons_succ]at kn0 kn1 kn2 kn3 kn4 kr0 kr1 kr2 kr3 kr4;have hzn:w.heap.size+1+1<wr.heap.size:=(Array.getElem?_eq_some_iff.1 hn).1;have hzr:w.heap.size<wr.heap.size:=by omega
   have HN:Hid _:=hn;have HRR:Hid _:=hrr;have HZ:Hid _:=hz;have HB:Hid _:=hb;have HVN:Hid (val [n0,n1,n2,n3,n4]%pp=Jw R l k%pp):=hvn;clear hn hrr hz hb hvn hne;obtain⟨sz,hmin,hsz1,hsz2⟩:∃ sz:Nat,(if(n:Int)<16 then(n:Int)else 16)=(sz:Int)∧sz≤n∧((sz=16)∨(sz=n∧n<16)):=by
    by_cases h16:(n:Int)<16
    ·exact⟨n,by rw[if_pos h16],by omega,.inr ⟨rfl,by omega⟩⟩
    ·exact⟨16,by rw[if_neg h16];rfl,by omega,.inl rfl⟩
   obtain⟨a1,c1,hc1,st⟩:=hs.upTo sz (by omega);obtain⟨a2,c2,hc2,sd⟩:=hs.from sz (by omega);have hpl:((l.drop (16*k)).take sz).length≤16:=by rw[List.length_take];omega
   have HP:Hid ((l.drop (16*k)).take sz=piece l k):=by
    unfold Hid piece;rcases hsz2 with rfl|⟨rfl,h16⟩
    ·rfl
    ·rw[List.take_of_length_le (by omega),List.take_of_length_le (by omega)]
   have HD:Hid ((l.drop (16*k)).drop sz=l.drop (16*(k+1))∧n-sz=l.length-16*(k+1)):=by
    unfold Hid;have:=HNE.out;rw[List.drop_drop];rcases hsz2 with rfl|⟨rfl,h16⟩
    ·exact⟨by congr 1,by omega⟩
    ·refine⟨?_,by omega⟩;rw[List.drop_eq_nil_of_le (by omega),List.drop_eq_nil_of_le (by omega)]
   have HSZ:Hid (1≤sz):=by unfold Hid;omega
   clear hsz2;go_wp2_with fail
   apply LY (fun m1 s1 t1 W=>Lim 67108864 t1∧val t1%pp=Jw R l (k+1)%pp∧W.heap[w.heap.size]?=some (.cells (Ah [r0,r1,r2,r3,r4]) 271 (0,0))∧W.heap[w.heap.size+1]?=some (.cells (Ah [0,0,0,0,0]) 271 (0,0))∧W.heap[w.heap.size+1+1]?=some (.cells (Ah t1) 271 (0,0))∧Bw w W)
   ·intro K2 HK2
    go_region_with (first
     | (go_at_call 203;refine(Pp _ _ _ (st.below HB.out.drew) hpl).mono ?_;rintro e w2 ⟨m1,rfl,lm1,vm1,hb2⟩;have hzn2:w.heap.size+1+1<w2.heap.size:=Nat.lt_of_lt_of_le hzn hb2.size;have hzr2:w.heap.size<w2.heap.size:=Nat.lt_of_lt_of_le hzr hb2.size;have ln0:=(hb2.cell (p:=⟨w.heap.size+1+1,0,none⟩) hzn).trans kn0;have ln1:=(hb2.cell (p:=⟨w.heap.size+1+1,1,none⟩) hzn).trans kn1;have ln2:=(hb2.cell (p:=⟨w.heap.size+1+1,2,none⟩) hzn).trans kn2;have ln3:=(hb2.cell (p:=⟨w.heap.size+1+1,3,none⟩) hzn).trans kn3;have ln4:=(hb2.cell (p:=⟨w.heap.size+1+1,4,none⟩) hzn).trans kn4;have lr0:=(hb2.cell (p:=⟨w.heap.size,0,none⟩) hzr).trans kr0;have lr1:=(hb2.cell (p:=⟨w.heap.size,1,none⟩) hzr).trans kr1;have lr2:=(hb2.cell (p:=⟨w.heap.size,2,none⟩) hzr).trans kr2;have lr3:=(hb2.cell (p:=⟨w.heap.size,3,none⟩) hzr).trans kr3;have lr4:=(hb2.cell (p:=⟨w.heap.size,4,none⟩) hzr).trans kr4)
     | (go_at_call 202;refine(Xr [n0,n1,n2,n3,n4] m1 _ hln lm1).mono ?_;rintro e w3 ⟨s1,rfl,ls1,vs1,hb3⟩;have hzn3:w.heap.size+1+1<w3.heap.size:=Nat.lt_of_lt_of_le hzn2 hb3.size;have mr0:=(hb3.cell (p:=⟨w.heap.size,0,none⟩) hzr2).trans lr0;have mr1:=(hb3.cell (p:=⟨w.heap.size,1,none⟩) hzr2).trans lr1;have mr2:=(hb3.cell (p:=⟨w.heap.size,2,none⟩) hzr2).trans lr2;have mr3:=(hb3.cell (p:=⟨w.heap.size,3,none⟩) hzr2).trans lr3;have mr4:=(hb3.cell (p:=⟨w.heap.size,4,none⟩) hzr2).trans lr4)
     | (go_at_call 204;refine(UQ s1 [r0,r1,r2,r3,r4] _ ls1 hr).mono ?_;rintro e w4 ⟨t1,rfl,lt1,vt1,hb4⟩;have hst:=er t1 ((hb4.block _ hzn3).trans ((hb3.block _ hzn2).trans ((hb2.block _ hzn).trans HN.out))) rfl lt1.1;have hs5:(Ah t1).size=5:=by rw[Al];exact lt1.1))
    all_goals
     refine HK2.out m1 s1 t1 _ ⟨lt1,?_,?_,?_,?_,?_⟩
     ·rw[HP.out]at vm1
      exact Vb HVN.out vm1 vs1 HR.out vt1
     ·exact(setRow_other _ _ _ _ (by omega)).trans ((hb4.block _ (by omega)).trans ((hb3.block _ (by omega)).trans ((hb2.block _ hzr).trans HRR.out)))
     ·exact(setRow_other _ _ _ _ (by omega)).trans ((hb4.block _ (by omega)).trans ((hb3.block _ (by omega)).trans ((hb2.block _ (Nat.lt_of_succ_lt hzn)).trans HZ.out)))
     ·exact setRow_heap _ _ _ _ 271 _ ((hb4.block _ hzn3).trans ((hb3.block _ hzn2).trans ((hb2.block _ hzn).trans HN.out)))
     ·exact AU (((HB.out.drew.trans (hb2.mono (Nat.le_of_lt hzr))).trans (hb3.mono (Nat.le_of_lt hzr2))).trans (hb4.mono (by omega))) (by omega) _
   intro m1 s1 t1 W hW;obtain⟨lt1,vt1,q1,q2,q3,q4⟩:=hW;clear kn0 kn1 kn2 kn3 kn4 kr0 kr1 kr2 kr3 kr4 st hc1 hpl;go_wp2
   go_roundw
   case rel =>
    obtain⟨d1,d2⟩:=HD.out;rw[d1]at sd
    exact⟨k+1,t1,a2,c2,by omega,by rw[d2],sd,lt1,vt1,q1,q2,q3,q4⟩
   case measure=>have:=HSZ.out;simp[fE];omega
  ·have HK:Hid (k=NH l):=by unfold Hid NH;omega
   have hzero:l.length-16*k=0:=by omega
   rw[hzero];have hsz1:=Cx hln.1;have hzz:w.heap.size+1<wr.heap.size:=(Array.getElem?_eq_some_iff.1 hz).1;have HV:Hid (val nl%pp=Jw R l k%pp):=hvn;clear hvn hs;go_wp2_with ((with_reducible (refine Ap ?_));(refine wpList_load_row rfl 271 _ rfl (w.heap.size+1+1) rfl 271 _ (0,0) _ hn underlying271 rfl hsz1 ?_))
   refine(TV nl wr hln).mono ?_;rintro e w1 ⟨r1,rfl,l1,v1,hb1⟩;have hz1:=(hb1.block (w.heap.size+1) hzz).trans hz;have hB1:Bw w w1:=hb.trans (hb1.mono hb.size);have hsz2:=Cx l1.1;go_wp2_with ((with_reducible (refine Ap ?_));(refine wpList_store_row rfl 271 _ _ rfl (w.heap.size+1) _ rfl rfl 271 _ hz1 hsz2 (by rw[Al,Al,l1.1];rfl) (Bn r1) ?_))
   refine bodyPost_ret (v:=.agg (Ah r1)) (results_cell_row rfl _ _ (w.heap.size+1) 271 _ (0,0) _ rfl (setRow_heap w1 (w.heap.size+1) _ _ 271 _ hz1) underlying271 rfl hsz2) rfl ⟨r1,rfl,l1,?_,AU hB1 (by omega) _⟩;have hK:=HK.out;subst hK;rw[v1,HV.out];have:=Qa R l (NH l);exact Int.emod_eq_of_lt this.1 this.2
theorem AC{a b:Int}(h:a=b):Ending.returned (.int .i64 a)=.returned (.int .i64 b):=by rw[h]
def chA(k:Value)(s t:Int)(l:List Bool):Array Value:=(k::.int .i64 s::.int .i64 t::l.map Value.bool).toArray
theorem Fv(k:Value)(s t:Int)(l:List Bool):(chA k s t l).size=l.length+3:=by simp[chA]
theorem Sb(k:Value)(s t:Int)(l:List Bool):(chA k s t l)[0]?=some k:=by simp[chA]
theorem Ow(k:Value)(s t:Int)(l:List Bool):(chA k s t l)[1]?=some (.int .i64 s):=by simp[chA]
theorem Gv(l:List Bool)(hl:l.length=8):∃ b0 b1 b2 b3 b4 b5 b6 b7,l=[b0,b1,b2,b3,b4,b5,b6,b7]:=by
 match l,hl with
 | [b0,b1,b2,b3,b4,b5,b6,b7],_=>exact⟨b0,b1,b2,b3,b4,b5,b6,b7,rfl⟩
theorem Tq{w:World}{g:Nat}{k:Value}{s t:Int}{b0 b1 b2 b3 b4 b5 b6 b7:Bool}{ty:TypeId}{fr:Nat × Nat}(h:w.heap[g]?=some (.cells (chA k s t [b0,b1,b2,b3,b4,b5,b6,b7]) ty fr)) :
  w.cell? ⟨g,0,none⟩=some k∧w.cell? ⟨g,1,none⟩=some (.int .i64 s)∧w.cell? ⟨g,2,none⟩=some (.int .i64 t)∧w.cell? ⟨g,3,none⟩=some (.bool b0)∧w.cell? ⟨g,4,none⟩=some (.bool b1)∧w.cell? ⟨g,5,none⟩=some (.bool b2)∧w.cell? ⟨g,6,none⟩=some (.bool b3)∧w.cell? ⟨g,7,none⟩=some (.bool b4)∧w.cell? ⟨g,8,none⟩=some (.bool b5)∧w.cell? ⟨g,9,none⟩=some (.bool b6)∧w.cell? ⟨g,10,none⟩=some (.bool b7) :=
 ⟨cell_of_row _ _ 0 _ _ _ h,cell_of_row _ _ 1 _ _ _ h,cell_of_row _ _ 2 _ _ _ h,cell_of_row _ _ 3 _ _ _ h,cell_of_row _ _ 4 _ _ _ h,cell_of_row _ _ 5 _ _ _ h,cell_of_row _ _ 6 _ _ _ h,cell_of_row _ _ 7 _ _ _ h,cell_of_row _ _ 8 _ _ _ h,cell_of_row _ _ 9 _ _ _ h,cell_of_row _ _ 10 _ _ _ h⟩
def wA(t:Int)(l:List Bool):Array Value:=(.int .i64 t::l.map Value.bool).toArray
theorem Dx(t:Int)(l:List Bool):(wA t l).size=l.length+1:=by simp[wA]
theorem eM(t:Int)(l:List Bool):(wA t l)[0]?=some (.int .i64 t):=by simp[wA]
theorem JX(t:Int)(l:List Bool)(i:Nat)(hi:i<l.length):(wA t l)[1+i]?=some (.bool (l.getD i false)):=by
 rw[Nat.add_comm];simp[wA,List.getD,List.getElem?_eq_getElem hi]
theorem Og(t:Int)(l:List Bool):(wA t l).all (·.oneCell')=true:=by simp[wA,Value.oneCell']
theorem Lz{w:World}{g:Nat}{t:Int}{b0 b1 b2 b3 b4 b5 b6 b7:Bool}{ty:TypeId}{fr:Nat × Nat}(h:w.heap[g]?=some (.cells (wA t [b0,b1,b2,b3,b4,b5,b6,b7]) ty fr)) :
  w.cell? ⟨g,0,none⟩=some (.int .i64 t)∧w.cell? ⟨g,1,none⟩=some (.bool b0)∧w.cell? ⟨g,2,none⟩=some (.bool b1)∧w.cell? ⟨g,3,none⟩=some (.bool b2)∧w.cell? ⟨g,4,none⟩=some (.bool b3)∧w.cell? ⟨g,5,none⟩=some (.bool b4)∧w.cell? ⟨g,6,none⟩=some (.bool b5)∧w.cell? ⟨g,7,none⟩=some (.bool b6)∧w.cell? ⟨g,8,none⟩=some (.bool b7) :=
 ⟨cell_of_row _ _ 0 _ _ _ h,cell_of_row _ _ 1 _ _ _ h,cell_of_row _ _ 2 _ _ _ h,cell_of_row _ _ 3 _ _ _ h,cell_of_row _ _ 4 _ _ _ h,cell_of_row _ _ 5 _ _ _ h,cell_of_row _ _ 6 _ _ _ h,cell_of_row _ _ 7 _ _ _ h,cell_of_row _ _ 8 _ _ _ h⟩
def OW(t:Int)(l:List Bool)(x:Int):Bool:=decide (t-8≤x)&&decide (x<t)&&l.getD (x-(t-8)).toNat false
theorem NA(t:Int)(l:List Bool)(k:Nat)(hk:k<8):OW t l (t-8+k)=l.getD k false:=by
 unfold OW;rw[decide_eq_true (by omega),decide_eq_true (by omega),show(t-8+(k:Int)-(t-8)).toNat=k by omega];simp
theorem S6{t:Int}{l:List Bool}{x:Int}(h:t≤x):OW t l x=false:=by
 unfold OW;rw[decide_eq_false (show ¬ x<t by omega)];simp
structure OkC(key:List Int)(s t:Int)(l:List Bool):Prop where
 key:key.length=32
 s0:0≤s
 s1:s≤1073741824
 t0:0≤t
 t1:t≤1073741824
 low:∀ i:Nat,i<8→l.getD i false=true→0≤t-8+(i:Int)
 top:t=0∨l.getD 7 false=true
theorem ZG(key:List Int)(s t:Int)(l:List Bool):OkC key s t l↔(key.length=32∧0≤s∧s≤1073741824∧0≤t∧t≤1073741824∧(∀ i,i<8→l.getD i false=true→0≤t-8+(i:Int))∧(t=0∨l.getD 7 false=true)) :=
 ⟨fun h=>⟨h.1,h.2,h.3,h.4,h.5,h.6,h.7⟩,fun h=>⟨h.1,h.2.1,h.2.2.1,h.2.2.2.1,h.2.2.2.2.1,h.2.2.2.2.2.1,h.2.2.2.2.2.2⟩⟩
instance (key:List Int) (s t:Int) (l:List Bool):Decidable (OkC key s t l):=decidable_of_iff _ (ZG key s t l).symm
def QY(t:Int)(l:List Bool):Bool:=((List.range 8).all fun i=>!l.getD i false||decide (0≤t-8+(i:Int)))&&(decide (t=0)||l.getD 7 false)
theorem F6(t:Int)(l:List Bool):QY t l=true↔((∀ i:Nat,i<8→l.getD i false=true→0≤t-8+(i:Int))∧(t=0∨l.getD 7 false=true)):=by
 unfold QY;rw[Bool.and_eq_true,Bool.or_eq_true,List.all_eq_true];constructor
 ·rintro⟨h1,h2⟩;refine⟨fun i hi hb=>?_,h2.imp of_decide_eq_true id⟩;have h:=h1 i (List.mem_range.2 hi);rw[hb]at h
  simpa using h
 ·rintro⟨h1,h2⟩;refine⟨fun i hi=>?_,h2.imp decide_eq_true id⟩;cases hb:l.getD i false with
  | true=>simpa using h1 i (List.mem_range.1 hi) hb
  | false=>rfl
def Eg(key:List Int)(s t:Int)(l:List Bool):Int:=if OkC key s t l then 0 else 5
def GL(t:Int)(l:List Bool)(n:Int):Bool:=decide (n<t)&&(decide (n<t-8)||OW t l n)
def Gp(t n:Int):Int:=if t≤n then n+1 else t
def JE(t:Int)(l:List Bool)(n:Int):List Bool:=(List.range 8).map fun k:Nat=>decide (Gp t n-8+(k:Int)=n)||OW t l (Gp t n-8+(k:Int))
theorem DZ(t:Int)(l:List Bool)(n:Int):(JE t l n).length=8:=by simp[JE]
theorem SP(t:Int)(l:List Bool)(n:Int)(k:Nat)(hk:k<8):(JE t l n).getD k false=(decide (Gp t n-8+(k:Int)=n)||OW t l (Gp t n-8+(k:Int))):=by
 simp[JE,List.getD,hk]
def noB:List Bool:=List.replicate 8 false
theorem GI:noB.length=8:=rfl
theorem dE(k:Nat):noB.getD k false=false:=by
 rw[noB,List.getD_eq_getElem?_getD,List.getElem?_replicate];split<;>rfl
theorem OkC.new{key:List Int}(hk:key.length=32)(s:Int)(h0:0≤s)(h1:s≤1073741824):OkC key s 0 noB :=
 ⟨hk,h0,h1,by omega,by omega,(fun i _ h=>by rw[dE]at h;exact absurd h (by simp)),.inl rfl⟩
theorem SA{t:Int}{l:List Bool}{n:Int}(h:t≤n):GL t l n=false:=by unfold GL;rw[decide_eq_false (by omega)];simp
theorem ZH{t:Int}{l:List Bool}{n:Int}(h:t-8≤n):GL t l n=OW t l n:=by
 by_cases h2:n<t
 ·unfold GL;rw[decide_eq_true h2,decide_eq_false (show ¬ n<t-8 by omega)];simp
 ·rw[SA (by omega),S6 (by omega)]
theorem Pg{t:Int}{l:List Bool}{n:Int}(h:n<t-8):GL t l n=true:=by unfold GL;rw[decide_eq_true (show n<t by omega),decide_eq_true h];simp
def Ac(n:Int):List Int:=[n/16777216%256,n/65536%256,n/256%256,n%256]
def Bj(h:List Int):List Int:=List.replicate 8 0++h
def EO(h:List Int):Int:=16777216*h.getD 0 0+65536*h.getD 1 0+256*h.getD 2 0+h.getD 3 0
theorem Ca(n:Int):(Ac n).length=4:=rfl
theorem AO(n:Int):∀ x∈Ac n,0≤x∧x<256:=by
 intro x hx;simp only[Ac,List.mem_cons,List.not_mem_nil,or_false]at hx;rcases hx with rfl|rfl|rfl|rfl<;>omega
theorem Gx{h:List Int}(hh:h.length=4):(Bj h).length=12:=by simp[Bj,hh]
theorem Pe{h:List Int}(hb:∀ x∈h,0≤x∧x<256):∀ x∈Bj h,0≤x∧x<256:=by
 intro x hx;rcases List.mem_append.1 hx with h1|h1
 ·rw[(List.mem_replicate.1 h1).2];omega
 ·exact hb x h1
theorem gP(h:List Int)(hh:h.length=4):∃ a b c d,h=[a,b,c,d]:=by
 match h,hh with
 | [a,b,c,d],_=>exact⟨a,b,c,d,rfl⟩
theorem KN{h:List Int}(hh:h.length=4)(hb:∀ x∈h,0≤x∧x<256):0≤EO h∧EO h<4294967296:=by
 obtain⟨a,b,c,d,rfl⟩:=gP h hh;have h1:=hb a (by simp);have h2:=hb b (by simp);have h3:=hb c (by simp);have h4:=hb d (by simp);show 0≤16777216*a+65536*b+256*c+d∧16777216*a+65536*b+256*c+d<4294967296;omega
theorem Jv{t:Int}{l:List Bool}(hl:l.length=8):(prog.info? 227).map (·.size)=some (wA t l).size:=by rw[Dx,hl];kernel_rfl
theorem H8{P:Program}{fn:Func}{p u:Tmp}{ty:TypeId}(h:fn.results=#[.cell p ty,.tmp u])(tmps:Array Value)(w:World)(g:Nat)(t:TypeId)(cs:Array Value)(fr:Nat × Nat)(d:TypeDesc)
  (hp:tmps.getD p undef=.pointer (some ⟨g,0,none⟩))(hg:w.heap[g]?=some (.cells cs t fr))
  (hu:P.underlying ty=some d)(hd:(match d with|.struct _|.array _ _=>true|_=>false)=true)(hi:(P.info? ty).map (·.size)=some cs.size) :
  (results fn tmps).run P w=.ok (.tuple #[.agg cs,tmps.getD u undef]) w:=by
 have hp':tmps[p]?.getD undef=.pointer (some ⟨g,0,none⟩):=by simpa using hp
 simp[results,h,hp',asAddr,run_loadVar_row w g t ty cs fr d hg hu hd hi]
theorem EU{P:Program}{fn:Func}{p u v:Tmp}{ty:TypeId}(h:fn.results=#[.cell p ty,.tmp u,.tmp v])(tmps:Array Value)(w:World)(g:Nat)(t:TypeId)(cs:Array Value)(fr:Nat × Nat)(d:TypeDesc)
  (hp:tmps.getD p undef=.pointer (some ⟨g,0,none⟩))(hg:w.heap[g]?=some (.cells cs t fr))
  (hu:P.underlying ty=some d)(hd:(match d with|.struct _|.array _ _=>true|_=>false)=true)(hi:(P.info? ty).map (·.size)=some cs.size) :
  (results fn tmps).run P w=.ok (.tuple #[.agg cs,tmps.getD u undef,tmps.getD v undef]) w:=by
 have hp':tmps[p]?.getD undef=.pointer (some ⟨g,0,none⟩):=by simpa using hp
 simp[results,h,hp',asAddr,run_loadVar_row w g t ty cs fr d hg hu hd hi]
def blA(l:List Bool):Array Value:=(l.map Value.bool).toArray
theorem to8{j:Nat}(h:j<8):j=0∨j=1∨j=2∨j=3∨j=4∨j=5∨j=6∨j=7:=by omega
theorem Vo(S:List Bool)(hS:S.length=8)(j:Nat)(hj:j<8):∀ w,(Instr.index 86 (.agg (blA S)) (.int .i64 (j:Int))).run prog w=.ok (.bool (S.getD j false)) w:=by
 intro w;obtain⟨b0,b1,b2,b3,b4,b5,b6,b7,rfl⟩:=Gv S hS;rcases to8 hj with rfl|rfl|rfl|rfl|rfl|rfl|rfl|rfl;all_goals kernel_rfl
theorem Fc(k:Value)(s t:Int)(l:List Bool)(w:World)(hl:l.length=8) :
  Calls prog 148 #[.agg (chA k s t l)] w fun e w'=>e=.returned (.agg (wA t l))∧Bw w w':=by
 obtain⟨b0,b1,b2,b3,b4,b5,b6,b7,rfl⟩:=Gv l hl;simp only[chA,wA,List.map];go_enter func148,ntmps148
 go_wp2
 exact bodyPost_ret (v:=.agg (wA t [b0,b1,b2,b3,b4,b5,b6,b7])) (results_cell_row rfl _ _ (w.heap.size+1) 227 _ (0,0) _ rfl (heap_alloc2_new _ _ _) underlying227 rfl (Jv rfl)) rfl ⟨rfl,((Below.refl _ _).alloc (Nat.le_refl _) _).alloc (by simp) _⟩
theorem DA(t:Int)(l:List Bool)(w:World)(hl:l.length=8)(t0:-1000≤t)(t1:t≤4611686018427387904) :
  Calls prog 173 #[.agg (wA t l)] w fun e w'=>e=.returned (.int .i64 (t-8))∧Bw w w':=by
 obtain⟨b0,b1,b2,b3,b4,b5,b6,b7,rfl⟩:=Gv l hl;simp only[wA,List.map];go_enter func173,ntmps173
 go_wp2
 go_ret;exact⟨rfl,(Below.refl _ _).alloc (Nat.le_refl _) _⟩
theorem TI(t n:Int)(l:List Bool)(w:World)(hl:l.length=8)(t0:0≤t)(t1:t≤1073741824)(n0:0≤n)(n1:n<1073741824) :
  Calls prog 196 #[.agg (wA t l),.int .i64 n] w fun e w'=>e=.returned (.bool (GL t l n))∧Bw w w':=by
 have hl':=hl;obtain⟨b0,b1,b2,b3,b4,b5,b6,b7,rfl⟩:=Gv l hl;simp only[wA,List.map];by_cases h1:t≤n
 ·have HO:Hid (false=GL t [b0,b1,b2,b3,b4,b5,b6,b7] n):=(SA h1).symm;go_enter func196,ntmps196
  go_wp2
  go_ret;exact⟨Ae HO.out,(Below.refl _ _).alloc (Nat.le_refl _) _⟩
 ·have hb:Bw w (w.alloc (.cells (wA t [b0,b1,b2,b3,b4,b5,b6,b7]) 227)):=(Below.refl _ _).alloc (Nat.le_refl _) _;go_enter func196,ntmps196
  go_wp2_with fail
  have hrow:(w.alloc (.cells (wA t [b0,b1,b2,b3,b4,b5,b6,b7]) 227)).heap[w.heap.size]?=some (.cells (wA t [b0,b1,b2,b3,b4,b5,b6,b7]) 227 (0,0)):=heap_alloc_new _ _;refine(DA t [b0,b1,b2,b3,b4,b5,b6,b7] _ rfl (by omega) (by omega)).mono ?_;rintro e w1 ⟨rfl,c1⟩;have d1:Bw w w1:=hb.trans (c1.mono (by simp));replace hrow:=(c1.block w.heap.size (by simp)).trans hrow;clear hb c1;by_cases h2:n<t-8
  ·have HO:Hid (true=GL t [b0,b1,b2,b3,b4,b5,b6,b7] n):=(Pg h2).symm;go_wp2
   go_ret;exact⟨Ae HO.out,d1⟩
  ·have h3:n<t:=by omega
   obtain⟨i,hi,hn⟩:∃ i:Nat,i<8∧n=t-8+(i:Int):=⟨(n-(t-8)).toNat,by omega,by omega⟩;have HO:Hid (GL t [b0,b1,b2,b3,b4,b5,b6,b7] n=[b0,b1,b2,b3,b4,b5,b6,b7].getD i false):=by
    unfold Hid;rw[ZH (by omega),hn,NA _ _ _ hi]
   have HN:Hid (n=t-8+(i:Int)):=hn;have cs:=(cell_of_row _ _ (1+i) _ _ _ hrow).trans (JX t _ i hi);obtain⟨c0,c1,c2,c3,c4,c5,c6,c7,c8⟩:=Lz hrow;have hz:w.heap.size<w1.heap.size:=(Array.getElem?_eq_some_iff.1 hrow).1;clear hn;generalize [b0,b1,b2,b3,b4,b5,b6,b7].getD i false=c at cs HO;go_wp2_with fail
   refine(DA t [b0,b1,b2,b3,b4,b5,b6,b7] _ rfl (by omega) (by omega)).mono ?_;rintro e w2 ⟨rfl,e2⟩;have d2:Bw w w2:=d1.trans (e2.mono d1.size);replace cs:=(e2.cell (p:=⟨w.heap.size,1+i,none⟩) hz).trans cs;have hii:n-(t-8)=(i:Int):=by have:=HN.out;omega
   clear c0 c1 c2 c3 c4 c5 c6 c7 c8 hrow e2;go_wp2
   go_ret;exact⟨Ae (by rw[HO.out,decide_eq_false (by omega),Bool.false_or]),d2⟩
theorem TY(t:Int)(l:List Bool)(w:World)(hl:l.length=8)(t0:0≤t)(t1:t≤1073741824) :
  Calls prog 149 #[.agg (wA t l)] w fun e w'=>e=.returned (.bool (QY t l))∧Bw w w':=by
 have HS:Hid (∀ i:Nat,i<8→∀ w,(Instr.index 86 (.agg (blA l)) (.int .i64 (i:Int))).run prog w=.ok (.bool (l.getD i false)) w):=fun i hi=>Vo l hl i hi;obtain⟨b0,b1,b2,b3,b4,b5,b6,b7,rfl⟩:=Gv l hl;simp only[wA,blA,List.map]at HS ⊢;go_enter func149,ntmps149
 go_wp2_with fail
 have hrow:(w.alloc (.cells (wA t [b0,b1,b2,b3,b4,b5,b6,b7]) 227)).heap[w.heap.size]?=some (.cells (wA t [b0,b1,b2,b3,b4,b5,b6,b7]) 227 (0,0)):=heap_alloc_new _ _;have hsz:(w.alloc (.cells (wA t [b0,b1,b2,b3,b4,b5,b6,b7]) 227)).heap.size=w.heap.size+1:=by simp
 have b0':Bw w (w.alloc (.cells (wA t [b0,b1,b2,b3,b4,b5,b6,b7]) 227)):=(Below.refl _ _).alloc (Nat.le_refl _) _;simp only[wA,List.map]at hrow hsz b0';generalize w.alloc (.cells #[.int .i64 t,.bool b0,.bool b1,.bool b2,.bool b3,.bool b4,.bool b5,.bool b6,.bool b7] 227)=W0 at hrow hsz b0' ⊢;generalize (#[.bool b0,.bool b1,.bool b2,.bool b3,.bool b4,.bool b5,.bool b6,.bool b7]:Array Value)=S at HS ⊢
 go_loopw [7] (fun iv wr=>∃ i:Nat,i≤8∧iv=.int .i64 i∧Hid (∀ j:Nat,j<i→[b0,b1,b2,b3,b4,b5,b6,b7].getD j false=true→0≤t-8+(j:Int))∧Below (w.heap.size+1) W0 wr) (fun iv _=>8-(intOf iv).toNat)
 case atStart=>exact⟨0,by omega,rfl,fun j hj=>by omega,Below.refl _ _⟩
 case round =>
  obtain⟨i,hi,rfl,hold,hbel⟩:=hrel;have hr:=(hbel.block w.heap.size (by omega)).trans hrow;obtain⟨c0,c1,c2,c3,c4,c5,c6,c7,c8⟩:=Lz hr;have dW:Bw w wr:=b0'.trans (hbel.mono (by omega));have hzr:=hbel.size;by_cases hi8:i<8
  ·have hii:(i:Int)<8:=by omega
   have hx:=HS.out i hi8;cases hb:[b0,b1,b2,b3,b4,b5,b6,b7].getD i false with
   | true =>
    rw[hb]at hx
    have HBI:Hid ([b0,b1,b2,b3,b4,b5,b6,b7].getD i false=true):=hb;clear hb hr;go_wp2_with fail
    refine(DA t [b0,b1,b2,b3,b4,b5,b6,b7] _ rfl (by omega) (by omega)).mono ?_;rintro e w2 ⟨rfl,e2⟩;have d2:Bw w w2:=dW.trans (e2.mono dW.size);have hb2:Below (w.heap.size+1) W0 w2:=hbel.trans (e2.mono (by omega));clear c0 c1 c2 c3 c4 c5 c6 c7 c8 e2 hbel;by_cases hneg:t-8+(i:Int)<0
    ·have HF:Hid (false=QY t [b0,b1,b2,b3,b4,b5,b6,b7]):=by
      unfold Hid;symm;rw[Bool.eq_false_iff];intro hm;have:=((F6 _ _).1 hm).1 i hi8 HBI.out;omega
     go_wp2
     go_ret;exact⟨Ae HF.out,d2⟩
    ·go_wp2
     go_roundw
     case rel =>
      refine⟨i+1,by omega,by go_num,?_,hb2⟩;intro j hj hbj;rcases Nat.lt_or_ge j i with h|h
      ·exact hold.out j h hbj
      ·obtain rfl:j=i:=by omega
       omega
     case measure=>simp[intOf];omega
   | false =>
    rw[hb]at hx
    have HBI:Hid ([b0,b1,b2,b3,b4,b5,b6,b7].getD i false=false):=hb;clear hb hr;go_wp2
    go_roundw
    case rel =>
     refine⟨i+1,by omega,by go_num,?_,hbel⟩;intro j hj hbj;rcases Nat.lt_or_ge j i with h|h
     ·exact hold.out j h hbj
     ·obtain rfl:j=i:=by omega
      rw[HBI.out]at hbj
      cases hbj
    case measure=>simp[intOf];omega
  ·obtain rfl:i=8:=by omega
   rw[show((8:Nat):Int)=8 from rfl];have HM:Hid ((decide (t=0)||b7)=QY t [b0,b1,b2,b3,b4,b5,b6,b7]):=by
    unfold Hid;rw[Bool.eq_iff_iff,F6,Bool.or_eq_true];constructor
    ·intro h;exact⟨hold.out,h.imp of_decide_eq_true id⟩
    ·intro h;exact h.2.imp decide_eq_true id
   clear hr HS;go_wp2
   all_goals
    rename_i ht
    go_ret;refine⟨Ae ?_,dW⟩;rw[← HM.out];simp[ht]
theorem Wu:(prog.info? 4).map (·.size)=some 1:=by kernel_rfl
theorem eq(w:World):(Go.sizeOf 4).run prog w=.ok 1 w:=by
 have h:=Wu;cases hi:prog.info? 4 with
 | none=>rw[hi]at h;cases h
 | some i =>
  rw[hi]at h
  simp only[Option.map_some,Option.some.injEq]at h;simp[sizeOf,typeInfo,hi,h]
theorem Vk(B d:Nat)(hd:d≤8):∃ ad,(∀ W,(Instr.sliceAt 86 (.pointer (some ⟨B,1,none⟩)) (some (.int .i64 (d:Int))) none none).run prog W=.ok (.slice (some ad) (8-d) (8-d)) W)∧(0<8-d→ad=⟨B,1+d,none⟩):=by
 refine⟨if 8=d then⟨B,1,none⟩else(⟨B,1,none⟩:Addr).add (d*1),fun W=>?_,fun h=>?_⟩
 ·have e1:prog.arrayLen 86=8:=by kernel_rfl
  have e2:prog.elem 86=4:=by kernel_rfl
  rw[run_sliceAt_array_l (P:=prog) W 86 _ underlying86 .i64 _ (by omega) (by rw[e1];omega),e1,e2,eq];simp[Result.andThen,slicedAt]
 ·rw[if_neg (by omega),Nat.mul_one];exact Addr.add_mid B 1 d
theorem Wo(w:World)(a b c:Obj):(((w.alloc a).alloc b).alloc c).heap[w.heap.size]?=some a∧(((w.alloc a).alloc b).alloc c).heap[w.heap.size+1]?=some b∧(((w.alloc a).alloc b).alloc c).heap[w.heap.size+1+1]?=some c:=by
 have hb:Below ((w.alloc a).alloc b).heap.size ((w.alloc a).alloc b) (((w.alloc a).alloc b).alloc c):=(Below.refl _ _).alloc (Nat.le_refl _) _;have hz:((w.alloc a).alloc b).heap.size=w.heap.size+1+1:=by simp
 have h2:=heap_alloc_new ((w.alloc a).alloc b) c;rw[hz]at h2 hb
 exact⟨(hb.block _ (by omega)).trans (heap_alloc2_old _ _ _),(hb.block _ (by omega)).trans (heap_alloc2_new _ _ _),h2⟩
theorem UW(n:Int)(l:List Bool)(hl:l.length=8)(d:Nat)(h1:1≤d)(h8:d≤8):(splice [.int .i64 n,.bool false,.bool false,.bool false,.bool false,.bool false,.bool false,.bool false,.bool false] 1 ((l.drop d).map Value.bool)).toArray=wA n (l.drop d++List.replicate d false):=by
 obtain⟨b0,b1,b2,b3,b4,b5,b6,b7,rfl⟩:=Gv l hl;have:d=1∨d=2∨d=3∨d=4∨d=5∨d=6∨d=7∨d=8:=by omega
 rcases this with rfl|rfl|rfl|rfl|rfl|rfl|rfl|rfl<;>rfl
theorem R6(t n:Int)(l:List Bool)(w:World)(hl:l.length=8)(t0:0≤t)(t1:t≤1073741824)(n0:t<n)(n1:n≤1073741824)(d:Nat)(hd:d=min (n-t).toNat 8) :
  Calls prog 198 #[.agg (wA t l),.int .i64 n] w fun e w'=>e=.returned (.agg (wA n (l.drop d++List.replicate d false)))∧Bw w w':=by
 obtain⟨b0,b1,b2,b3,b4,b5,b6,b7,rfl⟩:=Gv l hl;simp only[wA,List.map];go_enter func198,ntmps198
 have hm:(if 8<n-t then 8 else n-t)=(d:Int):=by split<;>omega
 have hwr:IntKind.i64.wrap (n-t)=n-t:=by rw[IntKind.wrap_i64];omega
 have hdz:1≤d∧d≤8:=by omega
 obtain⟨ad,hsl,had⟩:=Vk w.heap.size d (by omega);clear hd;have HR:Hid (∀ w':World,Below (w.heap.size+1+1) (((w.alloc (.cells (wA t [b0,b1,b2,b3,b4,b5,b6,b7]) 227)).alloc (.cells (wA 0 [false,false,false,false,false,false,false,false]) 227)).alloc (.cells (wA n [false,false,false,false,false,false,false,false]) 227)).drew w'→Bw w w'∧w'.heap[w.heap.size+1]?=some (.cells (wA 0 [false,false,false,false,false,false,false,false]) 227 (0,0))):=by
  intro w' hb;obtain⟨_,e1,_⟩:=Wo w (.cells (wA t [b0,b1,b2,b3,b4,b5,b6,b7]) 227) (.cells (wA 0 [false,false,false,false,false,false,false,false]) 227) (.cells (wA n [false,false,false,false,false,false,false,false]) 227);refine⟨((((Below.refl _ _).alloc (Nat.le_refl _) _).alloc (by simp) _).alloc (by simp;omega) _).drew.trans (hb.mono (by omega)),?_⟩;exact(hb.block (w.heap.size+1) (by omega)).trans e1
 have HC:Hid (∀ j v,(([b0,b1,b2,b3,b4,b5,b6,b7].drop d).map Value.bool)[j]?=some v→(((w.alloc (.cells (wA t [b0,b1,b2,b3,b4,b5,b6,b7]) 227)).alloc (.cells (wA 0 [false,false,false,false,false,false,false,false]) 227)).alloc (.cells (wA n [false,false,false,false,false,false,false,false]) 227)).drew.cell? (ad.add j)=some v):=by
  intro j v hj;have hjl:j<8-d:=by simpa using(List.getElem?_eq_some_iff.1 hj).1
  rw[had (by omega),Addr.add_mid];obtain⟨e0,_,_⟩:=Wo w (.cells (wA t [b0,b1,b2,b3,b4,b5,b6,b7]) 227) (.cells (wA 0 [false,false,false,false,false,false,false,false]) 227) (.cells (wA n [false,false,false,false,false,false,false,false]) 227);have h1:=(cell_of_row _ _ (1+(d+j)) _ _ _ e0).trans (JX t _ (d+j) (by simp;omega));rw[Nat.add_assoc];refine Eq.trans h1 ?_;rw[List.getElem?_map,List.getElem?_drop]at hj
  rw[← hj,List.getD,List.getElem?_eq_getElem (show d+j<[b0,b1,b2,b3,b4,b5,b6,b7].length by simp;omega)];rfl
 obtain⟨_,_,e2⟩:=Wo w (.cells (wA t [b0,b1,b2,b3,b4,b5,b6,b7]) 227) (.cells (wA 0 [false,false,false,false,false,false,false,false]) 227) (.cells (wA n [false,false,false,false,false,false,false,false]) 227);have HG:Hid _:=e2;clear e2;go_wp2_with fail
 go_region_law (refine step_copy_splice rfl (.tmp 9) (.tmp 16) 284 284 rfl 4 underlying284 Wu _ _ _ _ _ _ rfl rfl (w.heap.size+1+1) 1 [.int .i64 n,.bool false,.bool false,.bool false,.bool false,.bool false,.bool false,.bool false,.bool false] 227 HG.out (([b0,b1,b2,b3,b4,b5,b6,b7].drop d).map Value.bool) (by simp) (fun hp=>⟨rfl,ad,rfl,HC.out⟩) (by simp;omega) (by intro v hv;obtain⟨x,_,rfl⟩:=List.mem_map.1 hv;rfl) (w.heap.size+1+1) _ (Below.refl _ _) (Nat.le_refl _) ?_;intro w4 H4 hb4)
 obtain⟨d4,r4⟩:=HR.out w4 hb4;have hl8:([b0,b1,b2,b3,b4,b5,b6,b7].drop d++List.replicate d false).length=8:=by simp;omega
 have h4:=H4.out;rw[UW n _ rfl d hdz.1 hdz.2]at h4
 generalize hR:[b0,b1,b2,b3,b4,b5,b6,b7].drop d++List.replicate d false=R at hl8 h4;have HRR:Hid ([b0,b1,b2,b3,b4,b5,b6,b7].drop d++List.replicate d false=R):=hR;clear hR;have hi:=Jv (t:=n) hl8;have hz:=(Array.getElem?_eq_some_iff.1 h4).1;clear HR HC HG hb4 H4;go_wp2_with (first
  | (refine wpList_load_row rfl 227 _ rfl (w.heap.size+1+1) rfl 227 _ (0,0) _ h4 underlying227 rfl hi ?_)
  | (refine wpList_store_row rfl 227 _ _ rfl (w.heap.size+1) _ rfl rfl 227 _ r4 hi (by rw[Dx,Dx,hl8];rfl) (Og n R) ?_))
 exact bodyPost_ret (v:=.agg (wA n R)) (results_cell_row rfl _ _ (w.heap.size+1) 227 _ (0,0) _ rfl (setRow_heap w4 (w.heap.size+1) _ _ 227 _ r4) underlying227 rfl hi) rfl ⟨by rw[← HRR.out];rfl,below_setRow d4 (by omega) _⟩
theorem eL(t:Int)(l:List Bool)(i:Nat)(x:Bool):(wA t l).setIfInBounds (1+i) (.bool x)=wA t (l.set i x):=by
 apply Array.ext';rw[Nat.add_comm];simp[wA,List.map_set]
theorem PV{w:World}{g:Nat}{t:Int}{l:List Bool}{ty:TypeId}(h:w.heap[g]?=some (.cells (wA t l) ty (0,0)))(k:Nat)(x:Bool) :
  (w.setCell ⟨g,1+k,none⟩ (.bool x)).heap[g]?=some (.cells (wA t (l.set k x)) ty (0,0)):=by
 rw[heap_setCell_same _ _ _ _ _ _ h,eL]
theorem OT{a b:List Bool}(ha:a.length=8)(hb:b.length=8)(h:∀ k,k<8→a.getD k false=b.getD k false):a=b:=by
 apply List.ext_getElem (by omega);intro k h1 h2;have:=h k (by omega);simpa[List.getD,List.getElem?_eq_getElem h1,List.getElem?_eq_getElem h2]using this
theorem PB(l:List Bool)(i k:Nat)(x:Bool)(hi:i<l.length):(l.set i x).getD k false=if k=i then x else l.getD k false:=by
 rw[List.getD,List.getElem?_set,List.getD];by_cases h:i=k
 ·subst h;simp[hi]
 ·rw[if_neg h,if_neg (fun e=>h e.symm)]
theorem Ya(t n:Int)(l:List Bool)(hl:l.length=8)(h1:n<t)(i:Nat)(hi:i<8)(hn:n=t-8+(i:Int)):JE t l n=l.set i true∧Gp t n=t:=by
 have hT:Gp t n=t:=by unfold Gp;rw[if_neg (by omega)]
 refine⟨OT (DZ _ _ _) (by simp[hl]) fun k hk=>?_,hT⟩;rw[SP _ _ _ _ hk,hT,NA t l k hk,PB _ _ _ _ (by omega)];by_cases h:k=i
 ·rw[if_pos h,decide_eq_true (by omega)];rfl
 ·rw[if_neg h,decide_eq_false (by omega)];rfl
theorem R5(l:List Bool)(hl:l.length=8)(d k:Nat)(hk:k<8)(hd:d≤8):(l.drop d++List.replicate d false).getD k false=if d+k<8 then l.getD (d+k) false else false:=by
 by_cases h:d+k<8
 ·rw[if_pos h,List.getD,List.getElem?_append_left (by simp;omega),List.getElem?_drop,List.getD]
 ·rw[if_neg h,List.getD,List.getElem?_append_right (by simp;omega),List.getElem?_replicate];split<;>rfl
theorem UJ(t n:Int)(l:List Bool)(hl:l.length=8)(h1:t≤n)(d:Nat)(hd:d=min (n+1-t).toNat 8):JE t l n=(l.drop d++List.replicate d false).set 7 true∧Gp t n=n+1:=by
 have hT:Gp t n=n+1:=by unfold Gp;rw[if_pos h1]
 refine⟨OT (DZ _ _ _) (by simp;omega) fun k hk=>?_,hT⟩;rw[SP _ _ _ _ hk,hT,PB _ _ _ _ (by simp;omega),R5 l hl d k hk (by omega)];by_cases h:k=7
 ·rw[if_pos h,decide_eq_true (by omega)];rfl
 ·rw[if_neg h,decide_eq_false (by omega),Bool.false_or];by_cases h2:d+k<8
  ·rw[if_pos h2,show n+1-8+(k:Int)=t-8+((d+k:Nat):Int)by omega,NA _ _ _ h2]
  ·rw[if_neg h2,S6 (by omega)]
end Go.Proofs.YtfhbkoflaekhpadGreatDoor
