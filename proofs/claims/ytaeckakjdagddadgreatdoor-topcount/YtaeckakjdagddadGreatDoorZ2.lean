/- Part 2 of the walk. -/
import Derived.StillTail
import Derived.Test.YtaeckakjdagddadGreatDoorProg
import Derived.Deep.QuietTactic
import Derived.BigRegion
import Derived.Test.YtaeckakjdagddadGreatDoorZ1
set_option maxRecDepth 100000
set_option maxHeartbeats 4000000
open Go.Proofs.Tryz
namespace Go.Proofs.YtaeckakjdagddadGreatDoor
section
open Go.RowKit
theorem BP{P:Program}{ops:Array Oper}{w:World}{Q:Act→Prop}:∀ (l:List Oper) (a:Act),wpQuiet P ops (fun w'=>w'=w) Q l a→wpStill P ops w Q l a
 | [],_,h=>h
 | o::rest,a,h=>by
  unfold wpQuiet at h;unfold wpStill;split
  ·rename_i hw
   rw[if_pos hw]at h
   obtain⟨v,h1,h2⟩:=h;have h3:=h1 w rfl;unfold Oper.quietAt at h3;unfold Oper.still;generalize (execOp a.eval o).run P w=r at h3 ⊢;cases r with
   | ok n w' =>
    cases n<;>simp only[Oper.quietUpon]at h3<;>simp only[Oper.stillUpon]
    case value u =>
     obtain⟨e1,e2⟩:=h3;rw[e2];exact⟨e1,BP rest _ h2⟩
    case skip =>
     obtain⟨e1,e2⟩:=h3;rw[← e2];exact⟨e1,BP rest _ h2⟩
    case enter f args=>exact⟨h3.1,v,h3.2,BP rest _ h2⟩
   | halt x w'=>simp only[Oper.quietUpon]at h3
  ·rename_i hw
   rw[if_neg hw]at h
   exact BP rest _ h
theorem Aq{P:Program}{id:Nat}{Q:Exit→Act→World→Prop}{a:Act}{w:World}{l:List Oper}(n:Nat)(hm:P.follows .mixedOrders=true)(hB:Region.lexTailB .any l.toArray n=true)
  (h:wpQuiet P l.toArray (fun w'=>w'=w.drew) (fun a'=>wpList P l.toArray Q (l.drop n) a' w.drew) (l.take n) a):(Code.region id l.toArray true).wp P Q a w :=
 wp_region_still_tail n hm hB (BP _ _ h)
theorem Xe{a b:Int}(h:a=b):Ending.returned (.int .u32 a)=.returned (.int .u32 b):=by rw[h]
theorem bG(n:Nat)(h1:n≤31):bits .and .u64 (n:Int) 31=(n:Int):=by
 rw[show(31:Int)=((31:Nat):Int)from rfl,u64_and_nat _ _ (by omega) (by omega),nat_mask5];omega
theorem ai(x:BitVec 32)(n:Nat)(h0:1≤n)(h1:n≤31):bits .or .u32 (uw x*2^n%4294967296) (uw x/2^(32-n))=uw (x.rotateLeft n):=by
 rw[F6,NJ,Jg,RC];rw[BitVec.rotateLeft_def,Nat.mod_eq_of_lt (by omega:n<32)]
theorem Xk(x:BitVec 32)(n:Nat)(w:World)(h0:1≤n)(h1:n≤31) :
  Calls prog 198 #[.int .u32 (uw x),.int .i64 (n:Int)] w fun e w'=>e=.returned (.int .u32 (uw (x.rotateLeft n)))∧w'=w:=by
 have a1:=Df x;have a2:=XQ x;have a3:=bG n h1;go_enter func198,ntmps198
 go_wp2
 go_ret;exact⟨Xe (ai x n h0 h1),rfl⟩
theorem ZD(v:Int)(x:BitVec 32)(hv:v=uw x)(n:Nat)(w:World)(h0:1≤n)(h1:n≤31) :
  Calls prog 198 #[.int .u32 v,.int .i64 (n:Int)] w fun e w'=>e=.returned (.int .u32 (uw (x.rotateLeft n)))∧w'=w:=by
 subst hv;exact Xk x n w h0 h1
theorem Es{w:World}{g:Nat}{ws:List (BitVec 32)}(h:w.heap[g]?=some (.cells (Au ws) 262 (0,0)))(k:Nat)(x:BitVec 32) :
  (w.setCell ⟨g,k,none⟩ (.int .u32 (uw x))).heap[g]?=some (.cells (Au (ws.set k x)) 262 (0,0)):=by
 rw[heap_setCell_same _ _ _ _ _ _ h,Lg]
theorem GU(g:Nat)(ws:List (BitVec 32))(w:World)(hw:w.heap[g]?=some (.cells (Au ws) 262 (0,0)))(hl:ws.length=16)(a b t n:Nat)(ha:a<16)(hb:b<16)(ht:t<16)(h0:1≤n)(h1:n≤31) :
  Calls prog 206 #[.pointer (some ⟨g,0,none⟩),.int .i64 a,.int .i64 b,.int .i64 t,.int .i64 n] w fun e w'=>e=.returned (.tuple #[])∧w'.heap[g]?=some (.cells (Au (II ws a b t n)) 262 (0,0))∧Below g w w':=by
 have ca:=(cell_of_row w _ a _ _ _ hw).trans (Bp ws a (by omega));have cb:=(cell_of_row w _ b _ _ _ hw).trans (Bp ws b (by omega));have fa:=frozen_of_row w _ a _ _ hw;have HA:Hid (Ly ws a b=ws.set a (ws.getD a 0#32+ws.getD b 0#32)):=rfl;have HW:Hid _:=hw;have HL:Hid (ws.length=16):=hl;clear hw hl;generalize ws.getD a 0#32=x at ca HA;generalize ws.getD b 0#32=y at cb HA;go_enter func206,ntmps206
 go_wp2_with fail
 refine Aq 13 (by kernel_rfl) (by kernel_rfl) ?_;simp only[List.take_succ_cons,List.take_zero,List.drop_succ_cons,List.drop_zero]
 repeat (go_big_quiet_step (fail))
 refine wpQuiet_nil ?_;go_wp2_with fail
 rw[CH];generalize hW1:(w.setCell _ _).drew=W1;have r1:W1.heap[g]?=some (.cells (Au (Ly ws a b)) 262 (0,0)):=by rw[← hW1,HA.out];exact Es HW.out a _
 have b1:Below g w W1:=by rw[← hW1];exact((Below.refl g w).setCell (p:=⟨g,a,none⟩) (Nat.le_refl _) _).drew
 have hl1:(Ly ws a b).length=16:=by rw[IH];exact HL.out
 have H2:Hid (II ws a b t n=(Ly ws a b).set t (((Ly ws a b).getD t 0#32 ^^^ (Ly ws a b).getD a 0#32).rotateLeft n)):=rfl;clear hW1 HA HW HL ca cb fa;generalize Ly ws a b=vs at r1 hl1 H2;have ca:=(cell_of_row W1 _ a _ _ _ r1).trans (Bp vs a (by omega));have ct:=(cell_of_row W1 _ t _ _ _ r1).trans (Bp vs t (by omega));have ft:=frozen_of_row W1 _ t _ _ r1;generalize vs.getD a 0#32=x2 at ca H2;generalize vs.getD t 0#32=y2 at ct H2;have HR:Hid _:=r1;clear r1 hl1;refine Aq 17 (by kernel_rfl) (by kernel_rfl) ?_;simp only[List.take_succ_cons,List.take_zero,List.drop_succ_cons,List.drop_zero]
 repeat (go_big_quiet_step (fail))
 go_big_quiet_want
 go_big_quiet_op
 refine⟨_,ZD _ (y2 ^^^ x2) (CR y2 x2) n _ h0 h1,?_⟩
 go_big_quiet_on
 repeat (go_big_quiet_step (fail))
 refine wpQuiet_nil ?_;go_wp2
 go_end0
 refine⟨rfl,?_,b1.trans (((Below.refl g W1).setCell (p:=⟨g,t,none⟩) (Nat.le_refl _) _).drew)⟩;rw[H2.out];exact Es (w:=W1.drew) HR.out t _
theorem Pm(g:Nat)(ws:List (BitVec 32))(w:World)(hw:w.heap[g]?=some (.cells (Au ws) 262 (0,0)))(hl:ws.length=16)(a b c d:Nat)(ha:a<16)(hb:b<16)(hc:c<16)(hd:d<16) :
  Calls prog 199 #[.pointer (some ⟨g,0,none⟩),.int .i64 a,.int .i64 b,.int .i64 c,.int .i64 d] w fun e w'=>e=.returned (.tuple #[])∧w'.heap[g]?=some (.cells (Au (KI ws a b c d)) 262 (0,0))∧Below g w w':=by
 go_enter func199,ntmps199
 go_wp2_with fail
 refine(GU g ws w hw hl a b d 16 ha hb hd (by omega) (by omega)).mono ?_;rintro e w1 ⟨rfl,r1,b1⟩;go_wp2_with fail
 refine(GU g _ w1 r1 (by rw[B0];exact hl) c d b 12 hc hd hb (by omega) (by omega)).mono ?_;rintro e w2 ⟨rfl,r2,b2⟩;go_wp2_with fail
 refine(GU g _ w2 r2 (by rw[B0,B0];exact hl) a b d 8 ha hb hd (by omega) (by omega)).mono ?_;rintro e w3 ⟨rfl,r3,b3⟩;go_wp2_with fail
 refine(GU g _ w3 r3 (by rw[B0,B0,B0];exact hl) c d b 7 hc hd hb (by omega) (by omega)).mono ?_;rintro e w4 ⟨rfl,r4,b4⟩;go_wp2
 go_end0
 exact⟨rfl,r4,((b1.trans b2).trans b3).trans b4⟩
end
section
theorem As:(prog.info? 5).map (fun i=>(i.zero,i.size,i.bytes))=some (some (.int .u8 0),1,1):=by kernel_rfl
end
section
open Go.RowKit
theorem Ix(x:BitVec 32)(h:uw x<256):uw x*16777216=uw (x <<< 24)∧uw x*65536=uw (x <<< 16)∧uw x*256=uw (x <<< 8):=by
 have h0:=Df x;have e24:=F6 x 24;have e16:=F6 x 16;have e8:=F6 x 8;rw[← e24,← e16,← e8];refine⟨?_,?_,?_⟩
 ·rw[show(2:Int)^24=16777216 from rfl];omega
 ·rw[show(2:Int)^16=65536 from rfl];omega
 ·rw[show(2:Int)^8=256 from rfl];omega
theorem Gf(g off n cap:Nat)(ws:List (BitVec 32))(v:Value)(l:List Int)(w:World)(hw:w.heap[g]?=some (.cells (Au ws) 262 (0,0)))(hws:ws.length=16)(hoff:off+n≤16)(hn0:0<n)
  (h:Sl w v l)(hl:l.length=4*n)(hvb:∀ b o m c,v=.slice (some ⟨b,o,none⟩) m c→b<g) :
  Calls prog 197 #[.slice (some ⟨g,off,none⟩) n cap,v] w fun e w'=>e=.returned (.tuple #[])∧w'.heap[g]?=some (.cells (Au (De ws off l n)) 262 (0,0))∧Below g w w':=by
 obtain⟨⟨a,cap',rfl,hc,hn,h1⟩,hla,hba⟩:=h;rcases h1 with rfl|⟨b,o,rfl,hb,hcell⟩
 ·simp at hl;omega
 have hbg:=hvb _ _ _ _ rfl;clear hvb;rw[hl]at hc hla hcell ⊢
 have HC:Hid (∀ i,i<4*n→w.cell? ⟨b,o+i,none⟩=some (.int .u8 (uw (BS (l.getD i 0))))):=fun i hi=>by rw[JE _ (Aj hba i)];exact hcell i hi
 have HB:Hid (∀ i,uw (BS (l.getD i 0))<256):=fun i=>by rw[JE _ (Aj hba i)];exact(Aj hba i).2
 clear hl hn hcell hba;go_enter func197,ntmps197
 go_wp2_with fail
 go_loopw [7] (fun i wr=>∃ k:Nat,k≤n∧i=.int .i64 k∧wr.heap[g]?=some (.cells (Au (De ws off l k)) 262 (0,0))∧Below g w wr) (fun i _=>n-(intOf i).toNat)
 case atStart=>exact⟨0,by omega,rfl,hw,Below.refl _ _⟩
 case round =>
  clear hw;obtain⟨k,hk,rfl,hW,hbel⟩:=hrel;by_cases hkn:k<n
  ·have hfw:wr.frozen? ⟨g,off+k,none⟩=false:=frozen_of_row wr _ (off+k) _ _ hW;have hz:=Bp (De ws off l k) (off+k) (by rw[Dj];omega);have hcw:wr.cell? ⟨g,off+k,none⟩=some (.int .u32 (uw ((De ws off l k).getD (off+k) 0#32))):=(cell_of_row wr _ (off+k) _ _ _ hW).trans hz;have c0:=(hbel.cell (p:=⟨b,o+(4*k),none⟩) hbg).trans (HC.out (4*k) (by omega));have c1:=(hbel.cell (p:=⟨b,o+(4*k+1),none⟩) hbg).trans (HC.out (4*k+1) (by omega));have c2:=(hbel.cell (p:=⟨b,o+(4*k+2),none⟩) hbg).trans (HC.out (4*k+2) (by omega));have c3:=(hbel.cell (p:=⟨b,o+(4*k+3),none⟩) hbg).trans (HC.out (4*k+3) (by omega));have l0:=HB.out (4*k);have l1:=HB.out (4*k+1);have l2:=HB.out (4*k+2);have l3:=HB.out (4*k+3);obtain⟨wd,HW,HV⟩:∃ wd,Hid (wd=Yb l k)∧Hid (De ws off l (k+1)=(De ws off l k).set (off+k) wd):=⟨_,rfl,rfl⟩;unfold Yb at HW;generalize BS (l.getD (4*k) 0)=x0 at c0 l0 HW;generalize BS (l.getD (4*k+1) 0)=x1 at c1 l1 HW;generalize BS (l.getD (4*k+2) 0)=x2 at c2 l2 HW;generalize BS (l.getD (4*k+3) 0)=x3 at c3 l3 HW;obtain⟨y1,s1,e1⟩:∃ y,uw x1*256=uw y∧x1 <<< 8=y:=⟨_,(Ix x1 l1).2.2,rfl⟩;obtain⟨y2,s2,e2⟩:∃ y,uw x2*65536=uw y∧x2 <<< 16=y:=⟨_,(Ix x2 l2).2.1,rfl⟩;obtain⟨y3,s3,e3⟩:∃ y,uw x3*16777216=uw y∧x3 <<< 24=y:=⟨_,(Ix x3 l3).1,rfl⟩;rw[e1,e2,e3]at HW
   clear e1 e2 e3;have z0:=Df x0;have z1:=Df x1;have z2:=Df x2;have z3:=Df x3;clear hz;go_wp2_with fail
   refine Aq 36 (by kernel_rfl) (by kernel_rfl) ?_;simp only[List.take_succ_cons,List.take_zero,List.drop_succ_cons,List.drop_zero]
   repeat (go_big_quiet_step (fail))
   refine wpQuiet_nil ?_;go_wp2
   rw[Jg,Jg,Jg,← HW.out];go_roundw
   case rel=>exact⟨k+1,by omega,by go_num,by rw[HV.out];exact Es hW (off+k) wd,(hbel.setCell (p:=⟨g,off+k,none⟩) (Nat.le_refl _) _).drew⟩
   case measure=>simp[intOf];omega
  ·have HK:Hid (k=n):=by unfold Hid;omega
   go_wp2
   go_end0
   exact⟨rfl,by rw[← HK.out];exact hW,hbel⟩
theorem Ch{B:Nat}{a w:World}(h:Below B a w){g:Nat}(hg:B≤g)(cs:Array Value):Below B a (w.setRow g cs) :=
 h.trans ⟨rfl,rfl,rfl,by simp,fun k hk=>setRow_other w g k cs (by omega)⟩
theorem LR(vk vn:Value)(key nonce:List Int)(c:Nat)(w:World)(hk:Sl w vk key)(hn:Sl w vn nonce)(lk:key.length=32)(ln:nonce.length=12)(hc:c≤2000000000) :
  Calls prog 185 #[vk,.int .i64 c,vn] w fun e w'=>e=.returned (.agg (Au (Bu key (BitVec.ofNat 32 c) nonce)))∧Bw w w':=by
 have hvk:∀ b o m c,vk=.slice (some ⟨b,o,none⟩) m c→b<w.heap.size:=by
  intro b o m c e;obtain⟨⟨a,cap,rfl,_,_,h1⟩,_,_⟩:=hk;rcases h1 with rfl|⟨b',off',e',hb,_⟩
  ·simp at lk
  ·rw[e']at e
   simp only[Value.slice.injEq,Option.some.injEq,Addr.mk.injEq,and_true]at e;omega
 have hvn:∀ b o m c,vn=.slice (some ⟨b,o,none⟩) m c→b<w.heap.size:=by
  intro b o m c e;obtain⟨⟨a,cap,rfl,_,_,h1⟩,_,_⟩:=hn;rcases h1 with rfl|⟨b',off',e',hb,_⟩
  ·simp at ln
  ·rw[e']at e
   simp only[Value.slice.injEq,Option.some.injEq,Addr.mk.injEq,and_true]at e;omega
 go_enter func185,ntmps185
 go_wp2_with fail
 generalize hW0:(w.alloc _).alloc _=W0;have hr0:W0.heap[w.heap.size+1]?=some (.cells (Au G8) 262 (0,0)):=by rw[← hW0];exact heap_alloc2_new _ _ _
 have hq0:W0.heap[w.heap.size]?=some (.cells (Au (List.replicate 16 0#32)) 262 (0,0)):=by rw[← hW0];exact heap_alloc2_old _ _ _
 have hb0:Bw w W0:=by rw[← hW0];exact((Below.refl _ _).alloc (Nat.le_refl _) _).alloc (by simp) _
 clear hW0;refine(Gf (w.heap.size+1) 4 8 12 G8 vk key W0 hr0 rfl (by omega) (by omega) (hk.below hb0) lk (fun b o m c e=>Nat.lt_succ_of_lt (hvk b o m c e))).mono ?_;rintro e w1 ⟨rfl,hr1,hb1⟩;have hq1:=(hb1.block w.heap.size (by omega)).trans hq0;have hB1:Bw w w1:=hb0.trans (hb1.mono (by omega));have hl1:(De G8 4 key 8).length=16:=by rw[Dj];rfl
 have HG:Hid (Bu key (BitVec.ofNat 32 c) nonce=De ((De G8 4 key 8).set 12 (BitVec.ofNat 32 c)) 13 nonce 3):=rfl;have hcv:(c:Int)=uw (BitVec.ofNat 32 c):=by unfold uw;rw[BitVec.toNat_ofNat,Nat.mod_eq_of_lt (by omega)]
 have HCV:Hid ((c:Int)=uw (BitVec.ofNat 32 c)):=hcv;clear hr0 hq0 hb0 hb1 hcv;generalize De G8 4 key 8=vs at hr1 hl1 HG;have hcw:=(cell_of_row w1 _ 12 _ _ _ hr1).trans (Bp vs 12 (by omega));have hfw:=frozen_of_row w1 _ 12 _ _ hr1;go_wp2_with fail
 rw[HCV.out];generalize hcw2:BitVec.ofNat 32 c=cw at HG ⊢;have HCW:Hid (BitVec.ofNat 32 c=cw):=hcw2;clear hcw2;generalize hW2:w1.setCell _ _=W2;have hr2:W2.heap[w.heap.size+1]?=some (.cells (Au (vs.set 12 cw)) 262 (0,0)):=by rw[← hW2];exact Es hr1 12 cw
 have hq2:W2.heap[w.heap.size]?=some (.cells (Au (List.replicate 16 0#32)) 262 (0,0)):=by rw[← hW2];exact(heap_setCell_other _ _ _ _ (by simp)).trans hq1
 have hB2:Bw w W2:=by rw[← hW2];exact hB1.setCell (p:=⟨w.heap.size+1,12,none⟩) (by simp) _
 clear hW2 hr1 hq1 hB1 hcw hfw;refine(Gf (w.heap.size+1) 13 3 3 (vs.set 12 cw) vn nonce W2 hr2 (by simpa using hl1) (by omega) (by omega) (hn.below hB2) ln (fun b o m c e=>Nat.lt_succ_of_lt (hvn b o m c e))).mono ?_;rintro e w3 ⟨rfl,hr3,hb3⟩;have hq3:=(hb3.block w.heap.size (by omega)).trans hq2;have hB3:Bw w w3:=hB2.trans (hb3.mono (by omega));have hl3:(De (vs.set 12 cw) 13 nonce 3).length=16:=by rw[Dj];simpa using hl1
 clear hr2 hq2 hB2 hb3;rw[← HG.out]at hr3 hl3
 generalize hus:Bu key cw nonce=us at hr3 hl3;have HUS:Hid (Bu key cw nonce=us):=hus;clear hus;have hsz:(prog.info? 262).map (·.size)=some (Au us).size:=by rw[AQ,hl3];kernel_rfl
 have hone:(Au us).all (·.oneCell')=true:=by simp[Au,Value.oneCell']
 go_wp2_with (first|(refine wpList_load_row rfl 262 _ rfl (w.heap.size+1) rfl 262 _ (0,0) _ hr3 underlying262 rfl hsz ?_)|(refine wpList_store_row rfl 262 _ _ rfl w.heap.size _ rfl rfl 262 _ hq3 hsz (by rw[AQ,AQ,hl3];rfl) hone ?_))
 refine bodyPost_ret (v:=.agg (Au us)) (results_cell_row rfl _ _ w.heap.size 262 _ (0,0) _ rfl (setRow_heap w3 w.heap.size _ _ 262 _ hq3) underlying262 rfl hsz) rfl ⟨by rw[HCW.out,HUS.out],Ch hB3 (Nat.le_refl _) _⟩
def Ug:Array Value:=(Ep.map fun(n:Nat)=>Value.int .i64 (n:Int)).toArray
def Ci(w:World):Prop:=∃ t fr,w.heap[4]?=some (.cells Ug t fr)
theorem Ci.below{w w':World}(h:Ci w){B:Nat}(hB:4<B)(hb:Below B w w'):Ci w':=by
 obtain⟨t,fr,h⟩:=h;exact⟨t,fr,(hb.block _ hB).trans h⟩
theorem Ci.pos{w:World}(h:Ci w):4<w.heap.size:=by
 obtain⟨t,fr,h⟩:=h;exact(Array.getElem?_eq_some_iff.1 h).1
theorem cJ(j:Nat)(hj:j<8):∀ w,(Instr.index 278 (.agg Ug) (.int .i64 (j:Int))).run prog w=.ok (.agg #[.int .i64 ((Ep.getD (4*j) 0:Nat):Int),.int .i64 ((Ep.getD (4*j+1) 0:Nat):Int),.int .i64 ((Ep.getD (4*j+2) 0:Nat):Int),.int .i64 ((Ep.getD (4*j+3) 0:Nat):Int)]) w:=by
 intro w;obtain rfl|rfl|rfl|rfl|rfl|rfl|rfl|rfl:j=0∨j=1∨j=2∨j=3∨j=4∨j=5∨j=6∨j=7:=by omega
 all_goals kernel_rfl
theorem gA(w:World)(o1 o2 o3:Obj){W:World}(h:((w.alloc o1).alloc o2).alloc o3=W) :
  W.heap[w.heap.size]?=some o1∧W.heap[w.heap.size+1]?=some o2∧W.heap[w.heap.size+1+1]?=some o3∧W.heap.size=w.heap.size+3∧Bw w W:=by
 subst h;refine⟨?_,?_,?_,by simp,(((Below.refl _ _).alloc (Nat.le_refl _) _).alloc (by simp) _).alloc (by simp;omega) _⟩
 ·rw[heap_alloc_old _ _ (by simp;omega)];exact heap_alloc2_old w o1 o2
 ·rw[heap_alloc_old _ _ (by simp)];exact heap_alloc2_new w o1 o2
 ·have:=heap_alloc_new ((w.alloc o1).alloc o2) o3;simpa using this
theorem cM:∀ (S:List (BitVec 32)),S.length=16→∃ s0 s1 s2 s3 s4 s5 s6 s7 s8 s9 s10 s11 s12 s13 s14 s15,S=[s0,s1,s2,s3,s4,s5,s6,s7,s8,s9,s10,s11,s12,s13,s14,s15]
 | [s0,s1,s2,s3,s4,s5,s6,s7,s8,s9,s10,s11,s12,s13,s14,s15],_=>⟨s0,s1,s2,s3,s4,s5,s6,s7,s8,s9,s10,s11,s12,s13,s14,s15,rfl⟩
theorem YM(S:List (BitVec 32))(hS:S.length=16)(j:Nat)(hj:j<16):∀ w,(Instr.index 262 (.agg (Au S)) (.int .i64 (j:Int))).run prog w=.ok (.int .u32 (uw (S.getD j 0#32))) w:=by
 intro w;obtain⟨s0,s1,s2,s3,s4,s5,s6,s7,s8,s9,s10,s11,s12,s13,s14,s15,rfl⟩:=cM S hS;obtain rfl|rfl|rfl|rfl|rfl|rfl|rfl|rfl|rfl|rfl|rfl|rfl|rfl|rfl|rfl|rfl:j=0∨j=1∨j=2∨j=3∨j=4∨j=5∨j=6∨j=7∨j=8∨j=9∨j=10∨j=11∨j=12∨j=13∨j=14∨j=15:=by omega
 all_goals kernel_rfl
theorem Ct{P:Program}{ops:Array Oper}{Q:Exit→Act→World→Prop}{l:List Oper}{a:Act}{w:World}(h:wpList P ops Q l a w):wpList P ops Q l a w:=h
theorem EP(w:World)(o1 o2 o3:Obj):(((w.alloc o1).alloc o2).alloc o3).heap[w.heap.size+1+1]?=some o3:=by
 have:=heap_alloc_new ((w.alloc o1).alloc o2) o3;simpa using this
theorem P4(w:World)(o1 o2 o3:Obj)(cs old:Array Value)(t:TypeId)(h3:o3=.cells old t (0,0)){W:World}(h:(((w.alloc o1).alloc o2).alloc o3).setRow (w.heap.size+1+1) cs=W) :
  W.heap[w.heap.size]?=some o1∧W.heap[w.heap.size+1]?=some o2∧W.heap[w.heap.size+1+1]?=some (.cells cs t (0,0))∧W.heap.size=w.heap.size+3∧Bw w W:=by
 subst h;subst h3;have n3:=EP w o1 o2 (.cells old t (0,0));refine⟨?_,?_,setRow_heap _ _ _ _ t _ n3,by simp,Ch ((((Below.refl _ _).alloc (Nat.le_refl _) _).alloc (by simp) _).alloc (by simp;omega) _) (by omega) _⟩
 ·rw[setRow_other _ _ _ _ (by omega),heap_alloc_old _ _ (by simp;omega)];exact heap_alloc2_old w o1 o2
 ·rw[setRow_other _ _ _ _ (by omega),heap_alloc_old _ _ (by simp)];exact heap_alloc2_new w o1 o2
theorem gu(A:List Int)(n:Nat)(z0 z1 z2 z3 a b c d:Int)(R:List Int)(hA:A.length=n):((((A++z0::z1::z2::z3::R).set n a).set (n+1) b).set (n+2) c).set (n+3) d=A++[a,b,c,d]++R:=by
 subst hA;rw[List.set_append_right _ _ (Nat.le_refl _),List.set_append_right _ _ (by omega),List.set_append_right _ _ (by omega),List.set_append_right _ _ (by omega)];simp
theorem J5{w:World}{g:Nat}{l:List Int}{t:TypeId}(h:w.heap[g]?=some (.cells (AJ l) t (0,0)))(k:Nat)(x:Int) :
  (w.setCell ⟨g,k,none⟩ (.int .u8 x)).heap[g]?=some (.cells (AJ (l.set k x)) t (0,0)):=by
 rw[heap_setCell_same _ _ _ _ _ _ h,Va]
theorem Ki(w:World)(G k:Nat)(h:k≠G)(a b c d:Nat)(x y z u:Value):((((w.setCell ⟨G,a,none⟩ x).setCell ⟨G,b,none⟩ y).setCell ⟨G,c,none⟩ z).setCell ⟨G,d,none⟩ u).heap[k]?=w.heap[k]?:=by
 rw[heap_setCell_other _ _ _ _ (by simpa using h),heap_setCell_other _ _ _ _ (by simpa using h),heap_setCell_other _ _ _ _ (by simpa using h),heap_setCell_other _ _ _ _ (by simpa using h)]
def D3(s t:List (BitVec 32))(j:Nat):List Int:=QY s t j++List.replicate (64-4*j) 0
theorem He(s t:List (BitVec 32))(j:Nat)(hj:j≤16):(D3 s t j).length=64:=by
 rw[D3,List.length_append,Fp,List.length_replicate];omega
theorem Rh(s t:List (BitVec 32))(j:Nat)(hj:j<16)(x:BitVec 32)(hx:bC s t j=x):((((D3 s t j).set (4*j) (uw x%256)).set (4*j+1) (uw x/256%256)).set (4*j+2) (uw x/65536%256)).set (4*j+3) (uw x/16777216%256)=D3 s t (j+1):=by
 have e:List.replicate (64-4*j) (0:Int)=0::0::0::0::List.replicate (64-4*(j+1)) 0:=by
  rw[show 64-4*j=64-4*(j+1)+1+1+1+1 by omega];rfl
 rw[D3,e,gu _ _ _ _ _ _ _ _ _ _ _ (Fp s t j),D3,QY,JQ,hx]
theorem Gi(ws:List (BitVec 32))(w:World)(hws:ws.length=16)(ht:Ci w) :
  Calls prog 191 #[.agg (Au ws)] w fun e w'=>e=.returned (.agg (AJ (BV ws)))∧Bw w w':=by
 have hpos:=ht.pos;have hsz:(prog.info? 262).map (·.size)=some (Au ws).size:=by rw[AQ,hws];kernel_rfl
 have hone:(Au ws).all (·.oneCell')=true:=by simp[Au,Value.oneCell']
 go_enter func191,ntmps191
 go_wp2_with ((with_reducible (refine Ct ?_));first
  | (refine wpList_load_row rfl 262 _ rfl w.heap.size rfl 262 _ (0,0) _ (heap_alloc2_old _ _ _) underlying262 rfl hsz ?_)
  | (refine wpList_store_row rfl 262 _ _ rfl (w.heap.size+1+1) _ rfl rfl 262 (Au (List.replicate 16 0#32)) (EP _ _ _ _) hsz (by rw[AQ,AQ,hws];rfl) hone ?_))
 generalize hW0:World.setRow _ _ _=W0;obtain⟨hF,hR,hS,hs0,hb0⟩:=P4 w _ _ _ _ (Au (List.replicate 16 0#32)) 262 rfl hW0;clear hW0;have hR:W0.heap[w.heap.size+1]?=some (.cells (AJ (List.replicate 64 0)) 217 (0,0)):=hR;have hq0:Ci W0:=ht.below hpos hb0
 go_loopw [10] (fun i wr=>∃ k:Nat,k≤10∧i=.int .i64 k∧wr.heap[w.heap.size+1+1]?=some (.cells (Au (Dd ws k)) 262 (0,0))∧Below (w.heap.size+1+1) W0 wr) (fun i _=>10-(intOf i).toNat)
 case atStart=>exact⟨0,by omega,rfl,hS,Below.refl _ _⟩
 case round =>
  clear hS;obtain⟨k,hk,rfl,hS,hbel⟩:=hrel;by_cases hk10:k<10
  ·obtain⟨tq,frq,hq⟩:=hq0.below (by omega) hbel;have hk10i:(k:Int)<10:=by omega
   have hixA:=cJ;have hszq:(prog.info? 278).map (·.size)=some Ug.size:=by kernel_rfl
   generalize Ug=qa at hq hszq hixA;have HT:Hid (Dd ws (k+1)=Gj (Dd ws k) 8):=rfl;have hl0:(Dd ws k).length=16:=by rw[Gk];exact hws
   generalize Dd ws k=S at HT hS hl0;go_wp2_with ((with_reducible (refine Ct ?_));refine wpList_load_row rfl 278 (.global 4) rfl 4 rfl tq _ frq _ hq underlying278 rfl hszq ?_)
   clear hq
   go_loopw [13] (fun i wr=>∃ j:Nat,j≤8∧i=.int .i64 j∧wr.heap[w.heap.size+1+1]?=some (.cells (Au (Gj S j)) 262 (0,0))∧Below (w.heap.size+1+1) W0 wr) (fun i _=>8-(intOf i).toNat)
   case atStart=>exact⟨0,by omega,rfl,hS,hbel⟩
   case round =>
    clear hS hbel;obtain⟨j,hj,rfl,hS,hbel⟩:=hrel;have hbs:=hbel.size;by_cases hj8:j<8
    ·have hix:=hixA j hj8;have hj8i:(j:Int)<8:=by omega
     have HU:Hid (Gj S (j+1)=KI (Gj S j) (Ep.getD (4*j) 0) (Ep.getD (4*j+1) 0) (Ep.getD (4*j+2) 0) (Ep.getD (4*j+3) 0)):=rfl;have l0:=J9 (4*j);have l1:=J9 (4*j+1);have l2:=J9 (4*j+2);have l3:=J9 (4*j+3);have hlj:(Gj S j).length=16:=by rw[Hz];exact hl0
     generalize Ep.getD (4*j) 0=q0 at hix HU l0;generalize Ep.getD (4*j+1) 0=q1 at hix HU l1;generalize Ep.getD (4*j+2) 0=q2 at hix HU l2;generalize Ep.getD (4*j+3) 0=q3 at hix HU l3;generalize Gj S j=X at HU hS hlj;clear hixA;go_wp2_with fail
     refine(Pm (w.heap.size+1+1) X _ ((heap_alloc_old _ _ (by omega)).trans hS) hlj q0 q1 q2 q3 l0 l1 l2 l3).mono ?_;rintro e w1 ⟨rfl,hS1,hb1⟩;have hb2:Below (w.heap.size+1+1) W0 w1:=(hbel.alloc (by omega) _).trans hb1;clear hS hbel hb1 hbs hix;go_wp2
     go_roundw
     case rel=>exact⟨j+1,by omega,by go_num,by rw[HU.out];exact hS1,hb2⟩
     case measure=>simp[intOf];omega
    ·have HJ:Hid (j=8):=by unfold Hid;omega
     have hj8i:¬ (j:Int)<8:=by omega
     go_wp2
     go_roundw
     case rel=>exact⟨k+1,by omega,by go_num,by rw[HT.out,← HJ.out];exact hS,hbel⟩
     case measure=>simp[intOf];omega
  ·have HK:Hid (k=10):=by unfold Hid;omega
   have hk10i:¬ (k:Int)<10:=by omega
   have HB:Hid (k=10→BV ws=D3 (Dd ws k) ws 16):=by rintro rfl;simp[BV,D3]
   have hl0:(Dd ws k).length=16:=by rw[Gk];exact hws
   generalize Dd ws k=S at HB hS hl0;have hbs:=hbel.size;have hF1:=(hbel.block w.heap.size (by omega)).trans hF;have hR1:=(hbel.block (w.heap.size+1) (by omega)).trans hR;have hB1:Bw w wr:=hb0.trans (hbel.mono (by omega));have hsz1:(prog.info? 262).map (·.size)=some (Au S).size:=by rw[AQ,hl0];kernel_rfl
   clear hF hR hb0 hbel hq0;go_wp2_with ((with_reducible (refine Ct ?_));refine wpList_load_row rfl 262 _ rfl (w.heap.size+1+1) rfl 262 _ (0,0) _ ((heap_alloc_old _ _ (by omega)).trans hS) underlying262 rfl hsz1 ?_)
   have hBG:w.heap.size+1<wr.heap.size:=by omega
   generalize hW1:wr.alloc _=W1;have hN:W1.heap[wr.heap.size]?=some (.cells (AJ (D3 S ws 0)) 217 (0,0)):=by rw[← hW1];exact heap_alloc_new _ _
   have hF2:W1.heap[w.heap.size]?=some (.cells (Au ws) 262 (0,0)):=by rw[← hW1];exact(heap_alloc_old _ _ (by omega)).trans hF1
   have hR2:W1.heap[w.heap.size+1]?=some (.cells (AJ (List.replicate 64 0)) 217 (0,0)):=by rw[← hW1];exact(heap_alloc_old _ _ (by omega)).trans hR1
   have hB2:Bw w W1:=by rw[← hW1];exact hB1.alloc hB1.size _
   clear hW1 hF1 hR1 hB1 hbs hS ht hsz hsz1 hone hk10i;generalize wr.heap.size=G at hN hBG ⊢
   go_loopw [28] (fun i wr=>∃ j:Nat,j≤16∧i=.int .i64 j∧wr.heap[G]?=some (.cells (AJ (D3 S ws j)) 217 (0,0))∧wr.heap[w.heap.size]?=some (.cells (Au ws) 262 (0,0))∧wr.heap[w.heap.size+1]?=some (.cells (AJ (List.replicate 64 0)) 217 (0,0))∧Bw w wr) (fun i _=>16-(intOf i).toNat)
   case atStart=>exact⟨0,by omega,rfl,hN,hF2,hR2,hB2⟩
   case round =>
    clear hN hF2 hR2 hB2;obtain⟨j,hj,rfl,hN,hF,hR,hbel⟩:=hrel;by_cases hj16:j<16
    ·have hj16i:(j:Int)<16:=by omega
     have hix:=YM S hl0 j hj16;have cf:=(cell_of_row wr _ j _ _ _ hF).trans (Bp ws j (by omega));have hpl:=He S ws j hj;have c0:=(cell_of_row wr _ (4*j) _ _ _ hN).trans (Dv _ (4*j) (by omega));have c1:=(cell_of_row wr _ (4*j+1) _ _ _ hN).trans (Dv _ (4*j+1) (by omega));have c2:=(cell_of_row wr _ (4*j+2) _ _ _ hN).trans (Dv _ (4*j+2) (by omega));have c3:=(cell_of_row wr _ (4*j+3) _ _ _ hN).trans (Dv _ (4*j+3) (by omega));have f0:=frozen_of_row wr _ (4*j) _ _ hN;have f1:=frozen_of_row wr _ (4*j+1) _ _ hN;have f2:=frozen_of_row wr _ (4*j+2) _ _ hN;have f3:=frozen_of_row wr _ (4*j+3) _ _ hN;obtain⟨x,hx,HX⟩:∃ x,(uw (S.getD j 0#32)+uw (ws.getD j 0#32))%(4294967296:Int)=uw x∧Hid (bC S ws j=x):=⟨_,CH _ _,rfl⟩;generalize S.getD j 0#32=xa at hix hx;generalize ws.getD j 0#32=xb at cf hx;have nx:=Df x;have HN:Hid _:=hN;have HF:Hid _:=hF;have HR:Hid _:=hR;have HBE:Hid _:=hbel;have HPS:Hid (((((D3 S ws j).set (4*j) (uw x%256)).set (4*j+1) (uw x/256%256)).set (4*j+2) (uw x/65536%256)).set (4*j+3) (uw x/16777216)=D3 S ws (j+1)):=by
      have h1:=Rh S ws j hj16 x HX.out;rw[show uw x/16777216%256=uw x/16777216 by have:=XQ x;omega]at h1
      exact h1
     clear hN hF hR hbel hpl;go_wp2
     go_roundw
     case rel=>exact⟨j+1,by omega,by go_num,by rw[← HPS.out];exact J5 (J5 (J5 (J5 HN.out _ _) _ _) _ _) _ _,(Ki wr G _ (by omega) _ _ _ _ _ _ _ _).trans HF.out,(Ki wr G _ (by omega) _ _ _ _ _ _ _ _).trans HR.out,
       (((HBE.out.setCell (p:=⟨G,_,none⟩) (by simp;omega) _).setCell (p:=⟨G,_,none⟩) (by simp;omega) _).setCell (p:=⟨G,_,none⟩) (by simp;omega) _).setCell (p:=⟨G,_,none⟩) (by simp;omega) _⟩
     case measure=>simp[intOf];omega
    ·have HJ:Hid (j=16):=by unfold Hid;omega
     have hj16i:¬ (j:Int)<16:=by omega
     have hpl:=He S ws j hj;have hsz:(prog.info? 217).map (·.size)=some (AJ (D3 S ws j)).size:=by rw[Aw,hpl];kernel_rfl
     have hone:(AJ (D3 S ws j)).all (·.oneCell')=true:=by simp[AJ,Value.oneCell']
     go_wp2_with ((with_reducible (refine Ct ?_));first|(refine wpList_load_row rfl 217 _ rfl G rfl 217 _ (0,0) _ hN underlying217 rfl hsz ?_)|(refine wpList_store_row rfl 217 _ _ rfl (w.heap.size+1) _ rfl rfl 217 _ hR hsz (by rw[Aw,Aw,hpl];rfl) hone ?_))
     refine bodyPost_ret (v:=.agg (AJ (D3 S ws j))) (results_cell_row rfl _ _ (w.heap.size+1) 217 _ (0,0) _ rfl (setRow_heap wr _ _ _ 217 _ hR) underlying217 rfl hsz) rfl ⟨?_,Ch hbel (by omega) _⟩;rw[HB.out HK.out,HJ.out]
def Dx(key nonce:List Int)(c:Int):Int:=if key.length≠32∨nonce.length≠12 then 1 else if c<0∨1073741824<c then 2 else 0
theorem Oi{key nonce:List Int}{c:Int}(h:key.length≠32∨nonce.length≠12):Dx key nonce c=1:=by unfold Dx;rw[if_pos h]
theorem MQ{key nonce:List Int}{c:Int}(hk:key.length=32)(hn:nonce.length=12)(h:c<0∨1073741824<c):Dx key nonce c=2:=by unfold Dx;rw[if_neg (by omega),if_pos h]
theorem Id{key nonce:List Int}{c:Int}(hk:key.length=32)(hn:nonce.length=12)(h:0≤c∧c≤1073741824):Dx key nonce c=0:=by unfold Dx;rw[if_neg (by omega),if_neg (by omega)]
theorem IW(vk vn:Value)(key nonce:List Int)(c:Int)(w:World)(hk:Sl w vk key)(hn:Sl w vn nonce) :
  Calls prog 183 #[vk,.int .i64 c,vn] w fun e w'=>e=.returned (.int .i64 (Dx key nonce c))∧w'=w:=by
 obtain⟨⟨ak,ck,rfl,_,_,_⟩,lk,_⟩:=hk;obtain⟨⟨an,cn,rfl,_,_,_⟩,ln,_⟩:=hn;have H1:Hid (key.length≠32∨nonce.length≠12→Dx key nonce c=1):=Oi;have H2:Hid (key.length=32→nonce.length=12→(c<0∨1073741824<c)→Dx key nonce c=2):=MQ;have H3:Hid (key.length=32→nonce.length=12→(0≤c∧c≤1073741824)→Dx key nonce c=0):=Id;generalize Dx key nonce c=E at H1 H2 H3 ⊢;generalize key.length=n at *;generalize nonce.length=m at *;go_enter func183,ntmps183
 by_cases h1:(n:Int)=32
 ·by_cases h2:(m:Int)=12
  ·by_cases h3:c<0
   ·go_wp2
    go_ret;exact⟨by rw[H2.out (by omega) (by omega) (by omega)];rfl,rfl⟩
   ·by_cases h4:1073741824<c
    ·go_wp2
     go_ret;exact⟨by rw[H2.out (by omega) (by omega) (by omega)];rfl,rfl⟩
    ·go_wp2
     go_ret;exact⟨by rw[H3.out (by omega) (by omega) (by omega)];rfl,rfl⟩
  ·go_wp2
   go_ret;exact⟨by rw[H1.out (by omega)];rfl,rfl⟩
 ·go_wp2
  go_ret;exact⟨by rw[H1.out (by omega)];rfl,rfl⟩
theorem Ic(w:World)(l:List Int)(o:Obj)(t:TypeId)(old:Array Value)(ho:o=.cells old t (0,0)){W:World}(hW:(w.alloc o).setRow w.heap.size (AJ l)=W) :
  W.heap[w.heap.size]?=some (.cells (AJ l) t (0,0))∧Bw w W∧W.heap.size=w.heap.size+1:=by
 subst hW;subst ho;exact⟨setRow_heap _ _ _ _ t _ (heap_alloc_new _ _),Ch ((Below.refl _ _).alloc (Nat.le_refl _) _) (Nat.le_refl _) _,by simp⟩
theorem Sl.ofRow{w:World}{g:Nat}{l:List Int}{t:TypeId}{fr:Nat × Nat}(h:w.heap[g]?=some (.cells (AJ l) t fr))(hl:l.length≤140737488351232)(hb:∀ x∈l,0≤x∧x<256):Sl w (.slice (some ⟨g,0,none⟩) l.length l.length) l:=by
 refine⟨⟨_,l.length,rfl,by simp,by simp,.inr ⟨g,0,rfl,(Array.getElem?_eq_some_iff.1 h).1,fun i hi=>?_⟩⟩,hl,hb⟩;rw[Nat.zero_add];exact(cell_of_row w _ i _ _ _ h).trans (Dv l i hi)
structure Got(w w':World)(v:Value)(l:List Int):Prop where
 sl:Sl w' v l
 bel:Bw w w'
 new:∀ b o n c,v=.slice (some ⟨b,o,none⟩) n c→w.heap.size≤b
theorem Ve(vk vn:Value)(key nonce:List Int)(c:Nat)(w:World)(hk:Sl w vk key)(hn:Sl w vn nonce)(lk:key.length=32)(ln:nonce.length=12)(hc:c≤1073741824)(ht:Ci w) :
  Calls prog 180 #[vk,.int .i64 c,vn] w fun e w'=>∃ v',e=.returned (.tuple #[v',.int .i64 0])∧Got w w' v' (BV (Bu key (BitVec.ofNat 32 c) nonce)):=by
 go_enter func180,ntmps180
 go_wp2_with fail
 refine(IW vk vn key nonce c w hk hn).mono ?_;rintro e w1 ⟨rfl,rfl⟩;rw[Id lk ln (by omega)];go_wp2_with fail
 refine(LR vk vn key nonce c w1 hk hn lk ln (by omega)).mono ?_;rintro e w2 ⟨rfl,b2⟩;have hl:=FU key (BitVec.ofNat 32 c) nonce;generalize hus:Bu key (BitVec.ofNat 32 c) nonce=us at hl;have HUS:Hid (Bu key (BitVec.ofNat 32 c) nonce=us):=hus;clear hus;go_wp2_with fail
 refine(Gi us w2 hl (ht.below ht.pos b2)).mono ?_;rintro e w3 ⟨rfl,b3⟩;have hbl:=DS us;have hbb:=EZ us;generalize hbs:BV us=bs at hbl hbb;have HBS:Hid (BV us=bs):=hbs;clear hbs;have hsz:(prog.info? 217).map (·.size)=some (AJ bs).size:=by rw[Aw,hbl];kernel_rfl
 have hone:(AJ bs).all (·.oneCell')=true:=by simp[AJ,Value.oneCell']
 go_wp2_with ((with_reducible (refine Ct ?_));refine wpList_store_row rfl 217 _ _ rfl w3.heap.size _ rfl rfl 217 (AJ (List.replicate 64 0)) (heap_alloc_new _ _) hsz (by rw[Aw,Aw,hbl];rfl) hone ?_)
 generalize hW4:World.setRow _ _ _=W4;obtain⟨hr,b4,_⟩:=Ic w3 bs _ 217 (AJ (List.replicate 64 0)) rfl hW4
 go_ret2
 refine⟨_,rfl,?_,(b2.trans (b3.mono b2.size)).trans (b4.mono (Nat.le_trans b2.size b3.size)),fun b o n c e=>?_⟩
 ·rw[HUS.out,HBS.out];have:=Sl.ofRow hr (by omega) hbb;rw[hbl]at this
  exact this
 ·have:=Nat.le_trans b2.size b3.size;injection e with e1
  injection e1 with e2
  injection e2 with e3
  omega
theorem RM{x y:Int}(hx:0≤x∧x<256)(hy:0≤y∧y<256):bits .xor .u8 x y=bx x y:=by
 obtain⟨a,rfl⟩:∃ a:Nat,x=a:=⟨x.toNat,by omega⟩;obtain⟨b,rfl⟩:∃ b:Nat,y=b:=⟨y.toNat,by omega⟩;rw[u8_xor_nat _ _ (by omega) (by omega)];rfl
theorem Is{w:World}{base e:Nat}{v:Value}{n:Nat}{xs:List Value}(h:w.ownsRow base e 1 v n xs){g:Nat}{cs:Array Value}{t:TypeId}{fr:Nat × Nat}(hg:w.heap[g]?=some (.cells cs t fr))(ht:t≠e):v.ownBlock≠some g:=by
 intro hv;rcases h.2 with⟨rfl,_⟩|⟨g',cap,cur,rfl,_,hg',_⟩
 ·simp[Value.ownBlock]at hv
 ·simp only[Value.ownBlock,Option.some.injEq]at hv;subst hv;rw[hg']at hg
  simp only[Option.some.injEq,Obj.cells.injEq]at hg;exact ht hg.2.1.symm
theorem Eo{w w':World}{base e:Nat}{v:Value}{n:Nat}{xs:List Value}(h:w.ownsRow base e 1 v n xs)(hk:∀ k,v.ownBlock=some k→w'.heap[k]?=w.heap[k]?):w'.ownsRow base e 1 v n xs:=by
 refine⟨h.1,?_⟩;rcases h.2 with h2|⟨g,cap,cur,hv,hb,hg,hr⟩
 ·exact .inl h2
 ·exact .inr ⟨g,cap,cur,hv,hb,(hk g (by rw[hv];rfl)).trans hg,hr⟩
theorem Sl.one2(w:World)(b b':Int)(e:TypeId){g:Nat}(hg:g=w.heap.size)(hb:0≤b∧b<256)(he:b'=b):Sl (w.alloc (.cells #[.int .u8 b'] e)) (.slice (some ⟨g,0,none⟩) 1 1) [b]:=by
 subst he;exact Sl.one w b' e hg hb
theorem XR(x:BitVec 32):(uw x+1)%(4294967296:Int)=uw (x+1#32):=CH x 1#32
theorem Qk(c:BitVec 32)(q:Nat):c+BitVec.ofNat 32 q+1#32=c+BitVec.ofNat 32 (q+1):=by
 rw[BitVec.add_assoc]
 congr 1
 apply BitVec.eq_of_toNat_eq;simp[BitVec.toNat_add,BitVec.toNat_ofNat]
def DV(ws:List (BitVec 32))(q:Nat):List (BitVec 32):=ws.set 12 (ws.getD 12 0#32+BitVec.ofNat 32 q)
theorem Om(ws:List (BitVec 32))(q:Nat):(DV ws q).length=ws.length:=by simp[DV]
theorem Tj(ws:List (BitVec 32))(h:ws.length=16):DV ws 0=ws:=by
 unfold DV;rw[show BitVec.ofNat 32 0=0#32 from rfl,BitVec.add_zero,List.getD,List.getElem?_eq_getElem (by omega),Option.getD_some,List.set_getElem_self]
theorem Yt(ws:List (BitVec 32))(q:Nat)(h:ws.length=16):(DV ws q).getD 12 0#32=ws.getD 12 0#32+BitVec.ofNat 32 q:=by
 unfold DV;simp[List.getD,h]
theorem Ti(ws:List (BitVec 32))(q:Nat)(h:ws.length=16):(DV ws q).set 12 ((DV ws q).getD 12 0#32+1#32)=DV ws (q+1):=by
 rw[Yt ws q h,Qk];unfold DV;rw[List.set_set]
theorem P6(ws:List (BitVec 32))(q j:Nat)(hj:j<64):MA ws (64*q+j)=(BV (DV ws q)).getD j 0:=by
 unfold MA DV;rw[show(64*q+j)/64=q by omega,show(64*q+j)%64=j by omega]
theorem Qf(ws:List (BitVec 32))(vd:Value)(d:List Int)(w:World)(hws:ws.length=16)(hd:Sl w vd d)(hl:d.length≤100000)(ht:Ci w) :
  Calls prog 184 #[.agg (Au ws),vd] w fun e w'=>∃ v',e=.returned v'∧w'.ownsRow w.heap.size 5 1 v' (ON ws d).length ((ON ws d).map (Value.int .u8))∧Bw w w':=by
 obtain⟨i0,hi,hz0,hz1,hz2⟩:=info_parts As;have hds:=hd;obtain⟨⟨ad,capd,rfl,hc,hn,h1⟩,hla,hba⟩:=hd;have hpos:=ht.pos;generalize hnn:d.length=n at *;have HN:Hid (d.length=n):=hnn;clear hnn h1 hn;go_enter func184,ntmps184
 go_wp2_with (at_make;refine wpList_make_own _ rfl _ _ 40 rfl w.heap.size 5 i0 (.int .u8 0) 1 underlying40 hi hz0 hz1 _ _ _ n rfl rfl (by omega) (by rw[hz2];omega) (by unfold maxLen;omega) (by simp) ?_)
 intro w1 ho1 hg1;have hrow:w1.heap[w.heap.size]?=some (.cells (Au (DV ws 0)) 262 (0,0)):=by
  rw[hg1.block w.heap.size (by simp) (by simp),Tj ws hws];exact heap_alloc_new _ _
 have hb1:Bw w w1:=((Below.refl _ _).alloc (Nat.le_refl _) _).grown hg1 (by simp) (by simp);have ho1':w1.ownsRow w.heap.size 5 1 (.slice (some ⟨w.heap.size+1,0,none⟩) 0 n) (CB ws d 0).length ((CB ws d 0).map (Value.int .u8)):=ho1;clear hg1 ho1 hz0 hz1 hz2 hi;go_wp2_with fail
 go_loopw [5] (fun v wr=>∃ (q m:Nat) (a:Option Addr) (cap:Nat),m=min (64*q) n∧v=.slice a m cap∧wr.ownsRow w.heap.size 5 1 v (CB ws d m).length ((CB ws d m).map (Value.int .u8))∧wr.heap[w.heap.size]?=some (.cells (Au (DV ws q)) 262 (0,0))∧Bw w wr) (fun v _=>n-Wr v)
 case atStart=>exact⟨0,0,_,_,by omega,rfl,ho1',hrow,hb1⟩
 case round =>
  clear ho1' hrow hb1;obtain⟨q,m,a,cap,hm,rfl,hown,hrow,hb⟩:=hrel;have HM:Hid (m=min (64*q) n):=hm;have hmle:m≤n:=by omega
  clear hm;have hBlt:w.heap.size<wr.heap.size:=(Array.getElem?_eq_some_iff.1 hrow).1;by_cases hmn:m<n
  ·have hmni:(m:Int)<(n:Int):=by omega
   have HM64:Hid (m=64*q):=by have:=HM.out;unfold Hid;omega
   have hul:(DV ws q).length=16:=by rw[Om];exact hws
   have HBL:Hid (∀ j,j<64→MA ws (m+j)=(BV (DV ws q)).getD j 0):=fun j hj=>by rw[HM64.out];exact P6 ws q j hj
   have hsz:(prog.info? 262).map (·.size)=some (Au (DV ws q)).size:=by rw[AQ,hul];kernel_rfl
   have HSU:Hid ((DV ws q).set 12 ((DV ws q).getD 12 0#32+1#32)=DV ws (q+1)):=Ti ws q hws;generalize DV ws q=us at hrow hul HBL hsz HSU;go_wp2_with ((with_reducible (refine Ct ?_));refine wpList_load_row rfl 262 _ rfl w.heap.size rfl 262 _ (0,0) _ hrow underlying262 rfl hsz ?_)
   refine(Gi us wr hul (ht.below hpos hb)).mono ?_;rintro e w2 ⟨rfl,b2⟩;have hbl:=DS us;have hbb:=EZ us;generalize BV us=bs at hbl hbb HBL;have hsz2:(prog.info? 217).map (·.size)=some (AJ bs).size:=by rw[Aw,hbl];kernel_rfl
   have hone:(AJ bs).all (·.oneCell')=true:=by simp[AJ,Value.oneCell']
   have hkeep:∀ k,Value.ownBlock (.slice a m cap)=some k→k<wr.heap.size:=fun k hk=>(hown.lt k hk).2;by_cases h64:(64:Int)≤(n:Int)-(m:Int)
   ·have HRr:Hid (m+64=min (64*(q+1)) n):=by have:=HM64.out;unfold Hid;omega
    have hrn:m+64≤n:=by omega
    have hr64:64≤64:=by omega
    go_wp2_with ((with_reducible (refine Ct ?_));refine wpList_store_row rfl 217 _ _ rfl w2.heap.size _ rfl rfl 217 (AJ (List.replicate 64 0)) (heap_alloc_new _ _) hsz2 (by rw[Aw,Aw,hbl];rfl) hone ?_)
    generalize hW3:World.setRow _ _ _=W3;obtain⟨hg3,b3,hs3⟩:=Ic w2 bs _ 217 (AJ (List.replicate 64 0)) rfl hW3;clear hW3;have b23:Bw wr W3:=b2.trans (b3.mono b2.size);have hrow3:=(b23.block w.heap.size hBlt).trans hrow;have hown3:=Eo hown (fun k hk=>b23.block k (hkeep k hk));have hb3:Bw w W3:=hb.trans (b23.mono hb.size);have hgB:w.heap.size<w2.heap.size:=Nat.lt_of_lt_of_le hBlt b2.size;clear hown hrow hb b2 b3 b23 hkeep hs3 hsz hsz2 hone hmn hmni;generalize w2.heap.size=g at hg3 hgB ⊢
    go_loopw [5,27] (fun v i wr=>∃ (j:Nat) (a:Option Addr) (cap:Nat),j≤64∧i=.int .i64 j∧v=.slice a (m+j) cap∧wr.ownsRow w.heap.size 5 1 v (CB ws d (m+j)).length ((CB ws d (m+j)).map (Value.int .u8))∧wr.heap[w.heap.size]?=some (.cells (Au us) 262 (0,0))∧wr.heap[g]?=some (.cells (AJ bs) 217 (0,0))∧Bw w wr) (fun _ i _=>64-(intOf i).toNat)
    case atStart=>exact⟨0,a,cap,by omega,rfl,rfl,hown3,hrow3,hg3,hb3⟩
    case round =>
     clear hown3 hrow3 hg3 hb3;obtain⟨j,a2,cap2,hj,rfl,rfl,hown,hrow,hg,hb⟩:=hrel;by_cases hjr:j<64
     ·have hjri:(j:Int)<(64:Int):=by omega
      have hlt:=hown.lt;have cb:=(cell_of_row wr _ j _ _ _ hg).trans (Dv bs j (by omega));obtain⟨bd,od,rfl,hbd,hcd⟩:∃ bd od,ad=some ⟨bd,od,none⟩∧bd<w.heap.size∧w.cell? ⟨bd,od+(m+j),none⟩=some (.int .u8 (d.getD (m+j) 0)):=by
       obtain⟨⟨a',cap',e',_,_,h1'⟩,_,_⟩:=hds;rw[HN.out]at e' h1'
       simp only[Value.slice.injEq]at e';obtain⟨rfl,_,_⟩:=e';rcases h1' with h1'|⟨b',o',rfl,hb',hc'⟩
       ·have:=HN.out;rw[h1']at this;simp at this;omega
       ·exact⟨b',o',rfl,hb',hc' (m+j) (by omega)⟩
      have cd:=(hb.cell (p:=⟨bd,od+(m+j),none⟩) hbd).trans hcd;have y1:=Aj hbb j;have y2:=Aj hba (m+j);have HV:Hid (CB ws d (m+(j+1))=CB ws d (m+j)++[bx (bs.getD j 0) (d.getD (m+j) 0)]):=by
       unfold Hid;rw[← HBL.out j (by omega)];rfl
      have hml:=E8 ws d (m+j);have HBX:=MN y1 y2;have HXX:Hid (bits .xor .u8 (bs.getD j 0) (d.getD (m+j) 0)=bx (bs.getD j 0) (d.getD (m+j) 0)):=RM y1 y2;have HBB:Hid (0≤bx (bs.getD j 0) (d.getD (m+j) 0)∧bx (bs.getD j 0) (d.getD (m+j) 0)<256):=HBX;clear HBX hcd;generalize bs.getD j 0=x at cb y1 HV HXX HBB;generalize d.getD (m+j) 0=y at cd y2 HV HXX HBB;generalize bx x y=xy at HV HXX HBB;generalize CB ws d (m+j)=pre at hown hml HV;go_wp2_with (at_builtin;refine Aa _ rfl _ _ 40 rfl w.heap.size 5 underlying40 As _ _ rfl rfl pre [xy] (hown.alloc _) (Sl.one2 _ _ _ _ rfl HBB.out HXX.out) (by rw[hml];simp;omega) (by have:=hb.size;simp;omega) ?_)
      intro v' w' ho hgr;have ho':w'.ownsRow w.heap.size 5 1 v' (pre++[xy]).length ((pre++[xy]).map (Value.int .u8)):=by simpa[hml]using ho
      have hb':Bw w w':=(hb.alloc hb.size _).grown hgr (by have:=hb.size;simp;omega) (fun k hk=>(hlt k hk).1);have n1:=Is hown hrow (by decide);have n2:=Is hown hg (by decide);have hBs:w.heap.size<wr.heap.size:=(Array.getElem?_eq_some_iff.1 hrow).1;have hgs:g<wr.heap.size:=(Array.getElem?_eq_some_iff.1 hg).1;have hrow':w'.heap[w.heap.size]?=some (.cells (Au us) 262 (0,0)):=((hgr.block w.heap.size (by simp;omega) n1.symm).trans (heap_alloc_old _ _ hBs)).trans hrow;have hg':w'.heap[g]?=some (.cells (AJ bs) 217 (0,0)):=((hgr.block g (by simp;omega) n2.symm).trans (heap_alloc_old _ _ hgs)).trans hg;obtain⟨a3,c3,hv3⟩:=DJ ho';rw[List.length_append,hml,List.length_singleton]at hv3
      subst hv3;clear ho hgr hown hlt hb hrow hg cb cd n1 n2;go_wp2
      go_roundw
      case rel=>exact⟨j+1,a3,c3,by omega,by go_num,rfl,by rw[HV.out];exact ho',hrow',hg',hb'⟩
      case measure=>simp[intOf];omega
     ·have hjri:¬ (j:Int)<(64:Int):=by omega
      have HJ:Hid (j=64):=by unfold Hid;omega
      have c12:=(cell_of_row wr _ 12 _ _ _ hrow).trans (Bp us 12 (by omega));have f12:=frozen_of_row wr _ 12 _ _ hrow;generalize hcw:us.getD 12 0#32=cw at c12;have HCW:Hid (us.getD 12 0#32=cw):=hcw;clear hcw;have hinc:=XR cw;have n1:=Is hown hrow (by decide);go_wp2
      go_roundw
      case rel =>
       refine⟨q+1,m+j,a2,cap2,by rw[HJ.out];exact HRr.out,rfl,Eo hown (fun k hk=>heap_setCell_other _ _ _ _ (by simp;intro e;subst e;exact n1 hk)),?_,hb.setCell (p:=⟨w.heap.size,12,none⟩) (Nat.le_refl _) _⟩;rw[← HSU.out,HCW.out];exact Es hrow 12 _
      case measure=>simp[Wr];have:=HJ.out;omega
   ·obtain⟨r,hrsub⟩:∃ r:Nat,(n:Int)-(m:Int)=(r:Int):=⟨n-m,by omega⟩;have HRr:Hid (m+r=min (64*(q+1)) n):=by have:=HM64.out;unfold Hid;omega
    have hrn:m+r≤n:=by omega
    have hr64:r≤64:=by omega
    have hr64i:(r:Int)≤64:=by omega
    have hr0i:(0:Int)≤(r:Int):=by omega
    have hr1:0<r:=by omega
    go_wp2_with ((with_reducible (refine Ct ?_));refine wpList_store_row rfl 217 _ _ rfl w2.heap.size _ rfl rfl 217 (AJ (List.replicate 64 0)) (heap_alloc_new _ _) hsz2 (by rw[Aw,Aw,hbl];rfl) hone ?_)
    generalize hW3:World.setRow _ _ _=W3;obtain⟨hg3,b3,hs3⟩:=Ic w2 bs _ 217 (AJ (List.replicate 64 0)) rfl hW3;clear hW3;have b23:Bw wr W3:=b2.trans (b3.mono b2.size);have hrow3:=(b23.block w.heap.size hBlt).trans hrow;have hown3:=Eo hown (fun k hk=>b23.block k (hkeep k hk));have hb3:Bw w W3:=hb.trans (b23.mono hb.size);have hgB:w.heap.size<w2.heap.size:=Nat.lt_of_lt_of_le hBlt b2.size;clear hown hrow hb b2 b3 b23 hkeep hs3 hsz hsz2 hone hmn hmni;generalize w2.heap.size=g at hg3 hgB ⊢
    go_loopw [5,27] (fun v i wr=>∃ (j:Nat) (a:Option Addr) (cap:Nat),j≤r∧i=.int .i64 j∧v=.slice a (m+j) cap∧wr.ownsRow w.heap.size 5 1 v (CB ws d (m+j)).length ((CB ws d (m+j)).map (Value.int .u8))∧wr.heap[w.heap.size]?=some (.cells (Au us) 262 (0,0))∧wr.heap[g]?=some (.cells (AJ bs) 217 (0,0))∧Bw w wr) (fun _ i _=>r-(intOf i).toNat)
    case atStart=>exact⟨0,a,cap,by omega,rfl,rfl,hown3,hrow3,hg3,hb3⟩
    case round =>
     clear hown3 hrow3 hg3 hb3;obtain⟨j,a2,cap2,hj,rfl,rfl,hown,hrow,hg,hb⟩:=hrel;by_cases hjr:j<r
     ·have hjri:(j:Int)<(r:Int):=by omega
      have hlt:=hown.lt;have cb:=(cell_of_row wr _ j _ _ _ hg).trans (Dv bs j (by omega));obtain⟨bd,od,rfl,hbd,hcd⟩:∃ bd od,ad=some ⟨bd,od,none⟩∧bd<w.heap.size∧w.cell? ⟨bd,od+(m+j),none⟩=some (.int .u8 (d.getD (m+j) 0)):=by
       obtain⟨⟨a',cap',e',_,_,h1'⟩,_,_⟩:=hds;rw[HN.out]at e' h1'
       simp only[Value.slice.injEq]at e';obtain⟨rfl,_,_⟩:=e';rcases h1' with h1'|⟨b',o',rfl,hb',hc'⟩
       ·have:=HN.out;rw[h1']at this;simp at this;omega
       ·exact⟨b',o',rfl,hb',hc' (m+j) (by omega)⟩
      have cd:=(hb.cell (p:=⟨bd,od+(m+j),none⟩) hbd).trans hcd;have y1:=Aj hbb j;have y2:=Aj hba (m+j);have HV:Hid (CB ws d (m+(j+1))=CB ws d (m+j)++[bx (bs.getD j 0) (d.getD (m+j) 0)]):=by
       unfold Hid;rw[← HBL.out j (by omega)];rfl
      have hml:=E8 ws d (m+j);have HBX:=MN y1 y2;have HXX:Hid (bits .xor .u8 (bs.getD j 0) (d.getD (m+j) 0)=bx (bs.getD j 0) (d.getD (m+j) 0)):=RM y1 y2;have HBB:Hid (0≤bx (bs.getD j 0) (d.getD (m+j) 0)∧bx (bs.getD j 0) (d.getD (m+j) 0)<256):=HBX;clear HBX hcd;generalize bs.getD j 0=x at cb y1 HV HXX HBB;generalize d.getD (m+j) 0=y at cd y2 HV HXX HBB;generalize bx x y=xy at HV HXX HBB;generalize CB ws d (m+j)=pre at hown hml HV;go_wp2_with (at_builtin;refine Aa _ rfl _ _ 40 rfl w.heap.size 5 underlying40 As _ _ rfl rfl pre [xy] (hown.alloc _) (Sl.one2 _ _ _ _ rfl HBB.out HXX.out) (by rw[hml];simp;omega) (by have:=hb.size;simp;omega) ?_)
      intro v' w' ho hgr;have ho':w'.ownsRow w.heap.size 5 1 v' (pre++[xy]).length ((pre++[xy]).map (Value.int .u8)):=by simpa[hml]using ho
      have hb':Bw w w':=(hb.alloc hb.size _).grown hgr (by have:=hb.size;simp;omega) (fun k hk=>(hlt k hk).1);have n1:=Is hown hrow (by decide);have n2:=Is hown hg (by decide);have hBs:w.heap.size<wr.heap.size:=(Array.getElem?_eq_some_iff.1 hrow).1;have hgs:g<wr.heap.size:=(Array.getElem?_eq_some_iff.1 hg).1;have hrow':w'.heap[w.heap.size]?=some (.cells (Au us) 262 (0,0)):=((hgr.block w.heap.size (by simp;omega) n1.symm).trans (heap_alloc_old _ _ hBs)).trans hrow;have hg':w'.heap[g]?=some (.cells (AJ bs) 217 (0,0)):=((hgr.block g (by simp;omega) n2.symm).trans (heap_alloc_old _ _ hgs)).trans hg;obtain⟨a3,c3,hv3⟩:=DJ ho';rw[List.length_append,hml,List.length_singleton]at hv3
      subst hv3;clear ho hgr hown hlt hb hrow hg cb cd n1 n2;go_wp2
      go_roundw
      case rel=>exact⟨j+1,a3,c3,by omega,by go_num,rfl,by rw[HV.out];exact ho',hrow',hg',hb'⟩
      case measure=>simp[intOf];omega
     ·have hjri:¬ (j:Int)<(r:Int):=by omega
      have HJ:Hid (j=r):=by unfold Hid;omega
      have c12:=(cell_of_row wr _ 12 _ _ _ hrow).trans (Bp us 12 (by omega));have f12:=frozen_of_row wr _ 12 _ _ hrow;generalize hcw:us.getD 12 0#32=cw at c12;have HCW:Hid (us.getD 12 0#32=cw):=hcw;clear hcw;have hinc:=XR cw;have n1:=Is hown hrow (by decide);go_wp2
      go_roundw
      case rel =>
       refine⟨q+1,m+j,a2,cap2,by rw[HJ.out];exact HRr.out,rfl,Eo hown (fun k hk=>heap_setCell_other _ _ _ _ (by simp;intro e;subst e;exact n1 hk)),?_,hb.setCell (p:=⟨w.heap.size,12,none⟩) (Nat.le_refl _) _⟩;rw[← HSU.out,HCW.out];exact Es hrow 12 _
      case measure=>simp[Wr];have:=HJ.out;omega
  ·have hmni:¬ (m:Int)<(n:Int):=by omega
   have HMN:Hid (n=m):=by unfold Hid;omega
   go_wp2
   go_ret;refine⟨_,rfl,?_,hb⟩;unfold ON;rw[HN.out,HMN.out];exact hown
theorem YX(vk vn vd:Value)(key nonce d:List Int)(c:Nat)(w:World)(hk:Sl w vk key)(hn:Sl w vn nonce)(hd:Sl w vd d)(lk:key.length=32)(ln:nonce.length=12)(hc:c≤1073741824)(ld:d.length≤2000)(ht:Ci w) :
  Calls prog 164 #[vk,.int .i64 c,vn,vd] w fun e w'=>∃ v',e=.returned (.tuple #[v',.int .i64 0])∧w'.ownsRow w.heap.size 5 1 v' (ON (Bu key (BitVec.ofNat 32 c) nonce) d).length ((ON (Bu key (BitVec.ofNat 32 c) nonce) d).map (Value.int .u8))∧Bw w w':=by
 have hds:=hd;obtain⟨⟨ad,capd,rfl,hcd,hnd,h1⟩,hla,hba⟩:=hd;clear h1;have ldi:(d.length:Int)≤2000:=by omega
 go_enter func164,ntmps164
 go_wp2_with fail
 refine(IW vk vn key nonce c w hk hn).mono ?_;rintro e w1 ⟨rfl,rfl⟩;rw[Id lk ln (by omega)];go_wp2_with fail
 refine(LR vk vn key nonce c w1 hk hn lk ln (by omega)).mono ?_;rintro e w2 ⟨rfl,b2⟩;have hl:=FU key (BitVec.ofNat 32 c) nonce;generalize hus:Bu key (BitVec.ofNat 32 c) nonce=us at hl;have HUS:Hid (Bu key (BitVec.ofNat 32 c) nonce=us):=hus;clear hus;go_wp2_with fail
 refine(Qf us _ d w2 hl (hds.below b2) (by omega) (ht.below ht.pos b2)).mono ?_;rintro e w3 ⟨v3,rfl,ho3,b3⟩;go_wp2
 go_ret2
 refine⟨v3,rfl,?_,b2.trans (b3.mono b2.size)⟩;rw[HUS.out];exact AN ho3 b2.size
end
end Go.Proofs.YtaeckakjdagddadGreatDoor
