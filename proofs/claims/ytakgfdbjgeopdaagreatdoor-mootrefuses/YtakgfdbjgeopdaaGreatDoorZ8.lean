/- Part 8 of the walk: what the functions of the program do, one by one. -/
import Derived.OrdersHeld
import Derived.Test.YtakgfdbjgeopdaaGreatDoorZ7
set_option maxRecDepth 100000
set_option maxHeartbeats 4000000
open Go.Proofs.Tryz
namespace Go.Proofs.YtakgfdbjgeopdaaGreatDoor
open Go.RowKit
theorem Xd{a b:Int}(h:a=b):Ending.returned (.int .u32 a)=.returned (.int .u32 b):=by rw[h]
theorem Zw(n:Nat)(h0:1≤n)(h1:n≤31):bits .and .u64 (IntKind.u64.wrap (-(n:Int))) 31=32-(n:Int):=by
 have e:IntKind.u64.wrap (-(n:Int))=((18446744073709551616-n:Nat):Int):=by rw[IntKind.wrap_u64];omega
 rw[e,show(31:Int)=((31:Nat):Int)from rfl,u64_and_nat _ _ (by omega) (by omega),nat_mask5];omega
theorem UW(x:BitVec 32)(n:Nat)(w:World)(h0:1≤n)(h1:n≤31) :
  Calls prog 242 #[.int .u32 (uw x),.int .i64 (-(n:Int))] w fun e w'=>e=.returned (.int .u32 (uw (x.rotateRight n)))∧w'=w:=by
 have a1:=CV x;have a2:=V6 x;have a3:=Zw n h0 h1;go_enter func242,ntmps242
 go_wp2
 go_ret;exact⟨Xd (Zi x n h0 h1),rfl⟩
theorem Sw(x:BitVec 32)(n:Nat)(w:World)(h0:1≤n)(h1:n≤31) :
  Calls prog 219 #[.int .u32 (uw x),.int .i64 (n:Int)] w fun e w'=>e=.returned (.int .u32 (uw (x.rotateRight n)))∧w'=w:=by
 go_enter func219,ntmps219
 go_wp2_with fail
 refine(UW x n w h0 h1).mono ?_;rintro e w1 ⟨rfl,rfl⟩;go_wp2
 go_ret;exact⟨rfl,rfl⟩
theorem JP(x:BitVec 32)(k:Int)(w:World)(h0:1≤k)(h1:k≤31) :
  Calls prog 219 #[.int .u32 (uw x),.int .i64 k] w fun e w'=>e=.returned (.int .u32 (uw (x.rotateRight k.toNat)))∧w'=w:=by
 obtain⟨n,rfl⟩:∃ n:Nat,k=n:=⟨k.toNat,by omega⟩;exact Sw x n w (by omega) (by omega)
theorem JR(x:BitVec 32)(h:uw x<256):uw x*16777216=uw (x <<< 24)∧uw x*65536=uw (x <<< 16)∧uw x*256=uw (x <<< 8):=by
 have h0:=CV x;have e24:=Fg x 24;have e16:=Fg x 16;have e8:=Fg x 8;rw[← e24,← e16,← e8];refine⟨?_,?_,?_⟩
 ·rw[show(2:Int)^24=16777216 from rfl];omega
 ·rw[show(2:Int)^16=65536 from rfl];omega
 ·rw[show(2:Int)^8=256 from rfl];omega
theorem Bu{B:Nat}{a w:World}(h:Below B a w){g:Nat}(hg:B≤g)(cs:Array Value):Below B a (w.setRow g cs) :=
 h.trans ⟨rfl,rfl,rfl,by simp,fun k hk=>setRow_other w g k cs (by omega)⟩
theorem S4(x:BitVec 32):bits .xor .u32 (bits .xor .u32 (uw (x.rotateRight 7)) (uw (x.rotateRight 18))) (uw x/8)=uw (YR x):=by rw[Xy,CG,CG];rfl
theorem S5(x:BitVec 32):bits .xor .u32 (bits .xor .u32 (uw (x.rotateRight 17)) (uw (x.rotateRight 19))) (uw x/1024)=uw (YS x):=by rw[V8,CG,CG];rfl
theorem KL{w:World}{g:Nat}{ws:List (BitVec 32)}(h:w.heap[g]?=some (.cells (Av ws) 227 (0,0)))(k:Nat)(x:BitVec 32) :
  (w.setCell ⟨g,k,none⟩ (.int .u32 (uw x))).heap[g]?=some (.cells (Av (ws.set k x)) 227 (0,0)):=by
 rw[heap_setCell_same _ _ _ _ _ _ h,Ki]
theorem Mx(v:Value)(l:List Int)(w:World)(h:Sl w v l)(hl:l.length=64) :
  Calls prog 176 #[v] w fun e w'=>e=.returned (.agg (Av (L3 l)))∧Below w.heap.size w w':=by
 obtain⟨⟨a,cap,rfl,hc,hn,h1⟩,hla,hba⟩:=h;rcases h1 with rfl|⟨b,off,rfl,hb,hcell⟩
 ·simp at hl
 rw[hl]at hc hla hcell ⊢
 have HL:Hid (l.length=64):=hl;have HC:Hid (∀ i,i<64→w.cell? ⟨b,off+i,none⟩=some (.int .u8 (uw (BR (l.getD i 0))))):=fun i hi=>by rw[IX _ (Ak hba i)];exact hcell i hi
 have HB:Hid (∀ i,uw (BR (l.getD i 0))<256):=fun i=>by rw[IX _ (Ak hba i)];exact(Ak hba i).2
 clear hl hn hcell hba;go_enter func176,ntmps176
 go_wp2_with fail
 go_loopw [10] (fun i wr=>∃ k:Nat,k≤16∧i=.int .i64 k∧wr.heap[w.heap.size+1]?=some (.cells (Av (IJ l k)) 227 (0,0))∧wr.heap[w.heap.size]?=some (.cells (Av (IJ l 0)) 227 (0,0))∧Below w.heap.size w wr) (fun i _=>16-(intOf i).toNat)
 case atStart=>exact⟨0,by omega,rfl,heap_alloc2_new _ _ _,heap_alloc2_old _ _ _,((Below.refl _ _).alloc (Nat.le_refl _) _).alloc (by simp) _⟩
 case round =>
  obtain⟨k,hk,rfl,hW,hR,hbel⟩:=hrel;by_cases hk16:k<16
  ·have hz:=Bw (IJ l k) k (by rw[Fb];omega);have hcw:wr.cell? ⟨w.heap.size+1,k,none⟩=some (.int .u32 (uw ((IJ l k).getD k 0#32))):=(cell_of_row wr _ k _ _ _ hW).trans hz;have hfw:wr.frozen? ⟨w.heap.size+1,k,none⟩=false:=frozen_of_row wr _ k _ _ hW;have c0:=(hbel.cell (p:=⟨b,off+(4*k),none⟩) hb).trans (HC.out (4*k) (by omega));have c1:=(hbel.cell (p:=⟨b,off+(4*k+1),none⟩) hb).trans (HC.out (4*k+1) (by omega));have c2:=(hbel.cell (p:=⟨b,off+(4*k+2),none⟩) hb).trans (HC.out (4*k+2) (by omega));have c3:=(hbel.cell (p:=⟨b,off+(4*k+3),none⟩) hb).trans (HC.out (4*k+3) (by omega));have l0:=HB.out (4*k);have l1:=HB.out (4*k+1);have l2:=HB.out (4*k+2);have l3:=HB.out (4*k+3);obtain⟨wd,HW,HV⟩:∃ wd,Hid (wd=Qq l k)∧Hid (IJ l (k+1)=(IJ l k).set k wd):=⟨_,rfl,rfl⟩;unfold Qq at HW;generalize BR (l.getD (4*k) 0)=x0 at c0 l0 HW;generalize BR (l.getD (4*k+1) 0)=x1 at c1 l1 HW;generalize BR (l.getD (4*k+2) 0)=x2 at c2 l2 HW;generalize BR (l.getD (4*k+3) 0)=x3 at c3 l3 HW;obtain⟨y0,s0,e0⟩:∃ y,uw x0*16777216=uw y∧x0 <<< 24=y:=⟨_,(JR x0 l0).1,rfl⟩;obtain⟨y1,s1,e1⟩:∃ y,uw x1*65536=uw y∧x1 <<< 16=y:=⟨_,(JR x1 l1).2.1,rfl⟩;obtain⟨y2,s2,e2⟩:∃ y,uw x2*256=uw y∧x2 <<< 8=y:=⟨_,(JR x2 l2).2.2,rfl⟩;rw[e0,e1,e2]at HW
   clear e0 e1 e2;have z0:=CV x0;have z1:=CV x1;have z2:=CV x2;have z3:=CV x3;clear hz;go_wp2_with fail
   refine Aq 35 (by kernel_rfl) (by kernel_rfl) ?_;simp only[List.take_succ_cons,List.take_zero,List.drop_succ_cons,List.drop_zero]
   repeat (go_big_quiet_step (fail))
   refine wpQuiet_nil ?_;go_wp2
   rw[I7,I7,I7,← HW.out];go_roundw
   case rel=>exact⟨k+1,by omega,by go_num,by rw[HV.out];exact KL hW k wd,(heap_setCell_other _ _ _ _ (by simp)).trans hR,(hbel.setCell (by simp) _).drew⟩
   case measure=>simp[intOf];omega
  ·have HK:Hid (k=16):=by unfold Hid;omega
   clear HC HB;go_wp2_with fail
   go_loopw [5] (fun i wr=>∃ k:Nat,k≤48∧i=.int .i64 (16+(k:Int))∧wr.heap[w.heap.size+1]?=some (.cells (Av (EA l k)) 227 (0,0))∧wr.heap[w.heap.size]?=some (.cells (Av (IJ l 0)) 227 (0,0))∧Below w.heap.size w wr) (fun i _=>64-(intOf i).toNat)
   case atStart=>exact⟨0,by omega,rfl,by rw[HK.out]at hW;exact hW,hR,hbel⟩
   case round =>
    clear hW hR hbel HK;obtain⟨k,hk,rfl,hW,hR,hbel⟩:=hrel;by_cases hk48:k<48
    ·have hcell:∀ i,i<64→wr.cell? ⟨w.heap.size+1,i,none⟩=some (.int .u32 (uw ((EA l k).getD i 0#32))):=fun i hi=>(cell_of_row wr _ i _ _ _ hW).trans (Bw (EA l k) i (by rw[DC];exact hi));have c16:=hcell k (by omega);have c15:=hcell (16+k-15) (by omega);have c7:=hcell (16+k-7) (by omega);have c2:=hcell (16+k-2) (by omega);have c0:=hcell (16+k) (by omega);have hfw:wr.frozen? ⟨w.heap.size+1,16+k,none⟩=false:=frozen_of_row wr _ (16+k) _ _ hW;have HV:Hid (EA l (k+1)=(EA l k).set (16+k) (U5 (EA l k) (16+k))):=rfl;unfold U5 at HV;have e16:16+k-16=k:=by omega
     rw[e16]at HV
     generalize (EA l k).getD k 0#32=x16 at c16 HV;generalize (EA l k).getD (16+k-15) 0#32=x15 at c15 HV;generalize (EA l k).getD (16+k-7) 0#32=x7 at c7 HV;generalize (EA l k).getD (16+k-2) 0#32=x2 at c2 HV;clear hcell e16;have n15:=CV x15;have n2:=CV x2;go_wp2_with fail
     go_quiet (fail)
     go_wp2_with (go_at_call 219;refine(JP _ _ _ (by omega) (by omega)).mono ?_;rintro e w' ⟨rfl,rfl⟩)
     rw[S4,S5];generalize YR x15=t0 at HV;generalize YS x2=t1 at HV;refine Aq 15 (by kernel_rfl) (by kernel_rfl) ?_;simp only[List.take_succ_cons,List.take_zero,List.drop_succ_cons,List.drop_zero]
     repeat (go_big_quiet_step (fail))
     refine wpQuiet_nil ?_;go_wp2
     go_roundw
     case rel =>
      rw[QW];exact⟨k+1,by omega,by go_num,by rw[HV.out];exact KL (w:=wr.drewN (nq+1)) hW (16+k) _,(heap_setCell_other _ _ _ _ (by simp)).trans hR,(Ag hbel _).setCell (by simp) _⟩
     case measure=>simp[intOf];omega
    ·have HK:Hid (k=48):=by unfold Hid;omega
     have hsz:(prog.info? 227).map (·.size)=some (Av (EA l k)).size:=by rw[AP,DC];kernel_rfl
     have hone:(Av (EA l k)).all (·.oneCell')=true:=by simp[Av,Value.oneCell']
     go_wp2_with (first|(refine wpList_load_row rfl 227 _ rfl (w.heap.size+1) rfl 227 _ (0,0) _ hW underlying227 rfl hsz ?_)|(refine wpList_store_row rfl 227 _ _ rfl w.heap.size _ rfl rfl 227 _ hR hsz (by rw[AP,AP,Fb,DC]) hone ?_))
     refine bodyPost_ret (v:=.agg (Av (EA l k))) (results_cell_row rfl _ _ w.heap.size 227 _ (0,0) _ rfl (setRow_heap wr w.heap.size _ _ 227 _ hR) underlying227 rfl hsz) rfl ⟨by rw[HK.out];rfl,Bu hbel (Nat.le_refl _) _⟩
def AI(w:World):Prop:=3<w.heap.size∧∀ i,i<64→w.cell? ⟨3,i,none⟩=some (.int .u32 (uw (kAt i)))
theorem AI.below{w w':World}(h:AI w)(hb:Below w.heap.size w w'):AI w' :=
 ⟨Nat.lt_of_lt_of_le h.1 hb.size,fun i hi=>(hb.cell (p:=⟨3,i,none⟩) h.1).trans (h.2 i hi)⟩
theorem Xw(x:BitVec 32):bits .xor .u32 IntKind.u32.max (uw x)=uw (~~~x):=by
 have e:IntKind.u32.max=uw (BitVec.allOnes 32):=rfl;rw[e,CG,Ql,BitVec.allOnes_xor]
theorem MU(e f g:BitVec 32):bits .xor .u32 (bits .and .u32 (uw e) (uw f)) (bits .and .u32 (bits .xor .u32 IntKind.u32.max (uw e)) (uw g))=uw (OO e f g):=by
 rw[Xw,Kf,Kf,CG];rfl
theorem RW(a b c:BitVec 32):bits .xor .u32 (bits .xor .u32 (bits .and .u32 (uw a) (uw b)) (bits .and .u32 (uw a) (uw c))) (bits .and .u32 (uw b) (uw c))=uw (YA a b c):=by
 rw[Kf,Kf,Kf,CG,CG];rfl
theorem Rh(x:BitVec 32):bits .xor .u32 (bits .xor .u32 (uw (x.rotateRight 6)) (uw (x.rotateRight 11))) (uw (x.rotateRight 25))=uw (Zz x):=by
 rw[CG,CG];rfl
theorem Rg(x:BitVec 32):bits .xor .u32 (bits .xor .u32 (uw (x.rotateRight 2)) (uw (x.rotateRight 13))) (uw (x.rotateRight 22))=uw (Zy x):=by
 rw[CG,CG];rfl
theorem Xv(s:St)(k w:BitVec 32):((uw s.h+bits .xor .u32 (bits .xor .u32 (uw (s.e.rotateRight 6)) (uw (s.e.rotateRight 11))) (uw (s.e.rotateRight 25))+uw (OO s.e s.f s.g)+uw k)%(4294967296:Int)+uw w)%(4294967296:Int)=uw (upS s k w):=by
 rw[Rh,QW,Cy];rfl
theorem R0(s:St):(bits .xor .u32 (bits .xor .u32 (uw (s.a.rotateRight 2)) (uw (s.a.rotateRight 13))) (uw (s.a.rotateRight 22))+uw (YA s.a s.b s.c))%(4294967296:Int)=uw (XC s):=by
 rw[Rg,Cy];rfl
theorem TX(s:St)(j:Nat)(hj:j<8):∀ w,(Instr.index 225 (.agg #[.int .u32 (uw s.a),.int .u32 (uw s.b),.int .u32 (uw s.c),.int .u32 (uw s.d),.int .u32 (uw s.e),.int .u32 (uw s.f),.int .u32 (uw s.g),.int .u32 (uw s.h)]) (.int .i64 (j:Int))).run prog w=.ok (.int .u32 (uw (s.list.getD j 0#32))) w:=by
 intro w;obtain rfl|rfl|rfl|rfl|rfl|rfl|rfl|rfl:j=0∨j=1∨j=2∨j=3∨j=4∨j=5∨j=6∨j=7:=by omega
 all_goals kernel_rfl
theorem MK{w:World}{g:Nat}{ws:List (BitVec 32)}(h:w.heap[g]?=some (.cells (Av ws) 225 (0,0)))(k:Nat)(x:BitVec 32) :
  (w.setCell ⟨g,k,none⟩ (.int .u32 (uw x))).heap[g]?=some (.cells (Av (ws.set k x)) 225 (0,0)):=by
 rw[heap_setCell_same _ _ _ _ _ _ h,Ki]
theorem aP(w:World)(o1 o2 o3:Obj){W:World}(h:((w.alloc o1).alloc o2).alloc o3=W) :
  W.heap[w.heap.size]?=some o1∧W.heap[w.heap.size+1]?=some o2∧W.heap[w.heap.size+1+1]?=some o3∧Below w.heap.size w W:=by
 subst h;refine⟨?_,?_,?_,(((Below.refl _ _).alloc (Nat.le_refl _) _).alloc (by simp) _).alloc (by simp;omega) _⟩
 ·rw[heap_alloc_old _ _ (by simp;omega)];exact heap_alloc2_old w o1 o2
 ·rw[heap_alloc_old _ _ (by simp)];exact heap_alloc2_new w o1 o2
 ·have:=heap_alloc_new ((w.alloc o1).alloc o2) o3;simpa using this
theorem RU(s:St)(ws:List (BitVec 32))(w:World)(hws:ws.length=64)(ht:AI w) :
  Calls prog 175 #[.agg s.cells,.agg (Av ws)] w fun e w'=>e=.returned (.agg (Uu s ws).cells)∧Below w.heap.size w w':=by
 obtain⟨a,b,c,d,e,f,g,h⟩:=s;unfold St.cells;go_enter func175,ntmps175
 go_wp2_with fail
 generalize hW0:((w.alloc _).alloc _).alloc _=W0;obtain⟨hA,hB,hC,hbel⟩:=aP w _ _ _ hW0;clear hW0;have htab:=ht.below hbel;have c0:=cell_of_row W0 _ 0 _ _ _ hA;have c1:=cell_of_row W0 _ 1 _ _ _ hA;have c2:=cell_of_row W0 _ 2 _ _ _ hA;have c3:=cell_of_row W0 _ 3 _ _ _ hA;have c4:=cell_of_row W0 _ 4 _ _ _ hA;have c5:=cell_of_row W0 _ 5 _ _ _ hA;have c6:=cell_of_row W0 _ 6 _ _ _ hA;have c7:=cell_of_row W0 _ 7 _ _ _ hA;simp only[List.getElem?_toArray,List.getElem?_cons_zero,List.getElem?_cons_succ]at c0 c1 c2 c3 c4 c5 c6 c7;have HA:Hid _:=hA;have HB:Hid _:=hB;have HC:Hid _:=hC;clear hA hB hC;go_quiet (fail)
 go_wp2_with fail
 go_quiet (fail)
 go_wp2_with fail
 clear c0 c1 c2 c3 c4 c5 c6 c7
 go_loopw [5,6,7,8,9,10,11,12,36] (fun a' b' c' d' e' f' g' h' i wr=>∃ k n:Nat,k≤64∧i=.int .i64 k∧wr=W0.drewN n∧a'=.int .u32 (uw (Bp ws ⟨a,b,c,d,e,f,g,h⟩ k).a)∧b'=.int .u32 (uw (Bp ws ⟨a,b,c,d,e,f,g,h⟩ k).b)∧c'=.int .u32 (uw (Bp ws ⟨a,b,c,d,e,f,g,h⟩ k).c)∧d'=.int .u32 (uw (Bp ws ⟨a,b,c,d,e,f,g,h⟩ k).d)∧e'=.int .u32 (uw (Bp ws ⟨a,b,c,d,e,f,g,h⟩ k).e)∧f'=.int .u32 (uw (Bp ws ⟨a,b,c,d,e,f,g,h⟩ k).f)∧g'=.int .u32 (uw (Bp ws ⟨a,b,c,d,e,f,g,h⟩ k).g)∧h'=.int .u32 (uw (Bp ws ⟨a,b,c,d,e,f,g,h⟩ k).h)) (fun _ _ _ _ _ _ _ _ i _=>64-(intOf i).toNat)
 case atStart=>exact⟨0,_,by omega,rfl,World.drewN_drewN _ _ _,rfl,rfl,rfl,rfl,rfl,rfl,rfl,rfl⟩
 case round =>
  obtain⟨k,n,hk,rfl,hwr,rfl,rfl,rfl,rfl,rfl,rfl,rfl,rfl⟩:=hrel;have HWR:Hid (wr=W0.drewN n):=hwr;by_cases hlt:k<64
  ·have ck:wr.cell? ⟨3,k,none⟩=some (.int .u32 (uw (kAt k))):=by rw[hwr];exact htab.2 k hlt
   have cw:wr.cell? ⟨w.heap.size+1,k,none⟩=some (.int .u32 (uw (ws.getD k 0#32))):=by rw[hwr];exact(cell_of_row W0 _ k _ _ _ HB.out).trans (Bw ws k (by omega))
   clear hwr;have HS:Hid (Bp ws ⟨a,b,c,d,e,f,g,h⟩ (k+1)=Vl (Bp ws ⟨a,b,c,d,e,f,g,h⟩ k) (kAt k) (ws.getD k 0#32)):=rfl;generalize Bp ws ⟨a,b,c,d,e,f,g,h⟩ k=S at HS;generalize kAt k=kk at ck HS;generalize ws.getD k 0#32=ww at cw HS;clear htab;unfold Vl at HS;go_wp2_with fail
   rw[MU,RW];go_quiet ((go_at_call 219;exact Calls.quiet_of_same (JP _ _ _ (by omega) (by omega))))
   rw[Xv];generalize upS S kk ww=up at HS ⊢;clear ck cw;go_wp2_with (go_at_call 219;refine(JP _ _ _ (by omega) (by omega)).mono ?_;rintro e w' ⟨rfl,rfl⟩)
   go_roundw
   case rel =>
    rw[R0,Cy,Cy];exact⟨k+1,n+nq,by omega,by go_num,by rw[HWR.out,World.drewN_drewN],by rw[HS.out],by rw[HS.out],by rw[HS.out],by rw[HS.out],by rw[HS.out],by rw[HS.out],by rw[HS.out],by rw[HS.out]⟩
   case measure=>simp[intOf];omega
  ·have HK:Hid (k=64):=by unfold Hid;omega
   have hA2:wr.heap[w.heap.size]?=some (.cells (Av (Dg ⟨a,b,c,d,e,f,g,h⟩ (Bp ws ⟨a,b,c,d,e,f,g,h⟩ k) 0)) 225 (0,0)):=by rw[hwr];exact HA.out
   have hC2:wr.heap[w.heap.size+1+1]?=some (.cells (Av [0#32,0#32,0#32,0#32,0#32,0#32,0#32,0#32]) 225 (0,0)):=by rw[hwr];exact HC.out
   have hbel2:Below w.heap.size w wr:=by rw[hwr];exact Ag hbel n
   clear hwr HA HB HC htab hbel HWR;have HM:Hid (k=64→(Uu ⟨a,b,c,d,e,f,g,h⟩ ws).cells=Av (Dg ⟨a,b,c,d,e,f,g,h⟩ (Bp ws ⟨a,b,c,d,e,f,g,h⟩ k) 8)):=by rintro rfl;rfl
   generalize Bp ws ⟨a,b,c,d,e,f,g,h⟩ k=S at HM hA2 ⊢;generalize hs0:St.mk a b c d e f g h=s0 at HM hA2;have HS0:Hid (St.mk a b c d e f g h=s0):=hs0;clear hs0;go_wp2_with fail
   go_loopw [110] (fun i wr=>∃ j:Nat,j≤8∧i=.int .i64 j∧wr.heap[w.heap.size]?=some (.cells (Av (Dg s0 S j)) 225 (0,0))∧wr.heap[w.heap.size+1+1]?=some (.cells (Av [0#32,0#32,0#32,0#32,0#32,0#32,0#32,0#32]) 225 (0,0))∧Below w.heap.size w wr) (fun i _=>8-(intOf i).toNat)
   case atStart=>exact⟨0,by omega,rfl,hA2,hC2,hbel2⟩
   case round =>
    clear hA2 hC2 hbel2;obtain⟨j,hj,rfl,hA,hC,hbel⟩:=hrel;by_cases hlt:j<8
    ·have cj:=(cell_of_row wr _ j _ _ _ hA).trans (Bw (Dg s0 S j) j (by rw[Ed];omega));have fj:=frozen_of_row wr _ j _ _ hA;have hix:=TX S j hlt;have HV:Hid (Dg s0 S (j+1)=(Dg s0 S j).set j ((Dg s0 S j).getD j 0#32+S.list.getD j 0#32)):=rfl;generalize (Dg s0 S j).getD j 0#32=x at cj HV;generalize S.list.getD j 0#32=y at hix HV;go_wp2
     go_roundw
     case rel =>
      rw[Cy];exact⟨j+1,by omega,by go_num,by rw[HV.out];exact MK hA j _,(heap_setCell_other _ _ _ _ (by simp;omega)).trans hC,hbel.setCell (Nat.le_refl _) _⟩
     case measure=>simp[intOf];omega
    ·have HJ:Hid (j=8):=by unfold Hid;omega
     have hsz:(prog.info? 225).map (·.size)=some (Av (Dg s0 S j)).size:=by rw[AP,Ed];kernel_rfl
     have hone:(Av (Dg s0 S j)).all (·.oneCell')=true:=by simp[Av,Value.oneCell']
     go_wp2_with (first|(refine wpList_load_row rfl 225 _ rfl w.heap.size rfl 225 _ (0,0) _ hA underlying225 rfl hsz ?_)|(refine wpList_store_row rfl 225 _ _ rfl (w.heap.size+1+1) _ rfl rfl 225 _ hC hsz (by rw[AP,AP,Ed];rfl) hone ?_))
     refine bodyPost_ret (v:=.agg (Av (Dg s0 S j))) (results_cell_row rfl _ _ (w.heap.size+1+1) 225 _ (0,0) _ rfl (setRow_heap wr _ _ _ 225 _ hC) underlying225 rfl hsz) rfl ⟨?_,Bu hbel (by omega) _⟩;rw[HJ.out,← HM.out HK.out,← HS0.out];rfl
end Go.Proofs.YtakgfdbjgeopdaaGreatDoor
namespace Go.Proofs.YtakgfdbjgeopdaaGreatDoor
open Go.ChangeShapes Go.WideShapes Go.ChangeAt Go.RowKit
theorem ZK : prog.globalNamed "conclave/sha.roundWords" = some 3 := by kernel_rfl
theorem TK:(prog.globals[3]?).map (·.type)=some 227:=by kernel_rfl
theorem VR:prog.cellsOf 227=64:=by kernel_rfl
theorem VQ:prog.cellsOf 224=1:=by kernel_rfl
theorem RI(i:Nat)(hi:i<64):Ps.getD i 0=uw (kAt i):=by
 have all:∀ j:Fin 64,Ps.getD j.val 0=uw (kAt j.val):=by decide +kernel
 exact all ⟨i,hi⟩
theorem XD : prog.globalNamed "conclave/order.needs" = some 0 := by kernel_rfl
theorem RA:(prog.globals[0]?).map (·.type)=some 96:=by kernel_rfl
theorem Yf:prog.cellsOf 96=12:=by kernel_rfl
theorem To:prog.cellsOf 95=3:=by kernel_rfl
theorem Ye:prog.cellsOf 3=1:=by kernel_rfl
theorem Fu{H:Type}{enc:TypeId × Value→H}{W:World}{base:Nat}{sp:Nat→Bool}{held:Bool}{fuel:Nat}{cs:List Value}{a b c:Int}{p:List MemPlace}
  (h:DataW.trod enc prog W base sp held fuel 95 cs=some (.agg [.lit (.int .i64 a),.lit (.int .i64 b),.lit (.int .i64 c)],p)) :
  cs=[.int .i64 a,.int .i64 b,.int .i64 c]:=by
 obtain⟨y0,y1,y2,n,hx,hl,h0,h1,h2⟩:=Go.Deep.trod_struct3 underlying95 h;rw[To]at hl
 simp only[Ye]at h0 h1 h2
 match cs,hl with
 | [c0,c1,c2],_ =>
  obtain⟨a0,e0,x0,_⟩:=DataW.trod_int underlying3 h0;obtain⟨a1,e1,x1,_⟩:=DataW.trod_int underlying3 h1;obtain⟨a2,e2,x2,_⟩:=DataW.trod_int underlying3 h2;subst x0 x1 x2;simp at e0 e1 e2;subst e0 e1 e2;simp at hx;obtain⟨⟨rfl,rfl,rfl⟩,_⟩:=hx;rfl
theorem TJ : prog.globalNamed "conclave/cha.quarters" = some 4 := by kernel_rfl
theorem Pi:(prog.globals[4]?).map (·.type)=some 289:=by kernel_rfl
theorem Yg:prog.cellsOf 3=1:=by kernel_rfl
theorem Qv:prog.cellsOf 288=4:=by kernel_rfl
theorem Tn:prog.cellsOf 289=32:=by kernel_rfl
def Iz:List (List Int):=[[0,4,8,12],[1,5,9,13],[2,6,10,14],[3,7,11,15],[0,5,10,15],[1,6,11,12],[2,7,8,13],[3,4,9,14]]
theorem Y6{cs:List Value}(hl:cs.length=32)(rows:List (List Value))(hr:rows.length=8)(h:∀ i,i<8→(cs.drop (i*4)).take 4=rows.getD i []):cs=rows.flatten:=by
 have e0:=h 0 (by omega);have e1:=h 1 (by omega);have e2:=h 2 (by omega);have e3:=h 3 (by omega);have e4:=h 4 (by omega);have e5:=h 5 (by omega);have e6:=h 6 (by omega);have e7:=h 7 (by omega)
 match rows,hr with
 | [r0,r1,r2,r3,r4,r5,r6,r7],_ =>
  simp only[List.getD_cons_zero,List.getD_cons_succ]at e0 e1 e2 e3 e4 e5 e6 e7;subst e0 e1 e2 e3 e4 e5 e6 e7;apply List.ext_getElem?;intro i
  match cs,hl with
  | [a0,a1,a2,a3,a4,a5,a6,a7,a8,a9,a10,a11,a12,a13,a14,a15,a16,a17,a18,a19,a20,a21,a22,a23,a24,a25,a26,a27,a28,a29,a30,a31],_=>rfl
theorem UQ {W : World} {cs : Array Value} {fuel : Nat} {p : List MemPlace} (hvar : World.var? prog W "conclave/cha.quarters" = some cs)
  (hd:DataW.trod (fun _=>()) prog W 0 (fun _=>true) false fuel 289 cs.toList=some (Rows.laid_conclave_cha_quarters,p)):C1 W:=by
 obtain⟨xs,m,_,hx,hlen,hxl,hel⟩:=DataW.trod_array underlying289 hd;rw[Tn]at hlen
 rw[Qv]at hel
 have hx1:xs.map (·.1)=Iz.map (fun zs=>Lib.tabData .i64 zs):=by
  have:=congrArg Prod.fst hx;simp only[Rows.laid_conclave_cha_quarters,DataW.agg.injEq]at this;rw[← this];rfl
 have hrow:∀ i,i<8→(cs.toList.drop (i*4)).take 4=(Iz.map (fun zs=>zs.map fun z=>Value.int .i64 z)).getD i []:=by
  intro i hi;have h1:=hel i hi;have h2:xs[i]?=some (xs[i]'(by omega)):=List.getElem?_eq_getElem (by omega);rw[h2]at h1
  have h3:(xs[i]'(by omega)).1=Lib.tabData .i64 (Iz.getD i []):=by
   have e1:(xs.map (·.1))[i]?=some (xs[i]'(by omega)).1:=by rw[List.getElem?_map,h2];rfl
   rw[hx1,List.getElem?_map,List.getElem?_eq_getElem (show i<Iz.length from hi)]at e1
   simp only[Option.map_some,Option.some.injEq]at e1;rw[← e1,List.getD,List.getElem?_eq_getElem (show i<Iz.length from hi)];rfl
  have h4:xs[i]'(by omega)=(Lib.tabData .i64 (Iz.getD i []),(xs[i]'(by omega)).2):=by rw[← h3]
  rw[h4]at h1
  have h5:=Lib.cells_of_tab underlying288 underlying3 Yg Qv h1;rw[h5,List.getD,List.getD,List.getElem?_map,List.getElem?_eq_getElem (show i<Iz.length from hi)];rfl
 have hcs:cs.toList=(Iz.map (fun zs=>zs.map fun z=>Value.int .i64 z)).flatten:=Y6 hlen _ rfl hrow;have hqa:cs=So:=by
  apply Array.ext';rw[hcs];rfl
 subst hqa;unfold World.var? at hvar;rw[TJ]at hvar
 simp only[Option.bind_some]at hvar;split at hvar
 ·rename_i c t fr hh
  simp only[Option.some.injEq]at hvar;subst hvar;exact⟨t,fr,hh⟩
 ·cases hvar
theorem WH {W : World} {cs : Array Value} {fuel : Nat} {p : List MemPlace} (hvar : World.var? prog W "conclave/order.needs" = some cs)
  (hd:DataW.trod (fun _=>()) prog W 0 (fun _=>true) false fuel 96 cs.toList=some (Rows.laid_conclave_order_needs,p)):NTab W:=by
 obtain⟨xs,m,_,hx,hl,hxl,hb⟩:=DataW.trod_array underlying96 hd;rw[Yf]at hl
 rw[To]at hb
 have hT:cs.toList=Lr.map (Value.int .i64):=by
  match xs,hxl with
  | [x0,x1,x2,x3],_ =>
   simp only[Rows.laid_conclave_order_needs,List.map_cons,List.map_nil,Prod.mk.injEq,DataW.agg.injEq,List.cons.injEq,and_true]at hx;obtain⟨⟨h0,h1,h2,h3⟩,_⟩:=hx;have r0:=Fu (p:=x0.2) ((hb 0 (by omega)).trans (by rw[h0];rfl));have r1:=Fu (p:=x1.2) ((hb 1 (by omega)).trans (by rw[h1];rfl));have r2:=Fu (p:=x2.2) ((hb 2 (by omega)).trans (by rw[h2];rfl));have r3:=Fu (p:=x3.2) ((hb 3 (by omega)).trans (by rw[h3];rfl));generalize cs.toList=l at hl r0 r1 r2 r3
   match l,hl with
   | [_,_,_,_,_,_,_,_,_,_,_,_],_ =>
    simp at r0 r1 r2 r3;simp[Lr,r0,r1,r2,r3]
 have hT':cs=(Lr.map (Value.int .i64)).toArray:=Array.ext' (by simpa using hT);subst hT';obtain⟨t,fr,hr⟩:=IY XD hvar;refine⟨(Array.getElem?_eq_some_iff.1 hr).1,fun i hi=>?_⟩;refine cell_of_row _ _ i _ _ _ hr |>.trans ?_;simp[List.getD,List.getElem?_map,List.getElem?_eq_getElem (show i<Lr.length from hi)]
theorem ZO:(Rows.laid_conclave_sha_roundWords:DataW Unit)=Lib.tabData .u32 Ps:=by kernel_rfl
theorem UY {W : World} {cs : Array Value} {fuel : Nat} {p : List MemPlace} (hvar : World.var? prog W "conclave/sha.roundWords" = some cs)
  (hd:DataW.trod (fun _=>()) prog W 0 (fun _=>true) false fuel 227 cs.toList=some (Rows.laid_conclave_sha_roundWords,p)):AI W:=by
 obtain⟨t,fr,hr⟩:=IY ZK hvar;rw[ZO]at hd
 have hc:=Lib.cells_of_tab underlying227 underlying224 VQ VR hd;refine⟨(Array.getElem?_eq_some_iff.1 hr).1,fun i hi=>?_⟩;rw[cell_of_row _ _ i _ _ _ hr,← RI i hi];have h2:cs[i]?=cs.toList[i]?:=by simp
 rw[h2,hc,List.getElem?_map,List.getElem?_eq_getElem (show i<Ps.length from hi),List.getD,List.getElem?_eq_getElem (show i<Ps.length from hi)];rfl
def Uj(cs:Array Value):Obj→Obj
 | .cells _ t frozen=>.cells cs t frozen
 | o=>o
end Go.Proofs.YtakgfdbjgeopdaaGreatDoor
set_option linter.unusedVariables false
namespace Go.Proofs.YtakgfdbjgeopdaaGreatDoor
open Go.RowKit
def Sx:List (Nat × (World→Prop))→Array Bool→World→Prop
 | [],_,_=>True
 | c::r,L,w=>(L.getD c.1 false=false→c.2 w)∧Sx r L w
theorem Sx.set{l:List (Nat × (World→Prop))}{i:Nat}(h:l.all (fun c=>c.1 != i)=true){L:Array Bool}{w:World}(hs:Sx l (L.setIfInBounds i true) w):Sx l L w:=by
 induction l with
 | nil=>trivial
 | cons c r ih =>
  simp only[List.all_cons,Bool.and_eq_true,bne_iff_ne,ne_eq]at h;refine⟨fun hc=>hs.1 ?_,ih h.2 hs.2⟩;rw[Array.getD_eq_getD_getElem?]at hc ⊢
  rw[Array.getElem?_setIfInBounds_ne (fun e=>h.1 e.symm)];exact hc
def Sd(D:List Nat)(n:Nat):List (Nat × (World→Prop))→World→Prop
 | [],_=>True
 | c::r,w=>((D.contains c.1||decide (n≤c.1))=true→c.2 w)∧Sd D n r w
theorem Sx.sd{l:List (Nat × (World→Prop))}{D:List Nat}{n:Nat}{L:Array Bool}{w:World}(hn:L.size=n)(hD:∀ j∈D,L.getD j true=false)(hs:Sx l L w):Sd D n l w:=by
 induction l with
 | nil=>trivial
 | cons c r ih =>
  refine⟨fun h=>hs.1 ?_,ih hs.2⟩;simp only[Bool.or_eq_true,List.contains_iff_mem,decide_eq_true_eq]at h;rcases h with h|h
  ·have h1:=hD _ h;rw[Array.getD_eq_getD_getElem?]at h1 ⊢
   cases hx:L[c.1]? with
   | none=>rfl
   | some b=>rw[hx]at h1;simpa using h1
  ·rw[Array.getD_eq_getD_getElem?,Array.getElem?_eq_none (by omega)];rfl
section
variable{P:Program}{ops:Array Oper}{Q:Exit→Act→World→Prop}{md:Region.Mode}{S:List (Nat × (World→Prop))}
def Bf(P:Program)(md:Region.Mode)(ops:Array Oper)(Q:Exit→Act→World→Prop)(S:List (Nat × (World→Prop))):Nat→Array Bool→Act→World→Prop
 | 0,listed,a,w=>Region.ready md ops listed=[]∧Q .normal a w
 | fuel+1,listed,a,w =>
  (Region.ready md ops listed=[]→Q .normal a w) ∧
  ∀ i∈Region.ready md ops listed,wpOp P ops Q i (fun a' w'=>Sx S (listed.setIfInBounds i true) w'∧Bf P md ops Q S fuel (listed.setIfInBounds i true) a' w') a w
theorem LL:∀ (fuel:Nat) (listed:Array Bool) (a:Act) (w:World),Bf P md ops Q S fuel listed a w→wpAny P md ops Q fuel listed a w
 | 0,_,_,_,h=>h
 | fuel+1,_,_,_,h=>⟨h.1,fun i hi=>wpOp_mono (fun a' w' h'=>LL fuel _ a' w' h'.2) (h.2 i hi)⟩
def Kj(md:Region.Mode)(ops:Array Oper)(i:Nat)(D:List Nat):Bool :=
 D.all fun j=>j==i||(match ops[j]? with
  | none=>false
  | some o=>o.after.any fun e=>Region.binds md e&&D.contains e.on)
theorem MI{i:Nat}{oi:Oper}{v:Value}(D:List Nat)(hi:ops[i]?=some oi)(hsel:∀ (j:Nat) (o:Oper) cs b,ops[j]?=some o→o.op≠.select cs b)
  (hQ:∀ c a w,Q (.panic c) (a.put oi.dst v) w→Q (.panic c) a w)(hiD:i∈D)(hD:Kj md ops i D=true)(hg:S.all (fun c=>c.1 != i)=true) :
  ∀ (fuel:Nat) (listed:Array Bool) (a:Act) (w:World),listed.size=ops.size →
   (∀ j oj,ops[j]?=some oj→j≠i→listed.getD j true=false→(∀ e∈oj.after,Region.binds md e=true→e.on≠i)→oi.apart ops oj=true) →
   i∈Region.ready md ops listed→(∀ j∈D,listed.getD j true=false)→YieldsIf P ops (Sd D ops.size S) oi v a→Sx S listed w →
   Bf P md ops Q S fuel (listed.setIfInBounds i true) (a.put oi.dst v) w→Bf P md ops Q S (fuel+1) listed a w:=by
 intro fuel;induction fuel with
 | zero =>
  intro listed a w hsz _ hr hun hy hS H;have hS':Sx S (listed.setIfInBounds i true) w:=by
   clear H hy hun hr;induction S with
   | nil=>trivial
   | cons c r ih =>
    simp only[List.all_cons,Bool.and_eq_true,bne_iff_ne,ne_eq]at hg;refine⟨fun hc=>hS.1 ?_,ih hg.2 hS.2⟩;rw[Array.getD_eq_getD_getElem?]at hc ⊢
    rw[Array.getElem?_setIfInBounds_ne (fun e=>hg.1 e.symm)]at hc
    exact hc
  refine⟨fun h=>(by rw[h]at hr;cases hr),fun j hj=>?_⟩;by_cases hji:j=i
  ·subst hji;exact hy.wpOp hi (hS.sd hsz hun) ⟨hS',H⟩
  ·have:=ready_mono hj hji;rw[H.1]at this
   cases this
 | succ fuel ih =>
  intro listed a w hsz hfree hr hun hy hS H;have hS':Sx S (listed.setIfInBounds i true) w:=by
   clear H hy hun hr ih;induction S with
   | nil=>trivial
   | cons c r ih =>
    simp only[List.all_cons,Bool.and_eq_true,bne_iff_ne,ne_eq]at hg;refine⟨fun hc=>hS.1 ?_,ih hg.2 hS.2⟩;rw[Array.getD_eq_getD_getElem?]at hc ⊢
    rw[Array.getElem?_setIfInBounds_ne (fun e=>hg.1 e.symm)]at hc
    exact hc
  refine⟨fun h=>(by rw[h]at hr;cases hr),fun j hj=>?_⟩;by_cases hji:j=i
  ·subst hji;exact hy.wpOp hi (hS.sd hsz hun) ⟨hS',H⟩
  ·have h1:=H.2 j (ready_mono hj hji);obtain⟨hjun,oj,hoj,hall⟩:=mem_ready.1 hj;have hup:∀ k∈D,∀ e∈oj.after,Region.binds md e=true→e.on≠k:=fun k hk e he hb heq=>by
    have h1:=hall e he hb;have h0:=hun k hk;rw[heq]at h1
    rcases Nat.lt_or_ge k listed.size with h'|h'
    ·simp[h']at h0 h1;rw[h0]at h1;cases h1
    ·simp[Array.getElem?_eq_none h']at h1
   have hnot:∀ e∈oj.after,Region.binds md e=true→e.on≠i:=hup i hiD;have hjD:j∉D:=fun hm=>by
    have h3:=List.all_eq_true.1 hD j hm;simp only[Bool.or_eq_true,beq_iff_eq,hoj,Array.any_eq_true,Bool.and_eq_true,List.contains_iff_mem]at h3;rcases h3 with h3|⟨x,hx,h4,h5⟩
    ·exact hji h3
    ·exact hup _ h5 oj.after[x] (Array.getElem_mem hx) h4 rfl
   have h2:=wpOp_putIf hoj (hfree j oj hoj hji hjun hnot) (fun cs b=>hsel i oi cs b hi) (fun cs b=>hsel j oj cs b hoj) hQ hy h1;have hfree':∀ k ok,ops[k]?=some ok→k≠i→(listed.setIfInBounds j true).getD k true=false →
     (∀ e∈ok.after,Region.binds md e=true→e.on≠i)→oi.apart ops ok=true:=fun k ok hk hki hu hno=>by
    refine hfree k ok hk hki ?_ hno;by_cases hjk:j=k
    ·subst hjk;exact hjun
    ·rw[getD_set_ne true hjk]at hu;exact hu
   have hun':∀ k∈D,(listed.setIfInBounds j true).getD k true=false:=fun k hk=>by
    rw[getD_set_ne true (show j≠k from fun e=>hjD (by rw[e];exact hk))];exact hun k hk
   refine wpOp_mono (fun a' w' h3=>?_) h2;have hc:=Array.setIfInBounds_comm (xs:=listed) true true hji;have hsj:Sx S (listed.setIfInBounds j true) w':=Sx.set hg (by rw[hc];exact h3.2.1);refine⟨hsj,ih (listed.setIfInBounds j true) a' w' (by rw[Array.size_setIfInBounds];exact hsz) hfree' (ready_mono hr (Ne.symm hji)) hun' h3.1 hsj ?_⟩;rw[hc];exact h3.2.2
theorem XN{i:Nat}(d:Nat)(D:List Nat){oi:Oper}{v:Value}{fuel:Nat}{listed:Array Bool}{a:Act}{w:World}(hi:ops[i]?=some oi)(hd:oi.dst=some d)
  (hs:Region.noSelect ops=true)(hf:Region.free md ops listed i=true)(hr:(Region.ready md ops listed).contains i=true)
  (hQ:∀ c a w,Q (.panic c) (a.put (some d) v) w→Q (.panic c) a w)
  (hb:(D.contains i&&Kj md ops i D&&S.all (fun c=>c.1 != i)&&decide (listed.size=ops.size)&&D.all fun j=>listed.getD j true==false)=true)
  (hy:YieldsIf P ops (Sd D ops.size S) oi v a)(hS:Sx S listed w)
  (h:Bf P md ops Q S fuel (listed.setIfInBounds i true) (a.put (some d) v) w):Bf P md ops Q S (fuel+1) listed a w:=by
 simp only[Bool.and_eq_true,List.contains_iff_mem,decide_eq_true_eq,List.all_eq_true,beq_iff_eq]at hb;obtain⟨⟨⟨⟨h1,h2⟩,h3⟩,h4⟩,h5⟩:=hb;exact MI D hi (Region.noSelect_spec hs) (by rw[hd];exact hQ) h1 h2 (List.all_eq_true.2 h3) fuel listed a w h4 (Region.free_spec hi hf) (by simpa using hr) h5 hy hS (by rw[hd];exact h)
theorem bZ{i fuel:Nat}{L:Array Bool}{a:Act}{w:World}(hr:Region.ready md ops L=[i])
  (h:wpOp P ops Q i (fun a' w'=>Sx S (L.setIfInBounds i true) w'∧Bf P md ops Q S fuel (L.setIfInBounds i true) a' w') a w):Bf P md ops Q S (fuel+1) L a w :=
 ⟨fun h0=>absurd (hr▸h0) (by simp),hr▸(fun j hj=>by
  obtain rfl:j=i:=by simpa using hj
  exact h)⟩
theorem ce{i i' fuel:Nat}{L:Array Bool}{a:Act}{w:World}(hr:Region.ready md ops L=[i,i'])
  (h:wpOp P ops Q i (fun a' w'=>Sx S (L.setIfInBounds i true) w'∧Bf P md ops Q S fuel (L.setIfInBounds i true) a' w') a w)
  (h':wpOp P ops Q i' (fun a' w'=>Sx S (L.setIfInBounds i' true) w'∧Bf P md ops Q S fuel (L.setIfInBounds i' true) a' w') a w):Bf P md ops Q S (fuel+1) L a w :=
 ⟨fun h0=>absurd (hr▸h0) (by simp),hr▸(fun j hj=>by
  rcases(show j=i∨j=i' by simpa using hj)with rfl|rfl
  ·exact h
  ·exact h')⟩
theorem X7(S:List (Nat × (World→Prop))){id:Nat}{a:Act}{w:World}(hm:P.follows .mixedOrders=true)
  (h:Bf P .any ops Q S ops.size (Array.replicate ops.size false) a w.drew):(Code.region id ops true).wp P Q a w :=
 wp_region_any hm (LL _ _ _ _ h)
end
end Go.Proofs.YtakgfdbjgeopdaaGreatDoor
