/- Part 3 of the walk. -/
import Derived.OrdersHeld
import Derived.Laws.AppendOwn
import Derived.Test.YtalbmmghmoggcaaGreatDoorZ2
set_option maxRecDepth 100000
set_option maxHeartbeats 4000000
open Go.Proofs.Tryz
set_option linter.unusedVariables false
namespace Go.Proofs.YtalbmmghmoggcaaGreatDoor
section
open Go.RowKit
theorem YN{a b:Int}(h:a=b):Ending.returned (.int .u32 a)=.returned (.int .u32 b):=by rw[h]
theorem dx(n:Nat)(h0:1<=n)(h1:n<=31):bits .and .u64 (IntKind.u64.wrap (-(n:Int))) 31=32-(n:Int):=by
 have e:IntKind.u64.wrap (-(n:Int))=((18446744073709551616-n:Nat):Int):=by rw[IntKind.wrap_u64];omega
 rw[e,show(31:Int)=((31:Nat):Int)from rfl,u64_and_nat _ _ (by omega) (by omega),nat_mask5];omega
theorem Wx(x:BitVec 32)(n:Nat)(w:World)(h0:1<=n)(h1:n<=31) :
  Calls prog 198 #[.int .u32 (uw x),.int .i64 (-(n:Int))] w fun e w'=>e=.returned (.int .u32 (uw (x.rotateRight n)))/\w'=w:=by
 have a1:=Db x;have a2:=Xk x;have a3:=dx n h0 h1;go_enter func198,ntmps198
 go_wp2
 go_ret;exact⟨YN (db x n h0 h1),rfl⟩
theorem T1(x:BitVec 32)(n:Nat)(w:World)(h0:1<=n)(h1:n<=31) :
  Calls prog 185 #[.int .u32 (uw x),.int .i64 (n:Int)] w fun e w'=>e=.returned (.int .u32 (uw (x.rotateRight n)))/\w'=w:=by
 go_enter func185,ntmps185
 go_wp2_with fail
 refine(Wx x n w h0 h1).mono ?_;rintro e w1 ⟨rfl,rfl⟩;go_wp2
 go_ret;exact⟨rfl,rfl⟩
theorem K7(x:BitVec 32)(k:Int)(w:World)(h0:1<=k)(h1:k<=31) :
  Calls prog 185 #[.int .u32 (uw x),.int .i64 k] w fun e w'=>e=.returned (.int .u32 (uw (x.rotateRight k.toNat)))/\w'=w:=by
 obtain⟨n,rfl⟩:∃ n:Nat,k=n:=⟨k.toNat,by omega⟩;exact T1 x n w (by omega) (by omega)
theorem K9(x:BitVec 32)(h:uw x<256):uw x*16777216=uw (x <<< 24)/\uw x*65536=uw (x <<< 16)/\uw x*256=uw (x <<< 8):=by
 have h0:=Db x;have e24:=Fx x 24;have e16:=Fx x 16;have e8:=Fx x 8;rw[<- e24,<- e16,<- e8];refine⟨?_,?_,?_⟩
 .rw[show(2:Int)^24=16777216 from rfl];omega
 .rw[show(2:Int)^16=65536 from rfl];omega
 .rw[show(2:Int)^8=256 from rfl];omega
theorem Bo{B:Nat}{a w:World}(h:Below B a w){g:Nat}(hg:B<=g)(cs:Array Value):Below B a (w.setRow g cs) :=
 h.trans ⟨rfl,rfl,rfl,by simp,fun k hk=>setRow_other w g k cs (by omega)⟩
theorem TA(x:BitVec 32):bits .xor .u32 (bits .xor .u32 (uw (x.rotateRight 7)) (uw (x.rotateRight 18))) (uw x/8)=uw (cJ x):=by rw[Zq,CM,CM];rfl
theorem TB(x:BitVec 32):bits .xor .u32 (bits .xor .u32 (uw (x.rotateRight 17)) (uw (x.rotateRight 19))) (uw x/1024)=uw (cK x):=by rw[Xm,CM,CM];rfl
theorem Lv{w:World}{g:Nat}{ws:List (BitVec 32)}(h:w.heap[g]?=some (.cells (Au ws) 247 (0,0)))(k:Nat)(x:BitVec 32) :
  (w.setCell ⟨g,k,none⟩ (.int .u32 (uw x))).heap[g]?=some (.cells (Au (ws.set k x)) 247 (0,0)):=by
 rw[heap_setCell_same _ _ _ _ _ _ h,KM]
theorem MV(v:Value)(l:List Int)(w:World)(h:Sl w v l)(hl:l.length=64) :
  Calls prog 170 #[v] w fun e w'=>e=.returned (.agg (Au (Me l)))/\Bw w w':=by
 obtain⟨⟨a,cap,rfl,hc,hn,h1⟩,hla,hba⟩:=h;rcases h1 with rfl|⟨b,off,rfl,hb,hcell⟩
 .simp at hl
 rw[hl]at hc hla hcell ⊢
 have HL:Hid (l.length=64):=hl;have HC:Hid (∀ i,i<64->w.cell? ⟨b,off+i,none⟩=some (.int .u8 (uw (BQ (l.getD i 0))))):=fun i hi=>by rw[J0 _ (Aj hba i)];exact hcell i hi
 have HB:Hid (∀ i,uw (BQ (l.getD i 0))<256):=fun i=>by rw[J0 _ (Aj hba i)];exact(Aj hba i).2
 clear hl hn hcell hba;go_enter func170,ntmps170
 go_wp2_with fail
 go_loopw [10] (fun i wr=>∃ k:Nat,k<=16/\i=.int .i64 k/\wr.heap[w.heap.size+1]?=some (.cells (Au (Jj l k)) 247 (0,0))/\wr.heap[w.heap.size]?=some (.cells (Au (Jj l 0)) 247 (0,0))/\Bw w wr) (fun i _=>16-(intOf i).toNat)
 case atStart=>exact⟨0,by omega,rfl,heap_alloc2_new _ _ _,heap_alloc2_old _ _ _,((Below.refl _ _).alloc (Nat.le_refl _) _).alloc (by simp) _⟩
 case round =>
  obtain⟨k,hk,rfl,hW,hR,hbel⟩:=hrel;by_cases hk16:k<16
  .have hz:=Bp (Jj l k) k (by rw[Fq];omega);have hcw:wr.cell? ⟨w.heap.size+1,k,none⟩=some (.int .u32 (uw ((Jj l k).getD k 0#32))):=(cell_of_row wr _ k _ _ _ hW).trans hz;have hfw:wr.frozen? ⟨w.heap.size+1,k,none⟩=false:=frozen_of_row wr _ k _ _ hW;have c0:=(hbel.cell (p:=⟨b,off+(4*k),none⟩) hb).trans (HC.out (4*k) (by omega));have c1:=(hbel.cell (p:=⟨b,off+(4*k+1),none⟩) hb).trans (HC.out (4*k+1) (by omega));have c2:=(hbel.cell (p:=⟨b,off+(4*k+2),none⟩) hb).trans (HC.out (4*k+2) (by omega));have c3:=(hbel.cell (p:=⟨b,off+(4*k+3),none⟩) hb).trans (HC.out (4*k+3) (by omega));have l0:=HB.out (4*k);have l1:=HB.out (4*k+1);have l2:=HB.out (4*k+2);have l3:=HB.out (4*k+3);obtain⟨wd,HW,HV⟩:∃ wd,Hid (wd=Rj l k)/\Hid (Jj l (k+1)=(Jj l k).set k wd):=⟨_,rfl,rfl⟩;unfold Rj at HW;generalize BQ (l.getD (4*k) 0)=x0 at c0 l0 HW;generalize BQ (l.getD (4*k+1) 0)=x1 at c1 l1 HW;generalize BQ (l.getD (4*k+2) 0)=x2 at c2 l2 HW;generalize BQ (l.getD (4*k+3) 0)=x3 at c3 l3 HW;obtain⟨y0,s0,e0⟩:∃ y,uw x0*16777216=uw y/\x0 <<< 24=y:=⟨_,(K9 x0 l0).1,rfl⟩;obtain⟨y1,s1,e1⟩:∃ y,uw x1*65536=uw y/\x1 <<< 16=y:=⟨_,(K9 x1 l1).2.1,rfl⟩;obtain⟨y2,s2,e2⟩:∃ y,uw x2*256=uw y/\x2 <<< 8=y:=⟨_,(K9 x2 l2).2.2,rfl⟩;rw[e0,e1,e2]at HW
   clear e0 e1 e2;have z0:=Db x0;have z1:=Db x1;have z2:=Db x2;have z3:=Db x3;clear hz;go_wp2_with fail
   refine Aq 35 (by kernel_rfl) (by kernel_rfl) ?_;simp only[List.take_succ_cons,List.take_zero,List.drop_succ_cons,List.drop_zero]
   repeat (go_big_quiet_step (fail))
   refine wpQuiet_nil ?_;go_wp2
   rw[IU,IU,IU,<- HW.out];go_roundw
   case rel=>exact⟨k+1,by omega,by go_num,by rw[HV.out];exact Lv hW k wd,(heap_setCell_other _ _ _ _ (by simp)).trans hR,(hbel.setCell (by simp) _).drew⟩
   case measure=>simp[intOf];omega
  .have HK:Hid (k=16):=by unfold Hid;omega
   clear HC HB;go_wp2_with fail
   go_loopw [5] (fun i wr=>∃ k:Nat,k<=48/\i=.int .i64 (16+(k:Int))/\wr.heap[w.heap.size+1]?=some (.cells (Au (EQ l k)) 247 (0,0))/\wr.heap[w.heap.size]?=some (.cells (Au (Jj l 0)) 247 (0,0))/\Bw w wr) (fun i _=>64-(intOf i).toNat)
   case atStart=>exact⟨0,by omega,rfl,by rw[HK.out]at hW;exact hW,hR,hbel⟩
   case round =>
    clear hW hR hbel HK;obtain⟨k,hk,rfl,hW,hR,hbel⟩:=hrel;by_cases hk48:k<48
    .have hcell:∀ i,i<64->wr.cell? ⟨w.heap.size+1,i,none⟩=some (.int .u32 (uw ((EQ l k).getD i 0#32))):=fun i hi=>(cell_of_row wr _ i _ _ _ hW).trans (Bp (EQ l k) i (by rw[DE];exact hi));have c16:=hcell k (by omega);have c15:=hcell (16+k-15) (by omega);have c7:=hcell (16+k-7) (by omega);have c2:=hcell (16+k-2) (by omega);have c0:=hcell (16+k) (by omega);have hfw:wr.frozen? ⟨w.heap.size+1,16+k,none⟩=false:=frozen_of_row wr _ (16+k) _ _ hW;have HV:Hid (EQ l (k+1)=(EQ l k).set (16+k) (VQ (EQ l k) (16+k))):=rfl;unfold VQ at HV;have e16:16+k-16=k:=by omega
     rw[e16]at HV
     generalize (EQ l k).getD k 0#32=x16 at c16 HV;generalize (EQ l k).getD (16+k-15) 0#32=x15 at c15 HV;generalize (EQ l k).getD (16+k-7) 0#32=x7 at c7 HV;generalize (EQ l k).getD (16+k-2) 0#32=x2 at c2 HV;clear hcell e16;have n15:=Db x15;have n2:=Db x2;go_wp2_with fail
     go_quiet (fail)
     go_wp2_with (go_at_call 185;refine(K7 _ _ _ (by omega) (by omega)).mono ?_;rintro e w' ⟨rfl,rfl⟩)
     rw[TA,TB];generalize cJ x15=t0 at HV;generalize cK x2=t1 at HV;refine Aq 15 (by kernel_rfl) (by kernel_rfl) ?_;simp only[List.take_succ_cons,List.take_zero,List.drop_succ_cons,List.drop_zero]
     repeat (go_big_quiet_step (fail))
     refine wpQuiet_nil ?_;go_wp2
     go_roundw
     case rel =>
      rw[RZ];exact⟨k+1,by omega,by go_num,by rw[HV.out];exact Lv (w:=wr.drewN (nq+1)) hW (16+k) _,(heap_setCell_other _ _ _ _ (by simp)).trans hR,(An hbel _).setCell (by simp) _⟩
     case measure=>simp[intOf];omega
    .have HK:Hid (k=48):=by unfold Hid;omega
     have hsz:(prog.info? 247).map (·.size)=some (Au (EQ l k)).size:=by rw[AQ,DE];kernel_rfl
     have hone:(Au (EQ l k)).all (·.oneCell')=true:=by simp[Au,Value.oneCell']
     go_wp2_with (first|(refine wpList_load_row rfl 247 _ rfl (w.heap.size+1) rfl 247 _ (0,0) _ hW underlying247 rfl hsz ?_)|(refine wpList_store_row rfl 247 _ _ rfl w.heap.size _ rfl rfl 247 _ hR hsz (by rw[AQ,AQ,Fq,DE]) hone ?_))
     refine bodyPost_ret (v:=.agg (Au (EQ l k))) (results_cell_row rfl _ _ w.heap.size 247 _ (0,0) _ rfl (setRow_heap wr w.heap.size _ _ 247 _ hR) underlying247 rfl hsz) rfl ⟨by rw[HK.out];rfl,Bo hbel (Nat.le_refl _) _⟩
def AA(w:World):Prop:=3<w.heap.size/\∀ i,i<64->w.cell? ⟨3,i,none⟩=some (.int .u32 (uw (kAt i)))
theorem AA.below{w w':World}(h:AA w)(hb:Bw w w'):AA w' :=
 ⟨Nat.lt_of_lt_of_le h.1 hb.size,fun i hi=>(hb.cell (p:=⟨3,i,none⟩) h.1).trans (h.2 i hi)⟩
theorem Zo(x:BitVec 32):bits .xor .u32 IntKind.u32.max (uw x)=uw (~~~x):=by
 have e:IntKind.u32.max=uw (BitVec.allOnes 32):=rfl;rw[e,CM,Re,BitVec.allOnes_xor]
theorem NA(e f g:BitVec 32):bits .xor .u32 (bits .and .u32 (uw e) (uw f)) (bits .and .u32 (bits .xor .u32 IntKind.u32.max (uw e)) (uw g))=uw (P6 e f g):=by
 rw[Zo,KJ,KJ,CM];rfl
theorem Th(a b c:BitVec 32):bits .xor .u32 (bits .xor .u32 (bits .and .u32 (uw a) (uw b)) (bits .and .u32 (uw a) (uw c))) (bits .and .u32 (uw b) (uw c))=uw (most a b c):=by
 rw[KJ,KJ,KJ,CM,CM];rfl
theorem Sw(x:BitVec 32):bits .xor .u32 (bits .xor .u32 (uw (x.rotateRight 6)) (uw (x.rotateRight 11))) (uw (x.rotateRight 25))=uw (d8 x):=by
 rw[CM,CM];rfl
theorem Su(x:BitVec 32):bits .xor .u32 (bits .xor .u32 (uw (x.rotateRight 2)) (uw (x.rotateRight 13))) (uw (x.rotateRight 22))=uw (dz x):=by
 rw[CM,CM];rfl
theorem Zn(s:St)(k w:BitVec 32):((uw s.h+bits .xor .u32 (bits .xor .u32 (uw (s.e.rotateRight 6)) (uw (s.e.rotateRight 11))) (uw (s.e.rotateRight 25))+uw (P6 s.e s.f s.g)+uw k)%(4294967296:Int)+uw w)%(4294967296:Int)=uw (upS s k w):=by
 rw[Sw,RZ,CA];rfl
theorem SC(s:St):(bits .xor .u32 (bits .xor .u32 (uw (s.a.rotateRight 2)) (uw (s.a.rotateRight 13))) (uw (s.a.rotateRight 22))+uw (most s.a s.b s.c))%(4294967296:Int)=uw (ZH s):=by
 rw[Su,CA];rfl
theorem Vx(s:St)(j:Nat)(hj:j<8):∀ w,(Instr.index 245 (.agg #[.int .u32 (uw s.a),.int .u32 (uw s.b),.int .u32 (uw s.c),.int .u32 (uw s.d),.int .u32 (uw s.e),.int .u32 (uw s.f),.int .u32 (uw s.g),.int .u32 (uw s.h)]) (.int .i64 (j:Int))).run prog w=.ok (.int .u32 (uw (s.list.getD j 0#32))) w:=by
 intro w;obtain rfl|rfl|rfl|rfl|rfl|rfl|rfl|rfl:j=0\/j=1\/j=2\/j=3\/j=4\/j=5\/j=6\/j=7:=by omega
 all_goals kernel_rfl
theorem Nn{w:World}{g:Nat}{ws:List (BitVec 32)}(h:w.heap[g]?=some (.cells (Au ws) 245 (0,0)))(k:Nat)(x:BitVec 32) :
  (w.setCell ⟨g,k,none⟩ (.int .u32 (uw x))).heap[g]?=some (.cells (Au (ws.set k x)) 245 (0,0)):=by
 rw[heap_setCell_same _ _ _ _ _ _ h,KM]
theorem eN(w:World)(o1 o2 o3:Obj){W:World}(h:((w.alloc o1).alloc o2).alloc o3=W) :
  W.heap[w.heap.size]?=some o1/\W.heap[w.heap.size+1]?=some o2/\W.heap[w.heap.size+1+1]?=some o3/\Bw w W:=by
 subst h;refine⟨?_,?_,?_,(((Below.refl _ _).alloc (Nat.le_refl _) _).alloc (by simp) _).alloc (by simp;omega) _⟩
 .rw[heap_alloc_old _ _ (by simp;omega)];exact heap_alloc2_old w o1 o2
 .rw[heap_alloc_old _ _ (by simp)];exact heap_alloc2_new w o1 o2
 .have:=heap_alloc_new ((w.alloc o1).alloc o2) o3;simpa using this
theorem Te(s:St)(ws:List (BitVec 32))(w:World)(hws:ws.length=64)(ht:AA w) :
  Calls prog 169 #[.agg s.cells,.agg (Au ws)] w fun e w'=>e=.returned (.agg (VL s ws).cells)/\Bw w w':=by
 obtain⟨a,b,c,d,e,f,g,h⟩:=s;unfold St.cells;go_enter func169,ntmps169
 go_wp2_with fail
 generalize hW0:((w.alloc _).alloc _).alloc _=W0;obtain⟨hA,hB,hC,hbel⟩:=eN w _ _ _ hW0;clear hW0;have htab:=ht.below hbel;have c0:=cell_of_row W0 _ 0 _ _ _ hA;have c1:=cell_of_row W0 _ 1 _ _ _ hA;have c2:=cell_of_row W0 _ 2 _ _ _ hA;have c3:=cell_of_row W0 _ 3 _ _ _ hA;have c4:=cell_of_row W0 _ 4 _ _ _ hA;have c5:=cell_of_row W0 _ 5 _ _ _ hA;have c6:=cell_of_row W0 _ 6 _ _ _ hA;have c7:=cell_of_row W0 _ 7 _ _ _ hA;simp only[List.getElem?_toArray,List.getElem?_cons_zero,List.getElem?_cons_succ]at c0 c1 c2 c3 c4 c5 c6 c7;have HA:Hid _:=hA;have HB:Hid _:=hB;have HC:Hid _:=hC;clear hA hB hC;go_quiet (fail)
 go_wp2_with fail
 go_quiet (fail)
 go_wp2_with fail
 clear c0 c1 c2 c3 c4 c5 c6 c7
 go_loopw [5,6,7,8,9,10,11,12,36] (fun a' b' c' d' e' f' g' h' i wr=>∃ k n:Nat,k<=64/\i=.int .i64 k/\wr=W0.drewN n/\a'=.int .u32 (uw (Bl ws ⟨a,b,c,d,e,f,g,h⟩ k).a)/\b'=.int .u32 (uw (Bl ws ⟨a,b,c,d,e,f,g,h⟩ k).b)/\c'=.int .u32 (uw (Bl ws ⟨a,b,c,d,e,f,g,h⟩ k).c)/\d'=.int .u32 (uw (Bl ws ⟨a,b,c,d,e,f,g,h⟩ k).d)/\e'=.int .u32 (uw (Bl ws ⟨a,b,c,d,e,f,g,h⟩ k).e)/\f'=.int .u32 (uw (Bl ws ⟨a,b,c,d,e,f,g,h⟩ k).f)/\g'=.int .u32 (uw (Bl ws ⟨a,b,c,d,e,f,g,h⟩ k).g)/\h'=.int .u32 (uw (Bl ws ⟨a,b,c,d,e,f,g,h⟩ k).h)) (fun _ _ _ _ _ _ _ _ i _=>64-(intOf i).toNat)
 case atStart=>exact⟨0,_,by omega,rfl,World.drewN_drewN _ _ _,rfl,rfl,rfl,rfl,rfl,rfl,rfl,rfl⟩
 case round =>
  obtain⟨k,n,hk,rfl,hwr,rfl,rfl,rfl,rfl,rfl,rfl,rfl,rfl⟩:=hrel;have HWR:Hid (wr=W0.drewN n):=hwr;by_cases hlt:k<64
  .have ck:wr.cell? ⟨3,k,none⟩=some (.int .u32 (uw (kAt k))):=by rw[hwr];exact htab.2 k hlt
   have cw:wr.cell? ⟨w.heap.size+1,k,none⟩=some (.int .u32 (uw (ws.getD k 0#32))):=by rw[hwr];exact(cell_of_row W0 _ k _ _ _ HB.out).trans (Bp ws k (by omega))
   clear hwr;have HS:Hid (Bl ws ⟨a,b,c,d,e,f,g,h⟩ (k+1)=WQ (Bl ws ⟨a,b,c,d,e,f,g,h⟩ k) (kAt k) (ws.getD k 0#32)):=rfl;generalize Bl ws ⟨a,b,c,d,e,f,g,h⟩ k=S at HS;generalize kAt k=kk at ck HS;generalize ws.getD k 0#32=ww at cw HS;clear htab;unfold WQ at HS;go_wp2_with fail
   rw[NA,Th];go_quiet ((go_at_call 185;exact Calls.quiet_of_same (K7 _ _ _ (by omega) (by omega))))
   rw[Zn];generalize upS S kk ww=up at HS ⊢;clear ck cw;go_wp2_with (go_at_call 185;refine(K7 _ _ _ (by omega) (by omega)).mono ?_;rintro e w' ⟨rfl,rfl⟩)
   go_roundw
   case rel =>
    rw[SC,CA,CA];exact⟨k+1,n+nq,by omega,by go_num,by rw[HWR.out,World.drewN_drewN],by rw[HS.out],by rw[HS.out],by rw[HS.out],by rw[HS.out],by rw[HS.out],by rw[HS.out],by rw[HS.out],by rw[HS.out]⟩
   case measure=>simp[intOf];omega
  .have HK:Hid (k=64):=by unfold Hid;omega
   have hA2:wr.heap[w.heap.size]?=some (.cells (Au (Dn ⟨a,b,c,d,e,f,g,h⟩ (Bl ws ⟨a,b,c,d,e,f,g,h⟩ k) 0)) 245 (0,0)):=by rw[hwr];exact HA.out
   have hC2:wr.heap[w.heap.size+1+1]?=some (.cells (Au [0#32,0#32,0#32,0#32,0#32,0#32,0#32,0#32]) 245 (0,0)):=by rw[hwr];exact HC.out
   have hbel2:Bw w wr:=by rw[hwr];exact An hbel n
   clear hwr HA HB HC htab hbel HWR;have HM:Hid (k=64->(VL ⟨a,b,c,d,e,f,g,h⟩ ws).cells=Au (Dn ⟨a,b,c,d,e,f,g,h⟩ (Bl ws ⟨a,b,c,d,e,f,g,h⟩ k) 8)):=by rintro rfl;rfl
   generalize Bl ws ⟨a,b,c,d,e,f,g,h⟩ k=S at HM hA2 ⊢;generalize hs0:St.mk a b c d e f g h=s0 at HM hA2;have HS0:Hid (St.mk a b c d e f g h=s0):=hs0;clear hs0;go_wp2_with fail
   go_loopw [110] (fun i wr=>∃ j:Nat,j<=8/\i=.int .i64 j/\wr.heap[w.heap.size]?=some (.cells (Au (Dn s0 S j)) 245 (0,0))/\wr.heap[w.heap.size+1+1]?=some (.cells (Au [0#32,0#32,0#32,0#32,0#32,0#32,0#32,0#32]) 245 (0,0))/\Bw w wr) (fun i _=>8-(intOf i).toNat)
   case atStart=>exact⟨0,by omega,rfl,hA2,hC2,hbel2⟩
   case round =>
    clear hA2 hC2 hbel2;obtain⟨j,hj,rfl,hA,hC,hbel⟩:=hrel;by_cases hlt:j<8
    .have cj:=(cell_of_row wr _ j _ _ _ hA).trans (Bp (Dn s0 S j) j (by rw[Er];omega));have fj:=frozen_of_row wr _ j _ _ hA;have hix:=Vx S j hlt;have HV:Hid (Dn s0 S (j+1)=(Dn s0 S j).set j ((Dn s0 S j).getD j 0#32+S.list.getD j 0#32)):=rfl;generalize (Dn s0 S j).getD j 0#32=x at cj HV;generalize S.list.getD j 0#32=y at hix HV;go_wp2
     go_roundw
     case rel =>
      rw[CA];exact⟨j+1,by omega,by go_num,by rw[HV.out];exact Nn hA j _,(heap_setCell_other _ _ _ _ (by simp;omega)).trans hC,hbel.setCell (Nat.le_refl _) _⟩
     case measure=>simp[intOf];omega
    .have HJ:Hid (j=8):=by unfold Hid;omega
     have hsz:(prog.info? 245).map (·.size)=some (Au (Dn s0 S j)).size:=by rw[AQ,Er];kernel_rfl
     have hone:(Au (Dn s0 S j)).all (·.oneCell')=true:=by simp[Au,Value.oneCell']
     go_wp2_with (first|(refine wpList_load_row rfl 245 _ rfl w.heap.size rfl 245 _ (0,0) _ hA underlying245 rfl hsz ?_)|(refine wpList_store_row rfl 245 _ _ rfl (w.heap.size+1+1) _ rfl rfl 245 _ hC hsz (by rw[AQ,AQ,Er];rfl) hone ?_))
     refine bodyPost_ret (v:=.agg (Au (Dn s0 S j))) (results_cell_row rfl _ _ (w.heap.size+1+1) 245 _ (0,0) _ rfl (setRow_heap wr _ _ _ 245 _ hC) underlying245 rfl hsz) rfl ⟨?_,Bo hbel (by omega) _⟩;rw[HJ.out,<- HM.out HK.out,<- HS0.out];rfl
end
section
open Go.ChangeShapes Go.WideShapes Go.ChangeAt Go.RowKit
theorem dM : prog.globalNamed "conclave/sha.roundWords" = some 3 := by kernel_rfl
theorem Vk:(prog.globals[3]?).map (·.type)=some 247:=by kernel_rfl
theorem XE:prog.cellsOf 247=64:=by kernel_rfl
theorem XD:prog.cellsOf 244=1:=by kernel_rfl
theorem SW(i:Nat)(hi:i<64):Qf.getD i 0=uw (kAt i):=by
 have all:∀ j:Fin 64,Qf.getD j.val 0=uw (kAt j.val):=by decide +kernel
 exact all ⟨i,hi⟩
theorem ZI : prog.globalNamed "conclave/order.needs" = some 2 := by kernel_rfl
theorem SL:(prog.globals[2]?).map (·.type)=some 194:=by kernel_rfl
theorem aJ:prog.cellsOf 194=12:=by kernel_rfl
theorem U8:prog.cellsOf 193=3:=by kernel_rfl
theorem aI:prog.cellsOf 3=1:=by kernel_rfl
theorem FD{H:Type}{enc:TypeId × Value->H}{W:World}{base:Nat}{sp:Nat->Bool}{held:Bool}{fuel:Nat}{cs:List Value}{a b c:Int}{p:List MemPlace}
  (h:DataW.trod enc prog W base sp held fuel 193 cs=some (.agg [.lit (.int .i64 a),.lit (.int .i64 b),.lit (.int .i64 c)],p)) :
  cs=[.int .i64 a,.int .i64 b,.int .i64 c]:=by
 obtain⟨y0,y1,y2,n,hx,hl,h0,h1,h2⟩:=Go.Deep.trod_struct3 underlying193 h;rw[U8]at hl
 simp only[aI]at h0 h1 h2
 match cs,hl with
 | [c0,c1,c2],_ =>
  obtain⟨a0,e0,x0,_⟩:=DataW.trod_int underlying3 h0;obtain⟨a1,e1,x1,_⟩:=DataW.trod_int underlying3 h1;obtain⟨a2,e2,x2,_⟩:=DataW.trod_int underlying3 h2;subst x0 x1 x2;simp at e0 e1 e2;subst e0 e1 e2;simp at hx;obtain⟨⟨rfl,rfl,rfl⟩,_⟩:=hx;rfl
theorem Vj : prog.globalNamed "conclave/cha.quarters" = some 4 := by kernel_rfl
theorem PT:(prog.globals[4]?).map (·.type)=some 278:=by kernel_rfl
theorem aK:prog.cellsOf 3=1:=by kernel_rfl
theorem Ro:prog.cellsOf 277=4:=by kernel_rfl
theorem U7:prog.cellsOf 278=32:=by kernel_rfl
def IJ:List (List Int):=[[0,4,8,12],[1,5,9,13],[2,6,10,14],[3,7,11,15],[0,5,10,15],[1,6,11,12],[2,7,8,13],[3,4,9,14]]
theorem bD{cs:List Value}(hl:cs.length=32)(rows:List (List Value))(hr:rows.length=8)(h:∀ i,i<8->(cs.drop (i*4)).take 4=rows.getD i []):cs=rows.flatten:=by
 have e0:=h 0 (by omega);have e1:=h 1 (by omega);have e2:=h 2 (by omega);have e3:=h 3 (by omega);have e4:=h 4 (by omega);have e5:=h 5 (by omega);have e6:=h 6 (by omega);have e7:=h 7 (by omega)
 match rows,hr with
 | [r0,r1,r2,r3,r4,r5,r6,r7],_ =>
  simp only[List.getD_cons_zero,List.getD_cons_succ]at e0 e1 e2 e3 e4 e5 e6 e7;subst e0 e1 e2 e3 e4 e5 e6 e7;apply List.ext_getElem?;intro i
  match cs,hl with
  | [a0,a1,a2,a3,a4,a5,a6,a7,a8,a9,a10,a11,a12,a13,a14,a15,a16,a17,a18,a19,a20,a21,a22,a23,a24,a25,a26,a27,a28,a29,a30,a31],_=>rfl
theorem Wo {W : World} {cs : Array Value} {fuel : Nat} {p : List MemPlace} (hvar : World.var? prog W "conclave/cha.quarters" = some cs)
  (hd:DataW.trod (fun _=>()) prog W 0 (fun _=>true) false fuel 278 cs.toList=some (Rows.laid_conclave_cha_quarters,p)):Cf W:=by
 obtain⟨xs,m,_,hx,hlen,hxl,hel⟩:=DataW.trod_array underlying278 hd;rw[U7]at hlen
 rw[Ro]at hel
 have hx1:xs.map (·.1)=IJ.map (fun zs=>Lib.tabData .i64 zs):=by
  have:=congrArg Prod.fst hx;simp only[Rows.laid_conclave_cha_quarters,DataW.agg.injEq]at this;rw[<- this];rfl
 have hrow:∀ i,i<8->(cs.toList.drop (i*4)).take 4=(IJ.map (fun zs=>zs.map fun z=>Value.int .i64 z)).getD i []:=by
  intro i hi;have h1:=hel i hi;have h2:xs[i]?=some (xs[i]'(by omega)):=List.getElem?_eq_getElem (by omega);rw[h2]at h1
  have h3:(xs[i]'(by omega)).1=Lib.tabData .i64 (IJ.getD i []):=by
   have e1:(xs.map (·.1))[i]?=some (xs[i]'(by omega)).1:=by rw[List.getElem?_map,h2];rfl
   rw[hx1,List.getElem?_map,List.getElem?_eq_getElem (show i<IJ.length from hi)]at e1
   simp only[Option.map_some,Option.some.injEq]at e1;rw[<- e1,List.getD,List.getElem?_eq_getElem (show i<IJ.length from hi)];rfl
  have h4:xs[i]'(by omega)=(Lib.tabData .i64 (IJ.getD i []),(xs[i]'(by omega)).2):=by rw[<- h3]
  rw[h4]at h1
  have h5:=Lib.cells_of_tab underlying277 underlying3 aK Ro h1;rw[h5,List.getD,List.getD,List.getElem?_map,List.getElem?_eq_getElem (show i<IJ.length from hi)];rfl
 have hcs:cs.toList=(IJ.map (fun zs=>zs.map fun z=>Value.int .i64 z)).flatten:=bD hlen _ rfl hrow;have hqa:cs=Tw:=by
  apply Array.ext';rw[hcs];rfl
 subst hqa;unfold World.var? at hvar;rw[Vj]at hvar
 simp only[Option.bind_some]at hvar;split at hvar
 .rename_i c t fr hh
  simp only[Option.some.injEq]at hvar;subst hvar;exact⟨t,fr,hh⟩
 .cases hvar
theorem Yy {W : World} {cs : Array Value} {fuel : Nat} {p : List MemPlace} (hvar : World.var? prog W "conclave/order.needs" = some cs)
  (hd:DataW.trod (fun _=>()) prog W 0 (fun _=>true) false fuel 194 cs.toList=some (Rows.laid_conclave_order_needs,p)):NTab W:=by
 obtain⟨xs,m,_,hx,hl,hxl,hb⟩:=DataW.trod_array underlying194 hd;rw[aJ]at hl
 rw[U8]at hb
 have hT:cs.toList=LT.map (Value.int .i64):=by
  match xs,hxl with
  | [x0,x1,x2,x3],_ =>
   simp only[Rows.laid_conclave_order_needs,List.map_cons,List.map_nil,Prod.mk.injEq,DataW.agg.injEq,List.cons.injEq,and_true]at hx;obtain⟨⟨h0,h1,h2,h3⟩,_⟩:=hx;have r0:=FD (p:=x0.2) ((hb 0 (by omega)).trans (by rw[h0];rfl));have r1:=FD (p:=x1.2) ((hb 1 (by omega)).trans (by rw[h1];rfl));have r2:=FD (p:=x2.2) ((hb 2 (by omega)).trans (by rw[h2];rfl));have r3:=FD (p:=x3.2) ((hb 3 (by omega)).trans (by rw[h3];rfl));generalize cs.toList=l at hl r0 r1 r2 r3
   match l,hl with
   | [_,_,_,_,_,_,_,_,_,_,_,_],_ =>
    simp at r0 r1 r2 r3;simp[LT,r0,r1,r2,r3]
 have hT':cs=(LT.map (Value.int .i64)).toArray:=Array.ext' (by simpa using hT);subst hT';obtain⟨t,fr,hr⟩:=J1 ZI hvar;refine⟨(Array.getElem?_eq_some_iff.1 hr).1,fun i hi=>?_⟩;refine cell_of_row _ _ i _ _ _ hr |>.trans ?_;simp[List.getD,List.getElem?_map,List.getElem?_eq_getElem (show i<LT.length from hi)]
theorem dQ:(Rows.laid_conclave_sha_roundWords:DataW Unit)=Lib.tabData .u32 Qf:=by kernel_rfl
theorem W6 {W : World} {cs : Array Value} {fuel : Nat} {p : List MemPlace} (hvar : World.var? prog W "conclave/sha.roundWords" = some cs)
  (hd:DataW.trod (fun _=>()) prog W 0 (fun _=>true) false fuel 247 cs.toList=some (Rows.laid_conclave_sha_roundWords,p)):AA W:=by
 obtain⟨t,fr,hr⟩:=J1 dM hvar;rw[dQ]at hd
 have hc:=Lib.cells_of_tab underlying247 underlying244 XD XE hd;refine⟨(Array.getElem?_eq_some_iff.1 hr).1,fun i hi=>?_⟩;rw[cell_of_row _ _ i _ _ _ hr,<- SW i hi];have h2:cs[i]?=cs.toList[i]?:=by simp
 rw[h2,hc,List.getElem?_map,List.getElem?_eq_getElem (show i<Qf.length from hi),List.getD,List.getElem?_eq_getElem (show i<Qf.length from hi)];rfl
def V9(cs:Array Value):Obj->Obj
 | .cells _ t frozen=>.cells cs t frozen
 | o=>o
end
section
open Go.RowKit
def Sx:List (Nat × (World->Prop))->Array Bool->World->Prop
 | [],_,_=>True
 | c::r,L,w=>(L.getD c.1 false=false->c.2 w)/\Sx r L w
theorem Sx.set{l:List (Nat × (World->Prop))}{i:Nat}(h:l.all (fun c=>c.1 != i)=true){L:Array Bool}{w:World}(hs:Sx l (L.setIfInBounds i true) w):Sx l L w:=by
 induction l with
 | nil=>trivial
 | cons c r ih =>
  simp only[List.all_cons,Bool.and_eq_true,bne_iff_ne,ne_eq]at h;refine⟨fun hc=>hs.1 ?_,ih h.2 hs.2⟩;rw[Array.getD_eq_getD_getElem?]at hc ⊢
  rw[Array.getElem?_setIfInBounds_ne (fun e=>h.1 e.symm)];exact hc
def Sd(D:List Nat)(n:Nat):List (Nat × (World->Prop))->World->Prop
 | [],_=>True
 | c::r,w=>((D.contains c.1||decide (n<=c.1))=true->c.2 w)/\Sd D n r w
theorem Sx.sd{l:List (Nat × (World->Prop))}{D:List Nat}{n:Nat}{L:Array Bool}{w:World}(hn:L.size=n)(hD:∀ j∈D,L.getD j true=false)(hs:Sx l L w):Sd D n l w:=by
 induction l with
 | nil=>trivial
 | cons c r ih =>
  refine⟨fun h=>hs.1 ?_,ih hs.2⟩;simp only[Bool.or_eq_true,List.contains_iff_mem,decide_eq_true_eq]at h;rcases h with h|h
  .have h1:=hD _ h;rw[Array.getD_eq_getD_getElem?]at h1 ⊢
   cases hx:L[c.1]? with
   | none=>rfl
   | some b=>rw[hx]at h1;simpa using h1
  .rw[Array.getD_eq_getD_getElem?,Array.getElem?_eq_none (by omega)];rfl
section
variable{P:Program}{ops:Array Oper}{Q:Exit->Act->World->Prop}{md:Region.Mode}{S:List (Nat × (World->Prop))}
def Be(P:Program)(md:Region.Mode)(ops:Array Oper)(Q:Exit->Act->World->Prop)(S:List (Nat × (World->Prop))):Nat->Array Bool->Act->World->Prop
 | 0,listed,a,w=>Region.ready md ops listed=[]/\Q .normal a w
 | fuel+1,listed,a,w =>
  (Region.ready md ops listed=[]->Q .normal a w) /\
  ∀ i∈Region.ready md ops listed,wpOp P ops Q i (fun a' w'=>Sx S (listed.setIfInBounds i true) w'/\Be P md ops Q S fuel (listed.setIfInBounds i true) a' w') a w
theorem Mn:∀ (fuel:Nat) (listed:Array Bool) (a:Act) (w:World),Be P md ops Q S fuel listed a w->wpAny P md ops Q fuel listed a w
 | 0,_,_,_,h=>h
 | fuel+1,_,_,_,h=>⟨h.1,fun i hi=>wpOp_mono (fun a' w' h'=>Mn fuel _ a' w' h'.2) (h.2 i hi)⟩
def KN(md:Region.Mode)(ops:Array Oper)(i:Nat)(D:List Nat):Bool :=
 D.all fun j=>j==i||(match ops[j]? with
  | none=>false
  | some o=>o.after.any fun e=>Region.binds md e&&D.contains e.on)
theorem Nl{i:Nat}{oi:Oper}{v:Value}(D:List Nat)(hi:ops[i]?=some oi)(hsel:∀ (j:Nat) (o:Oper) cs b,ops[j]?=some o->o.op≠.select cs b)
  (hQ:∀ c a w,Q (.panic c) (a.put oi.dst v) w->Q (.panic c) a w)(hiD:i∈D)(hD:KN md ops i D=true)(hg:S.all (fun c=>c.1 != i)=true) :
  ∀ (fuel:Nat) (listed:Array Bool) (a:Act) (w:World),listed.size=ops.size ->
   (∀ j oj,ops[j]?=some oj->j≠i->listed.getD j true=false->(∀ e∈oj.after,Region.binds md e=true->e.on≠i)->oi.apart ops oj=true) ->
   i∈Region.ready md ops listed->(∀ j∈D,listed.getD j true=false)->YieldsIf P ops (Sd D ops.size S) oi v a->Sx S listed w ->
   Be P md ops Q S fuel (listed.setIfInBounds i true) (a.put oi.dst v) w->Be P md ops Q S (fuel+1) listed a w:=by
 intro fuel;induction fuel with
 | zero =>
  intro listed a w hsz _ hr hun hy hS H;have hS':Sx S (listed.setIfInBounds i true) w:=by
   clear H hy hun hr;induction S with
   | nil=>trivial
   | cons c r ih =>
    simp only[List.all_cons,Bool.and_eq_true,bne_iff_ne,ne_eq]at hg;refine⟨fun hc=>hS.1 ?_,ih hg.2 hS.2⟩;rw[Array.getD_eq_getD_getElem?]at hc ⊢
    rw[Array.getElem?_setIfInBounds_ne (fun e=>hg.1 e.symm)]at hc
    exact hc
  refine⟨fun h=>(by rw[h]at hr;cases hr),fun j hj=>?_⟩;by_cases hji:j=i
  .subst hji;exact hy.wpOp hi (hS.sd hsz hun) ⟨hS',H⟩
  .have:=ready_mono hj hji;rw[H.1]at this
   cases this
 | succ fuel ih =>
  intro listed a w hsz hfree hr hun hy hS H;have hS':Sx S (listed.setIfInBounds i true) w:=by
   clear H hy hun hr ih;induction S with
   | nil=>trivial
   | cons c r ih =>
    simp only[List.all_cons,Bool.and_eq_true,bne_iff_ne,ne_eq]at hg;refine⟨fun hc=>hS.1 ?_,ih hg.2 hS.2⟩;rw[Array.getD_eq_getD_getElem?]at hc ⊢
    rw[Array.getElem?_setIfInBounds_ne (fun e=>hg.1 e.symm)]at hc
    exact hc
  refine⟨fun h=>(by rw[h]at hr;cases hr),fun j hj=>?_⟩;by_cases hji:j=i
  .subst hji;exact hy.wpOp hi (hS.sd hsz hun) ⟨hS',H⟩
  .have h1:=H.2 j (ready_mono hj hji);obtain⟨hjun,oj,hoj,hall⟩:=mem_ready.1 hj;have hup:∀ k∈D,∀ e∈oj.after,Region.binds md e=true->e.on≠k:=fun k hk e he hb heq=>by
    have h1:=hall e he hb;have h0:=hun k hk;rw[heq]at h1
    rcases Nat.lt_or_ge k listed.size with h'|h'
    .simp[h']at h0 h1;rw[h0]at h1;cases h1
    .simp[Array.getElem?_eq_none h']at h1
   have hnot:∀ e∈oj.after,Region.binds md e=true->e.on≠i:=hup i hiD;have hjD:j∉D:=fun hm=>by
    have h3:=List.all_eq_true.1 hD j hm;simp only[Bool.or_eq_true,beq_iff_eq,hoj,Array.any_eq_true,Bool.and_eq_true,List.contains_iff_mem]at h3;rcases h3 with h3|⟨x,hx,h4,h5⟩
    .exact hji h3
    .exact hup _ h5 oj.after[x] (Array.getElem_mem hx) h4 rfl
   have h2:=wpOp_putIf hoj (hfree j oj hoj hji hjun hnot) (fun cs b=>hsel i oi cs b hi) (fun cs b=>hsel j oj cs b hoj) hQ hy h1;have hfree':∀ k ok,ops[k]?=some ok->k≠i->(listed.setIfInBounds j true).getD k true=false ->
     (∀ e∈ok.after,Region.binds md e=true->e.on≠i)->oi.apart ops ok=true:=fun k ok hk hki hu hno=>by
    refine hfree k ok hk hki ?_ hno;by_cases hjk:j=k
    .subst hjk;exact hjun
    .rw[getD_set_ne true hjk]at hu;exact hu
   have hun':∀ k∈D,(listed.setIfInBounds j true).getD k true=false:=fun k hk=>by
    rw[getD_set_ne true (show j≠k from fun e=>hjD (by rw[e];exact hk))];exact hun k hk
   refine wpOp_mono (fun a' w' h3=>?_) h2;have hc:=Array.setIfInBounds_comm (xs:=listed) true true hji;have hsj:Sx S (listed.setIfInBounds j true) w':=Sx.set hg (by rw[hc];exact h3.2.1);refine⟨hsj,ih (listed.setIfInBounds j true) a' w' (by rw[Array.size_setIfInBounds];exact hsz) hfree' (ready_mono hr (Ne.symm hji)) hun' h3.1 hsj ?_⟩;rw[hc];exact h3.2.2
theorem ZW{i:Nat}(d:Nat)(D:List Nat){oi:Oper}{v:Value}{fuel:Nat}{listed:Array Bool}{a:Act}{w:World}(hi:ops[i]?=some oi)(hd:oi.dst=some d)
  (hs:Region.noSelect ops=true)(hf:Region.free md ops listed i=true)(hr:(Region.ready md ops listed).contains i=true)
  (hQ:∀ c a w,Q (.panic c) (a.put (some d) v) w->Q (.panic c) a w)
  (hb:(D.contains i&&KN md ops i D&&S.all (fun c=>c.1 != i)&&decide (listed.size=ops.size)&&D.all fun j=>listed.getD j true==false)=true)
  (hy:YieldsIf P ops (Sd D ops.size S) oi v a)(hS:Sx S listed w)
  (h:Be P md ops Q S fuel (listed.setIfInBounds i true) (a.put (some d) v) w):Be P md ops Q S (fuel+1) listed a w:=by
 simp only[Bool.and_eq_true,List.contains_iff_mem,decide_eq_true_eq,List.all_eq_true,beq_iff_eq]at hb;obtain⟨⟨⟨⟨h1,h2⟩,h3⟩,h4⟩,h5⟩:=hb;exact Nl D hi (Region.noSelect_spec hs) (by rw[hd];exact hQ) h1 h2 (List.all_eq_true.2 h3) fuel listed a w h4 (Region.free_spec hi hf) (by simpa using hr) h5 hy hS (by rw[hd];exact h)
theorem fO{i fuel:Nat}{L:Array Bool}{a:Act}{w:World}(hr:Region.ready md ops L=[i])
  (h:wpOp P ops Q i (fun a' w'=>Sx S (L.setIfInBounds i true) w'/\Be P md ops Q S fuel (L.setIfInBounds i true) a' w') a w):Be P md ops Q S (fuel+1) L a w :=
 ⟨fun h0=>absurd (hr▸h0) (by simp),hr▸(fun j hj=>by
  obtain rfl:j=i:=by simpa using hj
  exact h)⟩
theorem fP{i i' fuel:Nat}{L:Array Bool}{a:Act}{w:World}(hr:Region.ready md ops L=[i,i'])
  (h:wpOp P ops Q i (fun a' w'=>Sx S (L.setIfInBounds i true) w'/\Be P md ops Q S fuel (L.setIfInBounds i true) a' w') a w)
  (h':wpOp P ops Q i' (fun a' w'=>Sx S (L.setIfInBounds i' true) w'/\Be P md ops Q S fuel (L.setIfInBounds i' true) a' w') a w):Be P md ops Q S (fuel+1) L a w :=
 ⟨fun h0=>absurd (hr▸h0) (by simp),hr▸(fun j hj=>by
  rcases(show j=i\/j=i' by simpa using hj)with rfl|rfl
  .exact h
  .exact h')⟩
theorem ZA(S:List (Nat × (World->Prop))){id:Nat}{a:Act}{w:World}(hm:P.follows .mixedOrders=true)
  (h:Be P .any ops Q S ops.size (Array.replicate ops.size false) a w.drew):(Code.region id ops true).wp P Q a w :=
 wp_region_any hm (Mn _ _ _ _ h)
end
section
variable{P:Program}{ops:Array Oper}{Q:Exit->Act->World->Prop}{md:Region.Mode}{S:List (Nat × (World->Prop))}
def pts:Act->List (Nat × Value)->Act
 | a,[]=>a
 | a,p::r=>pts (a.put (some p.1) p.2) r
def got(P:Program)(ops:Array Oper)(a:Act)(w:World)(i:Nat):Option (Option Tmp × Value × World) :=
 match ops[i]? with
 | none=>none
 | some o=>if Region.wanted o (yielded ops a.tmps)then(match(execOp a.eval o).run P w with
   | .ok (.value v) w'=>some (o.dst,v,w')
   | _=>none)else some (o.dst,undef,w)
def PW(P:Program)(ops:Array Oper)(w:World):List Nat->List (Nat × Value)->Act->List (Option (Option Tmp × Value × World))
 | i::is,p::ps,a=>got P ops a w i::PW P ops w is ps (a.put (some p.1) p.2)
 | _,_,_=>[]
def wants(w:World)(ps:List (Nat × Value)):List (Option (Option Tmp × Value × World)):=ps.map fun p=>some (some p.1,p.2,w)
theorem PV{a:Act}{i d:Nat}{v:Value}{S0:World->Prop}(h:∀ w,got P ops a w i=some (some d,v,w)):∃ o,ops[i]?=some o/\o.dst=some d/\YieldsIf P ops S0 o v a:=by
 cases ho:ops[i]? with
 | none=>have:=h default;unfold got at this;rw[ho]at this;cases this
 | some o =>
  by_cases hw:Region.wanted o (yielded ops a.tmps)=true
  .have key:∀ w,o.dst=some d/\(execOp a.eval o).run P w=.ok (.value v) w:=fun w=>by
    have h1:=h w;unfold got at h1;rw[ho]at h1
    simp only[hw,if_true]at h1;split at h1
    .rename_i v' w' hr
     simp only[Option.some.injEq,Prod.mk.injEq]at h1;obtain⟨h2,rfl,rfl⟩:=h1;exact⟨h2,hr⟩
    .cases h1
   exact⟨o,rfl,(key default).1,.inl ⟨hw,fun w _=>(key w).2⟩⟩
  .have h1:=h default;unfold got at h1;rw[ho]at h1
   simp only[hw,if_false,Option.some.injEq,Prod.mk.injEq,Bool.false_eq_true]at h1;exact⟨o,rfl,h1.1,.inr ⟨by simpa using hw,h1.2.1.symm⟩⟩
def KG(md:Region.Mode)(ops:Array Oper)(gs:List Nat):List Nat->Array Bool->Bool
 | [],_=>true
 | i::is,L=>Region.free md ops L i&&(Region.ready md ops L).contains i&&gs.all (· != i)&&decide (L.size=ops.size)&&(L.getD i true==false)&&KG md ops gs is (L.setIfInBounds i true)
def fI(L:Array Bool)(is:List Nat):Array Bool:=is.foldl (fun L i=>L.setIfInBounds i true) L
theorem aq{i:Nat}{S:List (Nat × (World->Prop))}(h:(S.map (·.1)).all (· != i)=true):S.all (fun c=>c.1 != i)=true:=by
 rw[List.all_map]at h
 exact h
theorem xB0{m:Nat}{L:Array Bool}{a:Act}{w:World}(n:Nat)(is:List Nat)(ps:List (Nat × Value))(h:∀ w,PW P ops w is ps a=wants w ps)(hs:Region.noSelect ops=true)(hb:KG md ops (S.map (·.1)) is L=true)
  (hm:m=n+ps.length)(hl:is.length=ps.length)(hQ:∀ c a d v w,Q (.panic c) (a.put (some d) v) w->Q (.panic c) a w)(hS:Sx S L w)(hk:Be P md ops Q S n (fI L is) (pts a ps) w):Be P md ops Q S m L a w:=by
 subst hm;induction is generalizing L a ps with
 | nil =>
  obtain rfl:ps=[]:=List.eq_nil_of_length_eq_zero hl.symm;exact hk
 | cons i is ih =>
  cases ps with
  | nil=>cases hl
  | cons p r =>
   have h1:∀ w,got P ops a w i=some (some p.1,p.2,w):=fun w=>by
    have:=h w;simp only[PW,wants,List.map_cons,List.cons.injEq]at this;exact this.1
   have h2:∀ w,PW P ops w is r (a.put (some p.1) p.2)=wants w r:=fun w=>by
    have:=h w;simp only[PW,wants,List.map_cons,List.cons.injEq]at this;exact this.2
   obtain⟨o,ho,hd,hy⟩:=PV (S0:=Sd [i] ops.size S) h1;simp only[KG,Bool.and_eq_true]at hb;obtain⟨⟨⟨⟨⟨b1,b2⟩,b3⟩,b4⟩,b5⟩,b6⟩:=hb;have hS':Sx S (L.setIfInBounds i true) w:=by
    have hg:=aq b3;clear hk ih h h1 h2 hy b1 b2 b3 b4 b5 b6;induction S with
    | nil=>trivial
    | cons c r ih =>
     simp only[List.all_cons,Bool.and_eq_true,bne_iff_ne,ne_eq]at hg;refine⟨fun hc=>hS.1 ?_,ih hS.2 hg.2⟩;rw[Array.getD_eq_getD_getElem?]at hc ⊢
     rw[Array.getElem?_setIfInBounds_ne (fun e=>hg.1 e.symm)]at hc
     exact hc
   refine ZW p.1 [i] ho hd hs b1 b2 (fun c a w hq=>hQ c _ _ _ w hq) ?_ hy hS (ih r h2 b6 (by simpa using hl) hS' hk);rw[aq b3,b4];simp[KN];simpa using b5
abbrev iv(n:Int):Value:=.int .i64 n
abbrev pt(b o:Nat):Value:=.pointer (some ⟨b,o,none⟩)
abbrev sn:Value:=.slice none 0 0
theorem xS0{m:Nat}{L:Array Bool}{a:Act}{w:World}(n i:Nat)(hr:Region.ready md ops L=[i])(hm:m=n+1)(h:wpOp P ops Q i (fun a' w'=>Sx S (L.setIfInBounds i true) w'/\Be P md ops Q S n (L.setIfInBounds i true) a' w') a w):Be P md ops Q S m L a w:=by subst hm;exact fO hr h
theorem OI{w:World}{b:Nat}{arr:Array Value}{t:TypeId}{fr:Nat × Nat}(h:w.heap[b]?=some (.cells arr t fr))(k:Nat)(cs:List Value)(hc:(arr.toList.drop k).take cs.length=cs):w.rangeAt b k cs:=fun j u hj=>by
 rw[cell_of_row _ _ (k+j) _ _ _ h];have hjl:j<cs.length:=(List.getElem?_eq_some_iff.1 hj).1;rw[<- hc,List.getElem?_take,if_pos hjl,List.getElem?_drop]at hj
 simpa using hj
theorem Xg{w:World}{b:Nat}{arr:Array Value}{t:TypeId}(h:w.heap[b]?=some (.cells arr t (0,0)))(k n:Nat)(hn:k+n<=arr.size):w.there b k n:=fun j hj =>
 ⟨by rw[cell_of_row _ _ (k+j) _ _ _ h,Array.getElem?_eq_getElem (by omega)];rfl,frozen_of_row _ _ (k+j) _ _ h⟩
def YH(arr:Array Value):Nat->List Value->Array Value
 | _,[]=>arr
 | k,v::r=>YH (arr.setIfInBounds k v) (k+1) r
theorem cE{w:World}{b:Nat}{t:TypeId}(vs:List Value):∀ {arr:Array Value} (k:Nat) (h:w.heap[b]?=some (.cells arr t (0,0))),(w.setCells b k vs).heap[b]?=some (.cells (YH arr k vs) t (0,0)):=by
 induction vs generalizing w with
 | nil=>intro arr k h;exact h
 | cons v r ih=>intro arr k h;exact ih (k+1) (heap_setCell_same w b k arr t v h)
theorem cD{w:World}{b:Nat}{t:TypeId}{arr:Array Value}(k:Nat)(v:Value)(h:w.heap[b]?=some (.cells arr t (0,0))):(w.setCell ⟨b,k,none⟩ v).heap[b]?=some (.cells (arr.setIfInBounds k v) t (0,0)):=heap_setCell_same w b k arr t v h
theorem OG{w:World}{t e:TypeId}{b k n c z i:Nat}(hu:P.underlying t=some (.slice e))(he:P.elem t=e)(hi:(P.info? e).map (·.size)=some z)(h:i<n)(j:Nat)(hj:k+z*i=j):(Instr.indexAt t (.slice (some ⟨b,k,none⟩) n c) (iv (i:Int))).run P w=.ok (pt b j) w:=by
 have hs:(Go.sizeOf e).run P w=.ok z w:=by
  cases hx:P.info? e with
  | none=>rw[hx]at hi;cases hi
  | some x=>rw[hx]at hi;simp at hi;simp[Go.sizeOf,typeInfo,hx,hi]
 rw[run_indexAt_slice (P:=P) w t _ n c .i64 _ (by rw[he];exact hu),if_pos ⟨by omega,by omega⟩,he,hs];simp[Result.andThen,Addr.add_mid,Nat.mul_comm,<- hj]
theorem ZO{w:World}{src dst:TypeId}{k k':IntKind}{n:Int}(hs:(P.underlying src).isSome=true)(hd:P.underlying dst=some (.int k'))(hk:P.intKind dst=k')(h:k'.wrap n=n):(convert src dst (.int k n)).run P w=.ok (.int k' n) w:=by
 rw[run_convert_int (P:=P) w src dst k n hs (by rw[hk];exact hd),hk,h]
theorem xC0{m:Nat}{L:Array Bool}{a:Act}{w:World}{s:Nat}{C:World->Prop}{S':List (Nat × (World->Prop))}(n i d:Nat)(D:List Nat)(v:Value)(h:∀ W,C W->got P ops a W i=some (some d,v,W))(hw:C w)(hs:Region.noSelect ops=true)
  (hb:(Region.free md ops L i&&(Region.ready md ops L).contains i&&(((s,C)::S':List (Nat × (World->Prop))).map (·.1)).all (· != i)&&decide (L.size=ops.size)&&(D.contains i&&(D.contains s||decide (ops.size<=s))&&KN md ops i D&&D.all fun j=>L.getD j true==false))=true)
  (hm:m=n+1)(hQ:∀ c a d v w,Q (.panic c) (a.put (some d) v) w->Q (.panic c) a w)(hS:Sx ((s,C)::S') L w)(hk:Be P md ops Q ((s,C)::S') n (L.setIfInBounds i true) (a.put (some d) v) w) :
  Be P md ops Q ((s,C)::S') m L a w:=by
 subst hm;simp only[Bool.and_eq_true]at hb;obtain⟨⟨⟨⟨b1,b2⟩,b3⟩,b4⟩,⟨⟨⟨c1,c2⟩,c3⟩,c4⟩⟩:=hb;cases ho:ops[i]? with
 | none=>have h:=h w hw;unfold got at h;rw[ho]at h;cases h
 | some o =>
  have key:∀ W,C W->o.dst=some d/\((Region.wanted o (yielded ops a.tmps)=true/\(execOp a.eval o).run P W=.ok (.value v) W)\/(Region.wanted o (yielded ops a.tmps)=false/\v=undef)):=fun W hW=>by
   have h:=h W hW;unfold got at h;rw[ho]at h
   simp only at h;split at h
   .rename_i hw
    split at h
    .rename_i v' w' hr
     simp only[Option.some.injEq,Prod.mk.injEq]at h;obtain⟨h1,rfl,rfl⟩:=h;exact⟨h1,.inl ⟨hw,hr⟩⟩
    .cases h
   .rename_i hw
    simp only[Option.some.injEq,Prod.mk.injEq]at h;exact⟨h.1,.inr ⟨by simpa using hw,h.2.1.symm⟩⟩
  refine ZW d D ho (key w hw).1 hs b1 b2 (fun c a w hq=>hQ c _ _ _ w hq) ?_ ?_ hS hk
  .rw[aq b3,b4,c1,c3,c4];rfl
  .by_cases hw2:Region.wanted o (yielded ops a.tmps)=true
   .refine .inl ⟨hw2,fun w2 h2=>?_⟩;rcases(key w2 (h2.1 c2)).2 with h3|h3
    .exact h3.2
    .rw[hw2]at h3;cases h3.1
   .rcases(key w hw).2 with h3|h3
    .exact absurd h3.1 hw2
    .exact .inr h3
theorem Ei{w:World}{t:TypeId}{x y:Operand}{m n:Int}{b:Bool}(h:(m==n)=b):(do Go.eqGuard .eql t x y (iv m) (iv n);Go.binOp .eql t (iv m) (iv n):Sem Value).run P w=.ok (.bool b) w:=by
 subst h;rfl
theorem rl{w:World}{g:Nat}{o:Obj}(h:w.heap[g]?=some o):g<w.heap.size:=(Array.getElem?_eq_some_iff.1 h).1
theorem rB{w w':World}{g:Nat}{o:Obj}(b:Bw w w')(h:w.heap[g]?=some o):w'.heap[g]?=some o:=(b.block _ (rl h)).trans h
theorem eb{i:Nat}{o:Oper}{a:Act}{w:World}{K:Act->World->Prop}{ty:TypeId}{x y:Operand}{g k:Nat}{t:TypeId}{old new:Array Value}(cells:Array Value)(hg:w.heap[g]?=some (.cells old t (0,0)))(ho:ops[i]?=some o)(hw:Region.wanted o (yielded ops a.tmps)=true)(hd:o.dst=none)(hop:o.op=.store ty x y)
  (hx:a.eval x=pt g k)(hy:a.eval y=.agg cells)(hi:(P.info? ty).map (·.size)=some cells.size)(hold:k+cells.size<=old.size)(h1:cells.all (·.oneCell')=true)(hn:YH old k cells.toList=new)
  (h:∀ w',w'.heap[g]?=some (.cells new t)->Only g w w'->K a w'):wpOp P ops Q i K a w :=
 Qz ho hw hd ty x y hop g k cells hx hy (Xg hg k _ hold) hi h1 (h _ (by rw[<- hn];exact cE _ _ hg) (Only.store _ _ _ _))
theorem ec{i:Nat}{o:Oper}{a:Act}{w:World}{K:Act->World->Prop}{ty:TypeId}{x y:Operand}{g k:Nat}{t:TypeId}{old new:Array Value}(v:Value)(hg:w.heap[g]?=some (.cells old t (0,0)))(ho:ops[i]?=some o)(hw:Region.wanted o (yielded ops a.tmps)=true)(hd:o.dst=none)(hop:o.op=.store ty x y)
  (hx:a.eval x=pt g k)(hy:a.eval y=v)(hi:(P.info? ty).map (·.size)=some 1)(hold:k<old.size)(h1:v.oneCell'=true)(hn:old.setIfInBounds k v=new)
  (h:∀ w',w'.heap[g]?=some (.cells new t)->Only g w w'->K a w'):wpOp P ops Q i K a w :=
 Q2 ho hw hd ty x y hop g k v old[k] hx hy (by rw[cell_of_row _ _ k _ _ _ hg,Array.getElem?_eq_getElem hold]) (frozen_of_row _ _ k _ _ hg) hi h1 (h _ (by rw[<- hn];exact cD k v hg) (Only.one _ _ _ _))
theorem ea{i:Nat}{a:Act}{w:World}{K:Act->World->Prop}(d:Nat)(v:Value)(h:got P ops a w i=some (some d,v,w))(hk:K (a.put (some d) v) w):wpOp P ops Q i K a w:=by
 unfold got at h;unfold wpOp;cases ho:ops[i]? with
 | none=>rw[ho]at h;cases h
 | some o =>
  rw[ho]at h
  simp only;simp only at h;split
  .rename_i hw
   simp only[hw,if_true]at h;split at h
   .rename_i v' w' hr
    simp only[Option.some.injEq,Prod.mk.injEq]at h;obtain⟨h2,rfl,rfl⟩:=h;refine .inl ?_;unfold Oper.wp;rw[hr,Oper.upon_value,h2];exact hk
   .cases h
  .rename_i hw
   simp only[hw,if_false,Option.some.injEq,Prod.mk.injEq,Bool.false_eq_true]at h;obtain⟨h2,rfl,_⟩:=h;rw[h2];exact hk
theorem Gs{w:World}{t:TypeId}{x y:Operand}{m n:Int}{b:Bool}(h:(m != n)=b):(do Go.eqGuard .neq t x y (iv m) (iv n);Go.binOp .neq t (iv m) (iv n):Sem Value).run P w=.ok (.bool b) w:=by
 subst h;rfl
theorem rLt{w:World}{t:TypeId}{x y:Operand}{m n:Int}{b:Bool}(h:decide (m<n)=b):(do Go.eqGuard .lss t x y (iv m) (iv n);Go.binOp .lss t (iv m) (iv n):Sem Value).run P w=.ok (.bool b) w:=by
 subst h;rfl
theorem rGe{w:World}{t:TypeId}{x y:Operand}{m n:Int}{b:Bool}(h:decide (n<=m)=b):(do Go.eqGuard .geq t x y (iv m) (iv n);Go.binOp .geq t (iv m) (iv n):Sem Value).run P w=.ok (.bool b) w:=by
 subst h;rfl
end
structure Fm where
 n:Nat
 e:List (Nat × Value)
 z:Nat->Value
def lk(z:Nat->Value):List (Nat × Value)->Nat->Value
 | [],t=>z t
 | p::r,t=>cond (Nat.beq p.1 t) p.2 (lk z r t)
def Fm.act(f:Fm):Act:={ tmps:=((List.range f.n).map (lk f.z f.e)).toArray,defers:=[] }
def Fm.ev(f:Fm):Operand->Value
 | .tmp t=>cond (Nat.blt t f.n) (lk f.z f.e t) undef
 | .const v=>v
 | .global g=>.pointer (some ⟨g,0,none⟩)
 | .func k=>.func (.func k) #[] #[]
def Fm.put(f:Fm)(d:Option Tmp)(v:Value):Fm:=match d with|some d=>⟨f.n,(d,v)::f.e,f.z⟩|none=>f
theorem Fm.eval(f:Fm):f.act.eval=f.ev:=by
 funext x
 cases x with
 | tmp t =>
  show((List.range f.n).map (lk f.z f.e)).toArray.getD t undef=_;rw[Array.getD_eq_getD_getElem?];simp only[List.getElem?_toArray,List.getElem?_map];show _=cond (Nat.blt t f.n) (lk f.z f.e t) undef;by_cases h:t<f.n
  .have hb:Nat.blt t f.n=true:=(by rw[Nat.blt,Nat.ble_eq];exact h);rw[List.getElem?_range h,hb];rfl
  .have hb:Nat.blt t f.n=false:=Bool.eq_false_iff.2 fun g=>h (by rw[Nat.blt,Nat.ble_eq]at g;exact g);rw[List.getElem?_eq_none (by simpa using h),hb];rfl
 | const v=>rfl
 | global g=>rfl
 | func k=>rfl
theorem Fm.act_put(f:Fm)(d:Option Tmp)(v:Value):(f.put d v).act=f.act.put d v:=by
 cases d with
 | none=>rfl
 | some d =>
  unfold Fm.put Fm.act Act.put;simp only[Act.mk.injEq,and_true];apply Array.ext_getElem?;intro i;rw[Array.getElem?_setIfInBounds];simp only[List.getElem?_toArray,List.getElem?_map,List.size_toArray,List.length_map,List.length_range];by_cases hi:i<f.n
  .rw[List.getElem?_range hi];by_cases hd:d=i
   .subst hd;simp[lk,hi]
   .rw[if_neg hd];simp only[Option.map_some,lk,show Nat.beq d i=false from Bool.eq_false_iff.2 fun g=>hd (Nat.eq_of_beq_eq_true g),cond_false]
  .rw[List.getElem?_eq_none (by simpa using hi)];by_cases hd:d=i
   .subst hd;simp[hi]
   .rw[if_neg hd];rfl
def eZ(f:Fm)(want:Bool):Option Tmp->Bool
 | none=>false
 | some d=>match f.ev (.tmp d)with
  | .bool b=>b==want
  | _=>false
theorem ZD(f:Fm)(want:Bool)(x:Option Tmp):((match x.bind (f.act.tmps[·]?)with|some (.bool b)=>some b|_=>none)==some want)=eZ f want x:=by
 cases x with
 | none=>rfl
 | some d =>
  have hd:f.act.eval (.tmp d)=f.ev (.tmp d):=by rw[f.eval]
  have h2:f.act.eval (.tmp d)=(f.act.tmps[d]?).getD undef:=Array.getD_eq_getD_getElem? ..;rw[h2]at hd
  show((match f.act.tmps[d]? with|some (.bool b)=>some b|_=>none)==some want)=(match f.ev (.tmp d)with|.bool b=>b==want|_=>false);rw[<- hd];cases f.act.tmps[d]? with
  | none=>rfl
  | some v=>cases v<;>rfl
def Fm.wants(f:Fm)(ops:Array Oper)(o:Oper):Bool :=
 match o.guard with
 | none=>true
 | some (j,want)=>eZ f want ((ops[j]?).bind (·.dst))
theorem Fm.wanted(f:Fm)(ops:Array Oper)(o:Oper):Region.wanted o (yielded ops f.act.tmps)=f.wants ops o:=by
 unfold Region.wanted Fm.wants;cases o.guard with
 | none=>rfl
 | some p=>exact ZD f p.2 ((ops[p.1]?).bind (·.dst))
inductive Tg where
 | z
 | l
 | n (r i:Nat)
def Tg.isZ:Tg->Bool|.z=>true|_=>false
structure Sh where
 g:Nat
 o:Obj
 t:Tg
 w:Bool
instance:Inhabited Sh:=⟨⟨0,default,.z,false⟩⟩
structure Gh where
 t:Nat->Tg
 k:Nat->Nat
structure Cg(B:Nat)(T:List Tg)(g:Gh)(w:World)(g':Gh)(w':World):Prop where
 os:w'.os=w.os
 tape:w'.tape=w.tape
 output:w'.output=w.output
 size:w.heap.size<=w'.heap.size
 tag_:∀ b,b<w.heap.size->g'.t b=g.t b\/(g.t b=.l/\B<=b/\g'.t b=.z)
 kap:∀ b,b<w.heap.size->g.k b<=g'.k b
 kat:∀ b,b<w.heap.size->g.t b∉T->(g.t b=.l->b<B)->g'.k b=g.k b
 same:∀ b,b<w.heap.size->g.t b∉T->(g.t b=.l->b<B)->w'.heap[b]?=w.heap[b]?
 pref:∀ b,b<w.heap.size->∀ j,j<g.k b->w'.cell? ⟨b,j,none⟩=w.cell? ⟨b,j,none⟩
theorem Cg.tag{B:Nat}{T:List Tg}{g g':Gh}{w w':World}(h:Cg B T g w g' w'){b:Nat}(hb:b<w.heap.size)(hn:g.t b=.l->b<B):g'.t b=g.t b:=by
 rcases h.tag_ b hb with h1|⟨h1,h2,_⟩
 .exact h1
 .have:=hn h1;omega
theorem Cg.refl(B:Nat)(T:List Tg)(g:Gh)(w:World):Cg B T g w g w:=⟨rfl,rfl,rfl,Nat.le_refl _,fun _ _=>.inl rfl,fun _ _=>Nat.le_refl _,fun _ _ _ _=>rfl,fun _ _ _ _=>rfl,fun _ _ _ _=>rfl⟩
theorem Cg.trans{B:Nat}{T:List Tg}{g g' g'':Gh}{w w' w'':World}(h:Cg B T g w g' w')(k:Cg B T g' w' g'' w''):Cg B T g w g'' w'' :=
 have hs:∀ {b},b<w.heap.size->b<w'.heap.size:=fun hb=>Nat.lt_of_lt_of_le hb h.size
 ⟨k.os.trans h.os,k.tape.trans h.tape,k.output.trans h.output,Nat.le_trans h.size k.size,fun b hb=>by
  rcases h.tag_ b hb with h1|⟨h1,h2,h3⟩
  .rcases k.tag_ b (hs hb)with k1|⟨k1,k2,k3⟩
   .exact .inl (k1.trans h1)
   .exact .inr ⟨h1▸k1,k2,k3⟩
  .rcases k.tag_ b (hs hb)with k1|⟨k1,k2,k3⟩
   .exact .inr ⟨h1,h2,k1.trans h3⟩
   .exact .inr ⟨h1,h2,k3⟩,
  fun b hb=>Nat.le_trans (h.kap b hb) (k.kap b (hs hb)),
  fun b hb h1 h2=>(k.kat b (hs hb) (by rw[h.tag hb h2];exact h1) (by rw[h.tag hb h2];exact h2)).trans (h.kat b hb h1 h2),
  fun b hb h1 h2=>(k.same b (hs hb) (by rw[h.tag hb h2];exact h1) (by rw[h.tag hb h2];exact h2)).trans (h.same b hb h1 h2),
  fun b hb j hj=>(k.pref b (hs hb) j (Nat.lt_of_lt_of_le hj (h.kap b hb))).trans (h.pref b hb j hj)⟩
theorem Cg.mono{B:Nat}{T T':List Tg}{g g':Gh}{w w':World}(h:Cg B T g w g' w')(hT:∀ t∈T,t∈T'):Cg B T' g w g' w' :=
 ⟨h.os,h.tape,h.output,h.size,h.tag_,h.kap,fun b hb h1 h2=>h.kat b hb (fun h3=>h1 (hT _ h3)) h2,fun b hb h1 h2=>h.same b hb (fun h3=>h1 (hT _ h3)) h2,h.pref⟩
theorem Cg.ret{B:Nat}{T:List Tg}{g g':Gh}{w w':World}(h:Cg w.heap.size T g w g' w'):Cg B T g w g' w' :=
 ⟨h.os,h.tape,h.output,h.size,fun b hb=>.inl (h.tag hb (fun _=>hb)),h.kap,fun b hb h1 _=>h.kat b hb h1 (fun _=>hb),fun b hb h1 _=>h.same b hb h1 (fun _=>hb),h.pref⟩
theorem Cg.ofBelow{B:Nat}{T:List Tg}{g:Gh}{w w':World}(h:Bw w w'):Cg B T g w g w' :=
 ⟨h.os,h.tape,h.output,h.size,fun _ _=>.inl rfl,fun _ _=>Nat.le_refl _,fun _ _ _ _=>rfl,fun b hb _ _=>h.block b hb,fun b hb j _=>World.cell?_of_block (w:=w) (h.block b hb)⟩
theorem Cg.below{T:List Tg}{g g':Gh}{w w':World}(h:Cg w.heap.size T g w g' w')(hT:∀ b,b<w.heap.size->g.t b∉T):Bw w w' :=
 ⟨h.os,h.tape,h.output,h.size,fun b hb=>h.same b hb (hT b hb) (fun _=>hb)⟩
structure Kn(B:Nat)(g:Gh)(w:World)(L:List Sh):Prop where
 row:∀ x∈L,w.heap[x.g]?=some x.o/\g.t x.g=x.t/\(x.t=.l->B<=x.g)/\(x.t≠.z->g.k x.g=0)
 nod:L.Pairwise fun x y=>x.g=y.g->(x.t=.z/\x.w=false)/\y.t=.z/\y.w=false
 new:∀ b,w.heap.size<=b->g.t b=.z/\g.k b=0
 base:B<=w.heap.size
def AJ(L:List Sh)(w:World):Prop:=∀ x∈L,w.heap[x.g]?=some x.o
theorem Kn.rows{B:Nat}{g:Gh}{w:World}{L:List Sh}(h:Kn B g w L):AJ L w:=fun x hx=>(h.row x hx).1
inductive Kt where
 | c (x:Code)
 | b (id:Nat)
 | o (ops:Array Oper) (is:List Nat)
 | x (ops:Array Oper) (m:Nat) (Ld:Array Bool) (s:Nat) (L0:List Sh)
 | y (ops:Array Oper) (m:Nat) (Ld:Array Bool) (s:Nat) (L0:List Sh) (i:Nat)
 | j (J:Act->World->Prop)
def Kq(P:Program)(R:Exit->Act->World->Prop):List Kt->Exit->Act->World->Prop
 | []=>R
 | .c x::K=>Exit.then (x.wp P (Kq P R K)) (Kq P R K)
 | .b id::K=>Exit.inBlock id (Kq P R K)
 | .o ops is::K=>Exit.then (wpOps P ops (Kq P R K) is) (Kq P R K)
 | .x ops m Ld s L0::K=>Exit.then (Be P .any ops (Kq P R K) [(s,AJ L0)] m Ld) (Kq P R K)
 | .y ops m Ld s L0 i::K=>Exit.then (wpOp P ops (Kq P R K) i (fun a w=>Sx [(s,AJ L0)] (Ld.setIfInBounds i true) w/\Be P .any ops (Kq P R K) [(s,AJ L0)] m (Ld.setIfInBounds i true) a w)) (Kq P R K)
 | .j J::K=>Exit.then J (Kq P R K)
structure Xs where
 K:List Kt
 f:Fm
 L:List Sh
structure GG(P:Program)(fn:Func)(R:Ending->World->Prop)(B:Nat)(T:List Tg)(s:Xs)(g:Gh)(w:World):Prop where
 ex:Kn B g w s.L->Kq P (bodyPost P fn R) s.K .normal s.f.act w
theorem Kq.panic{P:Program}{fn:Func}{R:Ending->World->Prop}:∀ (K:List Kt) (c:List PanicEntry) (a:Act) (d:Option Tmp) (v:Value) (w:World),Kq P (bodyPost P fn R) K (.panic c) (a.put d v) w->Kq P (bodyPost P fn R) K (.panic c) a w
 | [],c,a,d,v,w,h=>by
  have hd:(a.put d v).defers=a.defers:=by cases d<;>rfl
  exact⟨hd▸h.1,h.2⟩
 | .c x::K,c,a,d,v,w,h=>Kq.panic K c a d v w h
 | .b id::K,c,a,d,v,w,h=>Kq.panic K c a d v w h
 | .o ops is::K,c,a,d,v,w,h=>Kq.panic K c a d v w h
 | .x ops m Ld s L0::K,c,a,d,v,w,h=>Kq.panic K c a d v w h
 | .y ops m Ld s L0 i::K,c,a,d,v,w,h=>Kq.panic K c a d v w h
 | .j J::K,c,a,d,v,w,h=>Kq.panic K c a d v w h
inductive Ob where
 | r (x y:World->Result Next)
 | v (x y:Value)
 | t (x y:Tg)
 | l (x y:List Sh)
 | b (x:Bool)
inductive Oe where
 | r (x:World->Result Next)
 | v (x:Value)
 | t (x:Tg)
 | l (x:List Sh)
 | b (x:Bool)
def Ob.l':Ob->Oe|.r x _=>.r x|.v x _=>.v x|.t x _=>.t x|.l x _=>.l x|.b x=>.b x
def Ob.r':Ob->Oe|.r _ x=>.r x|.v _ x=>.v x|.t _ x=>.t x|.l _ x=>.l x|.b _=>.b true
def Ob.ok:Ob->Prop|.r x y=>x=y|.v x y=>x=y|.t x y=>x=y|.l x y=>x=y|.b x=>x=true
theorem Ob.all{l:List Ob}(h:l.map Ob.l'=l.map Ob.r'):∀ o∈l,o.ok:=by
 intro o ho;have h1:∀ o∈l,o.l'=o.r':=List.map_inj_left.1 h;have h2:=h1 o ho;cases o<;>simp only[Ob.l',Ob.r',Oe.r.injEq,Oe.v.injEq,Oe.t.injEq,Oe.l.injEq,Oe.b.injEq]at h2<;>exact h2
def Gj:Value->Nat|.pointer (some a)=>a.off|_=>0
def Ci:Obj->Array Value|.cells c _ _=>c|_=>#[]
def Dy:Obj->Bool|.cells _ _ (0,0)=>true|_=>false
def ZV:Obj->Array Value->Obj|.cells _ t f,c=>.cells c t f|o,_=>o
def szT(P:Program)(ty:TypeId):Nat:=((P.info? ty).map (·.size)).getD 0
def Fp(P:Program)(ty:TypeId):Bool:=match P.underlying ty with|some d=>d.isRow|none=>false
def reA:Value->Nat->Value
 | .pointer (some a),g=>.pointer (some { a with block:=g })
 | .slice (some a) n c,g=>.slice (some { a with block:=g }) n c
 | .map (some _),g=>.map (some g)
 | v,_=>v
def Zs:Result Next->Value|.ok (.value v) _=>v|_=>undef
def bM:Result Next->Obj|.ok _ w=>(w.heap[0]?).getD default|_=>default
def ZK:Op->Bool|.alloc _|.box _ _|.buildSlice _ _ _|.makeSlice _ _ _|.makeMap _ _=>true|_=>false
def eK:Op->Bool|.store _ _ _=>true|_=>false
def fL(i:Nat):Nat->Tg|0=>.z|1=>.l|r+2=>.n r i
structure Rs where
 f:Fm
 L:List Sh
 j:Nat
 h:List Nat
 o:List Ob
def exQ(P:Program)(ops:Array Oper)(o:Oper)(f:Fm)(L:List Sh)(h:List Nat):Value × List Nat × List Ob :=
 cond (f.wants ops o) (match o.op with
  | .load ty x =>
   let r:=L.getD (h.headD 0) default
   let off:=Gj (f.ev x)
   (cond (Fp P ty) (.agg (((Ci r.o).toList.drop off).take (szT P ty)).toArray) ((Ci r.o).getD off undef),h.tail,
    [.v (f.ev x) (pt r.g off),.b (Nat.blt (h.headD 0) L.length&&Nat.ble (off+szT P ty) (Ci r.o).size&&(P.info? ty).isSome&&(P.underlying ty).isSome&&Dy r.o&&(Fp P ty||Nat.beq (szT P ty) 1))])
  | _=>let q:=(execOp f.ev o).run P default;(Zs q,h,[.r (fun w=>(execOp f.ev o).run P w) (fun w=>.ok (.value (Zs q)) w)]))
  (undef,h,[])
def stP:Op->TypeId × Operand × Operand|.store t x y=>(t,x,y)|_=>(0,.tmp 0,.tmp 0)
def exS(P:Program)(T:List Tg)(o:Oper)(f:Fm)(L:List Sh)(j:Nat)(h:List Nat):Rs :=
 let ty:=(stP o.op).1
 let x:=(stP o.op).2.1
 let r:=L.getD (h.headD 0) default
 let off:=Gj (f.ev x)
 let v:=f.ev (stP o.op).2.2
 let cs:=cond (Fp P ty) v.cells #[v]
 let m:=h.tail.headD 0
 ⟨f,L.set (h.headD 0) { r with o:=ZV r.o (YH (Ci r.o) off cs.toList) },j,h.tail.tail,
  [.v (f.ev x) (pt r.g off),.v v (cond (Fp P ty) (.agg cs) v),.t (cond r.w .l r.t) (cond r.w .l ((Tg.l::T).getD m .z)),
   .b (Nat.blt (h.headD 0) L.length&&Nat.ble (off+cs.size) (Ci r.o).size&&(P.info? ty).isSome&&Nat.beq (szT P ty) cs.size&&Dy r.o&&o.dst.isNone&&cs.all (·.oneCell')&&(r.w||(Nat.ble m T.length&&!r.t.isZ)))]⟩
def exN(P:Program)(gs:Nat->Nat)(o:Oper)(f:Fm)(L:List Sh)(j:Nat)(h:List Nat):Rs :=
 let q:=(execOp f.ev o).run P default
 ⟨f.put o.dst (reA (Zs q) (gs j)),L++[⟨gs j,bM q,fL (h.tail.headD 0) (h.headD 0),true⟩],j+1,h.tail.tail,
  [.r (fun w=>(execOp f.ev o).run P w) (fun w=>.ok (.value (reA (Zs q) w.heap.size)) (w.alloc (bM q))),.b o.dst.isSome]⟩
def exO(P:Program)(T:List Tg)(gs:Nat->Nat)(ops:Array Oper)(o:Oper)(f:Fm)(L:List Sh)(j:Nat)(h:List Nat):Rs :=
 cond (f.wants ops o&&eK o.op) (exS P T o f L j h) (cond (f.wants ops o&&ZK o.op) (exN P gs o f L j h)
  (let q:=exQ P ops o f L h;⟨f.put o.dst q.1,L,j,q.2.1,.b (o.dst.isSome||!f.wants ops o)::q.2.2⟩))
def Ts(id:Nat):List Kt->List Kt
 | []=>[]
 | .b i::K=>cond (Nat.beq i id) K (Ts id K)
 | _::K=>Ts id K
def Vr(id:Nat):List Kt->Bool
 | []=>false
 | .b i::K=>cond (Nat.beq i id) true (Vr id K)
 | _::K=>Vr id K
def UW(ops:Array Oper)(i:Nat):List Nat :=
 (List.range ops.size).foldl (fun D j=>cond (match ops[j]? with|none=>false|some o=>o.after.any fun e=>Region.binds .any e&&D.contains e.on) (j::D) D) [i]
def tkB(ops:Array Oper)(Ld:Array Bool)(s i:Nat)(ld:Bool):Bool :=
 Region.noSelect ops&&(Region.free .any ops Ld i&&(Region.ready .any ops Ld).contains i&&(s != i)&&decide (Ld.size=ops.size) &&
  (cond ld (let D:=UW ops i;D.contains i&&(D.contains s||decide (ops.size<=s))&&KN .any ops i D&&D.all fun j=>Ld.getD j true==false) (Ld.getD i true==false)))
def Yl:Op->Bool|.load _ _=>true|_=>false
def Bj(L:List Sh):List Sh:=L.map fun x=>⟨x.g,x.o,x.t,false⟩
structure Rz where
 s:Xs
 o:List Ob
def rn(P:Program)(T:List Tg)(gs:Nat->Nat):Nat->Xs->Nat->List Nat->Rz
 | 0,s,_,_=>⟨s,[]⟩
 | m+1,s,j,h=>match s.K with
  | []=>⟨s,[.b false]⟩
  | .c x::K=>match x with
   | .skip=>rn P T gs m ⟨K,s.f,s.L⟩ j h
   | .seq x y=>rn P T gs m ⟨.c x::.c y::K,s.f,s.L⟩ j h
   | .block id x=>rn P T gs m ⟨.c x::.b id::K,s.f,s.L⟩ j h
   | .exit id=>let r:=rn P T gs m ⟨Ts id K,s.f,s.L⟩ j h;⟨r.s,.b (Vr id K)::r.o⟩
   | .cond c x y=>match s.f.ev c with
    | .bool t=>rn P T gs m ⟨.c (cond t x y)::K,s.f,s.L⟩ j h
    | _=>⟨s,[.b false]⟩
   | .region _ ops false=>rn P T gs m ⟨.o ops (List.range ops.size)::K,s.f,s.L⟩ j h
   | .region _ ops true=>let r:=rn P T gs m ⟨.x ops ops.size (Array.replicate ops.size false) (h.headD 0) (Bj s.L)::K,s.f,s.L⟩ j h.tail;⟨r.s,.b (P.follows .mixedOrders)::r.o⟩
   | _=>⟨s,[.b false]⟩
  | .b _::K=>rn P T gs m ⟨K,s.f,s.L⟩ j h
  | .j _::_=>⟨s,[.b false]⟩
  | .o _ []::K=>rn P T gs m ⟨K,s.f,s.L⟩ j h
  | .o ops (i::is)::K=>match ops[i]? with
   | none=>⟨s,[.b false]⟩
   | some o=>let q:=exO P T gs ops o s.f s.L j h;let r:=rn P T gs m ⟨.o ops is::K,q.f,q.L⟩ q.j q.h;⟨r.s,q.o++r.o⟩
  | .y ops u Ld e L0 i::K=>match ops[i]? with
   | none=>⟨s,[.b false]⟩
   | some o =>
    let q:=exO P T gs ops o s.f s.L j h
    let Ld':=Ld.setIfInBounds i true
    let r:=rn P T gs m ⟨.x ops u Ld' e L0::K,q.f,q.L⟩ q.j q.h
    ⟨r.s,.l (cond (Ld'.getD e false) [] L0) (cond (Ld'.getD e false) [] (Bj (q.L.take L0.length)))::(q.o++r.o)⟩
  | .x ops 0 Ld _ _::K=>let r:=rn P T gs m ⟨K,s.f,s.L⟩ j h;⟨r.s,.b (Region.ready .any ops Ld).isEmpty::r.o⟩
  | .x ops (u+1) Ld e L0::K =>
   let i:=h.headD 0/2
   let Ld':=Ld.setIfInBounds i true
   match ops[i]? with
   | none=>⟨s,[.b false]⟩
   | some o=>cond (Nat.beq (h.headD 0%2) 0)
    (let q:=exQ P ops o s.f L0 h.tail
     let r:=rn P T gs m ⟨.x ops u Ld' e L0::K,s.f.put o.dst q.1,s.L⟩ j q.2.1
     let d:=Yl o.op&&s.f.wants ops o
     ⟨r.s,.b (tkB ops Ld e i d&&o.dst.isSome&&(!d||!Ld.getD e false))::.l (cond (Ld.getD e false) [] L0) (cond (Ld.getD e false) [] (Bj (s.L.take L0.length)))::(q.2.2++r.o)⟩)
    (let q:=exO P T gs ops o s.f s.L j h.tail
     let r:=rn P T gs m ⟨.x ops u Ld' e L0::K,q.f,q.L⟩ q.j q.h
     ⟨r.s,.b (match Region.ready .any ops Ld with|[k]=>Nat.beq k i|_=>false)::.l (cond (Ld'.getD e false) [] L0) (cond (Ld'.getD e false) [] (Bj (q.L.take L0.length)))::(q.o++r.o)⟩)
section
variable{P:Program}{ops:Array Oper}{Q:Exit->Act->World->Prop}
theorem M0{o:Oper}{i:Nat}{f:Fm}{L:List Sh}{h:List Nat}(ho:ops[i]?=some o)(hob:∀ x∈(exQ P ops o f L h).2.2,x.ok)(W:World)(hw:AJ L W\/(Yl o.op&&f.wants ops o)=false) :
  got P ops f.act W i=some (o.dst,(exQ P ops o f L h).1,W):=by
 unfold exQ at hob ⊢;cases hwt:f.wants ops o with
 | false =>
  simp only[cond_false];unfold got;simp only[ho,f.wanted,hwt,if_false,Bool.false_eq_true]
 | true =>
  rw[hwt]at hob hw
  simp only[cond_true]at hob ⊢;have hwt':Region.wanted o (yielded ops f.act.tmps)=true:=by rw[f.wanted,hwt]
  split at hob
  .rename_i ty x hop
   simp only[];have hR:AJ L W:=hw.resolve_right (by simp[hop,Yl]);have h1:=hob _ (List.mem_cons_self ..);have h2:=hob _ (List.mem_cons_of_mem _ (List.mem_cons_self ..));simp only[Ob.ok,Bool.and_eq_true]at h1 h2;obtain⟨⟨⟨⟨⟨b1,b2⟩,b3⟩,b4⟩,b5⟩,b6⟩:=h2;generalize hk:h.headD 0=k at *;have hkL:k<L.length:=by rw[Nat.blt,Nat.ble_eq]at b1;exact b1
   have hr:L.getD k default=L[k]:=by rw[List.getD_eq_getElem?_getD,List.getElem?_eq_getElem hkL];rfl
   rw[hr]at h1 b2 b5 ⊢
   have hrow:=hR L[k] (List.getElem_mem hkL);generalize L[k]=r at *;obtain⟨rg,ro,rt,rw'⟩:=r;cases ro with
   | cells cs t fr =>
    obtain⟨lo,hi⟩:=fr;simp only[Ci]at b2 ⊢;rw[Nat.ble_eq]at b2
    cases hu:P.underlying ty with
    | none=>rw[hu]at b4;cases b4
    | some dd =>
     cases hi':P.info? ty with
     | none=>rw[hi']at b3;cases b3
     | some inf =>
      have hsz:szT P ty=inf.size:=by unfold szT;rw[hi'];rfl
      have hrt:Fp P ty=dd.isRow:=by unfold Fp;rw[hu]
      have hx:f.act.eval x=pt rg (Gj (f.ev x)):=by rw[f.eval];exact h1
      cases hrow':dd.isRow with
      | false =>
       rw[hrt,hrow',cond_false];have hoff:Gj (f.ev x)<cs.size:=by rw[hrt,hrow',Bool.false_or]at b6;have:=Nat.eq_of_beq_eq_true b6;omega
       have hc:W.cell? ⟨rg,Gj (f.ev x),none⟩=some (cs.getD (Gj (f.ev x)) undef):=by
        rw[cell_of_row _ _ _ _ _ _ hrow,Array.getElem?_eq_getElem hoff,Array.getD_eq_getD_getElem?,Array.getElem?_eq_getElem hoff];rfl
       have hagg:(isAgg ty).run P W=.ok false W:=by
        unfold isAgg;rw[Sem.run_bind,run_underlying hu W];clear hob h1 hR;cases dd<;>first|rfl|(simp only[TypeDesc.isRow]at hrow';cases hrow')
       have hl:(loadVar ty ⟨rg,Gj (f.ev x),none⟩).run P W=.ok (cs.getD (Gj (f.ev x)) undef) W:=by
        generalize cs.getD (Gj (f.ev x)) undef=v at *;generalize Gj (f.ev x)=k0 at *;clear hob h1 hR;simp[loadVar,hagg,hc,go_sem]
       unfold got execOp;simp only[ho,hwt',if_true,hop,hx,Instr.loadAt,Instr.sureAddr,Sem.run_bind,Sem.run_pure,Result.andThen_ok,hl]
      | true =>
       rw[hrt,hrow',cond_true];have hlen:((cs.toList.drop (Gj (f.ev x))).take (szT P ty)).length=szT P ty:=by rw[List.length_take,List.length_drop,Array.length_toList];omega
       have hc:=OI hrow (Gj (f.ev x)) ((cs.toList.drop (Gj (f.ev x))).take (szT P ty)) (by rw[hlen]);have hz:(P.info? ty).map (·.size)=some (((cs.toList.drop (Gj (f.ev x))).take (szT P ty))).length:=by rw[hi',hlen,hsz];rfl
       unfold got execOp;simp only[ho,hwt',if_true,hop,hx,Instr.loadAt,Instr.sureAddr,Sem.run_bind,Sem.run_pure,Result.andThen_ok,run_loadVar_mid W rg _ ty _ dd hc hu hrow' hz]
   | _=>cases b5
  .rename_i hno
   have h1:=hob _ (List.mem_cons_self ..);simp only[Ob.ok]at h1;have h2:=congrFun h1 W;unfold got;simp only[ho,hwt',if_true,f.eval,h2]
theorem Kn.two{B:Nat}{g:Gh}{w:World}{L:List Sh}(h:Kn B g w L){i j:Nat}(hi:i<L.length)(hj:j<L.length)(hne:i≠j)(he:L[i].g=L[j].g):(L[i].t=.z/\L[i].w=false)/\L[j].t=.z/\L[j].w=false:=by
 have h1:=List.pairwise_iff_getElem.1 h.nod;rcases Nat.lt_or_gt_of_ne hne with hl|hl
 .exact h1 i j hi hj hl he
 .have:=h1 j i hj hi hl he.symm;exact⟨this.2,this.1⟩
theorem Kn.set{B:Nat}{g:Gh}{w w':World}{L:List Sh}{k:Nat}(hk:k<L.length)(hK:Kn B g w L)(hst:L[k].w=true\/L[k].t≠.z)(o':Obj)(ho:w'.heap[L[k].g]?=some o')(hO:Only L[k].g w w') :
  Kn B g w' (L.set k { L[k]with o:=o' }):=by
 have hd:∀ n (hn:n<L.length),n≠k->L[n].g≠L[k].g:=fun n hn hne he=>by
  have:=hK.two hn hk hne he;rcases hst with h|h
  .rw[this.2.2]at h;cases h
  .exact h this.2.1
 refine⟨fun x hx=>?_,?_,fun b hb=>hK.new b (by rw[<- hO.size];exact hb),by rw[hO.size];exact hK.base⟩
 .obtain⟨n,hn,rfl⟩:=List.getElem_of_mem hx;have hn':n<L.length:=by simpa using hn
  rw[List.getElem_set];split
  .exact⟨ho,(hK.row _ (List.getElem_mem hk)).2⟩
  .rename_i hne
   have h1:=hK.row _ (List.getElem_mem hn');refine⟨?_,h1.2⟩;rw[hO.other _ (hd n hn' (fun h=>hne h.symm))];exact h1.1
 .rw[List.pairwise_iff_getElem];intro i j hi hj hij he;have hi':i<L.length:=by simpa using hi
  have hj':j<L.length:=by simpa using hj
  have hg:∀ n (hn:n<(L.set k { L[k]with o:=o' }).length) (hn':n<L.length),(L.set k { L[k]with o:=o' })[n].g=L[n].g/\(L.set k { L[k]with o:=o' })[n].t=L[n].t/\(L.set k { L[k]with o:=o' })[n].w=L[n].w:=fun n hn hn'=>by
   rw[List.getElem_set];split
   .rename_i h;subst h;exact⟨rfl,rfl,rfl⟩
   .exact⟨rfl,rfl,rfl⟩
  rw[(hg i hi hi').1,(hg j hj hj').1]at he
  have:=hK.two hi' hj' (by omega) he;rw[(hg i hi hi').2.1,(hg i hi hi').2.2,(hg j hj hj').2.1,(hg j hj hj').2.2];exact this
theorem Cg.only{B:Nat}{T:List Tg}{g0 g:Gh}{w0 w w':World}{b:Nat}(h:Cg B T g0 w0 g w)(hO:Only b w w')(hb:w0.heap.size<=b\/((g.t b∈T\/(g.t b=.l/\B<=b))/\g.k b=0)):Cg B T g0 w0 g w' :=
 ⟨hO.os.trans h.os,hO.tape.trans h.tape,hO.output.trans h.output,by rw[hO.size];exact h.size,h.tag_,h.kap,h.kat,fun c hc h1 h2=>by
  have hne:c≠b:=by
   rintro rfl;rcases hb with hb|⟨hb|hb,_⟩
   .omega
   .rw[h.tag hc h2]at hb;exact h1 hb
   .rw[h.tag hc h2]at hb;have:=h2 hb.1;omega
  rw[hO.other c hne];exact h.same c hc h1 h2,fun c hc j hj=>by
  have hne:c≠b:=by
   rintro rfl;rcases hb with hb|⟨_,hb⟩
   .omega
   .have:=h.kap _ hc;omega
  rw[World.cell?_of_block (w:=w) (hO.other c hne)];exact h.pref c hc j hj⟩
theorem Kn.push{B:Nat}{g:Gh}{w:World}{L:List Sh}(hK:Kn B g w L)(o:Obj)(t:Tg)(b:Bool) :
  Kn B ⟨fun c=>if c=w.heap.size then t else g.t c,g.k⟩ (w.alloc o) (L++[⟨w.heap.size,o,t,b⟩]):=by
 have hlt:∀ x∈L,x.g<w.heap.size:=fun x hx=>rl (hK.row x hx).1;refine⟨fun x hx=>?_,?_,fun c hc=>?_,?_⟩
 .rcases List.mem_append.1 hx with h|h
  .have h1:=hK.row x h;have h2:=hlt x h;exact⟨by rw[Below.heap_alloc _ _ _ h2];exact h1.1,by show(if x.g=w.heap.size then t else g.t x.g)=_;rw[if_neg (by omega)];exact h1.2.1,h1.2.2.1,h1.2.2.2⟩
  .obtain rfl:x=⟨w.heap.size,o,t,b⟩:=by simpa using h
   exact⟨heap_alloc_new _ _,if_pos rfl,fun _=>hK.base,fun _=>(hK.new _ (Nat.le_refl _)).2⟩
 .rw[List.pairwise_append];refine⟨hK.nod,List.pairwise_singleton _ _,fun a ha c hc he=>?_⟩;have:=hlt a ha;rw[List.mem_singleton.1 hc]at he
  simp only at he;omega
 .have h1:w.heap.size+1<=c:=by simpa using hc
  show(if c=w.heap.size then t else g.t c)=.z/\g.k c=0;rw[if_neg (by omega)];exact hK.new c (by omega)
 .have:=hK.base;simp;omega
theorem Cg.push{B:Nat}{T:List Tg}{g0 g:Gh}{w0 w:World}(h:Cg B T g0 w0 g w)(o:Obj)(t:Tg):Cg B T g0 w0 ⟨fun c=>if c=w.heap.size then t else g.t c,g.k⟩ (w.alloc o) :=
 ⟨h.os,h.tape,h.output,by have:=h.size;simp;omega,fun b hb=>by
  show(if b=w.heap.size then t else g.t b)=_\/(_/\_/\(if b=w.heap.size then t else g.t b)=_);have:=h.size;rw[if_neg (by omega)];exact h.tag_ b hb,h.kap,h.kat,fun b hb h1 h2=>by
  have:=h.size;rw[Below.heap_alloc _ _ _ (by omega)];exact h.same b hb h1 h2,fun b hb j hj=>by
  have:=h.size;rw[World.cell?_of_block (w:=w) (Below.heap_alloc _ _ _ (by show b<_;omega))];exact h.pref b hb j hj⟩
theorem PO{B:Nat}{T:List Tg}{g0 g:Gh}{w0 w:World}{o:Oper}{i:Nat}{f:Fm}{L:List Sh}{j:Nat}{h:List Nat}{gs:Nat->Nat}{K:Act->World->Prop}(ho:ops[i]?=some o)
  (hob:∀ x∈(exO P T gs ops o f L j h).o,x.ok)(hK:Kn B g w L)(hC:Cg B T g0 w0 g w)(hN:∀ x∈L,x.w=true->w0.heap.size<=x.g)(hj:∀ k,gs (j+k)=w.heap.size+k)
  (hk:∀ g' w',Kn B g' w' (exO P T gs ops o f L j h).L->Cg B T g0 w0 g' w'->(∀ x∈(exO P T gs ops o f L j h).L,x.w=true->w0.heap.size<=x.g)->(∀ k,gs ((exO P T gs ops o f L j h).j+k)=w'.heap.size+k)->K (exO P T gs ops o f L j h).f.act w') :
  wpOp P ops Q i K f.act w:=by
 unfold exO at hob hk;cases hs:f.wants ops o&&eK o.op with
 | true =>
  rw[hs]at hob hk
  simp only[cond_true]at hob hk;simp only[Bool.and_eq_true]at hs;obtain⟨hwt,hop'⟩:=hs;have hwt':Region.wanted o (yielded ops f.act.tmps)=true:=by rw[f.wanted,hwt]
  obtain⟨ty,x,y,hop⟩:∃ ty x y,o.op=.store ty x y:=by
   cases hh:o.op<;>rw[hh]at hop'<;>first|exact⟨_,_,_,rfl⟩|cases hop'
  unfold exS at hob hk;simp only[hop,stP]at hob hk;have h1:=hob _ (List.mem_cons_self ..);have h2:=hob _ (List.mem_cons_of_mem _ (List.mem_cons_self ..));have h3:=hob _ (List.mem_cons_of_mem _ (List.mem_cons_of_mem _ (List.mem_cons_self ..)));have h4:=hob _ (List.mem_cons_of_mem _ (List.mem_cons_of_mem _ (List.mem_cons_of_mem _ (List.mem_cons_self ..))));clear hob;simp only[Ob.ok,Bool.and_eq_true]at h1 h2 h3 h4;obtain⟨⟨⟨⟨⟨⟨⟨b1,b2⟩,b3⟩,b4⟩,b5⟩,b6⟩,b7⟩,b8⟩:=h4;generalize hkk:h.headD 0=k at *;have hkL:k<L.length:=by rw[Nat.blt,Nat.ble_eq]at b1;exact b1
  have hr:L.getD k default=L[k]:=by rw[List.getD_eq_getElem?_getD,List.getElem?_eq_getElem hkL];rfl
  rw[hr]at h1 h3 b2 b5 b8
  simp only[hr]at hk;have hrow:=hK.row L[k] (List.getElem_mem hkL);have hdn:o.dst=none:=by cases hd:o.dst with|none=>rfl|some _=>rw[hd]at b6;cases b6
  have hx:f.act.eval x=pt L[k].g (Gj (f.ev x)):=by rw[f.eval];exact h1
  obtain⟨cs,t,hcs⟩:∃ cs t,L[k].o=.cells cs t (0,0):=by
   cases hh:L[k].o with
   | cells cs t fr =>
    obtain⟨lo,hi⟩:=fr;rw[hh]at b5
    cases lo with
    | zero=>cases hi with
     | zero=>exact⟨cs,t,rfl⟩
     | succ n=>cases b5
    | succ n=>cases b5
   | _=>rw[hh]at b5;cases b5
  simp only[hcs,Ci,ZV]at b2 hk;have hrow1:=hrow.1;rw[hcs]at hrow1
  rw[Nat.ble_eq]at b2
  have hi:(P.info? ty).map (·.size)=some (cond (Fp P ty) (f.ev y).cells #[f.ev y]).size:=by
   have:=Nat.eq_of_beq_eq_true b4;unfold szT at this;cases hh:P.info? ty with
   | none=>rw[hh]at b3;cases b3
   | some inf=>rw[hh]at this;rw[<- this];rfl
  have hin:w0.heap.size<=L[k].g\/((g.t L[k].g∈T\/(g.t L[k].g=.l/\B<=L[k].g))/\g.k L[k].g=0):=by
   cases hw:L[k].w with
   | true=>exact .inl (hN _ (List.getElem_mem hkL) hw)
   | false =>
    rw[hw]at h3 b8
    simp only[cond_false,Bool.false_or,Bool.and_eq_true,Bool.not_eq_true']at h3 b8;have hz:L[k].t≠.z:=fun he=>by rw[he]at b8;cases b8.2
    refine .inr ⟨?_,hrow.2.2.2 hz⟩;rw[hrow.2.1];have hm:=b8.1;rw[Nat.ble_eq]at hm
    generalize h.tail.headD 0=m at *;cases m with
    | zero=>exact .inr ⟨h3,hrow.2.2.1 h3⟩
    | succ m =>
     left;rw[h3];show T.getD m .z∈T;rw[List.getD_eq_getElem?_getD,List.getElem?_eq_getElem (by omega)];exact List.getElem_mem _
  have hst:L[k].w=true\/L[k].t≠.z:=by
   cases hw:L[k].w with
   | true=>exact .inl rfl
   | false =>
    rw[hw]at b8
    simp only[Bool.false_or,Bool.and_eq_true,Bool.not_eq_true']at b8;exact .inr fun he=>by rw[he]at b8;cases b8.2
  have hnew:∀ o',∀ x∈L.set k { L[k]with o:=o' },x.w=true->w0.heap.size<=x.g:=fun o' x hx hxw=>by
   obtain⟨n,hn,rfl⟩:=List.getElem_of_mem hx;rw[List.getElem_set]at hxw ⊢
   split
   .rename_i he;rw[if_pos he]at hxw;exact hN L[k] (List.getElem_mem hkL) hxw
   .rename_i he;rw[if_neg he]at hxw;exact hN _ (List.getElem_mem (by simpa using hn)) hxw
  cases hrt:Fp P ty with
  | false =>
   simp only[hrt,cond_false]at hi h2 b7 b2 hk;refine ec (f.ev y) hrow1 ho hwt' hdn hop hx (by rw[f.eval]) hi (Nat.lt_of_succ_le b2) (by simpa using b7) rfl fun w' hw' hO=>?_;exact hk g w' (hK.set hkL hst _ hw' hO) (hC.only hO hin) (hnew _) (by rw[hO.size];exact hj)
  | true =>
   simp only[hrt,cond_true]at hi h2 b7 b2 hk;refine eb (f.ev y).cells hrow1 ho hwt' hdn hop hx (by rw[f.eval];exact h2) hi b2 b7 rfl fun w' hw' hO=>?_;exact hk g w' (hK.set hkL hst _ hw' hO) (hC.only hO hin) (hnew _) (by rw[hO.size];exact hj)
 | false =>
  rw[hs]at hob hk
  simp only[cond_false]at hob hk;clear hs;cases hc:f.wants ops o&&ZK o.op with
  | false =>
   rw[hc]at hob hk
   simp only[cond_false]at hob hk;have hq:=M0 (h:=h) ho (fun x hx=>hob x (List.mem_cons_of_mem _ hx)) w (.inl hK.rows);have hd:=hob _ (List.mem_cons_self ..);simp only[Ob.ok,Bool.or_eq_true,Bool.not_eq_true']at hd;have hfin:=hk g w hK hC hN hj;rw[Fm.act_put]at hfin
   cases hdd:o.dst with
   | some d=>rw[hdd]at hq hfin;exact ea d _ hq hfin
   | none =>
    rw[hdd]at hd hfin
    have hw:f.wants ops o=false:=by simpa using hd
    unfold wpOp;rw[ho];simp only[f.wanted,hw,Bool.false_eq_true,if_false,hdd];exact hfin
  | true =>
   rw[hc]at hob hk
   simp only[cond_true]at hob hk;simp only[Bool.and_eq_true]at hc;have hwt':Region.wanted o (yielded ops f.act.tmps)=true:=by rw[f.wanted,hc.1]
   unfold exN at hob hk;have h1:=hob _ (List.mem_cons_self ..);have h2:=hob _ (List.mem_cons_of_mem _ (List.mem_cons_self ..));simp only[Ob.ok]at h1 h2;have h3:=congrFun h1 w;have hgs:gs j=w.heap.size:=by have:=hj 0;simpa using this
   cases hdd:o.dst with
   | none=>rw[hdd]at h2;cases h2
   | some d =>
    refine VX ho hwt' hdd (by rw[f.eval];exact h3) ?_;have hfin:=hk _ _ (by simp only[hgs];exact hK.push (bM ((execOp f.ev o).run P default)) _ true) (hC.push _ _) (fun x hx hxw=>?_) (fun k=>?_)
    .simp only[hgs,hdd]at hfin;rw[<- Fm.act_put];exact hfin
    .rcases List.mem_append.1 hx with h5|h5
     .exact hN x h5 hxw
     .have h6:=List.mem_singleton.1 h5;rw[h6];show _<=gs j;rw[hgs];exact hC.size
    .have:=hj (1+k);show gs (j+1+k)=_;rw[show j+1+k=j+(1+k)by omega,this];simp;omega
end
section
variable{P:Program}{fn:Func}{R:Ending->World->Prop}
theorem Kq.exit(id:Nat):∀ (K:List Kt) (a:Act) (w:World),Vr id K=true->Kq P (bodyPost P fn R) (Ts id K) .normal a w->Kq P (bodyPost P fn R) K (.exit id) a w
 | [],a,w,h,_=>by cases h
 | .c x::K,a,w,h,hk=>Kq.exit id K a w h hk
 | .b i::K,a,w,h,hk=>by
  show(if id=i then Kq P (bodyPost P fn R) K .normal a w else Kq P (bodyPost P fn R) K (.exit id) a w);unfold Vr at h;unfold Ts at hk;cases hb:Nat.beq i id with
  | true =>
   rw[hb]at hk
   rw[if_pos (Nat.eq_of_beq_eq_true hb).symm];exact hk
  | false =>
   rw[hb]at h hk
   rw[if_neg (fun he=>by subst he;rw[Nat.beq_refl]at hb;cases hb)];exact Kq.exit id K a w h hk
 | .o ops is::K,a,w,h,hk=>Kq.exit id K a w h hk
 | .x ops m Ld s L0::K,a,w,h,hk=>Kq.exit id K a w h hk
 | .y ops m Ld s L0 i::K,a,w,h,hk=>Kq.exit id K a w h hk
 | .j J::K,a,w,h,hk=>Kq.exit id K a w h hk
theorem Cg.drew{B:Nat}{T:List Tg}{g0 g:Gh}{w0 w:World}(h:Cg B T g0 w0 g w):Cg B T g0 w0 g w.drew:=⟨h.os,h.tape,h.output,h.size,h.tag_,h.kap,h.kat,h.same,h.pref⟩
theorem Kn.drew{B:Nat}{g:Gh}{w:World}{L:List Sh}(h:Kn B g w L):Kn B g w.drew L:=⟨h.row,h.nod,h.new,h.base⟩
theorem TE{ops:Array Oper}{e:Nat}{L0 L:List Sh}{Ld:Array Bool}{w:World}(h:AJ L w)(hl:cond (Ld.getD e false) [] L0=cond (Ld.getD e false) [] (Bj (L.take L0.length))):Sx [(e,AJ L0)] Ld w:=by
 refine⟨fun hf=>?_,trivial⟩;rw[hf]at hl
 have hl':L0=Bj (L.take L0.length):=hl;intro x hx;rw[hl']at hx
 obtain⟨y,hy,rfl⟩:=List.mem_map.1 hx;exact h y (List.mem_of_mem_take hy)
theorem eD{B:Nat}{T:List Tg}{g0:Gh}{w0:World}(gs:Nat->Nat):∀ (m:Nat) (s:Xs) (j:Nat) (h:List Nat) (g:Gh) (w:World),(∀ x∈(rn P T gs m s j h).o,x.ok)->Kn B g w s.L->Cg B T g0 w0 g w ->
  (∀ x∈s.L,x.w=true->w0.heap.size<=x.g)->(∀ k,gs (j+k)=w.heap.size+k) ->
  (∀ g' w',Kn B g' w' (rn P T gs m s j h).s.L->Cg B T g0 w0 g' w'->Kq P (bodyPost P fn R) (rn P T gs m s j h).s.K .normal (rn P T gs m s j h).s.f.act w') ->
  Kq P (bodyPost P fn R) s.K .normal s.f.act w:=by
 intro m;induction m with
 | zero=>intro s j h g w _ hK hC _ _ hk;exact hk g w hK hC
 | succ m ih =>
  intro s j h g w hob hK hC hN hj hk;obtain⟨K,f,L⟩:=s;unfold rn at hob hk;cases K with
  | nil=>exact absurd (hob _ (List.mem_cons_self ..)) (by simp[Ob.ok])
  | cons t K =>
   cases t with
   | c x =>
    cases x with
    | skip=>exact wp_skip (ih ⟨K,f,L⟩ j h g w hob hK hC hN hj hk)
    | seq x y=>exact wp_seq (ih ⟨.c x::.c y::K,f,L⟩ j h g w hob hK hC hN hj hk)
    | block id x=>exact wp_block (ih ⟨.c x::.b id::K,f,L⟩ j h g w hob hK hC hN hj hk)
    | exit id =>
     refine wp_exit (Kq.exit id K _ _ (hob _ (List.mem_cons_self ..)) ?_);exact ih ⟨Ts id K,f,L⟩ j h g w (fun x hx=>hob x (List.mem_cons_of_mem _ hx)) hK hC hN hj hk
    | cond c x y =>
     simp only at hob hk;split at hob
     .rename_i t ht
      simp only[ht]at hk;have hc:f.act.eval c=.bool t:=by rw[f.eval];exact ht
      have h1:=ih ⟨.c (cond t x y)::K,f,L⟩ j h g w hob hK hC hN hj hk;refine wp_cond hc ?_;cases t<;>exact h1
     .exact absurd (hob _ (List.mem_cons_self ..)) (by simp[Ob.ok])
    | region id ops d =>
     cases d with
     | false =>
      refine wp_region ?_;rw[List.range_eq_range',<- List.range_eq_range'];exact ih ⟨.o ops (List.range ops.size)::K,f,L⟩ j h g w hob hK hC hN hj hk
     | true =>
      refine ZA [(h.headD 0,AJ (Bj L))] (hob _ (List.mem_cons_self ..)) ?_;exact ih ⟨.x ops ops.size (Array.replicate ops.size false) (h.headD 0) (Bj L)::K,f,L⟩ j h.tail g w.drew (fun x hx=>hob x (List.mem_cons_of_mem _ hx)) hK.drew hC.drew hN hj hk
    | _=>exact absurd (hob _ (List.mem_cons_self ..)) (by simp[Ob.ok])
   | b id=>exact ih ⟨K,f,L⟩ j h g w hob hK hC hN hj hk
   | j J=>exact absurd (hob _ (List.mem_cons_self ..)) (by simp[Ob.ok])
   | o ops is =>
    cases is with
    | nil=>exact ih ⟨K,f,L⟩ j h g w hob hK hC hN hj hk
    | cons i is =>
     simp only at hob hk;cases ho:ops[i]? with
     | none=>rw[ho]at hob;exact absurd (hob _ (List.mem_cons_self ..)) (by simp[Ob.ok])
     | some o =>
      simp only[ho]at hob hk;show wpOps P ops (Kq P (bodyPost P fn R) K) (i::is) f.act w;rw[wpOps_cons];refine PO (h:=h) (j:=j) (gs:=gs) ho (fun x hx=>hob x (List.mem_append_left _ hx)) hK hC hN hj fun g' w' hK' hC' hN' hj'=>?_;exact ih ⟨.o ops is::K,_,_⟩ _ _ g' w' (fun x hx=>hob x (List.mem_append_right _ hx)) hK' hC' hN' hj' hk
   | y ops u Ld e L0 i =>
    simp only at hob hk;cases ho:ops[i]? with
    | none=>rw[ho]at hob;exact absurd (hob _ (List.mem_cons_self ..)) (by simp[Ob.ok])
    | some o =>
     simp only[ho]at hob hk;have h2:=hob _ (List.mem_cons_self ..);simp only[Ob.ok]at h2;show wpOp P ops (Kq P (bodyPost P fn R) K) i (fun a w=>Sx [(e,AJ L0)] (Ld.setIfInBounds i true) w/\Be P .any ops (Kq P (bodyPost P fn R) K) [(e,AJ L0)] u (Ld.setIfInBounds i true) a w) f.act w;refine PO (h:=h) (j:=j) (gs:=gs) ho (fun x hx=>hob x (List.mem_cons_of_mem _ (List.mem_append_left _ hx))) hK hC hN hj fun g' w' hK' hC' hN' hj'=>?_;exact⟨TE (ops:=ops) hK'.rows h2,ih ⟨.x ops u (Ld.setIfInBounds i true) e L0::K,_,_⟩ _ _ g' w' (fun x hx=>hob x (List.mem_cons_of_mem _ (List.mem_append_right _ hx))) hK' hC' hN' hj' hk⟩
   | x ops u Ld e L0 =>
    cases u with
    | zero =>
     have h1:=hob _ (List.mem_cons_self ..);simp only[Ob.ok,List.isEmpty_iff]at h1;exact⟨h1,ih ⟨K,f,L⟩ j h g w (fun x hx=>hob x (List.mem_cons_of_mem _ hx)) hK hC hN hj hk⟩
    | succ u =>
     simp only at hob hk;generalize hi:h.headD 0/2=i at *;cases ho:ops[i]? with
     | none=>rw[ho]at hob;exact absurd (hob _ (List.mem_cons_self ..)) (by simp[Ob.ok])
     | some o =>
      simp only[ho]at hob hk;have hQ:∀ c a d v w,Kq P (bodyPost P fn R) K (.panic c) (a.put (some d) v) w->Kq P (bodyPost P fn R) K (.panic c) a w:=fun c a d v w=>Kq.panic K c a (some d) v w;cases hm:Nat.beq (h.headD 0%2) 0 with
      | true =>
       simp only[hm,cond_true]at hob hk;have h1:=hob _ (List.mem_cons_self ..);have h2:=hob _ (List.mem_cons_of_mem _ (List.mem_cons_self ..));have h3:∀ x∈(exQ P ops o f L0 h.tail).2.2,x.ok:=fun x hx=>hob x (List.mem_cons_of_mem _ (List.mem_cons_of_mem _ (List.mem_append_left _ hx)));have h4:=fun x hx=>hob x (List.mem_cons_of_mem _ (List.mem_cons_of_mem _ (List.mem_append_right _ hx)));simp only[Ob.ok,Bool.and_eq_true]at h1 h2;obtain⟨⟨h1,h1d⟩,h1e⟩:=h1;have hS:Sx [(e,AJ L0)] Ld w:=TE (ops:=ops) hK.rows h2;have hrest:=ih ⟨.x ops u (Ld.setIfInBounds i true) e L0::K,f.put o.dst (exQ P ops o f L0 h.tail).1,L⟩ j _ g w h4 hK hC hN hj hk;simp only[Fm.act_put]at hrest;cases hdd:o.dst with
       | none=>rw[hdd]at h1d;cases h1d
       | some d =>
        rw[hdd]at hrest
        unfold tkB at h1;simp only[Bool.and_eq_true]at h1;obtain⟨ns,⟨⟨⟨⟨t1,t2⟩,t3⟩,t4⟩,t5⟩⟩:=h1;cases hld:Yl o.op&&f.wants ops o with
        | false =>
         rw[hld,cond_false]at t5
         refine xB0 u [i] [(d,(exQ P ops o f L0 h.tail).1)] (fun W=>?_) ns ?_ rfl rfl hQ hS hrest
         .have hg:=M0 (h:=h.tail) ho h3 W (.inr hld);rw[hdd]at hg
          simp only[PW,wants,List.map_cons,List.map_nil,hg]
         .simp only[KG,List.map_cons,List.map_nil,List.all_cons,List.all_nil,Bool.and_true,Bool.and_eq_true];exact⟨⟨⟨⟨t1,t2⟩,t3⟩,t4⟩,t5⟩
        | true =>
         rw[hld,cond_true]at t5
         rw[hld]at h1e
         have hef:Ld.getD e false=false:=by simpa using h1e
         refine xC0 u i d (UW ops i) (exQ P ops o f L0 h.tail).1 (fun W hW=>?_) (hS.1 hef) ns ?_ rfl hQ hS hrest
         .have hg:=M0 (h:=h.tail) ho h3 W (.inl hW);rw[hdd]at hg
          exact hg
         .simp only[List.map_cons,List.map_nil,List.all_cons,List.all_nil,Bool.and_true,Bool.and_eq_true]at t5 ⊢;exact⟨⟨⟨⟨t1,t2⟩,t3⟩,t4⟩,t5⟩
      | false =>
       simp only[hm,cond_false]at hob hk;have h1:=hob _ (List.mem_cons_self ..);have h2:=hob _ (List.mem_cons_of_mem _ (List.mem_cons_self ..));have h3:=fun x hx=>hob x (List.mem_cons_of_mem _ (List.mem_cons_of_mem _ (List.mem_append_left _ hx)));have h4:=fun x hx=>hob x (List.mem_cons_of_mem _ (List.mem_cons_of_mem _ (List.mem_append_right _ hx)));simp only[Ob.ok]at h1 h2;have hr:Region.ready .any ops Ld=[i]:=by
        split at h1
        .rename_i k hk;rw[hk,Nat.eq_of_beq_eq_true h1]
        .cases h1
       refine xS0 u i hr rfl ?_;refine PO (h:=h.tail) (j:=j) (gs:=gs) ho h3 hK hC hN hj fun g' w' hK' hC' hN' hj'=>?_;exact⟨TE (ops:=ops) hK'.rows h2,ih ⟨.x ops u (Ld.setIfInBounds i true) e L0::K,_,_⟩ _ _ g' w' h4 hK' hC' hN' hj' hk⟩
end
section
variable{P:Program}{fn:Func}{R:Ending->World->Prop}{B:Nat}{T:List Tg}{g:Gh}{w:World}
theorem Kn.clr{L:List Sh}(h:Kn B g w L):Kn B g w (Bj L):=by
 refine⟨fun x hx=>?_,?_,h.new,h.base⟩
 .obtain⟨y,hy,rfl⟩:=List.mem_map.1 hx;exact h.row y hy
 .unfold Bj;rw[List.pairwise_map];exact h.nod.imp fun hh he=>⟨⟨(hh he).1.1,rfl⟩,(hh he).2.1,rfl⟩
def rn0(P:Program)(T:List Tg)(gs:Nat->Nat)(m:Nat)(s:Xs)(h:List Nat):Rz:=rn P T gs m ⟨s.K,s.f,Bj s.L⟩ 0 h
theorem Ya{s:Xs}(T':List Tg)(m:Nat)(h:List Nat)(hob:∀ gs,(rn0 P T' gs m s h).o.map Ob.l'=(rn0 P T' gs m s h).o.map Ob.r')(hk:∀ gs g' w',Cg B T' g w g' w'->GG P fn R B T (rn0 P T' gs m s h).s g' w'):GG P fn R B T s g w:=by
 refine⟨fun hK=>?_⟩;refine eD (fun k=>w.heap.size+k) m ⟨s.K,s.f,Bj s.L⟩ 0 h g w (Ob.all (hob _)) hK.clr (Cg.refl B T' g w) ?_ (fun k=>by simp) fun g' w' hK' hC'=>(hk _ g' w' hC').ex hK';intro x hx hxw;obtain⟨y,hy,rfl⟩:=List.mem_map.1 hx;cases hxw
theorem Ae{s:Xs}(h:Kn B g w s.L->GG P fn R B T s g w):GG P fn R B T s g w:=⟨fun hK=>(h hK).ex hK⟩
def opN(s:Xs)(i':Nat):Option (Array Oper × Nat × Oper):=match s.K with
 | .o ops (i::_)::_=>match ops[i]? with|some o=>some (ops,i,o)|none=>none
 | .x ops _ _ _ _::_=>match ops[i']? with|some o=>some (ops,i',o)|none=>none
 | .y ops _ _ _ _ i::_=>match ops[i]? with|some o=>some (ops,i,o)|none=>none
 | _=>none
def nxt(s:Xs)(i':Nat)(v:Value)(L:List Sh):Rz:=match s.K with
 | .o ops (i::is)::K=>match ops[i]? with|some o=>⟨⟨.o ops is::K,s.f.put o.dst v,L⟩,[.b (s.f.wants ops o)]⟩|none=>⟨s,[.b false]⟩
 | .x ops (u+1) Ld e L0::K=>match ops[i']? with
  | some o =>
   let Ld':=Ld.setIfInBounds i' true
   ⟨⟨.x ops u Ld' e L0::K,s.f.put o.dst v,L⟩,[.b (s.f.wants ops o),.b (match Region.ready .any ops Ld with|[k]=>Nat.beq k i'|_=>false),.l (cond (Ld'.getD e false) [] L0) (cond (Ld'.getD e false) [] (Bj (L.take L0.length)))]⟩
  | none=>⟨s,[.b false]⟩
 | .y ops u Ld e L0 i::K=>match ops[i]? with
  | some o =>
   let Ld':=Ld.setIfInBounds i true
   ⟨⟨.x ops u Ld' e L0::K,s.f.put o.dst v,L⟩,[.b (s.f.wants ops o),.l (cond (Ld'.getD e false) [] L0) (cond (Ld'.getD e false) [] (Bj (L.take L0.length)))]⟩
  | none=>⟨s,[.b false]⟩
 | _=>⟨s,[.b false]⟩
theorem Qy{s:Xs}{ops:Array Oper}{i' i:Nat}{o:Oper}(hop:opN s i'=some (ops,i,o))(L:List Sh)(hob:(nxt s i' undef L).o.map Ob.l'=(nxt s i' undef L).o.map Ob.r')
  (h:∀ (Q:Exit->Act->World->Prop) (K:Act->World->Prop),ops[i]?=some o->Region.wanted o (yielded ops s.f.act.tmps)=true->(∀ v g' w',Kn B g' w' L->GG P fn R B T (nxt s i' v L).s g' w'->K (s.f.act.put o.dst v) w')->wpOp P ops Q i K s.f.act w):GG P fn R B T s g w:=by
 refine⟨fun hK=>?_⟩;obtain⟨K,f,L1⟩:=s;have hall:=Ob.all hob;unfold opN at hop;unfold nxt at hall h;cases K with
 | nil=>cases hop
 | cons t K =>
  cases t with
  | o ops1 is =>
   cases is with
   | nil=>cases hop
   | cons i1 is =>
    simp only at hop hall h;cases ho:ops1[i1]? with
    | none=>rw[ho]at hop;cases hop
    | some o1 =>
     rw[ho]at hop
     simp only[Option.some.injEq,Prod.mk.injEq]at hop;obtain⟨rfl,rfl,rfl⟩:=hop;simp only[ho]at hall;have hw:=hall _ (List.mem_cons_self ..);show wpOps P ops1 (Kq P (bodyPost P fn R) K) (i1::is) f.act w;rw[wpOps_cons];refine h _ _ ho (by rw[f.wanted];exact hw) fun v g' w' hK' hG=>?_;simp only[ho]at hG;have:=hG.ex hK';rw[Fm.act_put]at this
     exact this
  | y ops1 u Ld e L0 i1 =>
   simp only at hop hall h;cases ho:ops1[i1]? with
   | none=>rw[ho]at hop;cases hop
   | some o1 =>
    rw[ho]at hop
    simp only[Option.some.injEq,Prod.mk.injEq]at hop;obtain⟨rfl,rfl,rfl⟩:=hop;simp only[ho]at hall;have hw:=hall _ (List.mem_cons_self ..);have h2:=hall _ (List.mem_cons_of_mem _ (List.mem_cons_self ..));simp only[Ob.ok]at hw h2;show wpOp P ops1 (Kq P (bodyPost P fn R) K) i1 (fun a w=>Sx [(e,AJ L0)] (Ld.setIfInBounds i1 true) w/\Be P .any ops1 (Kq P (bodyPost P fn R) K) [(e,AJ L0)] u (Ld.setIfInBounds i1 true) a w) f.act w;refine h _ _ ho (by rw[f.wanted];exact hw) fun v g' w' hK' hG=>?_;simp only[ho]at hG;have:=hG.ex hK';rw[Fm.act_put]at this
    exact⟨TE (ops:=ops1) hK'.rows h2,this⟩
  | x ops1 u Ld e L0 =>
   cases u with
   | zero=>exact absurd (hall _ (List.mem_cons_self ..)) (by simp[Ob.ok])
   | succ u =>
    simp only at hop hall h;cases ho:ops1[i']? with
    | none=>rw[ho]at hop;cases hop
    | some o1 =>
     rw[ho]at hop
     simp only[Option.some.injEq,Prod.mk.injEq]at hop;obtain⟨rfl,rfl,rfl⟩:=hop;simp only[ho]at hall;have hw:=hall _ (List.mem_cons_self ..);have h1:=hall _ (List.mem_cons_of_mem _ (List.mem_cons_self ..));have h2:=hall _ (List.mem_cons_of_mem _ (List.mem_cons_of_mem _ (List.mem_cons_self ..)));simp only[Ob.ok]at hw h1 h2;have hr:Region.ready .any ops1 Ld=[i']:=by
      split at h1
      .rename_i k hk;rw[hk,Nat.eq_of_beq_eq_true h1]
      .cases h1
     refine xS0 u i' hr rfl ?_;refine h _ _ ho (by rw[f.wanted];exact hw) fun v g' w' hK' hG=>?_;simp only[ho]at hG;have:=hG.ex hK';rw[Fm.act_put]at this
     exact⟨TE (ops:=ops1) hK'.rows h2,this⟩
  | _=>cases hop
def Tg.ne:Tg->Tg->Bool
 | .z,.z=>false
 | .l,.l=>false
 | .n r _,.n r' _=>!Nat.beq r r'
 | _,_=>true
theorem Tg.ne_ne{a b:Tg}(h:a.ne b=true):a≠b:=by
 rintro rfl;cases a with
 | z=>cases h
 | l=>cases h
 | n r i=>simp[Tg.ne,Nat.beq_refl]at h
def AB:List Bool->List Sh->List Sh
 | true::m,x::L=>x::AB m L
 | false::m,_::L=>AB m L
 | _,_=>[]
theorem CG:∀ (m:List Bool) (L:List Sh),(AB m L).Sublist L
 | true::m,x::L=>(CG m L).cons_cons x
 | false::m,x::L=>(CG m L).cons x
 | [],L=>by unfold AB;exact List.nil_sublist _
 | true::m,[]=>List.nil_sublist _
 | false::m,[]=>List.nil_sublist _
theorem Cg.n{g' g'':Gh}{w' w'':World}(h:Cg B T g w g' w')(k:Cg B [] g' w' g'' w''):Cg B T g w g'' w'':=h.trans (k.mono fun _ h=>absurd h List.not_mem_nil)
theorem Cg.m{T':List Tg}{g' g'':Gh}{w' w'':World}(h:Cg B T g w g' w')(k:Cg B T' g' w' g'' w'')(hT:∀ t∈T',t∈T:=by simp):Cg B T g w g'' w'':=h.trans (k.mono hT)
theorem Cg.nil{g':Gh}{w':World}(h:Cg B [] g w g' w')(T:List Tg):Cg B T g w g' w':=h.mono fun _ h=>absurd h List.not_mem_nil
theorem Kn.sub{L L':List Sh}(h:Kn B g w L)(hs:L'.Sublist L):Kn B g w L':=⟨fun x hx=>h.row x (hs.subset hx),h.nod.sublist hs,h.new,h.base⟩
theorem Kn.ch{T':List Tg}{g':Gh}{w':World}{L:List Sh}(h:Kn B g w L)(c:Cg w.heap.size T' g w g' w')(hn:∀ b,w'.heap.size<=b->g'.t b=.z/\g'.k b=0)(hT:L.all (fun x=>T'.all fun t=>x.t.ne t)=true):Kn B g' w' L:=by
 refine⟨fun x hx=>?_,h.nod,hn,Nat.le_trans h.base c.size⟩;have h1:=h.row x hx;have hlt:=rl h1.1;have hnot:g.t x.g∉T':=by
  rw[h1.2.1];intro hm;have h2:=List.all_eq_true.1 (List.all_eq_true.1 hT x hx) _ hm;exact Tg.ne_ne h2 rfl
 exact⟨(c.same _ hlt hnot (fun _=>hlt)).trans h1.1,(c.tag hlt (fun _=>hlt)).trans h1.2.1,h1.2.2.1,fun hz=>(c.kat _ hlt hnot (fun _=>hlt)).trans (h1.2.2.2 hz)⟩
theorem Kn.below{L:List Sh}{w':World}(h:Kn B g w L)(b:Below w.heap.size w w'):Kn B g w' L :=
 ⟨fun x hx=>⟨rB b (h.row x hx).1,(h.row x hx).2⟩,h.nod,fun c hc=>h.new c (Nat.le_trans b.size hc),Nat.le_trans h.base b.size⟩
def CD(P:Program)(s:Xs)(i':Nat)(W:World):Option (Result Next):=(opN s i').map fun x=>(execOp s.f.ev x.2.2).run P W
theorem Nt{s:Xs}{i':Nat}{r:World->Result Next}(h:∀ W,CD P s i' W=some (r W)):∃ ops i o,opN s i'=some (ops,i,o)/\∀ W,(execOp s.f.ev o).run P W=r W:=by
 unfold CD at h;cases hx:opN s i' with
 | none=>have:=h default;rw[hx]at this;cases this
 | some x =>
  obtain⟨ops,i,o⟩:=x;exact⟨ops,i,o,rfl,fun W=>by have:=h W;rw[hx]at this;simpa using this⟩
def La(s:Xs)(i':Nat):Bool:=match opN s i' with|some x=>x.2.2.dst.isSome|none=>false
theorem aX{s:Xs}(i':Nat)(f:FuncId)(args:Array Value)(hr:∀ W,CD P s i' W=some (.ok (.enter f args) W))(hd:La s i'=true)(hob:(nxt s i' undef s.L).o.map Ob.l'=(nxt s i' undef s.L).o.map Ob.r')
  {C:Ending->World->Prop}(hc:Calls P f args w C)(hk:∀ e w',C e w'->∃ v,e=.returned v/\Below w.heap.size w w'/\GG P fn R B T (nxt s i' v s.L).s g w'):GG P fn R B T s g w:=by
 obtain⟨ops,i,o,hop,hrun⟩:=Nt hr;refine Ae fun hK=>Qy hop s.L hob fun Q K ho hw h=>?_;unfold La at hd;rw[hop]at hd
 cases hdd:o.dst with
 | none=>simp only[hdd]at hd;cases hd
 | some d =>
  refine Gl ho hw hdd (by rw[s.f.eval];exact hrun w) (hc.mono fun e w' he=>?_);obtain⟨v,hv,hb,hG⟩:=hk e w' he;refine⟨v,hv,?_⟩;have:=h v g w' (hK.below hb) hG;rw[hdd]at this
  exact this
theorem PS{s:Xs}(i':Nat)(f:FuncId)(args:Array Value)(T':List Tg)(m:List Bool)(hr:∀ W,CD P s i' W=some (.ok (.enter f args) W))(hd:La s i'=true)(hob:(nxt s i' undef (AB m s.L)).o.map Ob.l'=(nxt s i' undef (AB m s.L)).o.map Ob.r')
  (hT:(AB m s.L).all (fun x=>T'.all fun t=>x.t.ne t)=true)
  {C:Ending->World->Prop}(hc:Calls P f args w C)(hk:∀ e w',C e w'->∃ v g',e=.returned v/\Cg w.heap.size T' g w g' w'/\(∀ b,w'.heap.size<=b->g'.t b=.z/\g'.k b=0)/\GG P fn R B T (nxt s i' v (AB m s.L)).s g' w'):GG P fn R B T s g w:=by
 obtain⟨ops,i,o,hop,hrun⟩:=Nt hr;refine Ae fun hK=>Qy hop (AB m s.L) hob fun Q K ho hw h=>?_;unfold La at hd;rw[hop]at hd
 cases hdd:o.dst with
 | none=>simp only[hdd]at hd;cases hd
 | some d =>
  refine Gl ho hw hdd (by rw[s.f.eval];exact hrun w) (hc.mono fun e w' he=>?_);obtain⟨v,g',hv,hch,hn,hG⟩:=hk e w' he;refine⟨v,hv,?_⟩;have:=h v g' w' ((hK.sub (CG m s.L)).ch hch hn hT) hG;rw[hdd]at this
  exact this
theorem JV{s:Xs}(i':Nat)(L:List Sh)(hob:(nxt s i' undef L).o.map Ob.l'=(nxt s i' undef L).o.map Ob.r')(hs:(opN s i').isSome=true)
  (h:Kn B g w s.L->∀ ops i o,opN s i'=some (ops,i,o)->∃ v w' g',((execOp s.f.ev o).run P w=.ok (.value v) w'\/((execOp s.f.ev o).run P w=.ok .skip w'/\v=undef))/\Kn B g' w' L/\GG P fn R B T (nxt s i' v L).s g' w'):GG P fn R B T s g w:=by
 cases hop:opN s i' with
 | none=>rw[hop]at hs;cases hs
 | some x =>
  obtain⟨ops,i,o⟩:=x;refine Ae fun hK=>Qy hop L hob fun Q K ho hw h'=>?_;obtain⟨v,w',g',hrun,hK',hG⟩:=h hK ops i o hop;have hfin:=h' v g' w' hK' hG;unfold wpOp;rw[ho];simp only[hw,if_true];refine .inl ?_;unfold Oper.wp;rw[s.f.eval];rcases hrun with hrun|⟨hrun,rfl⟩
  .rw[hrun,Oper.upon_value];exact hfin
  .rw[hrun,Oper.upon_skip];exact hfin
theorem gFm{s:Xs}(e:List (Nat × Value))(he:e.map (fun p=>lk s.f.z s.f.e p.1)=e.map (·.2))(h:∀ z,GG P fn R B T ⟨s.K,⟨s.f.n,e,z⟩,s.L⟩ g w):GG P fn R B T s g w:=by
 refine⟨fun hK=>?_⟩;have h1:=(h (lk s.f.z s.f.e)).ex hK;have h2:(⟨s.f.n,e,lk s.f.z s.f.e⟩:Fm).act=s.f.act:=by
  unfold Fm.act;simp only[Act.mk.injEq,and_true]
  congr 1
  refine List.map_congr_left fun t _=>?_;clear h h1;induction e with
  | nil=>rfl
  | cons p r ih =>
   simp only[List.map_cons,List.cons.injEq]at he;show cond (Nat.beq p.1 t) p.2 (lk (lk s.f.z s.f.e) r t)=lk s.f.z s.f.e t;cases hb:Nat.beq p.1 t with
   | true=>rw[cond_true,<- he.1,Nat.eq_of_beq_eq_true hb]
   | false=>rw[cond_false];exact ih he.2
 simp only at h1;rw[h2]at h1
 exact h1
theorem GM{s:Xs}(m:List Bool)(h:GG P fn R B T ⟨s.K,s.f,AB m s.L⟩ g w):GG P fn R B T s g w:=⟨fun hK=>h.ex (hK.sub (CG m s.L))⟩
theorem BF{s:Xs}(x:Sh)(hx:Kn B g w s.L->w.heap[x.g]?=some x.o/\g.t x.g=x.t/\(x.t=.l->B<=x.g)/\(x.t≠.z->g.k x.g=0))(hT:(!x.w&&(x.t.isZ||s.L.all (fun y=>x.t.ne y.t)))=true)(h:GG P fn R B T ⟨s.K,s.f,Bj s.L++[x]⟩ g w):GG P fn R B T s g w:=by
 refine⟨fun hK=>h.ex ⟨fun y hy=>?_,?_,hK.new,hK.base⟩⟩
 .rcases List.mem_append.1 hy with h1|h1
  .exact hK.clr.row y h1
  .rw[List.mem_singleton.1 h1];exact hx hK
 .show(Bj s.L++[x]).Pairwise _;simp only[Bool.and_eq_true,Bool.not_eq_true',Bool.or_eq_true]at hT;rw[List.pairwise_append];refine⟨hK.clr.nod,List.pairwise_singleton _ _,fun a ha c hc he=>?_⟩;rw[List.mem_singleton.1 hc]at he ⊢
  obtain⟨y,hy,rfl⟩:=List.mem_map.1 ha;have h2:=(hK.row y hy).2.1;have h3:=(hx hK).2.1;simp only at he ⊢;rw[he,h3]at h2
  rcases hT.2 with hz|hn
  .have:x.t=.z:=by cases hh:x.t with|z=>rfl|l=>rw[hh]at hz;cases hz|n r i=>rw[hh]at hz;cases hz
   exact⟨⟨h2▸this,trivial⟩,this,hT.1⟩
  .exact absurd h2 (Tg.ne_ne (List.all_eq_true.1 hn y hy))
theorem Kq.ret{R':Exit->Act->World->Prop}:∀ (K:List Kt) (a:Act) (w:World),R' .ret a w->Kq P R' K .ret a w
 | [],a,w,h=>h
 | .c x::K,a,w,h=>Kq.ret K a w h
 | .b id::K,a,w,h=>Kq.ret K a w h
 | .o ops is::K,a,w,h=>Kq.ret K a w h
 | .x ops m Ld s L0::K,a,w,h=>Kq.ret K a w h
 | .y ops m Ld s L0 i::K,a,w,h=>Kq.ret K a w h
 | .j J::K,a,w,h=>Kq.ret K a w h
def Lb:List Kt->Bool|[]=>true|.c .ret::_=>true|_=>false
theorem SK{s:Xs}(v:Value)(hs:Lb s.K=true)(hr:Kn B g w s.L->(results fn s.f.act.tmps).run P w=.ok v w)(h:Kn B g w s.L->R (.returned v) w):GG P fn R B T s g w:=by
 refine⟨fun hK=>?_⟩;obtain⟨K,f,L⟩:=s;cases K with
 | nil=>exact⟨rfl,v,hr hK,h hK⟩
 | cons t K =>
  cases t with
  | c x =>
   cases x with
   | ret=>exact wp_ret (Kq.ret K _ _ ⟨rfl,v,hr hK,h hK⟩)
   | _=>cases hs
  | _=>cases hs
def Mr:Nat->List Value->List (Nat × Value)
 | _,[]=>[]
 | i,v::r=>(i,v)::Mr (i+1) r
theorem R8:∀ (l:List Value) (i t:Nat),lk (fun _=>undef) (Mr i l) t=if i<=t then l.getD (t-i) undef else undef
 | [],i,t=>by simp[Mr,lk]
 | v::r,i,t=>by
  unfold Mr lk;cases hb:Nat.beq i t with
  | true=>obtain rfl:=Nat.eq_of_beq_eq_true hb;simp
  | false =>
   have hne:i≠t:=fun he=>by rw[he,Nat.beq_refl]at hb;cases hb
   rw[cond_false,R8 r (i+1) t];by_cases h:i<=t
   .rw[if_pos h,if_pos (by omega),show t-i=(t-(i+1))+1 by omega];simp
   .rw[if_neg h,if_neg (by omega)]
theorem fm{n:Nat}{args:Array Value}(hn:args.size<=n):(⟨n,Mr 0 args.toList,fun _=>undef⟩:Fm).act={ tmps:=args++Array.replicate (n-args.size) undef,defers:=[] }:=by
 unfold Fm.act;simp only[Act.mk.injEq,and_true];apply Array.ext_getElem?;intro i;simp only[List.getElem?_toArray,List.getElem?_map,Array.getElem?_append,Array.getElem?_replicate];by_cases hi:i<n
 .rw[List.getElem?_range hi];simp only[Option.map_some,R8,Nat.zero_le,if_true,Nat.sub_zero];by_cases ha:i<args.size
  .rw[if_pos ha,List.getD_eq_getElem?_getD];simp[ha]
  .rw[if_neg ha,if_pos (by omega),List.getD_eq_getElem?_getD];simp[ha]
 .rw[List.getElem?_eq_none (by simpa using hi),if_neg (by omega),if_neg (by omega)];rfl
def Np(fn:Func):Code:=match fn.body with|some c=>c|none=>.skip
theorem gIn{f:FuncId}{args:Array Value}(T:List Tg)(g:Gh)(hf:P.funcs[f]?=some fn)(hb:fn.body.isSome=true)(hn:Nat.ble args.size fn.ntmps=true)(hg:∀ b,w.heap.size<=b->g.t b=.z/\g.k b=0)(h:GG P fn R w.heap.size T ⟨[.c (Np fn)],⟨fn.ntmps,Mr 0 args.toList,fun _=>undef⟩,[]⟩ g w):Calls P f args w R:=by
 cases hh:fn.body with
 | none=>rw[hh]at hb;cases hb
 | some c =>
  refine calls_of_wp hf hh ?_;have h1:=h.ex ⟨(fun x hx=>absurd hx List.not_mem_nil),List.Pairwise.nil,hg,Nat.le_refl _⟩;simp only[fm (by rw[Nat.ble_eq]at hn;exact hn)]at h1;unfold Np at h1;rw[hh]at h1
  exact h1
theorem gI{f:FuncId}{args:Array Value}(T:List Tg)(g:Gh)(hf:P.funcs[f]?=some fn)(hg:∀ b,w.heap.size<=b->g.t b=.z/\g.k b=0)(h:GG P fn R w.heap.size T ⟨[.c (Np fn)],⟨fn.ntmps,Mr 0 args.toList,fun _=>undef⟩,[]⟩ g w)(hb:fn.body.isSome=true:=by kernel_rfl)(hn:Nat.ble args.size fn.ntmps=true:=by kernel_rfl):Calls P f args w R:=gIn T g hf hb hn hg h
end
section
variable{P:Program}{fn:Func}{R:Ending->World->Prop}{B:Nat}{T:List Tg}{g:Gh}{w:World}
theorem GL{s:Xs}(b:Nat)(o:Obj)(r i:Nat)(h1:w.heap[b]?=some o)(h2:g.t b=.n r i)(h3:g.k b=0)(hT:s.L.all (fun y=>(Tg.n r i).ne y.t)=true)(h:GG P fn R B T ⟨s.K,s.f,Bj s.L++[⟨b,o,.n r i,false⟩]⟩ g w):GG P fn R B T s g w :=
 BF ⟨b,o,.n r i,false⟩ (fun _=>⟨h1,h2,fun h=>(by cases h),fun _=>h3⟩) (by show(true&&(false||_))=true;rw[Bool.false_or,Bool.true_and];exact hT) h
theorem Yb{s:Xs}(i':Nat)(v:Value)(h:Kn B g w s.L->CD P s i' w=some (.ok (.value v) w))(hob:(nxt s i' undef s.L).o.map Ob.l'=(nxt s i' undef s.L).o.map Ob.r')(hk:GG P fn R B T (nxt s i' v s.L).s g w):GG P fn R B T s g w:=by
 refine Ae fun hK=>?_;have h1:=h hK;unfold CD at h1;refine JV i' s.L hob ?_ fun _ ops i o hop=>?_
 .cases hx:opN s i' with
  | none=>rw[hx]at h1;cases h1
  | some x=>rfl
 .rw[hop]at h1
  exact⟨v,w,g,.inl (by simpa using h1),hK,hk⟩
def tkN(s:Xs)(i':Nat)(v:Value)(ld:Bool):Rz:=match s.K with
 | .x ops (u+1) Ld e L0::K=>match ops[i']? with
  | some o=>⟨⟨.x ops u (Ld.setIfInBounds i' true) e L0::K,s.f.put o.dst v,s.L⟩,[.b (s.f.wants ops o),.b (tkB ops Ld e i' ld&&o.dst.isSome&&(!ld||!Ld.getD e false)),.l (cond (Ld.getD e false) [] L0) (cond (Ld.getD e false) [] (Bj (s.L.take L0.length)))]⟩
  | none=>⟨s,[.b false]⟩
 | _=>⟨s,[.b false]⟩
def W7(s:Xs):List Sh:=match s.K with|.x _ _ _ _ L0::_=>L0|_=>[]
theorem NW{s:Xs}(i':Nat)(v:Value)(ld:Bool)(h:∀ W,(ld=true->AJ (W7 s) W)->CD P s i' W=some (.ok (.value v) W))(hob:(tkN s i' undef ld).o.map Ob.l'=(tkN s i' undef ld).o.map Ob.r')(hk:GG P fn R B T (tkN s i' v ld).s g w):GG P fn R B T s g w:=by
 refine⟨fun hK=>?_⟩;obtain⟨K,f,L⟩:=s;have hall:=Ob.all hob;have hk':=hk.ex;unfold tkN at hall hk';unfold CD opN W7 at h;cases K with
 | nil=>exact absurd (hall _ (List.mem_cons_self ..)) (by simp[Ob.ok])
 | cons t K =>
  cases t with
  | x ops u Ld e L0 =>
   cases u with
   | zero=>exact absurd (hall _ (List.mem_cons_self ..)) (by simp[Ob.ok])
   | succ u =>
    simp only at hall hk' h;cases ho:ops[i']? with
    | none=>rw[ho]at hall;exact absurd (hall _ (List.mem_cons_self ..)) (by simp[Ob.ok])
    | some o =>
     simp only[ho,Option.map_some,Option.some.injEq]at hall hk' h;have hw:=hall _ (List.mem_cons_self ..);have h1:=hall _ (List.mem_cons_of_mem _ (List.mem_cons_self ..));have h2:=hall _ (List.mem_cons_of_mem _ (List.mem_cons_of_mem _ (List.mem_cons_self ..)));simp only[Ob.ok,Bool.and_eq_true]at hw h1 h2;obtain⟨⟨h1,h1d⟩,h1e⟩:=h1;have hw':Region.wanted o (yielded ops f.act.tmps)=true:=by rw[f.wanted];exact hw
     have hS:Sx [(e,AJ L0)] Ld w:=TE (ops:=ops) hK.rows h2;have hrest:=hk' hK;simp only[Fm.act_put]at hrest;have hQ:∀ c a d v w,Kq P (bodyPost P fn R) K (.panic c) (a.put (some d) v) w->Kq P (bodyPost P fn R) K (.panic c) a w:=fun c a d v w=>Kq.panic K c a (some d) v w;cases hdd:o.dst with
     | none=>rw[hdd]at h1d;cases h1d
     | some d =>
      rw[hdd]at hrest
      unfold tkB at h1;simp only[Bool.and_eq_true]at h1;obtain⟨ns,⟨⟨⟨⟨t1,t2⟩,t3⟩,t4⟩,t5⟩⟩:=h1;have hgot:∀ W,(ld=true->AJ L0 W)->got P ops f.act W i'=some (some d,v,W):=fun W hW=>by
       unfold got;simp only[ho,hw',if_true,f.eval,h W hW,hdd]
      cases ld with
      | false =>
       rw[cond_false]at t5
       refine xB0 u [i'] [(d,v)] (fun W=>?_) ns ?_ rfl rfl hQ hS hrest
       .simp only[PW,wants,List.map_cons,List.map_nil,hgot W (fun h=>by cases h)]
       .simp only[KG,List.map_cons,List.map_nil,List.all_cons,List.all_nil,Bool.and_true,Bool.and_eq_true];exact⟨⟨⟨⟨t1,t2⟩,t3⟩,t4⟩,t5⟩
      | true =>
       rw[cond_true]at t5
       have hef:Ld.getD e false=false:=by simpa using h1e
       refine xC0 u i' d (UW ops i') v (fun W hW=>hgot W (fun _=>hW)) (hS.1 hef) ns ?_ rfl hQ hS hrest;simp only[List.map_cons,List.map_nil,List.all_cons,List.all_nil,Bool.and_true,Bool.and_eq_true]at t5 ⊢;exact⟨⟨⟨⟨t1,t2⟩,t3⟩,t4⟩,t5⟩
  | _=>exact absurd (hall _ (List.mem_cons_self ..)) (by simp[Ob.ok])
def NF(s:Xs):Value:=match s.K with|.c (.cond c _ _)::_=>s.f.ev c|_=>undef
def JJ(s:Xs)(t:Bool):Xs:=match s.K with|.c (.cond _ x y)::K=>⟨.c (cond t x y)::K,s.f,s.L⟩|_=>s
theorem gIf{s:Xs}(b t:Bool)(hb:b=t)(hc:NF s=.bool b)(h:GG P fn R B T (JJ s t) g w):GG P fn R B T s g w:=by
 subst hb;refine⟨fun hK=>?_⟩;obtain⟨K,f,L⟩:=s;unfold NF at hc;have h':=h.ex;unfold JJ at h';cases K with
 | nil=>cases hc
 | cons t K =>
  cases t with
  | c x =>
   cases x with
   | cond c x y =>
    simp only at hc h';have h1:=h' hK;refine wp_cond (t:=b) (by rw[f.eval];exact hc) ?_;cases b<;>exact h1
   | _=>cases hc
  | _=>cases hc
theorem VE{p:Nat->Prop}:∀ k,p k->∃ m,p m/\∀ j,p j->m<=j:=by
 intro k;induction k using Nat.strongRecOn with
 | _ k ih =>
  intro hk;by_cases h:∃ j,j<k/\p j
  .obtain⟨j,hj,hp⟩:=h;exact ih j hj hp
  .exact⟨k,hk,fun j hj=>Nat.le_of_not_lt fun hl=>h ⟨j,hl,hj⟩⟩
theorem dV{c:Code}{Q:Exit->Act->World->Prop}(Inv:Nat->Act->World->Prop)(round:∀ k a w,Inv k a w->c.wp P (Exit.then (fun a' w'=>∃ k',k'<k/\Inv k' a' w') Q) a w)(k:Nat)(a:Act)(w:World)(h:Inv k a w):(Code.loop c).wp P Q a w:=by
 classical
 have hl:∀ a w,(∃ k,Inv k a w)->∃ m,Inv m a w/\∀ j,Inv j a w->m<=j:=fun a w ⟨k,hk⟩=>VE k hk
 let μ:Act->World->Nat:=fun a w=>if h:∃ k,Inv k a w then Classical.choose (hl a w h)else 0
 refine wp_loop (fun a w=>∃ k,Inv k a w) μ ⟨k,h⟩ fun a w hI=>?_;have hμ:μ a w=Classical.choose (hl a w hI):=dif_pos hI;refine wp_mono (round _ a w (Classical.choose_spec (hl a w hI)).1) fun e a' w' hq=>?_;cases e with
 | normal =>
  obtain⟨k',hlt,hk'⟩:=hq;refine⟨⟨k',hk'⟩,?_⟩;have hI':∃ k,Inv k a' w':=⟨k',hk'⟩;have hμ':μ a' w'=Classical.choose (hl a' w' hI'):=dif_pos hI';show μ a' w'<μ a w;rw[hμ,hμ'];exact Nat.lt_of_le_of_lt ((Classical.choose_spec (hl a' w' hI')).2 k' hk') hlt
 | _=>exact hq
theorem dL{K:List Kt}{body:Code}{n:Nat}(Inv:Nat->Gh->World->List (Nat × Value)->List Sh->Prop)
  (round:∀ k g w e z L,Inv k g w e L->∀ J:Act->World->Prop,(∀ k' g' w' e' z' L',k'<k->Inv k' g' w' e' L'->Kn B g' w' L'->J (⟨n,e',z'⟩:Fm).act w')->GG P fn R B T ⟨.c body::.j J::K,⟨n,e,z⟩,L⟩ g w)
  {k:Nat}{e:List (Nat × Value)}{z:Nat->Value}{L:List Sh}(h:Inv k g w e L):GG P fn R B T ⟨.c (.loop body)::K,⟨n,e,z⟩,L⟩ g w:=by
 refine⟨fun hK=>?_⟩;refine dV (fun k a w=>∃ g e z L,Inv k g w e L/\Kn B g w L/\a=(⟨n,e,z⟩:Fm).act) (fun k a w hI=>?_) k _ w ⟨g,e,z,L,h,hK,rfl⟩;obtain⟨g,e,z,L,hI,hK,rfl⟩:=hI;exact(round k g w e z L hI (fun a' w'=>∃ k',k'<k/\∃ g e z L,Inv k' g w' e L/\Kn B g w' L/\a'=(⟨n,e,z⟩:Fm).act) (fun k' g' w' e' z' L' hlt hI' hK'=>⟨k',hlt,g',e',z',L',hI',hK',rfl⟩)).ex hK
end
structure S3 where
 a:Option Addr
 n:Nat
 c:Nat
abbrev S3.v(x:S3):Value:=.slice x.a x.n x.c
def s30:S3:=⟨none,0,0⟩
def Hu(g:Gh)(w:World):Prop:=∀ b,w.heap.size<=b->g.t b=.z/\g.k b=0
structure OwnS(g:Gh)(w:World)(τ:Tg)(kp:Bool)(e:TypeId)(sz:Nat)(x:S3)(xs:List Value):Prop where
 len:xs.length=x.n*sz
 ex:(x.a=none/\x.n=0/\x.c=0)\/∃ b cur,x.a=some ⟨b,0,none⟩/\w.heap[b]?=some (.cells cur e (0,0))/\x.n<=x.c/\x.c<=maxLen/\cur.size=x.c*sz/\cur.toList.take (x.n*sz)=xs/\g.t b=τ/\g.k b=(if kp then xs.length else 0)
theorem OwnS.nil(g:Gh)(w:World)(τ:Tg)(kp:Bool)(e:TypeId)(sz:Nat):OwnS g w τ kp e sz s30 []:=⟨by simp[s30],.inl ⟨rfl,rfl,rfl⟩⟩
theorem OwnS.ch{B:Nat}{T:List Tg}{g g':Gh}{w w':World}{τ:Tg}{kp:Bool}{e:TypeId}{sz:Nat}{x:S3}{xs:List Value}(h:OwnS g w τ kp e sz x xs)(c:Cg B T g w g' w')(hτ:τ∉T:=by simp)(hl:τ≠.l:=by simp):OwnS g' w' τ kp e sz x xs:=by
 refine⟨h.len,?_⟩;rcases h.ex with h1|⟨b,cur,h1,h2,h3,h4,h5,h6,h7,h8⟩
 .exact .inl h1
 .have hb:=rl h2;exact .inr ⟨b,cur,h1,(c.same b hb (by rw[h7];exact hτ) (by rw[h7];exact fun h=>absurd h hl)).trans h2,h3,h4,h5,h6,(c.tag hb (by rw[h7];exact fun h=>absurd h hl)).trans h7,by rw[c.kat b hb (by rw[h7];exact hτ) (by rw[h7];exact fun h=>absurd h hl)];exact h8⟩
theorem OwnS.cell{g:Gh}{w:World}{τ:Tg}{kp:Bool}{e:TypeId}{sz:Nat}{x:S3}{xs:List Value}(h:OwnS g w τ kp e sz x xs){j:Nat}{u:Value}(hj:xs[j]?=some u):∃ b,x.a=some ⟨b,0,none⟩/\b<w.heap.size/\w.cell? ⟨b,j,none⟩=some u:=by
 have hlt:j<xs.length:=(List.getElem?_eq_some_iff.1 hj).1;rcases h.ex with⟨h1,h2,h3⟩|⟨b,cur,h1,h2,h3,h4,h5,h6,h7,h8⟩
 .rw[h.len,h2]at hlt;omega
 .refine⟨b,h1,rl h2,?_⟩;rw[cell_of_row _ _ _ _ _ _ h2];rw[<- h6,List.getElem?_take]at hj
  split at hj
  .simpa using hj
  .cases hj
section
variable{P:Program}{B:Nat}{T:List Tg}{g:Gh}{w:World}
def M1(g:Gh)(w:World)(τ:Tg)(k:Nat):Gh:=⟨fun b=>if b=w.heap.size then τ else g.t b,fun b=>if b=w.heap.size then k else g.k b⟩
def dK(g:Gh)(b k:Nat):Gh:=⟨g.t,fun c=>if c=b then k else g.k c⟩
theorem fh{τ:Tg}{kp:Bool}{x:S3}{xs:List Value}(t ty e:TypeId)(sz bytes:Nat)(z:Value)(ht:P.underlying t=some (.slice e))(hinfo:(P.info? e).map (fun i=>(i.zero,i.size,i.bytes))=some (some z,sz,bytes))(hzs:z.cells.size=sz)(hsz:0<sz)
  (hτ:τ∈T)(hx:OwnS g w τ kp e sz x xs)(hg:Hu g w)(a:Addr)(m c:Nat)(news:List Value)(hm:0<m)(hl:news.length=m*sz)(hnews:∀ j u,news[j]?=some u->w.cell? (a.add j)=some u)(h1:∀ u∈news,u.oneCell'=true)
  (h63:x.n+m<=maxLen)(hbytes:(x.n+m)*bytes<=140737488355328) :
  ∃ x' w' g',(Builtin.append_ #[t,t] ty #[x.v,.slice (some a) m c]).run P w=.ok (S3.v x') w'/\OwnS g' w' τ kp e sz x' (xs++news)/\x'.n=x.n+m/\Cg B T g w g' w'/\Hu g' w':=by
 obtain⟨i,hi,hz,hs,hby⟩:∃ i,P.info? e=some i/\i.zero=some z/\i.size=sz/\i.bytes=bytes:=by
  cases hh:P.info? e with
  | none=>rw[hh]at hinfo;cases hinfo
  | some i=>rw[hh]at hinfo;simp only[Option.map_some,Option.some.injEq,Prod.mk.injEq]at hinfo;exact⟨i,rfl,hinfo.1,hinfo.2.1,hinfo.2.2⟩
 subst hs;subst hby
 obtain⟨xa,xn,xc⟩:=x;have hlen:(xs++news).length=(xn+m)*i.size:=by rw[List.length_append,hx.len,hl,Nat.add_mul]
 have hmx:xn+m<=9223372036854775807:=by simp only[maxLen]at h63;show xn+m<=_;omega
 have grown:∀ old,old<xn+m->∃ x' g',S3.v x'=.slice (some ⟨w.heap.size,0,none⟩) (xn+m) (grownCap w (xn+m) old e)/\OwnS g' (w.drew.alloc (.cells (xs.toArray++news.toArray++Builtin.zeroCells z.cells (grownCap w (xn+m) old e-(xn+m))) e)) τ kp e i.size x' (xs++news)/\x'.n=xn+m /\
   Cg B T g w g' (w.drew.alloc (.cells (xs.toArray++news.toArray++Builtin.zeroCells z.cells (grownCap w (xn+m) old e-(xn+m))) e))/\Hu g' (w.drew.alloc (.cells (xs.toArray++news.toArray++Builtin.zeroCells z.cells (grownCap w (xn+m) old e-(xn+m))) e)):=by
  intro old ho;have hge:=grownCap_ge w (xn+m) old e;have hcm:grownCap w (xn+m) old e<=maxLen:=grownCap_le_maxLen w (xn+m) old e h63;refine⟨⟨some ⟨w.heap.size,0,none⟩,xn+m,grownCap w (xn+m) old e⟩,M1 g w τ (if kp then(xs++news).length else 0),rfl,⟨hlen,.inr ⟨w.heap.size,_,rfl,heap_alloc_new w.drew _,hge,hcm,?_,?_,if_pos rfl,if_pos rfl⟩⟩,rfl,⟨rfl,rfl,rfl,by simp,fun b hb=>.inl (if_neg (by omega)),fun b hb=>?_,fun b hb _ _=>if_neg (by omega),fun b hb _ _=>heap_alloc_old w.drew _ hb,fun b hb j hj=>World.cell?_of_block (w:=w) (heap_alloc_old w.drew _ hb)⟩,fun b hb=>?_⟩
  .simp only[Array.size_append,List.size_toArray,size_zeroCells,hzs,hx.len,hl,<- Nat.add_mul]
   congr 1
   omega
  .simp only[Array.toList_append,List.append_assoc];rw[<- List.append_assoc,<- hlen];exact List.take_left
  .show _<=(if b=w.heap.size then _ else g.k b);rw[if_neg (by omega)];exact Nat.le_refl _
  .have hb':w.heap.size+1<=b:=by simpa using hb
   show(if b=w.heap.size then τ else g.t b)=.z/\(if b=w.heap.size then _ else g.k b)=0;rw[if_neg (by omega),if_neg (by omega)];exact hg b (by omega)
 rcases hx.ex with⟨h2,h3,h4⟩|⟨b,cur,h2,h3,h4,h5,h6,h7,h8,h9⟩
 .simp only at h2 h3 h4;subst h2 h3 h4;have hxs:xs=[]:=List.eq_nil_of_length_eq_zero (by simpa using hx.len);subst hxs;have hr:=run_append_nil (P:=P) w t ty e i z ht hi hz a m c news hl hnews (by omega) (by omega) (by have hb:=hbytes;simp only[Nat.zero_add]at hb;omega);obtain⟨x',g',hv,hrest⟩:=grown 0 (by omega);simp only[Nat.zero_add,List.nil_append,Array.empty_append]at hv hrest ⊢;exact⟨x',_,g',by rw[hv];exact hr,hrest⟩
 .simp only at h2 h4 h5 h6 h7;subst h2;by_cases hroom:xn+m<=xc
  .have hfit:xn*i.size+news.length<=cur.size:=by rw[hl,h6,<- Nat.add_mul];exact Nat.mul_le_mul_right _ hroom
   have hr:=run_append_room (P:=P) w t ty e i ht hi b xn xc cur h3 a m c news hl hnews h1 hroom hfit;refine⟨⟨some ⟨b,0,none⟩,xn+m,xc⟩,_,dK g b (if kp then(xs++news).length else 0),hr,⟨hlen,.inr ⟨b,_,rfl,setRow_heap w b cur _ e _ h3,hroom,h5,?_,?_,h8,if_pos rfl⟩⟩,rfl,⟨rfl,rfl,rfl,by simp,fun _ _=>.inl rfl,fun d hd=>?_,fun d hd hd1 _=>if_neg (fun e=>hd1 (by rw[e,h8];exact hτ)),fun d hd hd1 _=>setRow_other w b d _ (fun e=>hd1 (by rw[e,h8];exact hτ)),fun d hd j hj=>?_⟩,fun d hd=>?_⟩
   .simp only[List.size_toArray,List.length_append,List.length_take,List.length_drop,Array.length_toList];omega
   .rw[h7,<- hlen];exact List.take_left
   .show g.k d<=(if d=b then _ else g.k d);split
    .rename_i he;rw[he,h9];cases kp<;>simp
    .exact Nat.le_refl _
   .by_cases he:d=b
    .subst he;rw[h9]at hj
     cases kp with
     | false=>simp at hj
     | true =>
      simp only[if_true]at hj;rw[cell_of_row _ _ _ _ _ _ (setRow_heap w d cur _ e _ h3),cell_of_row _ _ _ _ _ _ h3];simp only[List.getElem?_toArray,h7];rw[List.append_assoc,List.getElem?_append_left hj,<- h7,List.getElem?_take,if_pos (by have:=hx.len;simp only at this;omega)];simp
    .exact World.cell?_of_block (w:=w) (setRow_other w b d _ he)
   .have hd':w.heap.size<=d:=by simpa using hd
    show g.t d=.z/\(if d=b then _ else g.k d)=0;have:=rl h3;rw[if_neg (by omega)];exact hg d hd'
  .have holds:∀ j u,xs[j]?=some u->w.cell? ((⟨b,0,none⟩:Addr).add j)=some u:=fun j u hj=>by
    obtain⟨b',hb',_,hc⟩:=hx.cell hj;simp only[Option.some.injEq,Addr.mk.injEq,and_true]at hb';subst hb';have:(⟨b,0,none⟩:Addr).add j=⟨b,j,none⟩:=by unfold Addr.add;split<;>simp_all
    rw[this];exact hc
   have hr:=run_append_grow (P:=P) w t ty e i z ht hi hz ⟨b,0,none⟩ xn xc xs hx.len holds a m c news hl hnews (by omega) (by omega) (growslice_fits (by omega) hbytes);obtain⟨x',g',hv,hrest⟩:=grown xc (by omega);exact⟨x',_,g',by rw[hv];exact hr,hrest⟩
end
section
variable{P:Program}{fn:Func}{R:Ending->World->Prop}{B:Nat}{T:List Tg}{g:Gh}{w:World}
theorem Kn.at{L:List Sh}(h:Kn B g w L)(k:Nat){x:Sh}(hx:L[k]?=some x):w.heap[x.g]?=some x.o:=(h.row x (List.mem_of_getElem? hx)).1
theorem Kn.ats{L:List Sh}(h:Kn B g w L)(k b:Nat)(cs:Array Value)(e:TypeId)(t:Tg)(v:Bool)(hx:L[k]?=some ⟨b,.cells cs e,t,v⟩):w.heap[b]?=some (.cells cs e):=h.at k hx
theorem Kn.isN{L:List Sh}(h:Kn B g w L)(k b:Nat)(o:Obj)(r i:Nat)(hx:L[k]?=some ⟨b,o,.n r i,false⟩):w.heap[b]?=some o/\g.t b=.n r i/\g.k b=0 :=
 have h1:=h.row _ (List.mem_of_getElem? hx)
 ⟨h1.1,h1.2.1,h1.2.2.2 (by simp)⟩
theorem Kn.isZ{L:List Sh}(h:Kn B g w L)(k b:Nat)(o:Obj)(v:Bool)(hx:L[k]?=some ⟨b,o,.z,v⟩):w.heap[b]?=some o/\g.t b=.z :=
 have h1:=h.row _ (List.mem_of_getElem? hx)
 ⟨h1.1,h1.2.1⟩
theorem BW{L:List Sh}(h:Kn B g w L)(k b:Nat)(news:List Value)(e:TypeId)(t:Tg)(v:Bool)(hx:L[k]?=some ⟨b,.cells news.toArray e,t,v⟩):∀ j u,news[j]?=some u->w.cell? ((⟨b,0,none⟩:Addr).add j)=some u:=by
 intro j u hj;have h1:=h.at k hx;have:(⟨b,0,none⟩:Addr).add j=⟨b,j,none⟩:=by unfold Addr.add;split<;>simp_all
 rw[this,cell_of_row _ _ _ _ _ _ h1];simpa using hj
def CK(s:Xs)(i':Nat):Option (Sem Next):=(opN s i').map fun x=>execOp s.f.ev x.2.2
theorem CO{s:Xs}{i':Nat}{S:Sem Next}(h:CK s i'=some S){ops:Array Oper}{i:Nat}{o:Oper}(ho:opN s i'=some (ops,i,o)):execOp s.f.ev o=S:=by
 unfold CK at h;rw[ho]at h
 simpa using h
theorem BC{s:Xs}{i':Nat}{S:Sem Next}(h:CK s i'=some S):(opN s i').isSome=true:=by
 unfold CK at h;cases hx:opN s i' with
 | none=>rw[hx]at h;cases h
 | some x=>rfl
theorem Jd{s:Xs}(i':Nat){τ:Tg}{kp:Bool}{x:S3}{xs:List Value}(t ty e:TypeId)(sz bytes:Nat)(z:Value)(a:Addr)(m c:Nat)(news:List Value)(hx:OwnS g w τ kp e sz x xs)
  (hsem:CK s i'=some (Builtin.append_ #[t,t] ty #[x.v,.slice (some a) m c]>>=fun v=>pure (.value v)))(hob:(nxt s i' undef s.L).o.map Ob.l'=(nxt s i' undef s.L).o.map Ob.r')(hT:s.L.all (fun y=>[τ].all fun t=>y.t.ne t)=true)
  (ht:P.underlying t=some (.slice e))(hinfo:(P.info? e).map (fun i=>(i.zero,i.size,i.bytes))=some (some z,sz,bytes))(hzs:Nat.beq z.cells.size sz=true)(hsz:0<sz)(hm:0<m)(hl:news.length=m*sz)(h1:∀ u∈news,u.oneCell'=true)
  (hnews:Kn B g w s.L->∀ j u,news[j]?=some u->w.cell? (a.add j)=some u)(h63:x.n+m<=maxLen)(hbytes:(x.n+m)*bytes<=140737488355328)
  (hk:∀ x' g' w',OwnS g' w' τ kp e sz x' (xs++news)->x'.n=x.n+m->(∀ B T,τ∈T->Cg B T g w g' w')->Hu g' w'->GG P fn R B T (nxt s i' (S3.v x') s.L).s g' w'):GG P fn R B T s g w:=by
 refine JV i' s.L hob (BC hsem) fun hK ops i o hop=>?_;obtain⟨x',w',g',hr,h2,h3,h4,h5⟩:=fh (P:=P) (B:=w.heap.size) (T:=[τ]) t ty e sz bytes z ht hinfo (Nat.eq_of_beq_eq_true hzs) hsz (List.mem_singleton.2 rfl) hx hK.new a m c news hm hl (hnews hK) h1 h63 hbytes;refine⟨x'.v,w',g',.inl ?_,hK.ch h4 h5 hT,hk x' g' w' h2 h3 (fun B T hT=>(h4.ret (B:=B)).mono fun t ht=>by rw[List.mem_singleton.1 ht];exact hT) h5⟩;rw[CO hsem hop,Sem.run_bind,hr,Result.andThen_ok];rfl
end
end
end Go.Proofs.YtalbmmghmoggcaaGreatDoor
