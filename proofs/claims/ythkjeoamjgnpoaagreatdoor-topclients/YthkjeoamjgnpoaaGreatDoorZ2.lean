/- Part 2 of the walk. -/
import Derived.OrdersHeld
import Derived.Laws.AppendOwn
import Derived.Test.YthkjeoamjgnpoaaGreatDoorZ1
set_option maxRecDepth 100000
set_option maxHeartbeats 4000000
open Go.Proofs.Tryz
set_option linter.unusedVariables false
namespace Go.Proofs.YthkjeoamjgnpoaaGreatDoor
section
open Go.RowKit
section
theorem MD(x:BitVec 32)(h:uw x<256):uw x*16777216=uw (x <<< 24)/\uw x*65536=uw (x <<< 16)/\uw x*256=uw (x <<< 8):=by
 have d:=El x;have b:=GQ x 24;have a:=GQ x 16;have c:=GQ x 8;rw[<- b,<- a,<- c];refine⟨?_,?_,?_⟩
 .rw[show(2:Int)^24=16777216 from rfl];omega
 .rw[show(2:Int)^16=65536 from rfl];omega
 .rw[show(2:Int)^8=256 from rfl];omega
variable{g:Nat}{w:World}{ws:List (BitVec 32)}
theorem BQ{B:Nat}{a:World}(h:Below B a w){g:Nat}(c:B<=g)(b:Array Value):Below B a (w.setRow g b) :=
 h.trans ⟨rfl,rfl,rfl,by simp,λk d=>setRow_other w g k b (by omega)⟩
theorem WZ(x:BitVec 32):bits .xor .u32 (bits .xor .u32 (uw (x.rotateRight 7)) (uw (x.rotateRight 18))) (uw x/8)=uw (jw x):=by rw[fI,DJ,DJ];rfl
theorem Xa(x:BitVec 32):bits .xor .u32 (bits .xor .u32 (uw (x.rotateRight 17)) (uw (x.rotateRight 19))) (uw x/1024)=uw (jx x):=by rw[bQ,DJ,DJ];rfl
theorem NO(h:w.heap[g]?=some (.cells (AB ws) 196 (0,0)))(k:Nat)(x:BitVec 32) :
  (w.setCell ⟨g,k,none⟩ (.int .u32 (uw x))).heap[g]?=some (.cells (AB (ws.set k x)) 196 (0,0)):=by
 rw[heap_setCell_same _ _ _ _ _ _ h,Nd]
theorem PF(v:Value)(l:List Int)(w:World)(h:Sl w v l)(t:l.length=64) :
  Calls prog 112 #[v] w λe w'=>e=.returned (.agg (AB (OF l)))/\Bw w w':=by
 obtain⟨⟨a,Q,rfl,S,V,R⟩,D,g⟩:=h;rcases R with rfl|⟨b,off,rfl,hb,hcell⟩
 .simp at t
 rw[t]at S D hcell ⊢
 have Y:Hid (l.length=64):=t;have q:Hid (∀ i,i<64->w.cell? ⟨b,off+i,none⟩=some (.int .u8 (uw (CI (l.getD i 0))))):=λi C=>by rw[Lh _ (Ak g i)];exact hcell i C
 have o:Hid (∀ i,uw (CI (l.getD i 0))<256):=λi=>by rw[Lh _ (Ak g i)];exact(Ak g i).2
 clear t V hcell g;go_enter func112,ntmps112
 go_wp2_with fail
 go_loopw [10] (λi wr=>∃ k:Nat,k<=16/\i=.int .i64 k/\wr.heap[w.heap.size+1]?=some (.cells (AB (KN l k)) 196 (0,0))/\wr.heap[w.heap.size]?=some (.cells (AB (KN l 0)) 196 (0,0))/\Bw w wr) (λi _=>16-(intOf i).toNat)
 case atStart=>exact⟨0,by omega,rfl,heap_alloc2_new _ _ _,heap_alloc2_old _ _ _,((Below.refl _ _).alloc (A' _) _).alloc (by simp) _⟩
 case round =>
  obtain⟨k,U,rfl,f,m,c⟩:=hrel;by_cases I:k<16
  .have hz:=BY (KN l k) k (by rw[GH];omega);have T:wr.cell? ⟨w.heap.size+1,k,none⟩=some (.int .u32 (uw ((KN l k).getD k 0#32))):=(cell_of_row wr _ k _ _ _ f).trans hz;have B:wr.frozen? ⟨w.heap.size+1,k,none⟩=false:=frozen_of_row wr _ k _ _ f;have E:=(c.cell (p:=⟨b,off+(4*k),none⟩) hb).trans (q.out (4*k) (by omega));have N:=(c.cell (p:=⟨b,off+(4*k+1),none⟩) hb).trans (q.out (4*k+1) (by omega));have A:=(c.cell (p:=⟨b,off+(4*k+2),none⟩) hb).trans (q.out (4*k+2) (by omega));have O:=(c.cell (p:=⟨b,off+(4*k+3),none⟩) hb).trans (q.out (4*k+3) (by omega));have K:=o.out (4*k);have L:=o.out (4*k+1);have M:=o.out (4*k+2);have W:=o.out (4*k+3);obtain⟨u,j,d⟩:∃ u,Hid (u=Ul l k)/\Hid (KN l (k+1)=(KN l k).set k u):=⟨_,rfl,rfl⟩;unfold Ul at j;generalize CI (l.getD (4*k) 0)=x0 at E K j;generalize CI (l.getD (4*k+1) 0)=x1 at N L j;generalize CI (l.getD (4*k+2) 0)=x2 at A M j;generalize CI (l.getD (4*k+3) 0)=x3 at O W j;obtain⟨y0,s0,F⟩:∃ y,uw x0*16777216=uw y/\x0 <<< 24=y:=⟨_,(MD x0 K).1,rfl⟩;obtain⟨y1,s1,G⟩:∃ y,uw x1*65536=uw y/\x1 <<< 16=y:=⟨_,(MD x1 L).2.1,rfl⟩;obtain⟨y2,s2,H⟩:∃ y,uw x2*256=uw y/\x2 <<< 8=y:=⟨_,(MD x2 M).2.2,rfl⟩;rw[F,G,H]at j
   clear F G H;have z0:=El x0;have z1:=El x1;have z2:=El x2;have z3:=El x3;clear hz;go_wp2_with fail
   refine Av 35 (by kernel_rfl) (by kernel_rfl) ?_;simp only[oB,oI,oL,pm]
   repeat (go_big_quiet_step (fail))
   refine wpQuiet_nil ?_;go_wp2
   rw[K5,K5,K5,<- j.out];go_roundw
   case rel=>exact⟨k+1,by omega,by go_num,by rw[d.out];exact NO f k u,(heap_setCell_other _ _ _ _ (by simp)).trans m,(c.setCell (by simp) _).drew⟩
   case measure=>simp[intOf];omega
  .have HK:Hid (k=16):=by unfold Hid;omega
   clear q o;go_wp2_with fail
   go_loopw [5] (λi wr=>∃ k:Nat,k<=48/\i=.int .i64 (16+(k:Int))/\wr.heap[w.heap.size+1]?=some (.cells (AB (Gi l k)) 196 (0,0))/\wr.heap[w.heap.size]?=some (.cells (AB (KN l 0)) 196 (0,0))/\Bw w wr) (λi _=>64-(intOf i).toNat)
   case atStart=>exact⟨0,by omega,rfl,by rw[HK.out]at f;exact f,m,c⟩
   case round =>
    clear f m c HK;obtain⟨k,U,rfl,f,m,c⟩:=hrel;by_cases J:k<48
    .have hcell:∀ i,i<64->wr.cell? ⟨w.heap.size+1,i,none⟩=some (.int .u32 (uw ((Gi l k).getD i 0#32))):=λi C=>(cell_of_row wr _ i _ _ _ f).trans (BY (Gi l k) i (by rw[EV];exact C));have z:=hcell k (by omega);have x:=hcell (16+k-15) (by omega);have P:=hcell (16+k-7) (by omega);have A:=hcell (16+k-2) (by omega);have E:=hcell (16+k) (by omega);have B:wr.frozen? ⟨w.heap.size+1,16+k,none⟩=false:=frozen_of_row wr _ (16+k) _ _ f;have d:Hid (Gi l (k+1)=(Gi l k).set (16+k) (ZD (Gi l k) (16+k))):=rfl;unfold ZD at d;have r:16+k-16=k:=by omega
     rw[r]at d
     generalize (Gi l k).getD k 0#32=x16 at z d;generalize (Gi l k).getD (16+k-15) 0#32=x15 at x d;generalize (Gi l k).getD (16+k-7) 0#32=x7 at P d;generalize (Gi l k).getD (16+k-2) 0#32=x2 at A d;clear hcell r;have X:=El x15;have Z:=El x2;go_wp2_with fail
     go_quiet (fail)
     go_wp2_with (go_at_call 148;refine(My _ _ _ (by omega) (by omega)).mono ?_;rintro e w' ⟨rfl,rfl⟩)
     rw[WZ,Xa];generalize jw x15=t0 at d;generalize jx x2=t1 at d;refine Av 15 (by kernel_rfl) (by kernel_rfl) ?_;simp only[oB,oI,oL,pm]
     repeat (go_big_quiet_step (fail))
     refine wpQuiet_nil ?_;go_wp2
     go_roundw
     case rel =>
      rw[Vs];exact⟨k+1,by omega,by go_num,by rw[d.out];exact NO (w:=wr.drewN (nq+1)) f (16+k) _,(heap_setCell_other _ _ _ _ (by simp)).trans m,(Ar c _).setCell (by simp) _⟩
     case measure=>simp[intOf];omega
    .have HK:Hid (k=48):=by unfold Hid;omega
     have n:(prog.info? 196).map (·.size)=some (AB (Gi l k)).size:=by rw[Bm,EV];kernel_rfl
     have s:(AB (Gi l k)).all (·.oneCell')=true:=by simp[AB,Value.oneCell']
     go_wp2_with (first|(refine wpList_load_row rfl 196 _ rfl (w.heap.size+1) rfl 196 _ (0,0) _ f underlying196 rfl n ?_)|(refine wpList_store_row rfl 196 _ _ rfl w.heap.size _ rfl rfl 196 _ m n (by rw[Bm,Bm,GH,EV]) s ?_))
     refine bodyPost_ret (v:=.agg (AB (Gi l k))) (results_cell_row rfl _ _ w.heap.size 196 _ (0,0) _ rfl (setRow_heap wr w.heap.size _ _ 196 _ m) underlying196 rfl n) rfl ⟨by rw[HK.out];rfl,BQ c (A' _) _⟩
def AD(w:World):Prop:=3<w.heap.size/\∀ i,i<64->w.cell? ⟨3,i,none⟩=some (.int .u32 (uw (kAt i)))
theorem AD.af{b:World}(h:AD w)(a:Bw w b):AD b :=
 ⟨X' h.1 a.size,λi c=>(a.cell (p:=⟨3,i,none⟩) h.1).trans (h.2 i c)⟩
theorem fG(x:BitVec 32):bits .xor .u32 IntKind.u32.max (uw x)=uw (~~~x):=by
 have e:IntKind.u32.max=uw (BitVec.allOnes 32):=rfl;rw[e,DJ,Uh,BitVec.allOnes_xor]
theorem Qg(e f g:BitVec 32):bits .xor .u32 (bits .and .u32 (uw e) (uw f)) (bits .and .u32 (bits .xor .u32 IntKind.u32.max (uw e)) (uw g))=uw (Sb e f g):=by
 rw[fG,Na,Na,DJ];rfl
theorem Wy(a b c:BitVec 32):bits .xor .u32 (bits .xor .u32 (bits .and .u32 (uw a) (uw b)) (bits .and .u32 (uw a) (uw c))) (bits .and .u32 (uw b) (uw c))=uw (iM a b c):=by
 rw[Na,Na,Na,DJ,DJ];rfl
theorem VD(x:BitVec 32):bits .xor .u32 (bits .xor .u32 (uw (x.rotateRight 6)) (uw (x.rotateRight 11))) (uw (x.rotateRight 25))=uw (jY x):=by
 rw[DJ,DJ];rfl
theorem VC(x:BitVec 32):bits .xor .u32 (bits .xor .u32 (uw (x.rotateRight 2)) (uw (x.rotateRight 13))) (uw (x.rotateRight 22))=uw (jX x):=by
 rw[DJ,DJ];rfl
theorem fE(s:St)(k w:BitVec 32):((uw s.h+bits .xor .u32 (bits .xor .u32 (uw (s.e.rotateRight 6)) (uw (s.e.rotateRight 11))) (uw (s.e.rotateRight 25))+uw (Sb s.e s.f s.g)+uw k)%(4294967296:Int)+uw w)%(4294967296:Int)=uw (upS s k w):=by
 rw[VD,Vs,D3];rfl
theorem VO(s:St):(bits .xor .u32 (bits .xor .u32 (uw (s.a.rotateRight 2)) (uw (s.a.rotateRight 13))) (uw (s.a.rotateRight 22))+uw (iM s.a s.b s.c))%(4294967296:Int)=uw (gb s):=by
 rw[VC,D3];rfl
theorem YQ(s:St)(j:Nat)(i:j<8):∀ w,(Instr.index 194 (.agg #[.int .u32 (uw s.a),.int .u32 (uw s.b),.int .u32 (uw s.c),.int .u32 (uw s.d),.int .u32 (uw s.e),.int .u32 (uw s.f),.int .u32 (uw s.g),.int .u32 (uw s.h)]) (.int .i64 (j:Int))).run prog w=.ok (.int .u32 (uw (s.list.getD j 0#32))) w:=by
 intro w;obtain rfl|rfl|rfl|rfl|rfl|rfl|rfl|rfl:j=0\/j=1\/j=2\/j=3\/j=4\/j=5\/j=6\/j=7:=by omega
 all_goals kernel_rfl
theorem PX(h:w.heap[g]?=some (.cells (AB ws) 194 (0,0)))(k:Nat)(x:BitVec 32) :
  (w.setCell ⟨g,k,none⟩ (.int .u32 (uw x))).heap[g]?=some (.cells (AB (ws.set k x)) 194 (0,0)):=by
 rw[heap_setCell_same _ _ _ _ _ _ h,Nd]
theorem ma(w:World)(a b c:Obj){W:World}(h:((w.alloc a).alloc b).alloc c=W) :
  W.heap[w.heap.size]?=some a/\W.heap[w.heap.size+1]?=some b/\W.heap[w.heap.size+1+1]?=some c/\Bw w W:=by
 subst h;refine⟨?_,?_,?_,(((Below.refl _ _).alloc (A' _) _).alloc (by simp) _).alloc (by simp;omega) _⟩
 .rw[heap_alloc_old _ _ (by simp;omega)];exact heap_alloc2_old w a b
 .rw[heap_alloc_old _ _ (by simp)];exact heap_alloc2_new w a b
 .have:=heap_alloc_new ((w.alloc a).alloc b) c;simpa using this
theorem Ww(s:St)(l:List (BitVec 32))(w:World)(a0:l.length=64)(ht:AD w) :
  Calls prog 111 #[.agg s.cells,.agg (AB l)] w λe w'=>e=.returned (.agg (Zw s l).cells)/\Bw w w':=by
 obtain⟨a,b,c,d,e,f,g,h⟩:=s;unfold St.cells;go_enter func111,ntmps111
 go_wp2_with fail
 generalize E:((w.alloc _).alloc _).alloc _=W0;obtain⟨p,Y,B,m⟩:=ma w _ _ _ E;clear E;have t:=ht.af m;have O:=cell_of_row W0 _ 0 _ _ _ p;have P:=cell_of_row W0 _ 1 _ _ _ p;have Q:=cell_of_row W0 _ 2 _ _ _ p;have R:=cell_of_row W0 _ 3 _ _ _ p;have T:=cell_of_row W0 _ 4 _ _ _ p;have U:=cell_of_row W0 _ 5 _ _ _ p;have V:=cell_of_row W0 _ 6 _ _ _ p;have W:=cell_of_row W0 _ 7 _ _ _ p;simp only[nV,oE,qg]at O P Q R T U V W;have L:Hid _:=p;have M:Hid _:=Y;have N:Hid _:=B;clear p Y B;go_quiet (fail)
 go_wp2_with fail
 go_quiet (fail)
 go_wp2_with fail
 clear O P Q R T U V W
 go_loopw [5,6,7,8,9,10,11,12,36] (λZ b' c' d' e' f' g' h' i wr=>∃ k n:Nat,k<=64/\i=.int .i64 k/\wr=W0.drewN n/\Z=.int .u32 (uw (BO l ⟨a,b,c,d,e,f,g,h⟩ k).a)/\b'=.int .u32 (uw (BO l ⟨a,b,c,d,e,f,g,h⟩ k).b)/\c'=.int .u32 (uw (BO l ⟨a,b,c,d,e,f,g,h⟩ k).c)/\d'=.int .u32 (uw (BO l ⟨a,b,c,d,e,f,g,h⟩ k).d)/\e'=.int .u32 (uw (BO l ⟨a,b,c,d,e,f,g,h⟩ k).e)/\f'=.int .u32 (uw (BO l ⟨a,b,c,d,e,f,g,h⟩ k).f)/\g'=.int .u32 (uw (BO l ⟨a,b,c,d,e,f,g,h⟩ k).g)/\h'=.int .u32 (uw (BO l ⟨a,b,c,d,e,f,g,h⟩ k).h)) (λ_ _ _ _ _ _ _ _ i _=>64-(intOf i).toNat)
 case atStart=>exact⟨0,_,by omega,rfl,World.drewN_drewN _ _ _,rfl,rfl,rfl,rfl,rfl,rfl,rfl,rfl⟩
 case round =>
  obtain⟨k,n,hk,rfl,o,rfl,rfl,rfl,rfl,rfl,rfl,rfl,rfl⟩:=hrel;have C:Hid (wr=W0.drewN n):=o;by_cases z:k<64
  .have ck:wr.cell? ⟨3,k,none⟩=some (.int .u32 (uw (kAt k))):=by rw[o];exact t.2 k z
   have X:wr.cell? ⟨w.heap.size+1,k,none⟩=some (.int .u32 (uw (l.getD k 0#32))):=by rw[o];exact(cell_of_row W0 _ k _ _ _ M.out).trans (BY l k (by omega))
   clear o;have q:Hid (BO l ⟨a,b,c,d,e,f,g,h⟩ (k+1)=aV (BO l ⟨a,b,c,d,e,f,g,h⟩ k) (kAt k) (l.getD k 0#32)):=rfl;generalize BO l ⟨a,b,c,d,e,f,g,h⟩ k=S at q;generalize kAt k=kk at ck q;generalize l.getD k 0#32=ww at X q;clear t;unfold aV at q;go_wp2_with fail
   rw[Qg,Wy];go_quiet ((go_at_call 148;exact Calls.quiet_of_same (My _ _ _ (by omega) (by omega))))
   rw[fE];generalize upS S kk ww=up at q ⊢;clear ck X;go_wp2_with (go_at_call 148;refine(My _ _ _ (by omega) (by omega)).mono ?_;rintro e w' ⟨rfl,rfl⟩)
   go_roundw
   case rel =>
    rw[VO,D3,D3];exact⟨k+1,n+nq,by omega,by go_num,by rw[C.out,World.drewN_drewN],by rw[q.out],by rw[q.out],by rw[q.out],by rw[q.out],by rw[q.out],by rw[q.out],by rw[q.out],by rw[q.out]⟩
   case measure=>simp[intOf];omega
  .have HK:Hid (k=64):=by unfold Hid;omega
   have u:wr.heap[w.heap.size]?=some (.cells (AB (E4 ⟨a,b,c,d,e,f,g,h⟩ (BO l ⟨a,b,c,d,e,f,g,h⟩ k) 0)) 194 (0,0)):=by rw[o];exact L.out
   have D:wr.heap[w.heap.size+1+1]?=some (.cells (AB [0#32,0#32,0#32,0#32,0#32,0#32,0#32,0#32]) 194 (0,0)):=by rw[o];exact N.out
   have r:Bw w wr:=by rw[o];exact Ar m n
   clear o L M N t m C;have H:Hid (k=64->(Zw ⟨a,b,c,d,e,f,g,h⟩ l).cells=AB (E4 ⟨a,b,c,d,e,f,g,h⟩ (BO l ⟨a,b,c,d,e,f,g,h⟩ k) 8)):=by rintro rfl;rfl
   generalize BO l ⟨a,b,c,d,e,f,g,h⟩ k=S at H u ⊢;generalize G:St.mk a b c d e f g h=s0 at H u;have I:Hid (St.mk a b c d e f g h=s0):=G;clear G;go_wp2_with fail
   go_loopw [110] (λi wr=>∃ j:Nat,j<=8/\i=.int .i64 j/\wr.heap[w.heap.size]?=some (.cells (AB (E4 s0 S j)) 194 (0,0))/\wr.heap[w.heap.size+1+1]?=some (.cells (AB [0#32,0#32,0#32,0#32,0#32,0#32,0#32,0#32]) 194 (0,0))/\Bw w wr) (λi _=>8-(intOf i).toNat)
   case atStart=>exact⟨0,by omega,rfl,u,D,r⟩
   case round =>
    clear u D r;obtain⟨j,hj,rfl,p,B,m⟩:=hrel;by_cases z:j<8
    .have cj:=(cell_of_row wr _ j _ _ _ p).trans (BY (E4 s0 S j) j (by rw[F6];omega));have fj:=frozen_of_row wr _ j _ _ p;have K:=YQ S j z;have J:Hid (E4 s0 S (j+1)=(E4 s0 S j).set j ((E4 s0 S j).getD j 0#32+S.list.getD j 0#32)):=rfl;generalize (E4 s0 S j).getD j 0#32=x at cj J;generalize S.list.getD j 0#32=y at K J;go_wp2
     go_roundw
     case rel =>
      rw[D3];exact⟨j+1,by omega,by go_num,by rw[J.out];exact PX p j _,(heap_setCell_other _ _ _ _ (by simp;omega)).trans B,m.setCell (A' _) _⟩
     case measure=>simp[intOf];omega
    .have HJ:Hid (j=8):=by unfold Hid;omega
     have A:(prog.info? 194).map (·.size)=some (AB (E4 s0 S j)).size:=by rw[Bm,F6];kernel_rfl
     have F:(AB (E4 s0 S j)).all (·.oneCell')=true:=by simp[AB,Value.oneCell']
     go_wp2_with (first|(refine wpList_load_row rfl 194 _ rfl w.heap.size rfl 194 _ (0,0) _ p underlying194 rfl A ?_)|(refine wpList_store_row rfl 194 _ _ rfl (w.heap.size+1+1) _ rfl rfl 194 _ B A (by rw[Bm,Bm,F6];rfl) F ?_))
     refine bodyPost_ret (v:=.agg (AB (E4 s0 S j))) (results_cell_row rfl _ _ (w.heap.size+1+1) 194 _ (0,0) _ rfl (setRow_heap wr _ _ _ 194 _ B) underlying194 rfl A) rfl ⟨?_,BQ m (by omega) _⟩;rw[HJ.out,<- H.out HK.out,<- I.out];rfl
end
end
section
open Go.ChangeShapes Go.WideShapes Go.ChangeAt Go.RowKit
section
theorem kv : prog.globalNamed "conclave/sha.roundWords" = some 3 := by kernel_rfl
theorem YD:(prog.globals[3]?).map (·.type)=some 196:=by kernel_rfl
theorem cN:prog.cellsOf 196=64:=by kernel_rfl
theorem cM:prog.cellsOf 193=1:=by kernel_rfl
theorem Wl(i:Nat)(a:i<64):SW.getD i 0=uw (kAt i):=by
 have all:∀ j:Fin 64,SW.getD j.val 0=uw (kAt j.val):=by decide +kernel
 exact all ⟨i,a⟩
theorem gc : prog.globalNamed "conclave/order.needs" = some 0 := by kernel_rfl
theorem VX:(prog.globals[0]?).map (·.type)=some 105:=by kernel_rfl
theorem gZ:prog.cellsOf 105=12:=by kernel_rfl
theorem XQ:prog.cellsOf 104=3:=by kernel_rfl
theorem gY:prog.cellsOf 3=1:=by kernel_rfl
variable{W:World}{cs:Array Value}{fuel:Nat}{p:List MemPlace}
theorem Hf{H:Type}{f:TypeId × Value->H}{d:Nat}{r:Nat->Bool}{held:Bool}{e:List Value}{a b c:Int}(h:DataW.trod f prog W d r held fuel 104 e=some (.agg [.lit (.int .i64 a),.lit (.int .i64 b),.lit (.int .i64 c)],p)) :
  e=[.int .i64 a,.int .i64 b,.int .i64 c]:=by
 obtain⟨x,y,z,n,q,o,k,l,m⟩:=Go.Deep.trod_struct3 underlying104 h;rw[XQ]at o
 simp only[gY]at k l m
 match e,o with
 | [c0,c1,c2],_ =>
  obtain⟨a0,g,s,_⟩:=DataW.trod_int underlying3 k;obtain⟨v,i,t,_⟩:=DataW.trod_int underlying3 l;obtain⟨w,j,u,_⟩:=DataW.trod_int underlying3 m;subst s t u;simp at g i j;subst g i j;simp at q;obtain⟨⟨rfl,rfl,rfl⟩,_⟩:=q;rfl
theorem YC : prog.globalNamed "conclave/cha.quarters" = some 4 := by kernel_rfl
theorem SI:(prog.globals[4]?).map (·.type)=some 263:=by kernel_rfl
theorem hY:prog.cellsOf 3=1:=by kernel_rfl
theorem Uu:prog.cellsOf 262=4:=by kernel_rfl
theorem XP:prog.cellsOf 263=32:=by kernel_rfl
def Ks:List (List Int):=[[0,4,8,12],[1,5,9,13],[2,6,10,14],[3,7,11,15],[0,5,10,15],[1,6,11,12],[2,7,8,13],[3,4,9,14]]
theorem iF{a:List Value}(l:a.length=32)(rows:List (List Value))(m:rows.length=8)(h:∀ i,i<8->(a.drop (i*4)).take 4=rows.getD i []):a=rows.flatten:=by
 have b:=h 0 (by omega);have c:=h 1 (by omega);have d:=h 2 (by omega);have e:=h 3 (by omega);have f:=h 4 (by omega);have g:=h 5 (by omega);have j:=h 6 (by omega);have k:=h 7 (by omega)
 match rows,m with
 | [r0,r1,r2,r3,r4,r5,r6,r7],_ =>
  simp only[nz,nR]at b c d e f g j k;subst b c d e f g j k;apply List.ext_getElem?;intro i
  match a,l with
  | [a0,a1,a2,a3,a4,a5,a6,a7,a8,a9,a10,a11,a12,a13,a14,a15,a16,a17,a18,a19,a20,a21,a22,a23,a24,a25,a26,a27,a28,a29,a30,a31],_=>rfl
theorem al(a : World.var? prog W "conclave/cha.quarters" = some cs)(v:DataW.trod (fun _=>()) prog W 0 (fun _=>true) false fuel 263 cs.toList=some (Rows.laid_conclave_cha_quarters,p)):Dq W:=by
 obtain⟨d,m,_,w,b,x,e⟩:=DataW.trod_array underlying263 v;rw[XP]at b
 rw[Uu]at e
 have o:d.map (·.1)=Ks.map (λg=>Lib.tabData .i64 g):=by
  have:=congrArg Prod.fst w;simp only[Rows.laid_conclave_cha_quarters,DataW.agg.injEq]at this;rw[<- this];rfl
 have f:∀ i,i<8->(cs.toList.drop (i*4)).take 4=(Ks.map (λg=>g.map λz=>Value.int .i64 z)).getD i []:=by
  intro i h;have k:=e i h;have q:d[i]?=some (d[i]'(by omega)):=E' (by omega);rw[q]at k
  have r:(d[i]'(by omega)).1=Lib.tabData .i64 (Ks.getD i []):=by
   have j:(d.map (·.1))[i]?=some (d[i]'(by omega)).1:=by rw[nS,q];rfl
   rw[o,nS,E' (show i<Ks.length from h)]at j
   simp only[nW,Z']at j;rw[<- j,List.getD,E' (show i<Ks.length from h)];rfl
  have s:d[i]'(by omega)=(Lib.tabData .i64 (Ks.getD i []),(d[i]'(by omega)).2):=by rw[<- r]
  rw[s]at k
  have u:=Lib.cells_of_tab underlying262 underlying3 hY Uu k;rw[u,List.getD,List.getD,nS,E' (show i<Ks.length from h)];rfl
 have l:cs.toList=(Ks.map (λg=>g.map λz=>Value.int .i64 z)).flatten:=iF b _ rfl f;have n:cs=WO:=by
  apply rG;rw[l];rfl
 subst n;unfold World.var? at a;rw[YC]at a
 simp only[Option.bind_some]at a;split at a
 .rename_i c t fr hh
  simp only[Z']at a;subst a;exact⟨t,fr,hh⟩
 .cases a
theorem ec(b : World.var? prog W "conclave/order.needs" = some cs)(v:DataW.trod (fun _=>()) prog W 0 (fun _=>true) false fuel 105 cs.toList=some (Rows.laid_conclave_order_needs,p)):NTab W:=by
 obtain⟨x,m,_,n,d,e,a⟩:=DataW.trod_array underlying105 v;rw[gZ]at d
 rw[XQ]at a
 have u:cs.toList=O0.map (Value.int .i64):=by
  match x,e with
  | [x0,x1,x2,x3],_ =>
   simp only[Rows.laid_conclave_order_needs,nO,oN,nY,DataW.agg.injEq,py,and_true]at n;obtain⟨⟨o,q,r,s⟩,_⟩:=n;have f:=Hf (p:=x0.2) ((a 0 (by omega)).trans (by rw[o];rfl));have g:=Hf (p:=x1.2) ((a 1 (by omega)).trans (by rw[q];rfl));have h:=Hf (p:=x2.2) ((a 2 (by omega)).trans (by rw[r];rfl));have j:=Hf (p:=x3.2) ((a 3 (by omega)).trans (by rw[s];rfl));generalize cs.toList=l at d f g h j
   match l,d with
   | [_,_,_,_,_,_,_,_,_,_,_,_],_ =>
    simp at f g h j;simp[O0,f,g,h,j]
 have c:cs=(O0.map (Value.int .i64)).toArray:=rG (by simpa using u);subst c;obtain⟨t,y,k⟩:=Li gc b;refine⟨(U'.1 k).1,λi w=>?_⟩;refine cell_of_row _ _ i _ _ _ k |>.trans ?_;simp[List.getD,List.getElem?_map,List.getElem?_eq_getElem (show i<O0.length from w)]
theorem kJ:(Rows.laid_conclave_sha_roundWords:DataW Unit)=Lib.tabData .u32 SW:=by kernel_rfl
theorem aF(a : World.var? prog W "conclave/sha.roundWords" = some cs)(c:DataW.trod (fun _=>()) prog W 0 (fun _=>true) false fuel 196 cs.toList=some (Rows.laid_conclave_sha_roundWords,p)):AD W:=by
 obtain⟨t,g,d⟩:=Li kv a;rw[kJ]at c
 have f:=Lib.cells_of_tab underlying196 underlying193 cM cN c;refine⟨(U'.1 d).1,λi b=>?_⟩;rw[cell_of_row _ _ i _ _ _ d,<- Wl i b];have e:cs[i]?=cs.toList[i]?:=by simp
 rw[e,f,nS,E' (show i<SW.length from b),List.getD,E' (show i<SW.length from b)];rfl
def Ze(cs:Array Value):Obj->Obj
 | .cells _ t frozen=>.cells cs t frozen
 | o=>o
end
end
section
open Go.RowKit
section
def Sx:List (Nat × (World->Prop))->Array Bool->World->Prop
 | [],_,_=>True
 | c::r,L,w=>(L.getD c.1 false=false->c.2 w)/\Sx r L w
variable{L:Array Bool}{l:List (Nat × (World->Prop))}{w:World}
theorem Sx.set{i:Nat}(h:l.all (λc=>c.1 != i)=true){L:Array Bool}{w:World}(b:Sx l (L.setIfInBounds i true) w):Sx l L w:=by
 induction l with
 | nil=>trivial
 | cons c r ih =>
  simp only[pF,nC,bne_iff_ne,ne_eq]at h;refine⟨λa=>b.1 ?_,ih h.2 b.2⟩;rw[nT]at a ⊢
  rw[oT (λe=>h.1 e.symm)];exact a
def Sd(D:List Nat)(n:Nat):List (Nat × (World->Prop))->World->Prop
 | [],_=>True
 | c::r,w=>((D.contains c.1||decide (n<=c.1))=true->c.2 w)/\Sd D n r w
theorem Sx.sd{D:List Nat}{n:Nat}(e:L.size=n)(d:∀ j∈D,L.getD j true=false)(a:Sx l L w):Sd D n l w:=by
 induction l with
 | nil=>trivial
 | cons c r ih =>
  refine⟨λh=>a.1 ?_,ih a.2⟩;simp only[rj,qK,decide_eq_true_eq]at h;rcases h with h|h
  .have h1:=d _ h;rw[nT]at h1 ⊢
   cases hx:L[c.1]? with
   | none=>rfl
   | some b=>rw[hx]at h1;simpa using h1
  .rw[nT,Array.getElem?_eq_none (by omega)];rfl
end
section
variable{P:Program}{ops:Array Oper}{Q:Exit->Act->World->Prop}{md:Region.Mode}{S:List (Nat × (World->Prop))}
section
def BD(P:Program)(md:Region.Mode)(ops:Array Oper)(Q:Exit->Act->World->Prop)(S:List (Nat × (World->Prop))):Nat->Array Bool->Act->World->Prop
 | 0,listed,a,w=>Region.ready md ops listed=[]/\Q .normal a w
 | fuel+1,listed,a,w =>
  (Region.ready md ops listed=[]->Q .normal a w) /\
  ∀ i∈Region.ready md ops listed,wpOp P ops Q i (λa' w'=>Sx S (listed.setIfInBounds i true) w'/\BD P md ops Q S fuel (listed.setIfInBounds i true) a' w') a w
theorem OT:∀ (fuel:Nat) (listed:Array Bool) (a:Act) (w:World),BD P md ops Q S fuel listed a w->wpAny P md ops Q fuel listed a w
 | 0,_,_,_,h=>h
 | fuel+1,_,_,_,h=>⟨h.1,λi hi=>wpOp_mono (λa' w' h'=>OT fuel _ a' w' h'.2) (h.2 i hi)⟩
def Nf(md:Region.Mode)(ops:Array Oper)(i:Nat)(D:List Nat):Bool :=
 D.all λj=>j==i||(match ops[j]? with
  | none=>false
  | some o=>o.after.any λe=>Region.binds md e&&D.contains e.on)
variable{L:Array Bool}{a:Act}{fuel i:Nat}{oi:Oper}{v:Value}{w:World}
theorem PT(D:List Nat)(O:ops[i]?=some oi)(u:∀ (j:Nat) (o:Oper) cs b,ops[j]?=some o->o.op≠.select cs b)(hQ:∀ c a w,Q (.panic c) (a.put oi.dst v) w->Q (.panic c) a w)(R:i∈D)(hD:Nf md ops i D=true)(B:S.all (λc=>c.1 != i)=true) :
  ∀ (fuel:Nat) (listed:Array Bool) (a:Act) (w:World),listed.size=ops.size ->
   (∀ j oj,ops[j]?=some oj->j≠i->listed.getD j true=false->(∀ e∈oj.after,Region.binds md e=true->e.on≠i)->oi.apart ops oj=true) ->
   i∈Region.ready md ops listed->(∀ j∈D,listed.getD j true=false)->YieldsIf P ops (Sd D ops.size S) oi v a->Sx S listed w ->
   BD P md ops Q S fuel (listed.setIfInBounds i true) (a.put oi.dst v) w->BD P md ops Q S (fuel+1) listed a w:=by
 intro fuel;induction fuel with
 | zero =>
  intro listed a w p _ t f E z H;have A:Sx S (listed.setIfInBounds i true) w:=by
   clear H E f t;induction S with
   | nil=>trivial
   | cons c r ih =>
    simp only[pF,nC,bne_iff_ne,ne_eq]at B;refine⟨λl=>z.1 ?_,ih B.2 z.2⟩;rw[nT]at l ⊢
    rw[oT (λe=>B.1 e.symm)]at l
    exact l
  refine⟨λh=>(by rw[h]at t;cases t),λj M=>?_⟩;by_cases d:j=i
  .subst d;exact E.wpOp O (z.sd p f) ⟨A,H⟩
  .have:=ready_mono M d;rw[H.1]at this
   cases this
 | succ fuel ih =>
  intro listed a w p g t f E z H;have A:Sx S (listed.setIfInBounds i true) w:=by
   clear H E f t ih;induction S with
   | nil=>trivial
   | cons c r ih =>
    simp only[pF,nC,bne_iff_ne,ne_eq]at B;refine⟨λl=>z.1 ?_,ih B.2 z.2⟩;rw[nT]at l ⊢
    rw[oT (λe=>B.1 e.symm)]at l
    exact l
  refine⟨λh=>(by rw[h]at t;cases t),λj M=>?_⟩;by_cases d:j=i
  .subst d;exact E.wpOp O (z.sd p f) ⟨A,H⟩
  .have y:=H.2 j (ready_mono M d);obtain⟨s,oj,n,F⟩:=mem_ready.1 M;have L:∀ k∈D,∀ e∈oj.after,Region.binds md e=true->e.on≠k:=λk C e he hb N=>by
    have y:=F e he hb;have W:=f k C;rw[N]at y
    rcases nU k listed.size with h'|h'
    .simp[h']at W y;rw[W]at y;cases y
    .simp[Array.getElem?_eq_none h']at y
   have I:∀ e∈oj.after,Region.binds md e=true->e.on≠i:=L i R;have T:j∉D:=λhm=>by
    have q:=oK.1 hD j hm;simp only[rj,beq_iff_eq,n,Array.any_eq_true,nC,qK]at q;rcases q with q|⟨x,hx,h4,h5⟩
    .exact d q
    .exact L _ h5 oj.after[x] (Array.getElem_mem hx) h4 rfl
   have h2:=wpOp_putIf n (g j oj n d s I) (λcs b=>u i oi cs b O) (λcs b=>u j oj cs b n) hQ E y;have m:∀ k ok,ops[k]?=some ok->k≠i->(listed.setIfInBounds j true).getD k true=false ->
     (∀ e∈ok.after,Region.binds md e=true->e.on≠i)->oi.apart ops ok=true:=λk ok C U X V=>by
    refine g k ok C U ?_ V;by_cases G:j=k
    .subst G;exact s
    .rw[getD_set_ne true G]at X;exact X
   have K:∀ k∈D,(listed.setIfInBounds j true).getD k true=false:=λk C=>by
    rw[getD_set_ne true (show j≠k from λe=>T (by rw[e];exact C))];exact f k C
   refine wpOp_mono (λZ Y q=>?_) h2;have l:=Array.setIfInBounds_comm (xs:=listed) true true d;have J:Sx S (listed.setIfInBounds j true) Y:=Sx.set B (by rw[l];exact q.2.1);refine⟨J,ih (listed.setIfInBounds j true) Z Y (by rw[Array.size_setIfInBounds];exact p) m (ready_mono t (Ne.symm d)) K q.1 J ?_⟩;rw[l];exact q.2.2
theorem gB(d:Nat)(D:List Nat){f:Oper}{v:Value}{e:Nat}{b:Array Bool}{a:Act}{w:World}(l:ops[i]?=some f)(k:f.dst=some d)(x:Region.noSelect ops=true)(t:Region.free md ops b i=true)(u:(Region.ready md ops b).contains i=true)(r:∀ c a w,Q (.panic c) (a.put (some d) v) w->Q (.panic c) a w)(g:(D.contains i&&Nf md ops i D&&S.all (λc=>c.1 != i)&&decide (b.size=ops.size)&&D.all λj=>b.getD j true==false)=true)(y:YieldsIf P ops (Sd D ops.size S) f v a)(s:Sx S b w)(h:BD P md ops Q S e (b.setIfInBounds i true) (a.put (some d) v) w):BD P md ops Q S (e+1) b a w:=by
 simp only[nC,qK,decide_eq_true_eq,oK,beq_iff_eq]at g;obtain⟨⟨⟨⟨m,n⟩,o⟩,p⟩,q⟩:=g;exact PT D l (Region.noSelect_spec x) (by rw[k];exact r) m n (oK.2 o) e b a w p (Region.free_spec l t) (by simpa using u) q y s (by rw[k];exact h)
theorem mQ(b:Region.ready md ops L=[i])(h:wpOp P ops Q i (λa' w'=>Sx S (L.setIfInBounds i true) w'/\BD P md ops Q S fuel (L.setIfInBounds i true) a' w') a w):BD P md ops Q S (fuel+1) L a w :=
 ⟨λc=>absurd (b▸c) (by simp),b▸(λj d=>by
  obtain rfl:j=i:=by simpa using d
  exact h)⟩
theorem mR{b:Nat}(c:Region.ready md ops L=[i,b])(h:wpOp P ops Q i (λa' w'=>Sx S (L.setIfInBounds i true) w'/\BD P md ops Q S fuel (L.setIfInBounds i true) a' w') a w)(d:wpOp P ops Q b (λa' w'=>Sx S (L.setIfInBounds b true) w'/\BD P md ops Q S fuel (L.setIfInBounds b true) a' w') a w):BD P md ops Q S (fuel+1) L a w :=
 ⟨λe=>absurd (c▸e) (by simp),c▸(λj f=>by
  rcases(show j=i\/j=b by simpa using f)with rfl|rfl
  .exact h
  .exact d)⟩
theorem fW(S:List (Nat × (World->Prop))){c:Nat}{a:Act}{w:World}(b:P.follows .mixedOrders=true)(h:BD P .any ops Q S ops.size (Array.replicate ops.size false) a w.drew):(Code.region c ops true).wp P Q a w :=
 wp_region_any b (OT _ _ _ _ h)
end
end
structure So(w:World)(g c:Nat)(l:List Int):Prop where
 sl:Sl w (.slice (some ⟨g,0,none⟩) 32 c) l
 tM:∃ cs,w.heap[g]?=some (.cells cs 5)
 len:l.length=32
theorem So.ov{w:World}{a:Nat}{v:Value}{l:List Int}(h:w.ownsRow a 5 1 v 32 (l.map (Value.int .u8)))(b:l.length=32)(d:∀ x∈l,0<=x/\x<256):∃ g c,v=.slice (some ⟨g,0,none⟩) 32 c/\a<=g/\So w g c l:=by
 have e:=Sl.ov (l:=l) (by rw[b];exact h) (by rw[b];omega) d;rcases h.2 with⟨_,h0⟩|⟨g,cap,cur,rfl,hbg,hg,_⟩
 .cases h0
 .exact⟨g,cap,rfl,hbg,e,⟨cur,hg⟩,b⟩
section
variable{P:Program}{ops:Array Oper}{Q:Exit->Act->World->Prop}{md:Region.Mode}{S:List (Nat × (World->Prop))}
section
def pts:Act->List (Nat × Value)->Act
 | a,[]=>a
 | a,p::r=>pts (a.put (some p.1) p.2) r
def got(P:Program)(ops:Array Oper)(a:Act)(w:World)(i:Nat):Option (Option Tmp × Value × World) :=
 match ops[i]? with
 | none=>none
 | some o=>if Region.wanted o (yielded ops a.tmps)then(match(execOp a.eval o).run P w with
   | .ok (.value v) w'=>some (o.dst,v,w')
   | _=>none)else some (o.dst,undef,w)
def SL(P:Program)(ops:Array Oper)(w:World):List Nat->List (Nat × Value)->Act->List (Option (Option Tmp × Value × World))
 | i::is,p::ps,a=>got P ops a w i::SL P ops w is ps (a.put (some p.1) p.2)
 | _,_,_=>[]
def av(w:World)(ps:List (Nat × Value)):List (Option (Option Tmp × Value × World)):=ps.map λp=>some (some p.1,p.2,w)
variable{K:Act->World->Prop}{L:Array Bool}{a:Act}{arr new old:Array Value}{b:Bool}{g i k:Nat}{m n:Int}{o:Obj}{t ty:TypeId}{w:World}{x y:Operand}
theorem SK{d:Nat}{v:Value}{S0:World->Prop}(h:∀ w,got P ops a w i=some (some d,v,w)):∃ o,ops[i]?=some o/\o.dst=some d/\YieldsIf P ops S0 o v a:=by
 cases ho:ops[i]? with
 | none=>have:=h default;unfold got at this;rw[ho]at this;cases this
 | some o =>
  by_cases c:Region.wanted o (yielded ops a.tmps)=true
  .have key:∀ w,o.dst=some d/\(execOp a.eval o).run P w=.ok (.value v) w:=λw=>by
    have b:=h w;unfold got at b;rw[ho]at b
    simp only[c,if_true]at b;split at b
    .rename_i v' w' hr
     simp only[Z',nY]at b;obtain⟨e,rfl,rfl⟩:=b;exact⟨e,hr⟩
    .cases b
   exact⟨o,rfl,(key default).1,.inl ⟨c,λw _=>(key w).2⟩⟩
  .have b:=h default;unfold got at b;rw[ho]at b
   simp only[c,if_false,Z',nY,qh]at b;exact⟨o,rfl,b.1,.inr ⟨by simpa using c,b.2.1.symm⟩⟩
def MR(md:Region.Mode)(ops:Array Oper)(gs:List Nat):List Nat->Array Bool->Bool
 | [],_=>true
 | i::is,L=>Region.free md ops L i&&(Region.ready md ops L).contains i&&gs.all (· != i)&&decide (L.size=ops.size)&&(L.getD i true==false)&&MR md ops gs is (L.setIfInBounds i true)
def mI(L:Array Bool)(is:List Nat):Array Bool:=is.foldl (λL i=>L.setIfInBounds i true) L
theorem gO{S:List (Nat × (World->Prop))}(h:(S.map (·.1)).all (· != i)=true):S.all (λc=>c.1 != i)=true:=by
 rw[List.all_map]at h
 exact h
theorem xB0{m:Nat}(n:Nat)(f:List Nat)(b:List (Nat × Value))(h:∀ w,SL P ops w f b a=av w b)(K:Region.noSelect ops=true)(D:MR md ops (S.map (·.1)) f L=true)(H:m=n+b.length)(t:f.length=b.length)(F:∀ c a d v w,Q (.panic c) (a.put (some d) v) w->Q (.panic c) a w)(j:Sx S L w)(s:BD P md ops Q S n (mI L f) (pts a b) w):BD P md ops Q S m L a w:=by
 subst H;induction f generalizing L a b with
 | nil =>
  obtain rfl:b=[]:=Y' t.symm;exact s
 | cons i f ih =>
  cases b with
  | nil=>cases t
  | cons p r =>
   have B:∀ w,got P ops a w i=some (some p.1,p.2,w):=λw=>by
    have:=h w;simp only[SL,av,nO,py]at this;exact this.1
   have C:∀ w,SL P ops w f r (a.put (some p.1) p.2)=av w r:=λw=>by
    have:=h w;simp only[SL,av,nO,py]at this;exact this.2
   obtain⟨o,I,G,E⟩:=SK (S0:=Sd [i] ops.size S) B;simp only[MR,nC]at D;obtain⟨⟨⟨⟨⟨u,x⟩,g⟩,y⟩,z⟩,A⟩:=D;have k:Sx S (L.setIfInBounds i true) w:=by
    have q:=gO g;clear s ih h B C E u x g y z A;induction S with
    | nil=>trivial
    | cons c r ih =>
     simp only[pF,nC,bne_iff_ne,ne_eq]at q;refine⟨λl=>j.1 ?_,ih j.2 q.2⟩;rw[nT]at l ⊢
     rw[oT (λe=>q.1 e.symm)]at l
     exact l
   refine gB p.1 [i] I G K u x (λc a w J=>F c _ _ _ w J) ?_ E j (ih r C A (by simpa using t) k s);rw[gO g,y];simp[Nf];simpa using z
abbrev iv(n:Int):Value:=.int .i64 n
abbrev pt(b o:Nat):Value:=.pointer (some ⟨b,o,none⟩)
abbrev sn:Value:=.slice none 0 0
theorem xS0{m:Nat}(n i:Nat)(c:Region.ready md ops L=[i])(b:m=n+1)(h:wpOp P ops Q i (λa' w'=>Sx S (L.setIfInBounds i true) w'/\BD P md ops Q S n (L.setIfInBounds i true) a' w') a w):BD P md ops Q S m L a w:=by subst b;exact mQ c h
theorem Rn{b:Nat}{e:Nat × Nat}(h:w.heap[b]?=some (.cells arr t e))(k:Nat)(a:List Value)(f:(arr.toList.drop k).take a.length=a):w.rangeAt b k a:=λj u c=>by
 rw[cell_of_row _ _ (k+j) _ _ _ h];have d:j<a.length:=(V'.1 c).1;rw[<- f,oz,if_pos d,om]at c
 simpa using c
theorem bH{b:Nat}(h:w.heap[b]?=some (.cells arr t (0,0)))(k n:Nat)(c:k+n<=arr.size):w.there b k n:=λj a =>
 ⟨by rw[cell_of_row _ _ (k+j) _ _ _ h,po (by omega)];rfl,frozen_of_row _ _ (k+j) _ _ h⟩
def eH(arr:Array Value):Nat->List Value->Array Value
 | _,[]=>arr
 | k,v::r=>eH (arr.setIfInBounds k v) (k+1) r
theorem js{b:Nat}(a:List Value):∀ {arr:Array Value} (k:Nat) (h:w.heap[b]?=some (.cells arr t (0,0))),(w.setCells b k a).heap[b]?=some (.cells (eH arr k a) t (0,0)):=by
 induction a generalizing w with
 | nil=>intro arr k h;exact h
 | cons v r ih=>intro arr k h;exact ih (k+1) (heap_setCell_same w b k arr t v h)
theorem jr{b:Nat}(k:Nat)(v:Value)(h:w.heap[b]?=some (.cells arr t (0,0))):(w.setCell ⟨b,k,none⟩ v).heap[b]?=some (.cells (arr.setIfInBounds k v) t (0,0)):=heap_setCell_same w b k arr t v h
theorem P6{e:TypeId}{b n c z:Nat}(l:P.underlying t=some (.slice e))(d:P.elem t=e)(a:(P.info? e).map (·.size)=some z)(h:i<n)(j:Nat)(f:k+z*i=j):(Instr.indexAt t (.slice (some ⟨b,k,none⟩) n c) (iv (i:Int))).run P w=.ok (pt b j) w:=by
 have g:(Go.sizeOf e).run P w=.ok z w:=by
  cases hx:P.info? e with
  | none=>rw[hx]at a;cases a
  | some x=>rw[hx]at a;simp at a;simp[Go.sizeOf,typeInfo,hx,a]
 rw[run_indexAt_slice (P:=P) w t _ n c .i64 _ (by rw[d];exact l),if_pos ⟨by omega,by omega⟩,d,g];simp[Result.andThen,Addr.add_mid,Nat.mul_comm,<- f]
theorem gk{src dst:TypeId}{k a:IntKind}(d:(P.underlying src).isSome=true)(c:P.underlying dst=some (.int a))(b:P.intKind dst=a)(h:a.wrap n=n):(convert src dst (.int k n)).run P w=.ok (.int a n) w:=by
 rw[run_convert_int (P:=P) w src dst k n d (by rw[b];exact c),b,h]
theorem xC0{m:Nat}{s:Nat}{C:World->Prop}{e:List (Nat × (World->Prop))}(n i d:Nat)(D:List Nat)(v:Value)(h:∀ W,C W->got P ops a W i=some (some d,v,W))(b:C w)(H:Region.noSelect ops=true)(f:(Region.free md ops L i&&(Region.ready md ops L).contains i&&(((s,C)::e:List (Nat × (World->Prop))).map (·.1)).all (· != i)&&decide (L.size=ops.size)&&(D.contains i&&(D.contains s||decide (ops.size<=s))&&Nf md ops i D&&D.all λj=>L.getD j true==false))=true)(F:m=n+1)(z:∀ c a d v w,Q (.panic c) (a.put (some d) v) w->Q (.panic c) a w)(A:Sx ((s,C)::e) L w)(E:BD P md ops Q ((s,C)::e) n (L.setIfInBounds i true) (a.put (some d) v) w) :
  BD P md ops Q ((s,C)::e) m L a w:=by
 subst F;simp only[nC]at f;obtain⟨⟨⟨⟨g,k⟩,l⟩,p⟩,⟨⟨⟨q,r⟩,t⟩,u⟩⟩:=f;cases ho:ops[i]? with
 | none=>have h:=h w b;unfold got at h;rw[ho]at h;cases h
 | some o =>
  have key:∀ W,C W->o.dst=some d/\((Region.wanted o (yielded ops a.tmps)=true/\(execOp a.eval o).run P W=.ok (.value v) W)\/(Region.wanted o (yielded ops a.tmps)=false/\v=undef)):=λW B=>by
   have h:=h W B;unfold got at h;rw[ho]at h
   simp only at h;split at h
   .rename_i b
    split at h
    .rename_i v' w' hr
     simp only[Z',nY]at h;obtain⟨x,rfl,rfl⟩:=h;exact⟨x,.inl ⟨b,hr⟩⟩
    .cases h
   .rename_i b
    simp only[Z',nY]at h;exact⟨h.1,.inr ⟨by simpa using b,h.2.1.symm⟩⟩
  refine gB d D ho (key w b).1 H g k (λc a w G=>z c _ _ _ w G) ?_ ?_ A E
  .rw[gO l,p,q,t,u];rfl
  .by_cases hw2:Region.wanted o (yielded ops a.tmps)=true
   .refine .inl ⟨hw2,λI y=>?_⟩;rcases(key I (y.1 r)).2 with h3|h3
    .exact h3.2
    .rw[hw2]at h3;cases h3.1
   .rcases(key w b).2 with h3|h3
    .exact absurd h3.1 hw2
    .exact .inr h3
theorem GA(h:(m==n)=b):(do Go.eqGuard .eql t x y (iv m) (iv n);Go.binOp .eql t (iv m) (iv n):Sem Value).run P w=.ok (.bool b) w:=by
 subst h;rfl
theorem rl(h:w.heap[g]?=some o):g<w.heap.size:=(U'.1 h).1
theorem rB{a:World}(b:Bw w a)(h:w.heap[g]?=some o):a.heap[g]?=some o:=(b.block _ (rl h)).trans h
theorem kS{o:Oper}(cells:Array Value)(d:w.heap[g]?=some (.cells old t (0,0)))(m:ops[i]?=some o)(n:Region.wanted o (yielded ops a.tmps)=true)(f:o.dst=none)(c:o.op=.store ty x y)(p:a.eval x=pt g k)(q:a.eval y=.agg cells)(j:(P.info? ty).map (·.size)=some cells.size)(b:k+cells.size<=old.size)(e:cells.all (·.oneCell')=true)(l:eH old k cells.toList=new)(h:∀ w',w'.heap[g]?=some (.cells new t)->Only g w w'->K a w'):wpOp P ops Q i K a w :=
 Tp m n f ty x y c g k cells p q (bH d k _ b) j e (h _ (by rw[<- l];exact js _ _ d) (Only.store _ _ _ _))
theorem kT{o:Oper}(v:Value)(c:w.heap[g]?=some (.cells old t (0,0)))(m:ops[i]?=some o)(n:Region.wanted o (yielded ops a.tmps)=true)(f:o.dst=none)(d:o.op=.store ty x y)(p:a.eval x=pt g k)(q:a.eval y=v)(j:(P.info? ty).map (·.size)=some 1)(b:k<old.size)(e:v.oneCell'=true)(l:old.setIfInBounds k v=new)(h:∀ w',w'.heap[g]?=some (.cells new t)->Only g w w'->K a w'):wpOp P ops Q i K a w :=
 Tq m n f ty x y d g k v old[k] p q (by rw[cell_of_row _ _ k _ _ _ c,po b]) (frozen_of_row _ _ k _ _ c) j e (h _ (by rw[<- l];exact jr k v c) (Only.one _ _ _ _))
theorem kQ(d:Nat)(v:Value)(h:got P ops a w i=some (some d,v,w))(c:K (a.put (some d) v) w):wpOp P ops Q i K a w:=by
 unfold got at h;unfold wpOp;cases ho:ops[i]? with
 | none=>rw[ho]at h;cases h
 | some o =>
  rw[ho]at h
  simp only;simp only at h;split
  .rename_i hw
   simp only[hw,if_true]at h;split at h
   .rename_i v' w' hr
    simp only[Z',nY]at h;obtain⟨b,rfl,rfl⟩:=h;refine .inl ?_;unfold Oper.wp;rw[hr,Oper.upon_value,b];exact c
   .cases h
  .rename_i hw
   simp only[hw,if_false,Z',nY,qh]at h;obtain⟨b,rfl,_⟩:=h;rw[b];exact c
theorem IS(h:(m != n)=b):(do Go.eqGuard .neq t x y (iv m) (iv n);Go.binOp .neq t (iv m) (iv n):Sem Value).run P w=.ok (.bool b) w:=by
 subst h;rfl
theorem rLt(h:decide (m<n)=b):(do Go.eqGuard .lss t x y (iv m) (iv n);Go.binOp .lss t (iv m) (iv n):Sem Value).run P w=.ok (.bool b) w:=by
 subst h;rfl
theorem rGt(h:decide (n<m)=b):(do Go.eqGuard .gtr t x y (iv m) (iv n);Go.binOp .gtr t (iv m) (iv n):Sem Value).run P w=.ok (.bool b) w:=by
 subst h;rfl
theorem rGe(h:decide (n<=m)=b):(do Go.eqGuard .geq t x y (iv m) (iv n);Go.binOp .geq t (iv m) (iv n):Sem Value).run P w=.ok (.bool b) w:=by
 subst h;rfl
theorem rLe(h:decide (m<=n)=b):(do Go.eqGuard .leq t x y (iv m) (iv n);Go.binOp .leq t (iv m) (iv n):Sem Value).run P w=.ok (.bool b) w:=by
 subst h;rfl
end
end
section
structure Fm where
 n:Nat
 e:List (Nat × Value)
 z:Nat->Value
def lk(z:Nat->Value):List (Nat × Value)->Nat->Value
 | [],t=>z t
 | p::r,t=>cond (Nat.beq p.1 t) p.2 (lk z r t)
def Fm.act(f:Fm):Act:={ tmps:=((List.range f.n).map (lk f.z f.e)).toArray,defers:=[] }
def Fm.ev(f:Fm):Operand->Value
 | .tmp t=>cond (Nat.blt t f.n) (lk f.z f.e t) undef
 | .const v=>v
 | .global g=>.pointer (some ⟨g,0,none⟩)
 | .func k=>.func (.func k) #[] #[]
def Fm.put(f:Fm)(d:Option Tmp)(v:Value):Fm:=match d with|some d=>⟨f.n,(d,v)::f.e,f.z⟩|none=>f
theorem Fm.eval(f:Fm):f.act.eval=f.ev:=by
 funext x
 cases x with
 | tmp t =>
  show((List.range f.n).map (lk f.z f.e)).toArray.getD t undef=_;rw[nT];simp only[nV,nS];show _=cond (Nat.blt t f.n) (lk f.z f.e t) undef;by_cases h:t<f.n
  .have hb:Nat.blt t f.n=true:=(by rw[Nat.blt,qp];exact h);rw[pc h,hb];rfl
  .have hb:Nat.blt t f.n=false:=qq.2 λg=>h (by rw[Nat.blt,qp]at g;exact g);rw[oW (by simpa using h),hb];rfl
 | const v=>rfl
 | global g=>rfl
 | func k=>rfl
theorem Fm.sD(f:Fm)(d:Option Tmp)(v:Value):(f.put d v).act=f.act.put d v:=by
 cases d with
 | none=>rfl
 | some d =>
  unfold Fm.put Fm.act Act.put;simp only[Act.mk.injEq,and_true];apply oX;intro i;rw[rh];simp only[nV,nS,px,nA,qr];by_cases b:i<f.n
  .rw[pc b];by_cases a:d=i
   .subst a;simp[lk,b]
   .rw[if_neg a];simp only[nW,lk,show Nat.beq d i=false from qq.2 λg=>a (nD g),cond_false]
  .rw[oW (by simpa using b)];by_cases a:d=i
   .subst a;simp[b]
   .rw[if_neg a];rfl
def mj(f:Fm)(want:Bool):Option Tmp->Bool
 | none=>false
 | some d=>match f.ev (.tmp d)with
  | .bool b=>b==want
  | _=>false
theorem fY(f:Fm)(want:Bool)(x:Option Tmp):((match x.bind (f.act.tmps[·]?)with|some (.bool b)=>some b|_=>none)==some want)=mj f want x:=by
 cases x with
 | none=>rfl
 | some d =>
  have a:f.act.eval (.tmp d)=f.ev (.tmp d):=by rw[f.eval]
  have c:f.act.eval (.tmp d)=(f.act.tmps[d]?).getD undef:=nT ..;rw[c]at a
  show((match f.act.tmps[d]? with|some (.bool b)=>some b|_=>none)==some want)=(match f.ev (.tmp d)with|.bool b=>b==want|_=>false);rw[<- a];cases f.act.tmps[d]? with
  | none=>rfl
  | some v=>cases v<;>rfl
def Fm.av(f:Fm)(ops:Array Oper)(o:Oper):Bool :=
 match o.guard with
 | none=>true
 | some (j,want)=>mj f want ((ops[j]?).bind (·.dst))
theorem Fm.wanted(f:Fm)(a:Array Oper)(o:Oper):Region.wanted o (yielded a f.act.tmps)=f.av a o:=by
 unfold Region.wanted Fm.av;cases o.guard with
 | none=>rfl
 | some p=>exact fY f p.2 ((a[p.1]?).bind (·.dst))
inductive Tg where
 | z
 | l
 | n (r i:Nat)
def Tg.sI:Tg->Bool|.z=>true|_=>false
structure Sh where
 g:Nat
 o:Obj
 t:Tg
 w:Bool
instance:Inhabited Sh:=⟨⟨0,default,.z,false⟩⟩
structure Gh where
 t:Nat->Tg
 k:Nat->Nat
structure Cg(B:Nat)(T:List Tg)(g:Gh)(w:World)(g':Gh)(w':World):Prop where
 os:w'.os=w.os
 tape:w'.tape=w.tape
 output:w'.output=w.output
 size:w.heap.size<=w'.heap.size
 sR:∀ b,b<w.heap.size->g'.t b=g.t b\/(g.t b=.l/\B<=b/\g'.t b=.z)
 sL:∀ b,b<w.heap.size->g.k b<=g'.k b
 tm:∀ b,b<w.heap.size->g.t b∉T->(g.t b=.l->b<B)->g'.k b=g.k b
 same:∀ b,b<w.heap.size->g.t b∉T->(g.t b=.l->b<B)->w'.heap[b]?=w.heap[b]?
 sK:∀ b,b<w.heap.size->∀ j,j<g.k b->w'.cell? ⟨b,j,none⟩=w.cell? ⟨b,j,none⟩
variable{B:Nat}{T:List Tg}{g g':Gh}{w w':World}
theorem Cg.tag(h:Cg B T g w g' w'){b:Nat}(a:b<w.heap.size)(c:g.t b=.l->b<B):g'.t b=g.t b:=by
 rcases h.sR b a with h1|⟨h1,h2,_⟩
 .exact h1
 .have:=c h1;omega
theorem Cg.refl(B:Nat)(T:List Tg)(g:Gh)(w:World):Cg B T g w g w:=⟨rfl,rfl,rfl,A' _,λ_ _=>.inl rfl,λ_ _=>A' _,λ_ _ _ _=>rfl,λ_ _ _ _=>rfl,λ_ _ _ _=>rfl⟩
theorem Cg.trans{f:Gh}{i:World}(h:Cg B T g w g' w')(k:Cg B T g' w' f i):Cg B T g w f i :=
 have e:∀ {b},b<w.heap.size->b<w'.heap.size:=λa=>X' a h.size
 ⟨k.os.trans h.os,k.tape.trans h.tape,k.output.trans h.output,mS h.size k.size,λb a=>by
  rcases h.sR b a with d|⟨d,c,h3⟩
  .rcases k.sR b (e a)with k1|⟨k1,k2,k3⟩
   .exact .inl (k1.trans d)
   .exact .inr ⟨d▸k1,k2,k3⟩
  .rcases k.sR b (e a)with k1|⟨k1,k2,k3⟩
   .exact .inr ⟨d,c,k1.trans h3⟩
   .exact .inr ⟨d,c,k3⟩,
  λb a=>mS (h.sL b a) (k.sL b (e a)),
  λb a d c=>(k.tm b (e a) (by rw[h.tag a c];exact d) (by rw[h.tag a c];exact c)).trans (h.tm b a d c),
  λb a d c=>(k.same b (e a) (by rw[h.tag a c];exact d) (by rw[h.tag a c];exact c)).trans (h.same b a d c),
  λb a j l=>(k.sK b (e a) j (X' l (h.sL b a))).trans (h.sK b a j l)⟩
theorem Cg.mono{f:List Tg}(h:Cg B T g w g' w')(i:∀ t∈T,t∈f):Cg B f g w g' w' :=
 ⟨h.os,h.tape,h.output,h.size,h.sR,h.sL,λb e a c=>h.tm b e (λd=>a (i _ d)) c,λb e a c=>h.same b e (λd=>a (i _ d)) c,h.sK⟩
theorem Cg.ret(h:Cg w.heap.size T g w g' w'):Cg B T g w g' w' :=
 ⟨h.os,h.tape,h.output,h.size,λb a=>.inl (h.tag a (λ_=>a)),h.sL,λb a c _=>h.tm b a c (λ_=>a),λb a c _=>h.same b a c (λ_=>a),h.sK⟩
theorem Cg.eb(h:Bw w w'):Cg B T g w g w' :=
 ⟨h.os,h.tape,h.output,h.size,λ_ _=>.inl rfl,λ_ _=>A' _,λ_ _ _ _=>rfl,λb a _ _=>h.block b a,λb a j _=>World.cell?_of_block (w:=w) (h.block b a)⟩
theorem Cg.af(h:Cg w.heap.size T g w g' w')(c:∀ b,b<w.heap.size->g.t b∉T):Bw w w' :=
 ⟨h.os,h.tape,h.output,h.size,λb a=>h.same b a (c b a) (λ_=>a)⟩
structure Kn(B:Nat)(g:Gh)(w:World)(L:List Sh):Prop where
 row:∀ x∈L,w.heap[x.g]?=some x.o/\g.t x.g=x.t/\(x.t=.l->B<=x.g)/\(x.t≠.z->g.k x.g=0)
 sU:L.Pairwise λx y=>x.g=y.g->(x.t=.z/\x.w=false)/\y.t=.z/\y.w=false
 new:∀ b,w.heap.size<=b->g.t b=.z/\g.k b=0
 base:B<=w.heap.size
def AR(L:List Sh)(w:World):Prop:=∀ x∈L,w.heap[x.g]?=some x.o
theorem Kn.rows{L:List Sh}(h:Kn B g w L):AR L w:=λx a=>(h.row x a).1
inductive Kt where
 | c (x:Code)
 | b (id:Nat)
 | o (ops:Array Oper) (is:List Nat)
 | x (ops:Array Oper) (m:Nat) (Ld:Array Bool) (s:Nat) (L0:List Sh)
 | y (ops:Array Oper) (m:Nat) (Ld:Array Bool) (s:Nat) (L0:List Sh) (i:Nat)
 | j (J:Act->World->Prop)
def Kq(P:Program)(R:Exit->Act->World->Prop):List Kt->Exit->Act->World->Prop
 | []=>R
 | .c x::K=>Exit.then (x.wp P (Kq P R K)) (Kq P R K)
 | .b id::K=>Exit.inBlock id (Kq P R K)
 | .o ops is::K=>Exit.then (wpOps P ops (Kq P R K) is) (Kq P R K)
 | .x ops m Ld s L0::K=>Exit.then (BD P .any ops (Kq P R K) [(s,AR L0)] m Ld) (Kq P R K)
 | .y ops m Ld s L0 i::K=>Exit.then (wpOp P ops (Kq P R K) i (λa w=>Sx [(s,AR L0)] (Ld.setIfInBounds i true) w/\BD P .any ops (Kq P R K) [(s,AR L0)] m (Ld.setIfInBounds i true) a w)) (Kq P R K)
 | .j J::K=>Exit.then J (Kq P R K)
structure Xs where
 K:List Kt
 f:Fm
 L:List Sh
structure GG(P:Program)(fn:Func)(R:Ending->World->Prop)(B:Nat)(T:List Tg)(s:Xs)(g:Gh)(w:World):Prop where
 ex:Kn B g w s.L->Kq P (bodyPost P fn R) s.K .normal s.f.act w
theorem Kq.panic{P:Program}{e:Func}{R:Ending->World->Prop}:∀ (K:List Kt) (c:List PanicEntry) (a:Act) (d:Option Tmp) (v:Value) (w:World),Kq P (bodyPost P e R) K (.panic c) (a.put d v) w->Kq P (bodyPost P e R) K (.panic c) a w
 | [],c,a,d,v,w,h=>by
  have hd:(a.put d v).defers=a.defers:=by cases d<;>rfl
  exact⟨hd▸h.1,h.2⟩
 | .c x::K,c,a,d,v,w,h=>Kq.panic K c a d v w h
 | .b id::K,c,a,d,v,w,h=>Kq.panic K c a d v w h
 | .o ops is::K,c,a,d,v,w,h=>Kq.panic K c a d v w h
 | .x ops m Ld s L0::K,c,a,d,v,w,h=>Kq.panic K c a d v w h
 | .y ops m Ld s L0 i::K,c,a,d,v,w,h=>Kq.panic K c a d v w h
 | .j J::K,c,a,d,v,w,h=>Kq.panic K c a d v w h
inductive Ob where
 | r (x y:World->Result Next)
 | v (x y:Value)
 | t (x y:Tg)
 | l (x y:List Sh)
 | b (x:Bool)
inductive Oe where
 | r (x:World->Result Next)
 | v (x:Value)
 | t (x:Tg)
 | l (x:List Sh)
 | b (x:Bool)
def Ob.l':Ob->Oe|.r x _=>.r x|.v x _=>.v x|.t x _=>.t x|.l x _=>.l x|.b x=>.b x
def Ob.r':Ob->Oe|.r _ x=>.r x|.v _ x=>.v x|.t _ x=>.t x|.l _ x=>.l x|.b _=>.b true
def Ob.ok:Ob->Prop|.r x y=>x=y|.v x y=>x=y|.t x y=>x=y|.l x y=>x=y|.b x=>x=true
theorem Ob.all{l:List Ob}(h:l.map Ob.l'=l.map Ob.r'):∀ o∈l,o.ok:=by
 intro o d;have c:∀ o∈l,o.l'=o.r':=List.map_inj_left.1 h;have a:=c o d;cases o<;>simp only[Ob.l',Ob.r',Oe.r.injEq,Oe.v.injEq,Oe.t.injEq,Oe.l.injEq,Oe.b.injEq]at a<;>exact a
def Ih:Value->Nat|.pointer (some a)=>a.off|_=>0
def CN:Obj->Array Value|.cells c _ _=>c|_=>#[]
def Ec:Obj->Bool|.cells _ _ (0,0)=>true|_=>false
def gA:Obj->Array Value->Obj|.cells _ t f,c=>.cells c t f|o,_=>o
def szT(P:Program)(ty:TypeId):Nat:=((P.info? ty).map (·.size)).getD 0
def Gg(P:Program)(ty:TypeId):Bool:=match P.underlying ty with|some d=>d.isRow|none=>false
def reA:Value->Nat->Value
 | .pointer (some a),g=>.pointer (some { a with block:=g })
 | .slice (some a) n c,g=>.slice (some { a with block:=g }) n c
 | .map (some _),g=>.map (some g)
 | v,_=>v
def fK:Result Next->Value|.ok (.value v) _=>v|_=>undef
def iR:Result Next->Obj|.ok _ w=>(w.heap[0]?).getD default|_=>default
def ge:Op->Bool|.alloc _|.box _ _|.buildSlice _ _ _|.makeSlice _ _ _|.makeMap _ _=>true|_=>false
def lV:Op->Bool|.store _ _ _=>true|_=>false
def mN(i:Nat):Nat->Tg|0=>.z|1=>.l|r+2=>.n r i
structure Rs where
 f:Fm
 L:List Sh
 j:Nat
 h:List Nat
 o:List Ob
def exQ(P:Program)(ops:Array Oper)(o:Oper)(f:Fm)(L:List Sh)(h:List Nat):Value × List Nat × List Ob :=
 cond (f.av ops o) (match o.op with
  | .load ty x =>
   let r:=L.getD (h.headD 0) default
   let off:=Ih (f.ev x)
   (cond (Gg P ty) (.agg (((CN r.o).toList.drop off).take (szT P ty)).toArray) ((CN r.o).getD off undef),h.tail,
    [.v (f.ev x) (pt r.g off),.b (Nat.blt (h.headD 0) L.length&&Nat.ble (off+szT P ty) (CN r.o).size&&(P.info? ty).isSome&&(P.underlying ty).isSome&&Ec r.o&&(Gg P ty||Nat.beq (szT P ty) 1))])
  | _=>let q:=(execOp f.ev o).run P default;(fK q,h,[.r (λw=>(execOp f.ev o).run P w) (λw=>.ok (.value (fK q)) w)]))
  (undef,h,[])
def stP:Op->TypeId × Operand × Operand|.store t x y=>(t,x,y)|_=>(0,.tmp 0,.tmp 0)
def exS(P:Program)(T:List Tg)(o:Oper)(f:Fm)(L:List Sh)(j:Nat)(h:List Nat):Rs :=
 let ty:=(stP o.op).1
 let x:=(stP o.op).2.1
 let r:=L.getD (h.headD 0) default
 let off:=Ih (f.ev x)
 let v:=f.ev (stP o.op).2.2
 let cs:=cond (Gg P ty) v.cells #[v]
 let m:=h.tail.headD 0
 ⟨f,L.set (h.headD 0) { r with o:=gA r.o (eH (CN r.o) off cs.toList) },j,h.tail.tail,
  [.v (f.ev x) (pt r.g off),.v v (cond (Gg P ty) (.agg cs) v),.t (cond r.w .l r.t) (cond r.w .l ((Tg.l::T).getD m .z)),
   .b (Nat.blt (h.headD 0) L.length&&Nat.ble (off+cs.size) (CN r.o).size&&(P.info? ty).isSome&&Nat.beq (szT P ty) cs.size&&Ec r.o&&o.dst.isNone&&cs.all (·.oneCell')&&(r.w||(Nat.ble m T.length&&!r.t.sI)))]⟩
def exN(P:Program)(gs:Nat->Nat)(o:Oper)(f:Fm)(L:List Sh)(j:Nat)(h:List Nat):Rs :=
 let q:=(execOp f.ev o).run P default
 ⟨f.put o.dst (reA (fK q) (gs j)),L++[⟨gs j,iR q,mN (h.tail.headD 0) (h.headD 0),true⟩],j+1,h.tail.tail,
  [.r (λw=>(execOp f.ev o).run P w) (λw=>.ok (.value (reA (fK q) w.heap.size)) (w.alloc (iR q))),.b o.dst.isSome]⟩
def exO(P:Program)(T:List Tg)(gs:Nat->Nat)(ops:Array Oper)(o:Oper)(f:Fm)(L:List Sh)(j:Nat)(h:List Nat):Rs :=
 cond (f.av ops o&&lV o.op) (exS P T o f L j h) (cond (f.av ops o&&ge o.op) (exN P gs o f L j h)
  (let q:=exQ P ops o f L h;⟨f.put o.dst q.1,L,j,q.2.1,.b (o.dst.isSome||!f.av ops o)::q.2.2⟩))
def WH(id:Nat):List Kt->List Kt
 | []=>[]
 | .b i::K=>cond (Nat.beq i id) K (WH id K)
 | _::K=>WH id K
def YK(id:Nat):List Kt->Bool
 | []=>false
 | .b i::K=>cond (Nat.beq i id) true (YK id K)
 | _::K=>YK id K
def Yx(ops:Array Oper)(i:Nat):List Nat :=
 (List.range ops.size).foldl (λD j=>cond (match ops[j]? with|none=>false|some o=>o.after.any λe=>Region.binds .any e&&D.contains e.on) (j::D) D) [i]
def tkB(ops:Array Oper)(Ld:Array Bool)(s i:Nat)(ld:Bool):Bool :=
 Region.noSelect ops&&(Region.free .any ops Ld i&&(Region.ready .any ops Ld).contains i&&(s != i)&&decide (Ld.size=ops.size) &&
  (cond ld (let D:=Yx ops i;D.contains i&&(D.contains s||decide (ops.size<=s))&&Nf .any ops i D&&D.all λj=>Ld.getD j true==false) (Ld.getD i true==false)))
def dK:Op->Bool|.load _ _=>true|_=>false
def BN(L:List Sh):List Sh:=L.map λx=>⟨x.g,x.o,x.t,false⟩
structure Rz where
 s:Xs
 o:List Ob
def rn(P:Program)(T:List Tg)(gs:Nat->Nat):Nat->Xs->Nat->List Nat->Rz
 | 0,s,_,_=>⟨s,[]⟩
 | m+1,s,j,h=>match s.K with
  | []=>⟨s,[.b false]⟩
  | .c x::K=>match x with
   | .skip=>rn P T gs m ⟨K,s.f,s.L⟩ j h
   | .seq x y=>rn P T gs m ⟨.c x::.c y::K,s.f,s.L⟩ j h
   | .block id x=>rn P T gs m ⟨.c x::.b id::K,s.f,s.L⟩ j h
   | .exit id=>let r:=rn P T gs m ⟨WH id K,s.f,s.L⟩ j h;⟨r.s,.b (YK id K)::r.o⟩
   | .cond c x y=>match s.f.ev c with
    | .bool t=>rn P T gs m ⟨.c (cond t x y)::K,s.f,s.L⟩ j h
    | _=>⟨s,[.b false]⟩
   | .region _ ops false=>rn P T gs m ⟨.o ops (List.range ops.size)::K,s.f,s.L⟩ j h
   | .region _ ops true=>let r:=rn P T gs m ⟨.x ops ops.size (Array.replicate ops.size false) (h.headD 0) (BN s.L)::K,s.f,s.L⟩ j h.tail;⟨r.s,.b (P.follows .mixedOrders)::r.o⟩
   | _=>⟨s,[.b false]⟩
  | .b _::K=>rn P T gs m ⟨K,s.f,s.L⟩ j h
  | .j _::_=>⟨s,[.b false]⟩
  | .o _ []::K=>rn P T gs m ⟨K,s.f,s.L⟩ j h
  | .o ops (i::is)::K=>match ops[i]? with
   | none=>⟨s,[.b false]⟩
   | some o=>let q:=exO P T gs ops o s.f s.L j h;let r:=rn P T gs m ⟨.o ops is::K,q.f,q.L⟩ q.j q.h;⟨r.s,q.o++r.o⟩
  | .y ops u Ld e L0 i::K=>match ops[i]? with
   | none=>⟨s,[.b false]⟩
   | some o =>
    let q:=exO P T gs ops o s.f s.L j h
    let Ld':=Ld.setIfInBounds i true
    let r:=rn P T gs m ⟨.x ops u Ld' e L0::K,q.f,q.L⟩ q.j q.h
    ⟨r.s,.l (cond (Ld'.getD e false) [] L0) (cond (Ld'.getD e false) [] (BN (q.L.take L0.length)))::(q.o++r.o)⟩
  | .x ops 0 Ld _ _::K=>let r:=rn P T gs m ⟨K,s.f,s.L⟩ j h;⟨r.s,.b (Region.ready .any ops Ld).isEmpty::r.o⟩
  | .x ops (u+1) Ld e L0::K =>
   let i:=h.headD 0/2
   let Ld':=Ld.setIfInBounds i true
   match ops[i]? with
   | none=>⟨s,[.b false]⟩
   | some o=>cond (Nat.beq (h.headD 0%2) 0)
    (let q:=exQ P ops o s.f L0 h.tail
     let r:=rn P T gs m ⟨.x ops u Ld' e L0::K,s.f.put o.dst q.1,s.L⟩ j q.2.1
     let d:=dK o.op&&s.f.av ops o
     ⟨r.s,.b (tkB ops Ld e i d&&o.dst.isSome&&(!d||!Ld.getD e false))::.l (cond (Ld.getD e false) [] L0) (cond (Ld.getD e false) [] (BN (s.L.take L0.length)))::(q.2.2++r.o)⟩)
    (let q:=exO P T gs ops o s.f s.L j h.tail
     let r:=rn P T gs m ⟨.x ops u Ld' e L0::K,q.f,q.L⟩ q.j q.h
     ⟨r.s,.b (match Region.ready .any ops Ld with|[k]=>Nat.beq k i|_=>false)::.l (cond (Ld'.getD e false) [] L0) (cond (Ld'.getD e false) [] (BN (q.L.take L0.length)))::(q.o++r.o)⟩)
end
section
variable{P:Program}{ops:Array Oper}{Q:Exit->Act->World->Prop}
section
variable{B i j:Nat}{L:List Sh}{T:List Tg}{f:Fm}{g g0:Gh}{h:List Nat}{o:Oper}{w w' w0:World}
theorem Pk(p:ops[i]?=some o)(a:∀ x∈(exQ P ops o f L h).2.2,x.ok)(W:World)(E:AR L W\/(dK o.op&&f.av ops o)=false) :
  got P ops f.act W i=some (o.dst,(exQ P ops o f L h).1,W):=by
 unfold exQ at a ⊢;cases hwt:f.av ops o with
 | false =>
  simp only[cond_false];unfold got;simp only[p,f.wanted,hwt,if_false,qh]
 | true =>
  rw[hwt]at a E
  simp only[cond_true]at a ⊢;have b:Region.wanted o (yielded ops f.act.tmps)=true:=by rw[f.wanted,hwt]
  split at a
  .rename_i ty x hop
   simp only[];have u:AR L W:=E.resolve_right (by simp[hop,dK]);have c:=a _ (M' ..);have n:=a _ (I' _ (M' ..));simp only[Ob.ok,nC]at c n;obtain⟨⟨⟨⟨⟨z,s⟩,A⟩,B⟩,C⟩,D⟩:=n;generalize N:h.headD 0=k at *;have m:k<L.length:=by rw[Nat.blt,qp]at z;exact z
   have H:L.getD k default=L[k]:=by rw[nF,E' m];rfl
   rw[H]at c s C ⊢
   have g:=u L[k] (nJ m);generalize L[k]=r at *;obtain⟨q,J,Q,K⟩:=r;cases J with
   | cells cs t fr =>
    obtain⟨O,M⟩:=fr;simp only[CN]at s ⊢;rw[qp]at s
    cases hu:P.underlying ty with
    | none=>rw[hu]at B;cases B
    | some dd =>
     cases hi':P.info? ty with
     | none=>rw[hi']at A;cases A
     | some inf =>
      have y:szT P ty=inf.size:=by unfold szT;rw[hi'];rfl
      have j:Gg P ty=dd.isRow:=by unfold Gg;rw[hu]
      have F:f.act.eval x=pt q (Ih (f.ev x)):=by rw[f.eval];exact c
      cases hrow':dd.isRow with
      | false =>
       rw[j,hrow',cond_false];have e:Ih (f.ev x)<cs.size:=by rw[j,hrow',rH]at D;have:=nD D;omega
       have w:W.cell? ⟨q,Ih (f.ev x),none⟩=some (cs.getD (Ih (f.ev x)) undef):=by
        rw[cell_of_row _ _ _ _ _ _ g,po e,nT,po e];rfl
       have l:(isAgg ty).run P W=.ok false W:=by
        unfold isAgg;rw[Sem.run_bind,run_underlying hu W];clear a c u;cases dd<;>first|rfl|(simp only[TypeDesc.isRow]at hrow';cases hrow')
       have G:(loadVar ty ⟨q,Ih (f.ev x),none⟩).run P W=.ok (cs.getD (Ih (f.ev x)) undef) W:=by
        generalize cs.getD (Ih (f.ev x)) undef=v at *;generalize Ih (f.ev x)=k0 at *;clear a c u;simp[loadVar,l,w,go_sem]
       unfold got execOp;simp only[p,b,if_true,hop,F,Instr.loadAt,Instr.sureAddr,Sem.run_bind,Sem.run_pure,Result.andThen_ok,G]
      | true =>
       rw[j,hrow',cond_true];have d:((cs.toList.drop (Ih (f.ev x))).take (szT P ty)).length=szT P ty:=by rw[j',nc,oM];omega
       have w:=Rn g (Ih (f.ev x)) ((cs.toList.drop (Ih (f.ev x))).take (szT P ty)) (by rw[d]);have I:(P.info? ty).map (·.size)=some (((cs.toList.drop (Ih (f.ev x))).take (szT P ty))).length:=by rw[hi',d,y];rfl
       unfold got execOp;simp only[p,b,if_true,hop,F,Instr.loadAt,Instr.sureAddr,Sem.run_bind,Sem.run_pure,Result.andThen_ok,run_loadVar_mid W q _ ty _ dd w hu hrow' I]
   | _=>cases C
  .rename_i hno
   have c:=a _ (M' ..);simp only[Ob.ok]at c;have n:=congrFun c W;unfold got;simp only[p,b,if_true,f.eval,n]
theorem Kn.two(h:Kn B g w L){i j:Nat}(d:i<L.length)(e:j<L.length)(a:i≠j)(c:L[i].g=L[j].g):(L[i].t=.z/\L[i].w=false)/\L[j].t=.z/\L[j].w=false:=by
 have b:=nZ.1 h.sU;rcases Nat.lt_or_gt_of_ne a with hl|hl
 .exact b i j d e hl c
 .have:=b j i e d hl c.symm;exact⟨this.2,this.1⟩
theorem Kn.set{k:Nat}(C:k<L.length)(f:Kn B g w L)(y:L[k].w=true\/L[k].t≠.z)(q:Obj)(G:w'.heap[L[k].g]?=some q)(v:Only L[k].g w w') :
  Kn B g w' (L.set k { L[k]with o:=q }):=by
 have E:∀ n (p:n<L.length),n≠k->L[n].g≠L[k].g:=λn p e r=>by
  have:=f.two p C e r;rcases y with h|h
  .rw[this.2.2]at h;cases h
  .exact h this.2.1
 refine⟨λx H=>?_,?_,λb D=>f.new b (by rw[<- v.size];exact D),by rw[v.size];exact f.base⟩
 .obtain⟨n,p,rfl⟩:=pG H;have d:n<L.length:=by simpa using p
  rw[pi];split
  .exact⟨G,(f.row _ (nJ C)).2⟩
  .rename_i e
   have A:=f.row _ (nJ d);refine⟨?_,A.2⟩;rw[v.other _ (E n d (λh=>e h.symm))];exact A.1
 .rw[nZ];intro i j s u F r;have a:i<L.length:=by simpa using s
  have c:j<L.length:=by simpa using u
  have m:∀ n (p:n<(L.set k { L[k]with o:=q }).length) (d:n<L.length),(L.set k { L[k]with o:=q })[n].g=L[n].g/\(L.set k { L[k]with o:=q })[n].t=L[n].t/\(L.set k { L[k]with o:=q })[n].w=L[n].w:=λn p d=>by
   rw[pi];split
   .rename_i h;subst h;exact⟨rfl,rfl,rfl⟩
   .exact⟨rfl,rfl,rfl⟩
  rw[(m i s a).1,(m j u c).1]at r
  have:=f.two a c (by omega) r;rw[(m i s a).2.1,(m i s a).2.2,(m j u c).2.1,(m j u c).2.2];exact this
theorem Cg.only{b:Nat}(h:Cg B T g0 w0 g w)(d:Only b w w')(hb:w0.heap.size<=b\/((g.t b∈T\/(g.t b=.l/\B<=b))/\g.k b=0)):Cg B T g0 w0 g w' :=
 ⟨d.os.trans h.os,d.tape.trans h.tape,d.output.trans h.output,by rw[d.size];exact h.size,h.sR,h.sL,h.tm,λc e i f=>by
  have a:c≠b:=by
   rintro rfl;rcases hb with hb|⟨hb|hb,_⟩
   .omega
   .rw[h.tag e f]at hb;exact i hb
   .rw[h.tag e f]at hb;have:=f hb.1;omega
  rw[d.other c a];exact h.same c e i f,λc e j m=>by
  have a:c≠b:=by
   rintro rfl;rcases hb with hb|⟨_,hb⟩
   .omega
   .have:=h.sL _ e;omega
  rw[World.cell?_of_block (w:=w) (d.other c a)];exact h.sK c e j m⟩
theorem Kn.push(d:Kn B g w L)(o:Obj)(t:Tg)(b:Bool) :
  Kn B ⟨λc=>if c=w.heap.size then t else g.t c,g.k⟩ (w.alloc o) (L++[⟨w.heap.size,o,t,b⟩]):=by
 have e:∀ x∈L,x.g<w.heap.size:=λx i=>rl (d.row x i).1;refine⟨λx i=>?_,?_,λc f=>?_,?_⟩
 .rcases P'.1 i with h|h
  .have h1:=d.row x h;have m:=e x h;exact⟨by rw[Below.heap_alloc _ _ _ m];exact h1.1,by show(if x.g=w.heap.size then t else g.t x.g)=_;rw[if_neg (by omega)];exact h1.2.1,h1.2.2.1,h1.2.2.2⟩
  .obtain rfl:x=⟨w.heap.size,o,t,b⟩:=by simpa using h
   exact⟨heap_alloc_new _ _,if_pos rfl,λ_=>d.base,λ_=>(d.new _ (A' _)).2⟩
 .rw[pq];refine⟨d.sU,qi _ _,λa p c f j=>?_⟩;have:=e a p;rw[D'.1 f]at j
  simp only at j;omega
 .have h1:w.heap.size+1<=c:=by simpa using f
  show(if c=w.heap.size then t else g.t c)=.z/\g.k c=0;rw[if_neg (by omega)];exact d.new c (by omega)
 .have:=d.base;simp;omega
theorem Cg.push(h:Cg B T g0 w0 g w)(o:Obj)(t:Tg):Cg B T g0 w0 ⟨λc=>if c=w.heap.size then t else g.t c,g.k⟩ (w.alloc o) :=
 ⟨h.os,h.tape,h.output,by have:=h.size;simp;omega,λb a=>by
  show(if b=w.heap.size then t else g.t b)=_\/(_/\_/\(if b=w.heap.size then t else g.t b)=_);have:=h.size;rw[if_neg (by omega)];exact h.sR b a,h.sL,h.tm,λb a d e=>by
  have:=h.size;rw[Below.heap_alloc _ _ _ (by omega)];exact h.same b a d e,λb a j f=>by
  have:=h.size;rw[World.cell?_of_block (w:=w) (Below.heap_alloc _ _ _ (by show b<_;omega))];exact h.sK b a j f⟩
theorem S9{gs:Nat->Nat}{K:Act->World->Prop}(ho:ops[i]?=some o)(a:∀ x∈(exO P T gs ops o f L j h).o,x.ok)(R:Kn B g w L)(W:Cg B T g0 w0 g w)(X:∀ x∈L,x.w=true->w0.heap.size<=x.g)(hj:∀ k,gs (j+k)=w.heap.size+k)(c:∀ g' w',Kn B g' w' (exO P T gs ops o f L j h).L->Cg B T g0 w0 g' w'->(∀ x∈(exO P T gs ops o f L j h).L,x.w=true->w0.heap.size<=x.g)->(∀ k,gs ((exO P T gs ops o f L j h).j+k)=w'.heap.size+k)->K (exO P T gs ops o f L j h).f.act w') :
  wpOp P ops Q i K f.act w:=by
 unfold exO at a c;cases hs:f.av ops o&&lV o.op with
 | true =>
  rw[hs]at a c
  simp only[cond_true]at a c;simp only[nC]at hs;obtain⟨a2,D⟩:=hs;have r:Region.wanted o (yielded ops f.act.tmps)=true:=by rw[f.wanted,a2]
  obtain⟨V,x,y,J⟩:∃ V x y,o.op=.store V x y:=by
   cases hh:o.op<;>rw[hh]at D<;>first|exact⟨_,_,_,rfl⟩|cases D
  unfold exS at a c;simp only[J,stP]at a c;have O:=a _ (M' ..);have A:=a _ (I' _ (M' ..));have v:=a _ (I' _ (I' _ (M' ..)));have h4:=a _ (I' _ (I' _ (I' _ (M' ..))));clear a;simp only[Ob.ok,nC]at O A v h4;obtain⟨⟨⟨⟨⟨⟨⟨b1,F⟩,b3⟩,b4⟩,N⟩,b6⟩,b7⟩,u⟩:=h4;generalize a3:h.headD 0=k at *;have s:k<L.length:=by rw[Nat.blt,qp]at b1;exact b1
  have hr:L.getD k default=L[k]:=by rw[nF,E' s];rfl
  rw[hr]at O v F N u
  simp only[hr]at c;have q:=R.row L[k] (nJ s);have a0:o.dst=none:=by cases Z:o.dst with|none=>rfl|some _=>rw[Z]at b6;cases b6
  have E:f.act.eval x=pt L[k].g (Ih (f.ev x)):=by rw[f.eval];exact O
  obtain⟨cs,t,Y⟩:∃ cs t,L[k].o=.cells cs t (0,0):=by
   cases hh:L[k].o with
   | cells cs t fr =>
    obtain⟨lo,S⟩:=fr;rw[hh]at N
    cases lo with
    | zero=>cases S with
     | zero=>exact⟨cs,t,rfl⟩
     | succ n=>cases N
    | succ n=>cases N
   | _=>rw[hh]at N;cases N
  simp only[Y,CN,gA]at F c;have e:=q.1;rw[Y]at e
  rw[qp]at F
  have S:(P.info? V).map (·.size)=some (cond (Gg P V) (f.ev y).cells #[f.ev y]).size:=by
   have:=nD b4;unfold szT at this;cases hh:P.info? V with
   | none=>rw[hh]at b3;cases b3
   | some inf=>rw[hh]at this;rw[<- this];rfl
  have hin:w0.heap.size<=L[k].g\/((g.t L[k].g∈T\/(g.t L[k].g=.l/\B<=L[k].g))/\g.k L[k].g=0):=by
   cases U:L[k].w with
   | true=>exact .inl (X _ (nJ s) U)
   | false =>
    rw[U]at v u
    simp only[cond_false,rH,nC,qt]at v u;have hz:L[k].t≠.z:=λH=>by rw[H]at u;cases u.2
    refine .inr ⟨?_,q.2.2.2 hz⟩;rw[q.2.1];have hm:=u.1;rw[qp]at hm
    generalize h.tail.headD 0=m at *;cases m with
    | zero=>exact .inr ⟨v,q.2.2.1 v⟩
    | succ m =>
     left;rw[v];show T.getD m .z∈T;rw[nF,E' (by omega)];exact nJ _
  have a1:L[k].w=true\/L[k].t≠.z:=by
   cases U:L[k].w with
   | true=>exact .inl rfl
   | false =>
    rw[U]at u
    simp only[rH,nC,qt]at u;exact .inr λH=>by rw[H]at u;cases u.2
  have C:∀ o',∀ x∈L.set k { L[k]with o:=o' },x.w=true->w0.heap.size<=x.g:=λo' x E p=>by
   obtain⟨n,hn,rfl⟩:=pG E;rw[pi]at p ⊢
   split
   .rename_i H;rw[if_pos H]at p;exact X L[k] (nJ s) p
   .rename_i H;rw[if_neg H]at p;exact X _ (nJ (by simpa using hn)) p
  cases hrt:Gg P V with
  | false =>
   simp only[hrt,cond_false]at S A b7 F c;refine kT (f.ev y) e ho r a0 J E (by rw[f.eval]) S (Nat.lt_of_succ_le F) (by simpa using b7) rfl λw' M G=>c g w' (R.set s a1 _ M G) (W.only G hin) (C _) (by rw[G.size];exact hj)
  | true =>
   simp only[hrt,cond_true]at S A b7 F c;refine kS (f.ev y).cells e ho r a0 J E (by rw[f.eval];exact A) S F b7 rfl λw' M G=>c g w' (R.set s a1 _ M G) (W.only G hin) (C _) (by rw[G.size];exact hj)
 | false =>
  rw[hs]at a c
  simp only[cond_false]at a c;clear hs;cases hc:f.av ops o&&ge o.op with
  | false =>
   rw[hc]at a c
   simp only[cond_false]at a c;have hq:=Pk (h:=h) ho (λx E=>a x (I' _ E)) w (.inl R.rows);have Z:=a _ (M' ..);simp only[Ob.ok,rj,qt]at Z;have b:=c g w R W X hj;rw[Fm.sD]at b
   cases hdd:o.dst with
   | some d=>rw[hdd]at hq b;exact kQ d _ hq b
   | none =>
    rw[hdd]at Z b
    have U:f.av ops o=false:=by simpa using Z
    unfold wpOp;rw[ho];simp only[f.wanted,U,qh,if_false,hdd];exact b
  | true =>
   rw[hc]at a c
   simp only[cond_true]at a c;simp only[nC]at hc;have r:Region.wanted o (yielded ops f.act.tmps)=true:=by rw[f.wanted,hc.1]
   unfold exN at a c;have O:=a _ (M' ..);have A:=a _ (I' _ (M' ..));simp only[Ob.ok]at O A;have v:=congrFun O w;have I:gs j=w.heap.size:=by have:=hj 0;simpa using this
   cases hdd:o.dst with
   | none=>rw[hdd]at A;cases A
   | some d =>
    refine ZL ho r hdd (by rw[f.eval];exact v) ?_;have b:=c _ _ (by simp only[I];exact R.push (iR ((execOp f.ev o).run P default)) _ true) (W.push _ _) (λx E p=>?_) (λk=>?_)
    .simp only[I,hdd]at b;rw[<- Fm.sD];exact b
    .rcases P'.1 E with h5|h5
     .exact X x h5 p
     .have h6:=D'.1 h5;rw[h6];show _<=gs j;rw[I];exact W.size
    .have:=hj (1+k);show gs (j+1+k)=_;rw[show j+1+k=j+(1+k)by omega,this];simp;omega
end
end
section
variable{P:Program}{fn:Func}{R:Ending->World->Prop}
section
theorem Kq.exit(id:Nat):∀ (K:List Kt) (a:Act) (w:World),YK id K=true->Kq P (bodyPost P fn R) (WH id K) .normal a w->Kq P (bodyPost P fn R) K (.exit id) a w
 | [],a,w,h,_=>by cases h
 | .c x::K,a,w,h,hk=>Kq.exit id K a w h hk
 | .b i::K,a,w,h,hk=>by
  show(if id=i then Kq P (bodyPost P fn R) K .normal a w else Kq P (bodyPost P fn R) K (.exit id) a w);unfold YK at h;unfold WH at hk;cases hb:Nat.beq i id with
  | true =>
   rw[hb]at hk
   rw[if_pos (nD hb).symm];exact hk
  | false =>
   rw[hb]at h hk
   rw[if_neg (λhe=>by subst he;rw[rV]at hb;cases hb)];exact Kq.exit id K a w h hk
 | .o ops is::K,a,w,h,hk=>Kq.exit id K a w h hk
 | .x ops m Ld s L0::K,a,w,h,hk=>Kq.exit id K a w h hk
 | .y ops m Ld s L0 i::K,a,w,h,hk=>Kq.exit id K a w h hk
 | .j J::K,a,w,h,hk=>Kq.exit id K a w h hk
variable{B:Nat}{L:List Sh}{T:List Tg}{g g0:Gh}{w w0:World}
theorem Cg.drew(h:Cg B T g0 w0 g w):Cg B T g0 w0 g w.drew:=⟨h.os,h.tape,h.output,h.size,h.sR,h.sL,h.tm,h.same,h.sK⟩
theorem Kn.drew(h:Kn B g w L):Kn B g w.drew L:=⟨h.row,h.sU,h.new,h.base⟩
theorem Xg{ops:Array Oper}{e:Nat}{a:List Sh}{b:Array Bool}(h:AR L w)(d:cond (b.getD e false) [] a=cond (b.getD e false) [] (BN (L.take a.length))):Sx [(e,AR a)] b w:=by
 refine⟨λg=>?_,trivial⟩;rw[g]at d
 have c:a=BN (L.take a.length):=d;intro x f;rw[c]at f
 obtain⟨y,i,rfl⟩:=nw.1 f;exact h y (nm i)
theorem lO(gs:Nat->Nat):∀ (m:Nat) (s:Xs) (j:Nat) (h:List Nat) (g:Gh) (w:World),(∀ x∈(rn P T gs m s j h).o,x.ok)->Kn B g w s.L->Cg B T g0 w0 g w ->
  (∀ x∈s.L,x.w=true->w0.heap.size<=x.g)->(∀ k,gs (j+k)=w.heap.size+k) ->
  (∀ g' w',Kn B g' w' (rn P T gs m s j h).s.L->Cg B T g0 w0 g' w'->Kq P (bodyPost P fn R) (rn P T gs m s j h).s.K .normal (rn P T gs m s j h).s.f.act w') ->
  Kq P (bodyPost P fn R) s.K .normal s.f.act w:=by
 intro m;induction m with
 | zero=>intro s j h g w _ C E _ _ q;exact q g w C E
 | succ m ih =>
  intro s j h g w p C E G H q;obtain⟨K,f,L⟩:=s;unfold rn at p q;cases K with
  | nil=>exact absurd (p _ (M' ..)) (by simp[Ob.ok])
  | cons t K =>
   cases t with
   | c x =>
    cases x with
    | skip=>exact wp_skip (ih ⟨K,f,L⟩ j h g w p C E G H q)
    | seq x y=>exact wp_seq (ih ⟨.c x::.c y::K,f,L⟩ j h g w p C E G H q)
    | block id x=>exact wp_block (ih ⟨.c x::.b id::K,f,L⟩ j h g w p C E G H q)
    | exit id =>
     refine wp_exit (Kq.exit id K _ _ (p _ (M' ..)) ?_);exact ih ⟨WH id K,f,L⟩ j h g w (λx r=>p x (I' _ r)) C E G H q
    | cond c x y =>
     simp only at p q;split at p
     .rename_i t ht
      simp only[ht]at q;have hc:f.act.eval c=.bool t:=by rw[f.eval];exact ht
      have D:=ih ⟨.c (cond t x y)::K,f,L⟩ j h g w p C E G H q;refine wp_cond hc ?_;cases t<;>exact D
     .exact absurd (p _ (M' ..)) (by simp[Ob.ok])
    | region id ops d =>
     cases d with
     | false =>
      refine wp_region ?_;rw[List.range_eq_range',<- List.range_eq_range'];exact ih ⟨.o ops (List.range ops.size)::K,f,L⟩ j h g w p C E G H q
     | true =>
      refine fW [(h.headD 0,AR (BN L))] (p _ (M' ..)) ?_;exact ih ⟨.x ops ops.size (Array.replicate ops.size false) (h.headD 0) (BN L)::K,f,L⟩ j h.tail g w.drew (λx r=>p x (I' _ r)) C.drew E.drew G H q
    | _=>exact absurd (p _ (M' ..)) (by simp[Ob.ok])
   | b id=>exact ih ⟨K,f,L⟩ j h g w p C E G H q
   | j J=>exact absurd (p _ (M' ..)) (by simp[Ob.ok])
   | o ops is =>
    cases is with
    | nil=>exact ih ⟨K,f,L⟩ j h g w p C E G H q
    | cons i is =>
     simp only at p q;cases ho:ops[i]? with
     | none=>rw[ho]at p;exact absurd (p _ (M' ..)) (by simp[Ob.ok])
     | some o =>
      simp only[ho]at p q;show wpOps P ops (Kq P (bodyPost P fn R) K) (i::is) f.act w;rw[wpOps_cons];refine S9 (h:=h) (j:=j) (gs:=gs) ho (λx r=>p x (mV _ r)) C E G H λg' w' F I M N=>ih ⟨.o ops is::K,_,_⟩ _ _ g' w' (λx r=>p x (mU _ r)) F I M N q
   | y ops u Ld e L0 i =>
    simp only at p q;cases ho:ops[i]? with
    | none=>rw[ho]at p;exact absurd (p _ (M' ..)) (by simp[Ob.ok])
    | some o =>
     simp only[ho]at p q;have O:=p _ (M' ..);simp only[Ob.ok]at O;show wpOp P ops (Kq P (bodyPost P fn R) K) i (λa w=>Sx [(e,AR L0)] (Ld.setIfInBounds i true) w/\BD P .any ops (Kq P (bodyPost P fn R) K) [(e,AR L0)] u (Ld.setIfInBounds i true) a w) f.act w;refine S9 (h:=h) (j:=j) (gs:=gs) ho (λx r=>p x (I' _ (mV _ r))) C E G H λg' w' F I M N=>⟨Xg (ops:=ops) F.rows O,ih ⟨.x ops u (Ld.setIfInBounds i true) e L0::K,_,_⟩ _ _ g' w' (λx r=>p x (I' _ (mU _ r))) F I M N q⟩
   | x ops u Ld e L0 =>
    cases u with
    | zero =>
     have D:=p _ (M' ..);simp only[Ob.ok,List.isEmpty_iff]at D;exact⟨D,ih ⟨K,f,L⟩ j h g w (λx r=>p x (I' _ r)) C E G H q⟩
    | succ u =>
     simp only at p q;generalize hi:h.headD 0/2=i at *;cases ho:ops[i]? with
     | none=>rw[ho]at p;exact absurd (p _ (M' ..)) (by simp[Ob.ok])
     | some o =>
      simp only[ho]at p q;have hQ:∀ c a d v w,Kq P (bodyPost P fn R) K (.panic c) (a.put (some d) v) w->Kq P (bodyPost P fn R) K (.panic c) a w:=λc a d v w=>Kq.panic K c a (some d) v w;cases hm:Nat.beq (h.headD 0%2) 0 with
      | true =>
       simp only[hm,cond_true]at p q;have D:=p _ (M' ..);have O:=p _ (I' _ (M' ..));have V:∀ x∈(exQ P ops o f L0 h.tail).2.2,x.ok:=λx r=>p x (I' _ (I' _ (mV _ r)));have X:=λx r=>p x (I' _ (I' _ (mU _ r)));simp only[Ob.ok,nC]at D O;obtain⟨⟨D,Q⟩,S⟩:=D;have Y:Sx [(e,AR L0)] Ld w:=Xg (ops:=ops) C.rows O;have A:=ih ⟨.x ops u (Ld.setIfInBounds i true) e L0::K,f.put o.dst (exQ P ops o f L0 h.tail).1,L⟩ j _ g w X C E G H q;simp only[Fm.sD]at A;cases hdd:o.dst with
       | none=>rw[hdd]at Q;cases Q
       | some d =>
        rw[hdd]at A
        unfold tkB at D;simp only[nC]at D;obtain⟨ns,⟨⟨⟨⟨t1,t2⟩,t3⟩,t4⟩,U⟩⟩:=D;cases hld:dK o.op&&f.av ops o with
        | false =>
         rw[hld,cond_false]at U
         refine xB0 u [i] [(d,(exQ P ops o f L0 h.tail).1)] (λW=>?_) ns ?_ rfl rfl hQ Y A
         .have hg:=Pk (h:=h.tail) ho V W (.inr hld);rw[hdd]at hg
          simp only[SL,av,nO,oN,hg]
         .simp only[MR,nO,oN,pF,rW,rI,nC];exact⟨⟨⟨⟨t1,t2⟩,t3⟩,t4⟩,U⟩
        | true =>
         rw[hld,cond_true]at U
         rw[hld]at S
         have Z:Ld.getD e false=false:=by simpa using S
         refine xC0 u i d (Yx ops i) (exQ P ops o f L0 h.tail).1 (λW hW=>?_) (Y.1 Z) ns ?_ rfl hQ Y A
         .have hg:=Pk (h:=h.tail) ho V W (.inl hW);rw[hdd]at hg
          exact hg
         .simp only[nO,oN,pF,rW,rI,nC]at U ⊢;exact⟨⟨⟨⟨t1,t2⟩,t3⟩,t4⟩,U⟩
      | false =>
       simp only[hm,cond_false]at p q;have D:=p _ (M' ..);have O:=p _ (I' _ (M' ..));have V:=λx r=>p x (I' _ (I' _ (mV _ r)));have X:=λx r=>p x (I' _ (I' _ (mU _ r)));simp only[Ob.ok]at D O;have hr:Region.ready .any ops Ld=[i]:=by
        split at D
        .rename_i k q;rw[q,nD D]
        .cases D
       refine xS0 u i hr rfl ?_;refine S9 (h:=h.tail) (j:=j) (gs:=gs) ho V C E G H λg' w' F I M N=>⟨Xg (ops:=ops) F.rows O,ih ⟨.x ops u (Ld.setIfInBounds i true) e L0::K,_,_⟩ _ _ g' w' X F I M N q⟩
end
end
section
variable{P:Program}{fn:Func}{R:Ending->World->Prop}{B:Nat}{T:List Tg}{g:Gh}{w:World}
section
variable{L:List Sh}{T':List Tg}{args:Array Value}{f:FuncId}{g' g'':Gh}{i':Nat}{s:Xs}{w' w'':World}
theorem Kn.uc(h:Kn B g w L):Kn B g w (BN L):=by
 refine⟨λx c=>?_,?_,h.new,h.base⟩
 .obtain⟨y,hy,rfl⟩:=nw.1 c;exact h.row y hy
 .unfold BN;rw[List.pairwise_map];exact h.sU.imp λb a=>⟨⟨(b a).1.1,rfl⟩,(b a).2.1,rfl⟩
def rn0(P:Program)(T:List Tg)(gs:Nat->Nat)(m:Nat)(s:Xs)(h:List Nat):Rz:=rn P T gs m ⟨s.K,s.f,BN s.L⟩ 0 h
theorem dw(a:List Tg)(m:Nat)(h:List Nat)(d:∀ gs,(rn0 P a gs m s h).o.map Ob.l'=(rn0 P a gs m s h).o.map Ob.r')(j:∀ gs g' w',Cg B a g w g' w'->GG P fn R B T (rn0 P a gs m s h).s g' w'):GG P fn R B T s g w:=by
 refine⟨λi=>?_⟩;refine lO (λk=>w.heap.size+k) m ⟨s.K,s.f,BN s.L⟩ 0 h g w (Ob.all (d _)) i.uc (Cg.refl B a g w) ?_ (λk=>by simp) λg' w' c b=>(j _ g' w' b).ex c;intro x p e;obtain⟨y,q,rfl⟩:=nw.1 p;cases e
theorem Af(h:Kn B g w s.L->GG P fn R B T s g w):GG P fn R B T s g w:=⟨λa=>(h a).ex a⟩
def opN(s:Xs)(i':Nat):Option (Array Oper × Nat × Oper):=match s.K with
 | .o ops (i::_)::_=>match ops[i]? with|some o=>some (ops,i,o)|none=>none
 | .x ops _ _ _ _::_=>match ops[i']? with|some o=>some (ops,i',o)|none=>none
 | .y ops _ _ _ _ i::_=>match ops[i]? with|some o=>some (ops,i,o)|none=>none
 | _=>none
def nxt(s:Xs)(i':Nat)(v:Value)(L:List Sh):Rz:=match s.K with
 | .o ops (i::is)::K=>match ops[i]? with|some o=>⟨⟨.o ops is::K,s.f.put o.dst v,L⟩,[.b (s.f.av ops o)]⟩|none=>⟨s,[.b false]⟩
 | .x ops (u+1) Ld e L0::K=>match ops[i']? with
  | some o =>
   let Ld':=Ld.setIfInBounds i' true
   ⟨⟨.x ops u Ld' e L0::K,s.f.put o.dst v,L⟩,[.b (s.f.av ops o),.b (match Region.ready .any ops Ld with|[k]=>Nat.beq k i'|_=>false),.l (cond (Ld'.getD e false) [] L0) (cond (Ld'.getD e false) [] (BN (L.take L0.length)))]⟩
  | none=>⟨s,[.b false]⟩
 | .y ops u Ld e L0 i::K=>match ops[i]? with
  | some o =>
   let Ld':=Ld.setIfInBounds i true
   ⟨⟨.x ops u Ld' e L0::K,s.f.put o.dst v,L⟩,[.b (s.f.av ops o),.l (cond (Ld'.getD e false) [] L0) (cond (Ld'.getD e false) [] (BN (L.take L0.length)))]⟩
  | none=>⟨s,[.b false]⟩
 | _=>⟨s,[.b false]⟩
theorem To{ops:Array Oper}{i:Nat}{o:Oper}(b:opN s i'=some (ops,i,o))(L:List Sh)(r:(nxt s i' undef L).o.map Ob.l'=(nxt s i' undef L).o.map Ob.r')(h:∀ (Q:Exit->Act->World->Prop) (K:Act->World->Prop),ops[i]?=some o->Region.wanted o (yielded ops s.f.act.tmps)=true->(∀ v g' w',Kn B g' w' L->GG P fn R B T (nxt s i' v L).s g' w'->K (s.f.act.put o.dst v) w')->wpOp P ops Q i K s.f.act w):GG P fn R B T s g w:=by
 refine⟨λD=>?_⟩;obtain⟨K,f,C⟩:=s;have c:=Ob.all r;unfold opN at b;unfold nxt at c h;cases K with
 | nil=>cases b
 | cons t K =>
  cases t with
  | o ops1 is =>
   cases is with
   | nil=>cases b
   | cons i1 is =>
    simp only at b c h;cases ho:ops1[i1]? with
    | none=>rw[ho]at b;cases b
    | some o1 =>
     rw[ho]at b
     simp only[Z',nY]at b;obtain⟨rfl,rfl,rfl⟩:=b;simp only[ho]at c;have m:=c _ (M' ..);show wpOps P ops1 (Kq P (bodyPost P fn R) K) (i1::is) f.act w;rw[wpOps_cons];refine h _ _ ho (by rw[f.wanted];exact m) λv g' w' d j=>?_;simp only[ho]at j;have:=j.ex d;rw[Fm.sD]at this
     exact this
  | y ops1 u Ld e L0 i1 =>
   simp only at b c h;cases ho:ops1[i1]? with
   | none=>rw[ho]at b;cases b
   | some o1 =>
    rw[ho]at b
    simp only[Z',nY]at b;obtain⟨rfl,rfl,rfl⟩:=b;simp only[ho]at c;have m:=c _ (M' ..);have p:=c _ (I' _ (M' ..));simp only[Ob.ok]at m p;show wpOp P ops1 (Kq P (bodyPost P fn R) K) i1 (λa w=>Sx [(e,AR L0)] (Ld.setIfInBounds i1 true) w/\BD P .any ops1 (Kq P (bodyPost P fn R) K) [(e,AR L0)] u (Ld.setIfInBounds i1 true) a w) f.act w;refine h _ _ ho (by rw[f.wanted];exact m) λv g' w' d j=>?_;simp only[ho]at j;have:=j.ex d;rw[Fm.sD]at this
    exact⟨Xg (ops:=ops1) d.rows p,this⟩
  | x ops1 u Ld e L0 =>
   cases u with
   | zero=>exact absurd (c _ (M' ..)) (by simp[Ob.ok])
   | succ u =>
    simp only at b c h;cases ho:ops1[i']? with
    | none=>rw[ho]at b;cases b
    | some o1 =>
     rw[ho]at b
     simp only[Z',nY]at b;obtain⟨rfl,rfl,rfl⟩:=b;simp only[ho]at c;have m:=c _ (M' ..);have q:=c _ (I' _ (M' ..));have p:=c _ (I' _ (I' _ (M' ..)));simp only[Ob.ok]at m q p;have A:Region.ready .any ops1 Ld=[i']:=by
      split at q
      .rename_i k hk;rw[hk,nD q]
      .cases q
     refine xS0 u i' A rfl ?_;refine h _ _ ho (by rw[f.wanted];exact m) λv g' w' d j=>?_;simp only[ho]at j;have:=j.ex d;rw[Fm.sD]at this
     exact⟨Xg (ops:=ops1) d.rows p,this⟩
  | _=>cases b
def Tg.ne:Tg->Tg->Bool
 | .z,.z=>false
 | .l,.l=>false
 | .n r _,.n r' _=>!Nat.beq r r'
 | _,_=>true
theorem Tg.tA{a b:Tg}(h:a.ne b=true):a≠b:=by
 rintro rfl;cases a with
 | z=>cases h
 | l=>cases h
 | n r i=>simp[Tg.ne,Nat.beq_refl]at h
def AK:List Bool->List Sh->List Sh
 | true::m,x::L=>x::AK m L
 | false::m,_::L=>AK m L
 | _,_=>[]
theorem DC:∀ (m:List Bool) (L:List Sh),(AK m L).Sublist L
 | true::m,x::L=>(DC m L).cons_cons x
 | false::m,x::L=>(DC m L).cons x
 | [],L=>by unfold AK;exact rM _
 | true::m,[]=>rM _
 | false::m,[]=>rM _
theorem Cg.n(h:Cg B T g w g' w')(k:Cg B [] g' w' g'' w''):Cg B T g w g'' w'':=h.trans (k.mono λ_ h=>absurd h Q')
theorem Cg.m(h:Cg B T g w g' w')(k:Cg B T' g' w' g'' w'')(a:∀ t∈T',t∈T:=by simp):Cg B T g w g'' w'':=h.trans (k.mono a)
theorem Cg.nil(h:Cg B [] g w g' w')(T:List Tg):Cg B T g w g' w':=h.mono λ_ h=>absurd h Q'
theorem Kn.sub{a:List Sh}(h:Kn B g w L)(b:a.Sublist L):Kn B g w a:=⟨λx c=>h.row x (b.subset c),h.sU.sublist b,h.new,h.base⟩
theorem Kn.ch(h:Kn B g w L)(c:Cg w.heap.size T' g w g' w')(hn:∀ b,w'.heap.size<=b->g'.t b=.z/\g'.k b=0)(j:L.all (λx=>T'.all λt=>x.t.ne t)=true):Kn B g' w' L:=by
 refine⟨λx f=>?_,h.sU,hn,mS h.base c.size⟩;have e:=h.row x f;have a:=rl e.1;have d:g.t x.g∉T':=by
  rw[e.2.1];intro m;have i:=oK.1 (oK.1 j x f) _ m;exact Tg.tA i rfl
 exact⟨(c.same _ a d (λ_=>a)).trans e.1,(c.tag a (λ_=>a)).trans e.2.1,e.2.2.1,λo=>(c.tm _ a d (λ_=>a)).trans (e.2.2.2 o)⟩
theorem Kn.af(h:Kn B g w L)(b:Below w.heap.size w w'):Kn B g w' L :=
 ⟨λx a=>⟨rB b (h.row x a).1,(h.row x a).2⟩,h.sU,λc d=>h.new c (mS b.size d),mS h.base b.size⟩
def Df(P:Program)(s:Xs)(i':Nat)(W:World):Option (Result Next):=(opN s i').map λx=>(execOp s.f.ev x.2.2).run P W
theorem Qd{r:World->Result Next}(h:∀ W,Df P s i' W=some (r W)):∃ ops i o,opN s i'=some (ops,i,o)/\∀ W,(execOp s.f.ev o).run P W=r W:=by
 unfold Df at h;cases hx:opN s i' with
 | none=>have:=h default;rw[hx]at this;cases this
 | some x =>
  obtain⟨ops,i,o⟩:=x;exact⟨ops,i,o,rfl,λW=>by have:=h W;rw[hx]at this;simpa using this⟩
def KC(s:Xs)(i':Nat):Bool:=match opN s i' with|some x=>x.2.2.dst.isSome|none=>false
theorem iz(j:Nat)(f:FuncId)(a:Array Value)(x:∀ W,Df P s j W=some (.ok (.enter f a) W))(k:KC s j=true)(l:(nxt s j undef s.L).o.map Ob.l'=(nxt s j undef s.L).o.map Ob.r'){C:Ending->World->Prop}(q:Calls P f a w C)(t:∀ e w',C e w'->∃ v,e=.returned v/\Below w.heap.size w w'/\GG P fn R B T (nxt s j v s.L).s g w'):GG P fn R B T s g w:=by
 obtain⟨A,i,o,b,c⟩:=Qd x;refine Af λn=>To b s.L l λQ K u z h=>?_;unfold KC at k;rw[b]at k
 cases hdd:o.dst with
 | none=>simp only[hdd]at k;cases k
 | some d =>
  refine Pw u z hdd (by rw[s.f.eval];exact c w) (q.mono λe w' r=>?_);obtain⟨v,y,p,m⟩:=t e w' r;refine⟨v,y,?_⟩;have:=h v g w' (n.af p) m;rw[hdd]at this
  exact this
theorem SG(p:Nat)(f:FuncId)(a:Array Value)(y:List Tg)(m:List Bool)(M:∀ W,Df P s p W=some (.ok (.enter f a) W))(q:KC s p=true)(u:(nxt s p undef (AK m s.L)).o.map Ob.l'=(nxt s p undef (AK m s.L)).o.map Ob.r')(E:(AK m s.L).all (λx=>y.all λt=>x.t.ne t)=true){C:Ending->World->Prop}(F:Calls P f a w C)(H:∀ e w',C e w'->∃ v g',e=.returned v/\Cg w.heap.size y g w g' w'/\(∀ b,w'.heap.size<=b->g'.t b=.z/\g'.k b=0)/\GG P fn R B T (nxt s p v (AK m s.L)).s g' w'):GG P fn R B T s g w:=by
 obtain⟨S,i,o,c,j⟩:=Qd M;refine Af λD=>To c (AK m s.L) u λQ K J O h=>?_;unfold KC at q;rw[c]at q
 cases hdd:o.dst with
 | none=>simp only[hdd]at q;cases q
 | some d =>
  refine Pw J O hdd (by rw[s.f.eval];exact j w) (F.mono λe w' G=>?_);obtain⟨v,g',N,r,I,A⟩:=H e w' G;refine⟨v,N,?_⟩;have:=h v g' w' ((D.sub (DC m s.L)).ch r I E) A;rw[hdd]at this
  exact this
theorem KE(c:Nat)(L:List Sh)(e:(nxt s c undef L).o.map Ob.l'=(nxt s c undef L).o.map Ob.r')(j:(opN s c).isSome=true)(h:Kn B g w s.L->∀ ops i o,opN s c=some (ops,i,o)->∃ v w' g',((execOp s.f.ev o).run P w=.ok (.value v) w'\/((execOp s.f.ev o).run P w=.ok .skip w'/\v=undef))/\Kn B g' w' L/\GG P fn R B T (nxt s c v L).s g' w'):GG P fn R B T s g w:=by
 cases hop:opN s c with
 | none=>rw[hop]at j;cases j
 | some x =>
  obtain⟨ops,i,o⟩:=x;refine Af λp=>To hop L e λQ K q r k=>?_;obtain⟨v,w',g',a,d,m⟩:=h p ops i o hop;have b:=k v g' w' d m;unfold wpOp;rw[q];simp only[r,if_true];refine .inl ?_;unfold Oper.wp;rw[s.f.eval];rcases a with a|⟨a,rfl⟩
  .rw[a,Oper.upon_value];exact b
  .rw[a,Oper.upon_skip];exact b
theorem gFm(e:List (Nat × Value))(b:e.map (λp=>lk s.f.z s.f.e p.1)=e.map (·.2))(h:∀ z,GG P fn R B T ⟨s.K,⟨s.f.n,e,z⟩,s.L⟩ g w):GG P fn R B T s g w:=by
 refine⟨λd=>?_⟩;have a:=(h (lk s.f.z s.f.e)).ex d;have c:(⟨s.f.n,e,lk s.f.z s.f.e⟩:Fm).act=s.f.act:=by
  unfold Fm.act;simp only[Act.mk.injEq,and_true]
  congr 1
  refine rm λt _=>?_;clear h a;induction e with
  | nil=>rfl
  | cons p r ih =>
   simp only[nO,py]at b;show cond (Nat.beq p.1 t) p.2 (lk (lk s.f.z s.f.e) r t)=lk s.f.z s.f.e t;cases hb:Nat.beq p.1 t with
   | true=>rw[cond_true,<- b.1,nD hb]
   | false=>rw[cond_false];exact ih b.2
 simp only at a;rw[c]at a
 exact a
theorem I8(m:List Bool)(h:GG P fn R B T ⟨s.K,s.f,AK m s.L⟩ g w):GG P fn R B T s g w:=⟨λa=>h.ex (a.sub (DC m s.L))⟩
theorem Cq(x:Sh)(p:Kn B g w s.L->w.heap[x.g]?=some x.o/\g.t x.g=x.t/\(x.t=.l->B<=x.g)/\(x.t≠.z->g.k x.g=0))(j:(!x.w&&(x.t.sI||s.L.all (λy=>x.t.ne y.t)))=true)(h:GG P fn R B T ⟨s.K,s.f,BN s.L++[x]⟩ g w):GG P fn R B T s g w:=by
 refine⟨λb=>h.ex ⟨λy d=>?_,?_,b.new,b.base⟩⟩
 .rcases P'.1 d with h1|h1
  .exact b.uc.row y h1
  .rw[D'.1 h1];exact p b
 .show(BN s.L++[x]).Pairwise _;simp only[nC,qt,rj]at j;rw[pq];refine⟨b.uc.sU,qi _ _,λa u c v m=>?_⟩;rw[D'.1 v]at m ⊢
  obtain⟨y,d,rfl⟩:=nw.1 u;have e:=(b.row y d).2.1;have q:=(p b).2.1;simp only at m ⊢;rw[m,q]at e
  rcases j.2 with hz|hn
  .have:x.t=.z:=by cases hh:x.t with|z=>rfl|l=>rw[hh]at hz;cases hz|n r i=>rw[hh]at hz;cases hz
   exact⟨⟨e▸this,trivial⟩,this,j.1⟩
  .exact absurd e (Tg.tA (oK.1 hn y d))
theorem Kq.ret{R':Exit->Act->World->Prop}:∀ (K:List Kt) (a:Act) (w:World),R' .ret a w->Kq P R' K .ret a w
 | [],a,w,h=>h
 | .c x::K,a,w,h=>Kq.ret K a w h
 | .b id::K,a,w,h=>Kq.ret K a w h
 | .o ops is::K,a,w,h=>Kq.ret K a w h
 | .x ops m Ld s L0::K,a,w,h=>Kq.ret K a w h
 | .y ops m Ld s L0 i::K,a,w,h=>Kq.ret K a w h
 | .j J::K,a,w,h=>Kq.ret K a w h
def LF:List Kt->Bool|[]=>true|.c .ret::_=>true|_=>false
theorem SH(v:Value)(d:LF s.K=true)(b:Kn B g w s.L->(results fn s.f.act.tmps).run P w=.ok v w)(h:Kn B g w s.L->R (.returned v) w):GG P fn R B T s g w:=by
 refine⟨λa=>?_⟩;obtain⟨K,f,L⟩:=s;cases K with
 | nil=>exact⟨rfl,v,b a,h a⟩
 | cons t K =>
  cases t with
  | c x =>
   cases x with
   | ret=>exact wp_ret (Kq.ret K _ _ ⟨rfl,v,b a,h a⟩)
   | _=>cases d
  | _=>cases d
def OY:Nat->List Value->List (Nat × Value)
 | _,[]=>[]
 | i,v::r=>(i,v)::OY (i+1) r
theorem UK:∀ (l:List Value) (i t:Nat),lk (λ_=>undef) (OY i l) t=if i<=t then l.getD (t-i) undef else undef
 | [],i,t=>by simp[OY,lk]
 | v::r,i,t=>by
  unfold OY lk;cases hb:Nat.beq i t with
  | true=>obtain rfl:=nD hb;simp
  | false =>
   have b:i≠t:=λa=>by rw[a,rV]at hb;cases hb
   rw[cond_false,UK r (i+1) t];by_cases h:i<=t
   .rw[if_pos h,if_pos (by omega),show t-i=(t-(i+1))+1 by omega];simp
   .rw[if_neg h,if_neg (by omega)]
theorem mx{n:Nat}(c:args.size<=n):(⟨n,OY 0 args.toList,λ_=>undef⟩:Fm).act={ tmps:=args++Array.replicate (n-args.size) undef,defers:=[] }:=by
 unfold Fm.act;simp only[Act.mk.injEq,and_true];apply oX;intro i;simp only[nV,nS,Array.getElem?_append,Array.getElem?_replicate];by_cases b:i<n
 .rw[pc b];simp only[nW,UK,nH,if_true,Nat.sub_zero];by_cases a:i<args.size
  .rw[if_pos a,nF];simp[a]
  .rw[if_neg a,if_pos (by omega),nF];simp[a]
 .rw[oW (by simpa using b),if_neg (by omega),if_neg (by omega)];rfl
def PZ(fn:Func):Code:=match fn.body with|some c=>c|none=>.skip
theorem gIn(T:List Tg)(g:Gh)(i:P.funcs[f]?=some fn)(d:fn.body.isSome=true)(e:Nat.ble args.size fn.ntmps=true)(j:∀ b,w.heap.size<=b->g.t b=.z/\g.k b=0)(h:GG P fn R w.heap.size T ⟨[.c (PZ fn)],⟨fn.ntmps,OY 0 args.toList,λ_=>undef⟩,[]⟩ g w):Calls P f args w R:=by
 cases hh:fn.body with
 | none=>rw[hh]at d;cases d
 | some c =>
  refine calls_of_wp i hh ?_;have a:=h.ex ⟨(λx m=>absurd m Q'),List.Pairwise.nil,j,A' _⟩;simp only[mx (by rw[qp]at e;exact e)]at a;unfold PZ at a;rw[hh]at a
  exact a
theorem gI(T:List Tg)(g:Gh)(d:P.funcs[f]?=some fn)(e:∀ b,w.heap.size<=b->g.t b=.z/\g.k b=0)(h:GG P fn R w.heap.size T ⟨[.c (PZ fn)],⟨fn.ntmps,OY 0 args.toList,λ_=>undef⟩,[]⟩ g w)(a:fn.body.isSome=true:=by kernel_rfl)(i:Nat.ble args.size fn.ntmps=true:=by kernel_rfl):Calls P f args w R:=gIn T g d a i e h
end
end
section
variable{P:Program}{fn:Func}{R:Ending->World->Prop}{B:Nat}{T:List Tg}{g:Gh}{w:World}
section
variable{s:Xs}
theorem I7(b:Nat)(o:Obj)(r i:Nat)(a:w.heap[b]?=some o)(c:g.t b=.n r i)(d:g.k b=0)(e:s.L.all (λy=>(Tg.n r i).ne y.t)=true)(h:GG P fn R B T ⟨s.K,s.f,BN s.L++[⟨b,o,.n r i,false⟩]⟩ g w):GG P fn R B T s g w :=
 Cq ⟨b,o,.n r i,false⟩ (λ_=>⟨a,c,λh=>(by cases h),λ_=>d⟩) (by show(true&&(false||_))=true;rw[rH,Bool.true_and];exact e) h
theorem dz(a:Nat)(v:Value)(h:Kn B g w s.L->Df P s a w=some (.ok (.value v) w))(c:(nxt s a undef s.L).o.map Ob.l'=(nxt s a undef s.L).o.map Ob.r')(f:GG P fn R B T (nxt s a v s.L).s g w):GG P fn R B T s g w:=by
 refine Af λe=>?_;have b:=h e;unfold Df at b;refine KE a s.L c ?_ λ_ j i o d=>?_
 .cases hx:opN s a with
  | none=>rw[hx]at b;cases b
  | some x=>rfl
 .rw[d]at b
  exact⟨v,w,g,.inl (by simpa using b),e,f⟩
def tkN(s:Xs)(i':Nat)(v:Value)(ld:Bool):Rz:=match s.K with
 | .x ops (u+1) Ld e L0::K=>match ops[i']? with
  | some o=>⟨⟨.x ops u (Ld.setIfInBounds i' true) e L0::K,s.f.put o.dst v,s.L⟩,[.b (s.f.av ops o),.b (tkB ops Ld e i' ld&&o.dst.isSome&&(!ld||!Ld.getD e false)),.l (cond (Ld.getD e false) [] L0) (cond (Ld.getD e false) [] (BN (s.L.take L0.length)))]⟩
  | none=>⟨s,[.b false]⟩
 | _=>⟨s,[.b false]⟩
def Vf(s:Xs):List Sh:=match s.K with|.x _ _ _ _ L0::_=>L0|_=>[]
theorem Q5(k:Nat)(v:Value)(n:Bool)(h:∀ W,(n=true->AR (Vf s) W)->Df P s k W=some (.ok (.value v) W))(C:(tkN s k undef n).o.map Ob.l'=(tkN s k undef n).o.map Ob.r')(O:GG P fn R B T (tkN s k v n).s g w):GG P fn R B T s g w:=by
 refine⟨λF=>?_⟩;obtain⟨K,f,L⟩:=s;have b:=Ob.all C;have j:=O.ex;unfold tkN at b j;unfold Df opN Vf at h;cases K with
 | nil=>exact absurd (b _ (M' ..)) (by simp[Ob.ok])
 | cons t K =>
  cases t with
  | x ops u Ld e L0 =>
   cases u with
   | zero=>exact absurd (b _ (M' ..)) (by simp[Ob.ok])
   | succ u =>
    simp only at b j h;cases ho:ops[k]? with
    | none=>rw[ho]at b;exact absurd (b _ (M' ..)) (by simp[Ob.ok])
    | some o =>
     simp only[ho,nW,Z']at b j h;have H:=b _ (M' ..);have m:=b _ (I' _ (M' ..));have E:=b _ (I' _ (I' _ (M' ..)));simp only[Ob.ok,nC]at H m E;obtain⟨⟨m,p⟩,r⟩:=m;have D:Region.wanted o (yielded ops f.act.tmps)=true:=by rw[f.wanted];exact H
     have y:Sx [(e,AR L0)] Ld w:=Xg (ops:=ops) F.rows E;have i:=j F;simp only[Fm.sD]at i;have G:∀ c a d v w,Kq P (bodyPost P fn R) K (.panic c) (a.put (some d) v) w->Kq P (bodyPost P fn R) K (.panic c) a w:=λc a d v w=>Kq.panic K c a (some d) v w;cases hdd:o.dst with
     | none=>rw[hdd]at p;cases p
     | some d =>
      rw[hdd]at i
      unfold tkB at m;simp only[nC]at m;obtain⟨ns,⟨⟨⟨⟨I,J⟩,M⟩,N⟩,q⟩⟩:=m;have l:∀ W,(n=true->AR L0 W)->got P ops f.act W k=some (some d,v,W):=λW z=>by
       unfold got;simp only[ho,D,if_true,f.eval,h W z,hdd]
      cases n with
      | false =>
       rw[cond_false]at q
       refine xB0 u [k] [(d,v)] (λW=>?_) ns ?_ rfl rfl G y i
       .simp only[SL,av,nO,oN,l W (λh=>by cases h)]
       .simp only[MR,nO,oN,pF,rW,rI,nC];exact⟨⟨⟨⟨I,J⟩,M⟩,N⟩,q⟩
      | true =>
       rw[cond_true]at q
       have A:Ld.getD e false=false:=by simpa using r
       refine xC0 u k d (Yx ops k) v (λW z=>l W (λ_=>z)) (y.1 A) ns ?_ rfl G y i;simp only[nO,oN,pF,rW,rI,nC]at q ⊢;exact⟨⟨⟨⟨I,J⟩,M⟩,N⟩,q⟩
  | _=>exact absurd (b _ (M' ..)) (by simp[Ob.ok])
def Ql(s:Xs):Value:=match s.K with|.c (.cond c _ _)::_=>s.f.ev c|_=>undef
def L5(s:Xs)(t:Bool):Xs:=match s.K with|.c (.cond _ x y)::K=>⟨.c (cond t x y)::K,s.f,s.L⟩|_=>s
theorem gIf(b t:Bool)(j:b=t)(a:Ql s=.bool b)(h:GG P fn R B T (L5 s t) g w):GG P fn R B T s g w:=by
 subst j;refine⟨λi=>?_⟩;obtain⟨K,f,L⟩:=s;unfold Ql at a;have d:=h.ex;unfold L5 at d;cases K with
 | nil=>cases a
 | cons t K =>
  cases t with
  | c x =>
   cases x with
   | cond c x y =>
    simp only at a d;have e:=d i;refine wp_cond (t:=b) (by rw[f.eval];exact a) ?_;cases b<;>exact e
   | _=>cases a
  | _=>cases a
theorem Zj{p:Nat->Prop}:∀ k,p k->∃ m,p m/\∀ j,p j->m<=j:=by
 intro k;induction k using Nat.strongRecOn with
 | _ k ih =>
  intro b;by_cases h:∃ j,j<k/\p j
  .obtain⟨j,a,hp⟩:=h;exact ih j a hp
  .exact⟨k,b,λj a=>qW λc=>h ⟨j,c,a⟩⟩
theorem kM{c:Code}{Q:Exit->Act->World->Prop}(b:Nat->Act->World->Prop)(round:∀ k a w,b k a w->c.wp P (Exit.then (λa' w'=>∃ k',k'<k/\b k' a' w') Q) a w)(k:Nat)(a:Act)(w:World)(h:b k a w):(Code.loop c).wp P Q a w:=by
 classical
 have g:∀ a w,(∃ k,b k a w)->∃ m,b m a w/\∀ j,b j a w->m<=j:=λa w ⟨k,q⟩=>Zj k q
 let μ:Act->World->Nat:=λa w=>if h:∃ k,b k a w then Classical.choose (g a w h)else 0
 refine wp_loop (λa w=>∃ k,b k a w) μ ⟨k,h⟩ λa w l=>?_;have o:μ a w=Classical.choose (g a w l):=dif_pos l;refine wp_mono (round _ a w (Classical.choose_spec (g a w l)).1) λe a' w' p=>?_;cases e with
 | normal =>
  obtain⟨k',n,f⟩:=p;refine⟨⟨k',f⟩,?_⟩;have d:∃ k,b k a' w':=⟨k',f⟩;have i:μ a' w'=Classical.choose (g a' w' d):=dif_pos d;show μ a' w'<μ a w;rw[o,i];exact qj ((Classical.choose_spec (g a' w' d)).2 k' f) n
 | _=>exact p
theorem kt{K:List Kt}{body:Code}{n:Nat}(d:Nat->Gh->World->List (Nat × Value)->List Sh->Prop)(round:∀ k g w e z L,d k g w e L->∀ J:Act->World->Prop,(∀ k' g' w' e' z' L',k'<k->d k' g' w' e' L'->Kn B g' w' L'->J (⟨n,e',z'⟩:Fm).act w')->GG P fn R B T ⟨.c body::.j J::K,⟨n,e,z⟩,L⟩ g w){k:Nat}{e:List (Nat × Value)}{z:Nat->Value}{L:List Sh}(h:d k g w e L):GG P fn R B T ⟨.c (.loop body)::K,⟨n,e,z⟩,L⟩ g w:=by
 refine⟨λm=>?_⟩;refine kM (λk a w=>∃ g e z L,d k g w e L/\Kn B g w L/\a=(⟨n,e,z⟩:Fm).act) (λk a w f=>?_) k _ w ⟨g,e,z,L,h,m,rfl⟩;obtain⟨g,e,z,L,f,m,rfl⟩:=f;exact(round k g w e z L f (λr w'=>∃ k',k'<k/\∃ g e z L,d k' g w' e L/\Kn B g w' L/\r=(⟨n,e,z⟩:Fm).act) (λk' g' w' e' z' L' q i p=>⟨k',q,g',e',z',L',i,p,rfl⟩)).ex m
end
end
section
structure S3 where
 a:Option Addr
 n:Nat
 c:Nat
abbrev S3.v(x:S3):Value:=.slice x.a x.n x.c
def s30:S3:=⟨none,0,0⟩
def Jr(g:Gh)(w:World):Prop:=∀ b,w.heap.size<=b->g.t b=.z/\g.k b=0
structure OwnS(g:Gh)(w:World)(τ:Tg)(kp:Bool)(e:TypeId)(sz:Nat)(x:S3)(xs:List Value):Prop where
 len:xs.length=x.n*sz
 ex:(x.a=none/\x.n=0/\x.c=0)\/∃ b cur,x.a=some ⟨b,0,none⟩/\w.heap[b]?=some (.cells cur e (0,0))/\x.n<=x.c/\x.c<=maxLen/\cur.size=x.c*sz/\cur.toList.take (x.n*sz)=xs/\g.t b=τ/\g.k b=(if kp then xs.length else 0)
theorem OwnS.nil(g:Gh)(w:World)(τ:Tg)(a:Bool)(e:TypeId)(b:Nat):OwnS g w τ a e b s30 []:=⟨by simp[s30],.inl ⟨rfl,rfl,rfl⟩⟩
variable{e:TypeId}{g:Gh}{kp:Bool}{sz:Nat}{w:World}{x:S3}{xs:List Value}{τ:Tg}
theorem OwnS.ch{B:Nat}{T:List Tg}{f:Gh}{i:World}(h:OwnS g w τ kp e sz x xs)(c:Cg B T g w f i)(a:τ∉T:=by simp)(d:τ≠.l:=by simp):OwnS f i τ kp e sz x xs:=by
 refine⟨h.len,?_⟩;rcases h.ex with h1|⟨b,cur,h1,h2,h3,h4,h5,h6,h7,h8⟩
 .exact .inl h1
 .have hb:=rl h2;exact .inr ⟨b,cur,h1,(c.same b hb (by rw[h7];exact a) (by rw[h7];exact λh=>absurd h d)).trans h2,h3,h4,h5,h6,(c.tag hb (by rw[h7];exact λh=>absurd h d)).trans h7,by rw[c.tm b hb (by rw[h7];exact a) (by rw[h7];exact λh=>absurd h d)];exact h8⟩
theorem OwnS.cell(h:OwnS g w τ kp e sz x xs){j:Nat}{u:Value}(c:xs[j]?=some u):∃ b,x.a=some ⟨b,0,none⟩/\b<w.heap.size/\w.cell? ⟨b,j,none⟩=some u:=by
 have d:j<xs.length:=(V'.1 c).1;rcases h.ex with⟨h1,h2,h3⟩|⟨b,cur,h1,h2,h3,h4,h5,h6,h7,h8⟩
 .rw[h.len,h2]at d;omega
 .refine⟨b,h1,rl h2,?_⟩;rw[cell_of_row _ _ _ _ _ _ h2];rw[<- h6,oz]at c
  split at c
  .simpa using c
  .cases c
end
section
variable{P:Program}{B:Nat}{T:List Tg}{g:Gh}{w:World}
def Pm(g:Gh)(w:World)(τ:Tg)(k:Nat):Gh:=⟨λb=>if b=w.heap.size then τ else g.t b,λb=>if b=w.heap.size then k else g.k b⟩
def kr(g:Gh)(b k:Nat):Gh:=⟨g.t,λc=>if c=b then k else g.k c⟩
theorem mw{τ:Tg}{I:Bool}{x:S3}{C:List Value}(t S e:TypeId)(J q:Nat)(z:Value)(Y:P.underlying t=some (.slice e))(f:(P.info? e).map (λi=>(i.zero,i.size,i.bytes))=some (some z,J,q))(a0:z.cells.size=J)(a2:0<J)
  (O:τ∈T)(H:OwnS g w τ I e J x C)(hg:Jr g w)(a:Addr)(m c:Nat)(news:List Value)(hm:0<m)(K:news.length=m*J)(r:∀ j u,news[j]?=some u->w.cell? (a.add j)=some u)(h1:∀ u∈news,u.oneCell'=true)
  (L:x.n+m<=maxLen)(y:(x.n+m)*q<=140737488355328) :
  ∃ x' w' g',(Builtin.append_ #[t,t] S #[x.v,.slice (some a) m c]).run P w=.ok (S3.v x') w'/\OwnS g' w' τ I e J x' (C++news)/\x'.n=x.n+m/\Cg B T g w g' w'/\Jr g' w':=by
 obtain⟨i,X,hz,hs,U⟩:∃ i,P.info? e=some i/\i.zero=some z/\i.size=J/\i.bytes=q:=by
  cases hh:P.info? e with
  | none=>rw[hh]at f;cases f
  | some i=>rw[hh]at f;simp only[nW,Z',nY]at f;exact⟨i,rfl,f.1,f.2.1,f.2.2⟩
 subst hs;subst U
 obtain⟨xa,h,Q⟩:=x;have A:(C++news).length=(h+m)*i.size:=by rw[G',H.len,K,qx]
 have a1:h+m<=9223372036854775807:=by simp only[maxLen]at L;show h+m<=_;omega
 have grown:∀ o,o<h+m->∃ x' g',S3.v x'=.slice (some ⟨w.heap.size,0,none⟩) (h+m) (grownCap w (h+m) o e)/\OwnS g' (w.drew.alloc (.cells (C.toArray++news.toArray++Builtin.zeroCells z.cells (grownCap w (h+m) o e-(h+m))) e)) τ I e i.size x' (C++news)/\x'.n=h+m /\
   Cg B T g w g' (w.drew.alloc (.cells (C.toArray++news.toArray++Builtin.zeroCells z.cells (grownCap w (h+m) o e-(h+m))) e))/\Jr g' (w.drew.alloc (.cells (C.toArray++news.toArray++Builtin.zeroCells z.cells (grownCap w (h+m) o e-(h+m))) e)):=by
  intro o ho;have W:=grownCap_ge w (h+m) o e;have V:grownCap w (h+m) o e<=maxLen:=grownCap_le_maxLen w (h+m) o e L;refine⟨⟨some ⟨w.heap.size,0,none⟩,h+m,grownCap w (h+m) o e⟩,Pm g w τ (if I then(C++news).length else 0),rfl,⟨A,.inr ⟨w.heap.size,_,rfl,heap_alloc_new w.drew _,W,V,?_,?_,if_pos rfl,if_pos rfl⟩⟩,rfl,⟨rfl,rfl,rfl,by simp,λb D=>.inl (if_neg (by omega)),λb D=>?_,λb D _ _=>if_neg (by omega),λb D _ _=>heap_alloc_old w.drew _ D,λb D j G=>World.cell?_of_block (w:=w) (heap_alloc_old w.drew _ D)⟩,λb D=>?_⟩
  .simp only[Array.size_append,px,size_zeroCells,a0,H.len,K,<- qx]
   congr 1
   omega
  .simp only[Array.toList_append,mY];rw[<- mY,<- A];exact rE
  .show _<=(if b=w.heap.size then _ else g.k b);rw[if_neg (by omega)];exact A' _
  .have E:w.heap.size+1<=b:=by simpa using D
   show(if b=w.heap.size then τ else g.t b)=.z/\(if b=w.heap.size then _ else g.k b)=0;rw[if_neg (by omega),if_neg (by omega)];exact hg b (by omega)
 rcases H.ex with⟨h2,h3,h4⟩|⟨b,cur,h2,h3,h4,h5,h6,h7,h8,h9⟩
 .simp only at h2 h3 h4;subst h2 h3 h4;have Z:C=[]:=Y' (by simpa using H.len);subst Z;have N:=run_append_nil (P:=P) w t S e i z Y X hz a m c news K r (by omega) (by omega) (by have D:=y;simp only[nM]at D;omega);obtain⟨x',g',R,p⟩:=grown 0 (by omega);simp only[nM,oJ,Array.empty_append]at R p ⊢;exact⟨x',_,g',by rw[R];exact N,p⟩
 .simp only at h2 h4 h5 h6 h7;subst h2;by_cases s:h+m<=Q
  .have hfit:h*i.size+news.length<=cur.size:=by rw[K,h6,<- qx];exact pu _ s
   have N:=run_append_room (P:=P) w t S e i Y X b h Q cur h3 a m c news K r h1 s hfit;refine⟨⟨some ⟨b,0,none⟩,h+m,Q⟩,_,kr g b (if I then(C++news).length else 0),N,⟨A,.inr ⟨b,_,rfl,setRow_heap w b cur _ e _ h3,s,h5,?_,?_,h8,if_pos rfl⟩⟩,rfl,⟨rfl,rfl,rfl,by simp,λ_ _=>.inl rfl,λd M=>?_,λd M F _=>if_neg (λe=>F (by rw[e,h8];exact O)),λd M F _=>setRow_other w b d _ (λe=>F (by rw[e,h8];exact O)),λd M j G=>?_⟩,λd M=>?_⟩
   .simp only[px,G',j',nc,oM];omega
   .rw[h7,<- A];exact rE
   .show g.k d<=(if d=b then _ else g.k d);split
    .rename_i he;rw[he,h9];cases I<;>simp
    .exact A' _
   .by_cases he:d=b
    .subst he;rw[h9]at G
     cases I with
     | false=>simp at G
     | true =>
      simp only[if_true]at G;rw[cell_of_row _ _ _ _ _ _ (setRow_heap w d cur _ e _ h3),cell_of_row _ _ _ _ _ _ h3];simp only[nV,h7];rw[mY,nk G,<- h7,oz,if_pos (by have:=H.len;simp only at this;omega)];simp
    .exact World.cell?_of_block (w:=w) (setRow_other w b d _ he)
   .have hd':w.heap.size<=d:=by simpa using M
    show g.t d=.z/\(if d=b then _ else g.k d)=0;have:=rl h3;rw[if_neg (by omega)];exact hg d hd'
  .have holds:∀ j u,C[j]?=some u->w.cell? ((⟨b,0,none⟩:Addr).add j)=some u:=λj u G=>by
    obtain⟨b',E,_,hc⟩:=H.cell G;simp only[Z',Addr.mk.injEq,and_true]at E;subst E;have:(⟨b,0,none⟩:Addr).add j=⟨b,j,none⟩:=by unfold Addr.add;split<;>simp_all
    rw[this];exact hc
   have N:=run_append_grow (P:=P) w t S e i z Y X hz ⟨b,0,none⟩ h Q C H.len holds a m c news K r (by omega) (by omega) (growslice_fits (by omega) y);obtain⟨x',g',R,p⟩:=grown Q (by omega);exact⟨x',_,g',by rw[R];exact N,p⟩
end
section
variable{P:Program}{fn:Func}{R:Ending->World->Prop}{B:Nat}{T:List Tg}{g:Gh}{w:World}
section
variable{L:List Sh}{S:Sem Next}{i':Nat}{s:Xs}
theorem Kn.at(h:Kn B g w L)(k:Nat){x:Sh}(a:L[k]?=some x):w.heap[x.g]?=some x.o:=(h.row x (np a)).1
theorem Kn.uG(h:Kn B g w L)(k b:Nat)(a:Array Value)(e:TypeId)(t:Tg)(v:Bool)(c:L[k]?=some ⟨b,.cells a e,t,v⟩):w.heap[b]?=some (.cells a e):=h.at k c
theorem Kn.sJ(h:Kn B g w L)(k b:Nat)(o:Obj)(r i:Nat)(c:L[k]?=some ⟨b,o,.n r i,false⟩):w.heap[b]?=some o/\g.t b=.n r i/\g.k b=0 :=
 have a:=h.row _ (np c)
 ⟨a.1,a.2.1,a.2.2.2 (by simp)⟩
theorem Kn.sI(h:Kn B g w L)(k b:Nat)(o:Obj)(v:Bool)(c:L[k]?=some ⟨b,o,.z,v⟩):w.heap[b]?=some o/\g.t b=.z :=
 have a:=h.row _ (np c)
 ⟨a.1,a.2.1⟩
theorem Dz(h:Kn B g w L)(k b:Nat)(news:List Value)(e:TypeId)(t:Tg)(v:Bool)(d:L[k]?=some ⟨b,.cells news.toArray e,t,v⟩):∀ j u,news[j]?=some u->w.cell? ((⟨b,0,none⟩:Addr).add j)=some u:=by
 intro j u c;have a:=h.at k d;have:(⟨b,0,none⟩:Addr).add j=⟨b,j,none⟩:=by unfold Addr.add;split<;>simp_all
 rw[this,cell_of_row _ _ _ _ _ _ a];simpa using c
def Ds(s:Xs)(i':Nat):Option (Sem Next):=(opN s i').map λx=>execOp s.f.ev x.2.2
theorem D1(h:Ds s i'=some S){a:Array Oper}{i:Nat}{o:Oper}(b:opN s i'=some (a,i,o)):execOp s.f.ev o=S:=by
 unfold Ds at h;rw[b]at h
 simpa using h
theorem BU(h:Ds s i'=some S):(opN s i').isSome=true:=by
 unfold Ds at h;cases hx:opN s i' with
 | none=>rw[hx]at h;cases h
 | some x=>rfl
theorem KD(q:Nat){τ:Tg}{K:Bool}{x:S3}{N:List Value}(t M e:TypeId)(p b:Nat)(z:Value)(a:Addr)(m c:Nat)(news:List Value)(Y:OwnS g w τ K e p x N)(f:Ds s q=some (Builtin.append_ #[t,t] M #[x.v,.slice (some a) m c]>>=λv=>pure (.value v)))(D:(nxt s q undef s.L).o.map Ob.l'=(nxt s q undef s.L).o.map Ob.r')(C:s.L.all (λy=>[τ].all λt=>y.t.ne t)=true)(G:P.underlying t=some (.slice e))(h:(P.info? e).map (λi=>(i.zero,i.size,i.bytes))=some (some z,p,b))(H:Nat.beq z.cells.size p=true)(F:0<p)(W:0<m)(V:news.length=m*p)(O:∀ u∈news,u.oneCell'=true)(k:Kn B g w s.L->∀ j u,news[j]?=some u->w.cell? (a.add j)=some u)(r:x.n+m<=maxLen)(d:(x.n+m)*b<=140737488355328)(U:∀ x' g' w',OwnS g' w' τ K e p x' (N++news)->x'.n=x.n+m->(∀ B T,τ∈T->Cg B T g w g' w')->Jr g' w'->GG P fn R B T (nxt s q (S3.v x') s.L).s g' w'):GG P fn R B T s g w:=by
 refine KE q s.L D (BU f) λA Z i o E=>?_;obtain⟨x',w',g',X,Q,S,I,J⟩:=mw (P:=P) (B:=w.heap.size) (T:=[τ]) t M e p b z G h (nD H) F (D'.2 rfl) Y A.new a m c news W V (k A) O r d;refine⟨x'.v,w',g',.inl ?_,A.ch I J C,U x' g' w' Q S (λB T C=>(I.ret (B:=B)).mono λt G=>by rw[D'.1 G];exact C) J⟩;rw[D1 f E,Sem.run_bind,X,Result.andThen_ok];rfl
end
end
end
end Go.Proofs.YthkjeoamjgnpoaaGreatDoor
