/- Part 5 of the walk. -/
import Derived.Test.YtalbmmghmoggcabGreatDoorZ3
import Derived.Test.YtalbmmghmoggcabGreatDoorZ4
set_option maxRecDepth 100000
set_option maxHeartbeats 4000000
open Go.Proofs.Tryz
set_option linter.unusedVariables false
namespace Go.Proofs.YtalbmmghmoggcabGreatDoor
section
open Go.RowKit
section
def cmA(k c s n v:Int):Array Value:=#[.int .i64 k,.int .i64 c,.int .i64 s,.int .i64 n,.int .i64 v]
def tkA(c r u:Int):Array Value:=#[.int .i64 c,.int .i64 r,.int .i64 u]
def InC(c s n v:Int):Prop:=0<=c/\c<=7/\0<=s/\s<=1048576/\0<=n/\n<=7/\0<=v/\v<=1073741824
instance (c s n v:Int):Decidable (InC c s n v):=by unfold InC;exact inferInstance
def AU(k c s n v:Int):Int :=
 if ¬ (0<=k/\k<=3)then 4
 else if k=0 then(if c=0/\s=0/\n=0/\v=0 then 0 else 3)
 else if ¬ InC c s n v then 2
 else if 1<k/\v≠0 then 3
 else 0
variable{c k n now r s tc tr tu u v:Int}{g:Nat}{w w':World}{ws:List (BitVec 32)}
theorem Sq(h:¬ (0<=k/\k<=3)):AU k c s n v=4:=if_pos h
theorem Sr(h:c=0/\s=0/\n=0/\v=0):AU 0 c s n v=0:=by
 unfold AU;rw[if_neg (by omega),if_pos rfl,if_pos h]
theorem P0(h:¬ (c=0/\s=0/\n=0/\v=0)):AU 0 c s n v=3:=by
 unfold AU;rw[if_neg (by omega),if_pos rfl,if_neg h]
theorem P3(h:1<=k/\k<=3)(hi:¬ InC c s n v):AU k c s n v=2:=by
 unfold AU;rw[if_neg (by omega),if_neg (by omega),if_pos hi]
theorem Sp(h:2<=k/\k<=3)(hi:InC c s n v)(hv:v≠0):AU k c s n v=3:=by
 unfold AU;rw[if_neg (by omega),if_neg (by omega),if_neg (λg=>g hi),if_pos ⟨by omega,hv⟩]
theorem Rh(h:1<=k/\k<=3)(hi:InC c s n v)(hv:k=1\/v=0):AU k c s n v=0:=by
 unfold AU;rw[if_neg (by omega),if_neg (by omega),if_neg (λg=>g hi),if_neg (by omega)]
theorem F5(h:AU k c s n v=0):(0<=k/\k<=3)/\InC c s n v:=by
 unfold AU at h;split at h
 .omega
 .rename_i h1
  split at h
  .split at h
   .rename_i h3
    exact⟨by omega,by unfold InC;omega⟩
   .omega
  .split at h
   .omega
   .rename_i h3
    exact⟨by omega,Classical.not_not.1 h3⟩
def H7(k c s n v:Int):List Int:=Ag k++Ag c++Ag s++Ag n++Ag v
theorem EV(k c s n v:Int):(H7 k c s n v).length=20:=rfl
theorem Lt(k c s n v:Int):∀ x∈H7 k c s n v,0<=x/\x<256:=by
 intro x hx;rcases Y'.1 hx with hx|hx
 .rcases Y'.1 hx with hx|hx
  .rcases Y'.1 hx with hx|hx
   .rcases Y'.1 hx with hx|hx
    .exact AM _ x hx
    .exact AM _ x hx
   .exact AM _ x hx
  .exact AM _ x hx
 .exact AM _ x hx
def Ab(l:List Int)(i:Nat):Int:=16777216*l.getD i 0+65536*l.getD (i+1) 0+256*l.getD (i+2) 0+l.getD (i+3) 0
def BY(l:List Int):Int:=if l.length≠20 then 1 else AU (Ab l 0) (Ab l 4) (Ab l 8) (Ab l 12) (Ab l 16)
def IW(l:List Int):Array Value:=if BY l=0 then cmA (Ab l 0) (Ab l 4) (Ab l 8) (Ab l 12) (Ab l 16)else cmA 0 0 0 0 0
def CB(c r u:Int):Prop:=(0<=c/\c<=7)/\(0<=r/\r<=7)/\0<=u/\u<=1048576
instance (c r u:Int):Decidable (CB c r u):=by unfold CB;exact inferInstance
def Ll(c r u:Int):Int:=if CB c r u then 0 else 2
theorem Jw(h:CB c r u):Ll c r u=0:=if_pos h
theorem RN(h:¬ CB c r u):Ll c r u=2:=if_neg h
def Mg(k r:Int):Prop:=(k=1/\r/2%2=1)\/(k=2/\r%2=1)\/(k=3/\r/4=1)
instance (k r:Int):Decidable (Mg k r):=by unfold Mg;exact inferInstance
def DX(tc tr tu k c s n v now:Int):Int :=
 if ¬ CB tc tr tu then 2
 else if AU k c s n v≠0 then AU k c s n v
 else if ¬ (Mg k tr/\c=tc)then 11
 else if ¬ (0<=now/\now<=tu)then 10
 else 0
theorem Ue(h:¬ CB tc tr tu):DX tc tr tu k c s n v now=2:=if_pos h
theorem Ud(h:CB tc tr tu)(h1:AU k c s n v≠0):DX tc tr tu k c s n v now=AU k c s n v:=by
 unfold DX;rw[if_neg (λg=>g h),if_pos h1]
theorem J1(h:CB tc tr tu)(h1:AU k c s n v=0)(h2:¬ (Mg k tr/\c=tc)):DX tc tr tu k c s n v now=11:=by
 unfold DX;rw[if_neg (λg=>g h),if_neg (λg=>g h1),if_pos h2]
theorem Sa(h:CB tc tr tu)(h1:AU k c s n v=0)(h2:Mg k tr/\c=tc)(h3:¬ (0<=now/\now<=tu)):DX tc tr tu k c s n v now=10:=by
 unfold DX;rw[if_neg (λg=>g h),if_neg (λg=>g h1),if_neg (λg=>g h2),if_pos h3]
theorem Xl(h:CB tc tr tu)(h1:AU k c s n v=0)(h2:Mg k tr/\c=tc)(h3:0<=now/\now<=tu):DX tc tr tu k c s n v now=0:=by
 unfold DX;rw[if_neg (λg=>g h),if_neg (λg=>g h1),if_neg (λg=>g h2),if_neg (λg=>g h3)]
def Jm(c r u:Int):List Int:=c::r::Ag u
theorem DI(c r u:Int):(Jm c r u).length=6:=rfl
theorem LY(h:CB c r u):∀ x∈Jm c r u,0<=x/\x<256:=by
 obtain⟨h1,h2,h3⟩:=h;intro x hx;rcases fD.1 hx with rfl|hx
 .omega
 rcases fD.1 hx with rfl|hx
 .omega
 exact AM _ x hx
theorem Rl(a b c d e a' b' c' d' e':Int):∀ w,(binOp .eql 53 (.agg #[.int .i64 a,.int .i64 b,.int .i64 c,.int .i64 d,.int .i64 e]) (.agg #[.int .i64 a',.int .i64 b',.int .i64 c',.int .i64 d',.int .i64 e'])).run prog w=.ok (.bool (decide (a=a'/\b=b'/\c=c'/\d=d'/\e=e'))) w:=by
 intro w;rw[run_eql_struct,run_equalIn_agg w 9999 _ _ _ (by kernel_rfl) (by kernel_rfl)];unfold Program.fieldsOf;rw[underlying53];have h3:=underlying3;simp[Op.eqFields,go_sem,h3]
 repeat' split
 all_goals simp_all
theorem Yl(a b c d e a' b' c' d' e':Int):∀ w,(binOp .neq 53 (.agg #[.int .i64 a,.int .i64 b,.int .i64 c,.int .i64 d,.int .i64 e]) (.agg #[.int .i64 a',.int .i64 b',.int .i64 c',.int .i64 d',.int .i64 e'])).run prog w=.ok (.bool (!decide (a=a'/\b=b'/\c=c'/\d=d'/\e=e'))) w:=by
 intro w;rw[run_neq_struct,run_equalIn_agg w 9999 _ _ _ (by kernel_rfl) (by kernel_rfl)];unfold Program.fieldsOf;rw[underlying53];have h3:=underlying3;simp[Op.eqFields,go_sem,h3]
 repeat' split
 all_goals simp_all
theorem DZ{ty:TypeId}{fr:Nat × Nat}(h:w.heap[g]?=some (.cells (cmA k c s n v) ty fr)) :
  w.cell? ⟨g,0,none⟩=some (.int .i64 k)/\w.cell? ⟨g,1,none⟩=some (.int .i64 c)/\w.cell? ⟨g,2,none⟩=some (.int .i64 s)/\w.cell? ⟨g,3,none⟩=some (.int .i64 n)/\w.cell? ⟨g,4,none⟩=some (.int .i64 v) :=
 ⟨cell_of_row _ _ 0 _ _ _ h,cell_of_row _ _ 1 _ _ _ h,cell_of_row _ _ 2 _ _ _ h,cell_of_row _ _ 3 _ _ _ h,cell_of_row _ _ 4 _ _ _ h⟩
theorem XT(c s n v:Int):InC c s n v↔(((0<=c/\c<=7)/\(0<=s/\s<=1048576))/\(0<=n/\n<=7))/\(0<=v/\v<=1073741824):=by unfold InC;omega
structure Bc(w:World)(g:Nat)(k c s n v:Int):Prop where
 lt:g<w.heap.size
 row:w.heap[g]?=some (.cells (cmA k c s n v) 53)
theorem Bc.made(w:World)(k c s n v:Int):Bc (w.alloc (.cells (cmA k c s n v) 53)) w.heap.size k c s n v:=⟨by simp,heap_alloc_new _ _⟩
theorem Bc.below(h:Bc w g k c s n v)(hb:Bw w w'):Bc w' g k c s n v :=
 ⟨Z' h.lt hb.size,(hb.block g h.lt).trans h.row⟩
theorem F6(k c s n v:Int):(prog.info? 53).map (·.size)=some (cmA k c s n v).size:=by show _=some 5;kernel_rfl
def LJ:List Int:=[0,0,0,2,7,1073741824,1,7,0,4,7,0]
structure NTab(w:World):Prop where
 lt:2<w.heap.size
 cell:∀ i,i<12->w.cell? ⟨2,i,none⟩=some (.int .i64 (LJ.getD i 0))
theorem NTab.below(h:NTab w)(hb:Bw w w'):NTab w' :=
 ⟨Z' h.lt hb.size,λi hi=>(hb.cell (p:=⟨2,i,none⟩) h.lt).trans (h.cell i hi)⟩
theorem Ei(n g:Int)(w:World) :
  Calls prog 108 #[.int .i64 n,.int .i64 g] w λe w'=>e=.returned (.bool (decide (0<=n/\n<=g)))/\w'=w:=by
 by_cases h0:0<=n
 .by_cases h1:n<=g
  .rw[I' ⟨h0,h1⟩];go_enter func108,ntmps108
   go_wp2
   go_ret;exact⟨Ac (by simp),rfl⟩
  .rw[D' (by omega)];go_enter func108,ntmps108
   go_wp2
   go_ret;exact⟨Ac (by simp),rfl⟩
 .rw[D' (by omega)];go_enter func108,ntmps108
  go_wp2
  go_ret;exact⟨Ac (by simp),rfl⟩
theorem Hq{g:Int}{b:Bool}(h:Hid (decide (0<=n/\n<=g)=b))(w:World) :
  Calls prog 108 #[.int .i64 n,.int .i64 g] w λe w'=>e=.returned (.bool b)/\w'=w:=by
 rw[<- h.out];exact Ei n g w
theorem PS(k:Int)(w:World) :
  Calls prog 112 #[.int .i64 k] w λe w'=>e=.returned (.bool (decide (0<=k/\k<=3)))/\w'=w:=by
 go_enter func112,ntmps112
 go_wp2_with fail
 refine(Ei k 3 _).mono ?_;rintro e w1 ⟨rfl,rfl⟩;go_wp2
 go_ret;exact⟨Ac (by simp),rfl⟩
theorem VA(c s n v:Int)(w:World) :
  Calls prog 113 #[.agg (cmA 0 c s n v)] w λe w'=>e=.returned (.int .i64 (AU 0 c s n v))/\Bw w w':=by
 have bb:Bw w (w.alloc (.cells (cmA 0 c s n v) 53)):=(Below.refl _ _).alloc (A' _) _;simp only[cmA]at bb ⊢;have hq:=Yl 0 c s n v 0 0 0 0 0;by_cases h:c=0/\s=0/\n=0/\v=0
 .have HE:Hid (0=AU 0 c s n v):=(Sr h).symm;rw[I' ⟨rfl,h⟩]at hq
  clear h;go_enter func113,ntmps113
  go_wp2
  go_ret;exact⟨Az HE.out,bb⟩
 .have HE:Hid (3=AU 0 c s n v):=(P0 h).symm;rw[D' (λg=>h g.2)]at hq
  clear h;go_enter func113,ntmps113
  go_wp2
  go_ret;exact⟨Az HE.out,bb⟩
theorem NTab.name(h:NTab w)(k:Nat)(h0:1<=k)(h1:k<=3):w.cell? ⟨2,k*3+1,none⟩=some (.int .i64 7):=by
 rcases(by omega:k=1\/k=2\/k=3)with rfl|rfl|rfl
 .exact h.cell 4 (by omega)
 .exact h.cell 7 (by omega)
 .exact h.cell 10 (by omega)
theorem Mt(k c s n v:Int)(w:World)(hk:1<=k/\k<=3)(ht:NTab w) :
  Calls prog 114 #[.agg (cmA k c s n v)] w λe w'=>e=.returned (.bool (decide (InC c s n v)))/\Bw w w':=by
 have bb:Bw w (w.alloc (.cells (cmA k c s n v) 53)):=(Below.refl _ _).alloc (A' _) _;have hN:=(ht.below bb).name;have rr:=heap_alloc_new w (.cells (cmA k c s n v) 53);simp only[cmA]at bb hN rr ⊢;obtain⟨m,rfl⟩:=fO (show 0<=k by omega);replace hN:=hN m (by omega) (by omega);have k0:(0:Int)<=(m:Int):=by omega
 have k1:(m:Int)<4:=by omega
 have k2:m<4:=by omega
 clear hk ht;have HI:Hid (InC c s n v↔_):=XT c s n v;generalize hW:w.alloc (.cells #[.int .i64 (m:Int),.int .i64 c,.int .i64 s,.int .i64 n,.int .i64 v] 53)=W at bb hN rr;go_enter func114,ntmps114
 go_wp2_with fail
 clear hW;obtain⟨c0,c1,c2,c3,c4⟩:=DZ rr;clear rr;by_cases h1:0<=c/\c<=7
 .have U1:Hid (decide _=true):=I' h1;by_cases h2:0<=s/\s<=1048576
  .have U2:Hid (decide _=true):=I' h2;by_cases h3:0<=n/\n<=7
   .have U3:Hid (decide _=true):=I' h3;by_cases h4:0<=v/\v<=1073741824
    .have U4:Hid (decide _=true):=I' h4;have HB:Hid (true=decide (InC c s n v)):=(I' (HI.out.2 ⟨⟨⟨h1,h2⟩,h3⟩,h4⟩)).symm;clear h1 h2 h3 h4 HI;go_quiet ((go_at_call 108;exact Calls.quiet_of_same (Hq (by assumption) _)))
     go_wp2
     go_ret;exact⟨Ac HB.out,An bb nq⟩
    .have U4:Hid (decide _=false):=D' h4;have HB:Hid (false=decide (InC c s n v)):=(D' (λG=>h4 ((λg=>g.2) (HI.out.1 G)))).symm;clear h1 h2 h3 h4 HI;go_quiet ((go_at_call 108;exact Calls.quiet_of_same (Hq (by assumption) _)))
     go_wp2
     go_ret;exact⟨Ac HB.out,An bb nq⟩
   .have U3:Hid (decide _=false):=D' h3;have HB:Hid (false=decide (InC c s n v)):=(D' (λG=>h3 ((λg=>g.1.2) (HI.out.1 G)))).symm;clear h1 h2 h3 HI;go_quiet ((go_at_call 108;exact Calls.quiet_of_same (Hq (by assumption) _)))
    go_wp2
    go_ret;exact⟨Ac HB.out,An bb nq⟩
  .have U2:Hid (decide _=false):=D' h2;have HB:Hid (false=decide (InC c s n v)):=(D' (λG=>h2 ((λg=>g.1.1.2) (HI.out.1 G)))).symm;clear h1 h2 HI;go_quiet ((go_at_call 108;exact Calls.quiet_of_same (Hq (by assumption) _)))
   go_wp2
   go_ret;exact⟨Ac HB.out,An bb nq⟩
 .have U1:Hid (decide _=false):=D' h1;have HB:Hid (false=decide (InC c s n v)):=(D' (λG=>h1 ((λg=>g.1.1.1) (HI.out.1 G)))).symm;clear h1 HI;go_quiet ((go_at_call 108;exact Calls.quiet_of_same (Hq (by assumption) _)))
  go_wp2
  go_ret;exact⟨Ac HB.out,An bb nq⟩
theorem Y6{a b:Int}(h:a=b):Ending.returned (.int .u32 a)=.returned (.int .u32 b):=by rw[h]
theorem cW(n:Nat)(h0:1<=n)(h1:n<=31):bits .and .u64 (IntKind.u64.wrap (-(n:Int))) 31=32-(n:Int):=by
 have e:IntKind.u64.wrap (-(n:Int))=((18446744073709551616-n:Nat):Int):=by rw[IntKind.wrap_u64];omega
 rw[e,show(31:Int)=((31:Nat):Int)from rfl,u64_and_nat _ _ (by omega) (by omega),nat_mask5];omega
theorem Wh(x:BitVec 32)(n:Nat)(w:World)(h0:1<=n)(h1:n<=31) :
  Calls prog 197 #[.int .u32 (uw x),.int .i64 (-(n:Int))] w λe w'=>e=.returned (.int .u32 (uw (x.rotateRight n)))/\w'=w:=by
 have a1:=Db x;have a2:=WU x;have a3:=cW n h0 h1;go_enter func197,ntmps197
 go_wp2
 go_ret;exact⟨Y6 (cI x n h0 h1),rfl⟩
theorem Tp(x:BitVec 32)(n:Nat)(w:World)(h0:1<=n)(h1:n<=31) :
  Calls prog 184 #[.int .u32 (uw x),.int .i64 (n:Int)] w λe w'=>e=.returned (.int .u32 (uw (x.rotateRight n)))/\w'=w:=by
 go_enter func184,ntmps184
 go_wp2_with fail
 refine(Wh x n w h0 h1).mono ?_;rintro e w1 ⟨rfl,rfl⟩;go_wp2
 go_ret;exact⟨rfl,rfl⟩
theorem Ky(x:BitVec 32)(k:Int)(w:World)(h0:1<=k)(h1:k<=31) :
  Calls prog 184 #[.int .u32 (uw x),.int .i64 k] w λe w'=>e=.returned (.int .u32 (uw (x.rotateRight k.toNat)))/\w'=w:=by
 obtain⟨n,rfl⟩:∃ n:Nat,k=n:=⟨k.toNat,by omega⟩;exact Tp x n w (by omega) (by omega)
theorem Kz(x:BitVec 32)(h:uw x<256):uw x*16777216=uw (x <<< 24)/\uw x*65536=uw (x <<< 16)/\uw x*256=uw (x <<< 8):=by
 have h0:=Db x;have e24:=Fw x 24;have e16:=Fw x 16;have e8:=Fw x 8;rw[<- e24,<- e16,<- e8];refine⟨?_,?_,?_⟩
 .rw[show(2:Int)^24=16777216 from rfl];omega
 .rw[show(2:Int)^16=65536 from rfl];omega
 .rw[show(2:Int)^8=256 from rfl];omega
theorem Bo{B:Nat}{a:World}(h:Below B a w)(hg:B<=g)(cs:Array Value):Below B a (w.setRow g cs) :=
 h.trans ⟨rfl,rfl,rfl,by simp,λk hk=>setRow_other w g k cs (by omega)⟩
theorem Tx(x:BitVec 32):bits .xor .u32 (bits .xor .u32 (uw (x.rotateRight 7)) (uw (x.rotateRight 18))) (uw x/8)=uw (bU x):=by rw[Za,CM,CM];rfl
theorem Ty(x:BitVec 32):bits .xor .u32 (bits .xor .u32 (uw (x.rotateRight 17)) (uw (x.rotateRight 19))) (uw x/1024)=uw (bV x):=by rw[WW,CM,CM];rfl
theorem Ln(h:w.heap[g]?=some (.cells (Au ws) 246 (0,0)))(k:Nat)(x:BitVec 32) :
  (w.setCell ⟨g,k,none⟩ (.int .u32 (uw x))).heap[g]?=some (.cells (Au (ws.set k x)) 246 (0,0)):=by
 rw[heap_setCell_same _ _ _ _ _ _ h,KG]
theorem MH(v:Value)(l:List Int)(w:World)(h:Sl w v l)(hl:l.length=64) :
  Calls prog 169 #[v] w λe w'=>e=.returned (.agg (Au (LU l)))/\Bw w w':=by
 obtain⟨⟨a,cap,rfl,hc,hn,h1⟩,hla,hba⟩:=h;rcases h1 with rfl|⟨b,off,rfl,hb,hcell⟩
 .simp at hl
 rw[hl]at hc hla hcell ⊢
 have HL:Hid (l.length=64):=hl;have HC:Hid (∀ i,i<64->w.cell? ⟨b,off+i,none⟩=some (.int .u8 (uw (BR (l.getD i 0))))):=λi hi=>by rw[Jx _ (Aj hba i)];exact hcell i hi
 have HB:Hid (∀ i,uw (BR (l.getD i 0))<256):=λi=>by rw[Jx _ (Aj hba i)];exact(Aj hba i).2
 clear hl hn hcell hba;go_enter func169,ntmps169
 go_wp2_with fail
 go_loopw [10] (λi wr=>∃ k:Nat,k<=16/\i=.int .i64 k/\wr.heap[w.heap.size+1]?=some (.cells (Au (Jf l k)) 246 (0,0))/\wr.heap[w.heap.size]?=some (.cells (Au (Jf l 0)) 246 (0,0))/\Bw w wr) (λi _=>16-(intOf i).toNat)
 case atStart=>exact⟨0,by omega,rfl,heap_alloc2_new _ _ _,heap_alloc2_old _ _ _,((Below.refl _ _).alloc (A' _) _).alloc (by simp) _⟩
 case round =>
  obtain⟨k,hk,rfl,hW,hR,hbel⟩:=hrel;by_cases hk16:k<16
  .have hz:=Bp (Jf l k) k (by rw[Fo];omega);have hcw:wr.cell? ⟨w.heap.size+1,k,none⟩=some (.int .u32 (uw ((Jf l k).getD k 0#32))):=(cell_of_row wr _ k _ _ _ hW).trans hz;have hfw:wr.frozen? ⟨w.heap.size+1,k,none⟩=false:=frozen_of_row wr _ k _ _ hW;have c0:=(hbel.cell (p:=⟨b,off+(4*k),none⟩) hb).trans (HC.out (4*k) (by omega));have c1:=(hbel.cell (p:=⟨b,off+(4*k+1),none⟩) hb).trans (HC.out (4*k+1) (by omega));have c2:=(hbel.cell (p:=⟨b,off+(4*k+2),none⟩) hb).trans (HC.out (4*k+2) (by omega));have c3:=(hbel.cell (p:=⟨b,off+(4*k+3),none⟩) hb).trans (HC.out (4*k+3) (by omega));have l0:=HB.out (4*k);have l1:=HB.out (4*k+1);have l2:=HB.out (4*k+2);have l3:=HB.out (4*k+3);obtain⟨wd,HW,HV⟩:∃ wd,Hid (wd=QX l k)/\Hid (Jf l (k+1)=(Jf l k).set k wd):=⟨_,rfl,rfl⟩;unfold QX at HW;generalize BR (l.getD (4*k) 0)=x0 at c0 l0 HW;generalize BR (l.getD (4*k+1) 0)=x1 at c1 l1 HW;generalize BR (l.getD (4*k+2) 0)=x2 at c2 l2 HW;generalize BR (l.getD (4*k+3) 0)=x3 at c3 l3 HW;obtain⟨y0,s0,e0⟩:∃ y,uw x0*16777216=uw y/\x0 <<< 24=y:=⟨_,(Kz x0 l0).1,rfl⟩;obtain⟨y1,s1,e1⟩:∃ y,uw x1*65536=uw y/\x1 <<< 16=y:=⟨_,(Kz x1 l1).2.1,rfl⟩;obtain⟨y2,s2,e2⟩:∃ y,uw x2*256=uw y/\x2 <<< 8=y:=⟨_,(Kz x2 l2).2.2,rfl⟩;rw[e0,e1,e2]at HW
   clear e0 e1 e2;have z0:=Db x0;have z1:=Db x1;have z2:=Db x2;have z3:=Db x3;clear hz;go_wp2_with fail
   refine Aq 35 (by kernel_rfl) (by kernel_rfl) ?_;simp only[gl,gD,gw,gU]
   repeat (go_big_quiet_step (fail))
   refine wpQuiet_nil ?_;go_wp2
   rw[IR,IR,IR,<- HW.out];go_roundw
   case rel=>exact⟨k+1,by omega,by go_num,by rw[HV.out];exact Ln hW k wd,(heap_setCell_other _ _ _ _ (by simp)).trans hR,(hbel.setCell (by simp) _).drew⟩
   case measure=>simp[intOf];omega
  .have HK:Hid (k=16):=by unfold Hid;omega
   clear HC HB;go_wp2_with fail
   go_loopw [5] (λi wr=>∃ k:Nat,k<=48/\i=.int .i64 (16+(k:Int))/\wr.heap[w.heap.size+1]?=some (.cells (Au (EP l k)) 246 (0,0))/\wr.heap[w.heap.size]?=some (.cells (Au (Jf l 0)) 246 (0,0))/\Bw w wr) (λi _=>64-(intOf i).toNat)
   case atStart=>exact⟨0,by omega,rfl,by rw[HK.out]at hW;exact hW,hR,hbel⟩
   case round =>
    clear hW hR hbel HK;obtain⟨k,hk,rfl,hW,hR,hbel⟩:=hrel;by_cases hk48:k<48
    .have hcell:∀ i,i<64->wr.cell? ⟨w.heap.size+1,i,none⟩=some (.int .u32 (uw ((EP l k).getD i 0#32))):=λi hi=>(cell_of_row wr _ i _ _ _ hW).trans (Bp (EP l k) i (by rw[DE];exact hi));have c16:=hcell k (by omega);have c15:=hcell (16+k-15) (by omega);have c7:=hcell (16+k-7) (by omega);have c2:=hcell (16+k-2) (by omega);have c0:=hcell (16+k) (by omega);have hfw:wr.frozen? ⟨w.heap.size+1,16+k,none⟩=false:=frozen_of_row wr _ (16+k) _ _ hW;have HV:Hid (EP l (k+1)=(EP l k).set (16+k) (V9 (EP l k) (16+k))):=rfl;unfold V9 at HV;have e16:16+k-16=k:=by omega
     rw[e16]at HV
     generalize (EP l k).getD k 0#32=x16 at c16 HV;generalize (EP l k).getD (16+k-15) 0#32=x15 at c15 HV;generalize (EP l k).getD (16+k-7) 0#32=x7 at c7 HV;generalize (EP l k).getD (16+k-2) 0#32=x2 at c2 HV;clear hcell e16;have n15:=Db x15;have n2:=Db x2;go_wp2_with fail
     go_quiet (fail)
     go_wp2_with (go_at_call 184;refine(Ky _ _ _ (by omega) (by omega)).mono ?_;rintro e w' ⟨rfl,rfl⟩)
     rw[Tx,Ty];generalize bU x15=t0 at HV;generalize bV x2=t1 at HV;refine Aq 15 (by kernel_rfl) (by kernel_rfl) ?_;simp only[gl,gD,gw,gU]
     repeat (go_big_quiet_step (fail))
     refine wpQuiet_nil ?_;go_wp2
     go_roundw
     case rel =>
      rw[RP];exact⟨k+1,by omega,by go_num,by rw[HV.out];exact Ln (w:=wr.drewN (nq+1)) hW (16+k) _,(heap_setCell_other _ _ _ _ (by simp)).trans hR,(An hbel _).setCell (by simp) _⟩
     case measure=>simp[intOf];omega
    .have HK:Hid (k=48):=by unfold Hid;omega
     have hsz:(prog.info? 246).map (·.size)=some (Au (EP l k)).size:=by rw[AR,DE];kernel_rfl
     have hone:(Au (EP l k)).all (·.oneCell')=true:=by simp[Au,Value.oneCell']
     go_wp2_with (first|(refine wpList_load_row rfl 246 _ rfl (w.heap.size+1) rfl 246 _ (0,0) _ hW underlying246 rfl hsz ?_)|(refine wpList_store_row rfl 246 _ _ rfl w.heap.size _ rfl rfl 246 _ hR hsz (by rw[AR,AR,Fo,DE]) hone ?_))
     refine bodyPost_ret (v:=.agg (Au (EP l k))) (results_cell_row rfl _ _ w.heap.size 246 _ (0,0) _ rfl (setRow_heap wr w.heap.size _ _ 246 _ hR) underlying246 rfl hsz) rfl ⟨by rw[HK.out];rfl,Bo hbel (A' _) _⟩
def AA(w:World):Prop:=3<w.heap.size/\∀ i,i<64->w.cell? ⟨3,i,none⟩=some (.int .u32 (uw (kAt i)))
theorem AA.below(h:AA w)(hb:Bw w w'):AA w' :=
 ⟨Z' h.1 hb.size,λi hi=>(hb.cell (p:=⟨3,i,none⟩) h.1).trans (h.2 i hi)⟩
theorem YY(x:BitVec 32):bits .xor .u32 IntKind.u32.max (uw x)=uw (~~~x):=by
 have e:IntKind.u32.max=uw (BitVec.allOnes 32):=rfl;rw[e,CM,QS,BitVec.allOnes_xor]
theorem No(e f g:BitVec 32):bits .xor .u32 (bits .and .u32 (uw e) (uw f)) (bits .and .u32 (bits .xor .u32 IntKind.u32.max (uw e)) (uw g))=uw (Pw e f g):=by
 rw[YY,KD,KD,CM];rfl
theorem SV(a b c:BitVec 32):bits .xor .u32 (bits .xor .u32 (bits .and .u32 (uw a) (uw b)) (bits .and .u32 (uw a) (uw c))) (bits .and .u32 (uw b) (uw c))=uw (most a b c):=by
 rw[KD,KD,KD,CM,CM];rfl
theorem Se(x:BitVec 32):bits .xor .u32 (bits .xor .u32 (uw (x.rotateRight 6)) (uw (x.rotateRight 11))) (uw (x.rotateRight 25))=uw (cZ x):=by
 rw[CM,CM];rfl
theorem Sc(x:BitVec 32):bits .xor .u32 (bits .xor .u32 (uw (x.rotateRight 2)) (uw (x.rotateRight 13))) (uw (x.rotateRight 22))=uw (cY x):=by
 rw[CM,CM];rfl
theorem YX(s:St)(k w:BitVec 32):((uw s.h+bits .xor .u32 (bits .xor .u32 (uw (s.e.rotateRight 6)) (uw (s.e.rotateRight 11))) (uw (s.e.rotateRight 25))+uw (Pw s.e s.f s.g)+uw k)%(4294967296:Int)+uw w)%(4294967296:Int)=uw (upS s k w):=by
 rw[Se,RP,C1];rfl
theorem Sw(s:St):(bits .xor .u32 (bits .xor .u32 (uw (s.a.rotateRight 2)) (uw (s.a.rotateRight 13))) (uw (s.a.rotateRight 22))+uw (most s.a s.b s.c))%(4294967296:Int)=uw (Zr s):=by
 rw[Sc,C1];rfl
theorem Vi(s:St)(j:Nat)(hj:j<8):∀ w,(Instr.index 244 (.agg #[.int .u32 (uw s.a),.int .u32 (uw s.b),.int .u32 (uw s.c),.int .u32 (uw s.d),.int .u32 (uw s.e),.int .u32 (uw s.f),.int .u32 (uw s.g),.int .u32 (uw s.h)]) (.int .i64 (j:Int))).run prog w=.ok (.int .u32 (uw (s.list.getD j 0#32))) w:=by
 intro w;obtain rfl|rfl|rfl|rfl|rfl|rfl|rfl|rfl:j=0\/j=1\/j=2\/j=3\/j=4\/j=5\/j=6\/j=7:=by omega
 all_goals kernel_rfl
theorem Na(h:w.heap[g]?=some (.cells (Au ws) 244 (0,0)))(k:Nat)(x:BitVec 32) :
  (w.setCell ⟨g,k,none⟩ (.int .u32 (uw x))).heap[g]?=some (.cells (Au (ws.set k x)) 244 (0,0)):=by
 rw[heap_setCell_same _ _ _ _ _ _ h,KG]
theorem eq(w:World)(o1 o2 o3:Obj){W:World}(h:((w.alloc o1).alloc o2).alloc o3=W) :
  W.heap[w.heap.size]?=some o1/\W.heap[w.heap.size+1]?=some o2/\W.heap[w.heap.size+1+1]?=some o3/\Bw w W:=by
 subst h;refine⟨?_,?_,?_,(((Below.refl _ _).alloc (A' _) _).alloc (by simp) _).alloc (by simp;omega) _⟩
 .rw[heap_alloc_old _ _ (by simp;omega)];exact heap_alloc2_old w o1 o2
 .rw[heap_alloc_old _ _ (by simp)];exact heap_alloc2_new w o1 o2
 .have:=heap_alloc_new ((w.alloc o1).alloc o2) o3;simpa using this
theorem SS(s:St)(ws:List (BitVec 32))(w:World)(hws:ws.length=64)(ht:AA w) :
  Calls prog 168 #[.agg s.cells,.agg (Au ws)] w λe w'=>e=.returned (.agg (V4 s ws).cells)/\Bw w w':=by
 obtain⟨a,b,c,d,e,f,g,h⟩:=s;unfold St.cells;go_enter func168,ntmps168
 go_wp2_with fail
 generalize hW0:((w.alloc _).alloc _).alloc _=W0;obtain⟨hA,hB,hC,hbel⟩:=eq w _ _ _ hW0;clear hW0;have htab:=ht.below hbel;have c0:=cell_of_row W0 _ 0 _ _ _ hA;have c1:=cell_of_row W0 _ 1 _ _ _ hA;have c2:=cell_of_row W0 _ 2 _ _ _ hA;have c3:=cell_of_row W0 _ 3 _ _ _ hA;have c4:=cell_of_row W0 _ 4 _ _ _ hA;have c5:=cell_of_row W0 _ 5 _ _ _ hA;have c6:=cell_of_row W0 _ 6 _ _ _ hA;have c7:=cell_of_row W0 _ 7 _ _ _ hA;simp only[gd,gp,iN]at c0 c1 c2 c3 c4 c5 c6 c7;have HA:Hid _:=hA;have HB:Hid _:=hB;have HC:Hid _:=hC;clear hA hB hC;go_quiet (fail)
 go_wp2_with fail
 go_quiet (fail)
 go_wp2_with fail
 clear c0 c1 c2 c3 c4 c5 c6 c7
 go_loopw [5,6,7,8,9,10,11,12,36] (λa' b' c' d' e' f' g' h' i wr=>∃ k n:Nat,k<=64/\i=.int .i64 k/\wr=W0.drewN n/\a'=.int .u32 (uw (Bl ws ⟨a,b,c,d,e,f,g,h⟩ k).a)/\b'=.int .u32 (uw (Bl ws ⟨a,b,c,d,e,f,g,h⟩ k).b)/\c'=.int .u32 (uw (Bl ws ⟨a,b,c,d,e,f,g,h⟩ k).c)/\d'=.int .u32 (uw (Bl ws ⟨a,b,c,d,e,f,g,h⟩ k).d)/\e'=.int .u32 (uw (Bl ws ⟨a,b,c,d,e,f,g,h⟩ k).e)/\f'=.int .u32 (uw (Bl ws ⟨a,b,c,d,e,f,g,h⟩ k).f)/\g'=.int .u32 (uw (Bl ws ⟨a,b,c,d,e,f,g,h⟩ k).g)/\h'=.int .u32 (uw (Bl ws ⟨a,b,c,d,e,f,g,h⟩ k).h)) (λ_ _ _ _ _ _ _ _ i _=>64-(intOf i).toNat)
 case atStart=>exact⟨0,_,by omega,rfl,World.drewN_drewN _ _ _,rfl,rfl,rfl,rfl,rfl,rfl,rfl,rfl⟩
 case round =>
  obtain⟨k,n,hk,rfl,hwr,rfl,rfl,rfl,rfl,rfl,rfl,rfl,rfl⟩:=hrel;have HWR:Hid (wr=W0.drewN n):=hwr;by_cases hlt:k<64
  .have ck:wr.cell? ⟨3,k,none⟩=some (.int .u32 (uw (kAt k))):=by rw[hwr];exact htab.2 k hlt
   have cw:wr.cell? ⟨w.heap.size+1,k,none⟩=some (.int .u32 (uw (ws.getD k 0#32))):=by rw[hwr];exact(cell_of_row W0 _ k _ _ _ HB.out).trans (Bp ws k (by omega))
   clear hwr;have HS:Hid (Bl ws ⟨a,b,c,d,e,f,g,h⟩ (k+1)=W8 (Bl ws ⟨a,b,c,d,e,f,g,h⟩ k) (kAt k) (ws.getD k 0#32)):=rfl;generalize Bl ws ⟨a,b,c,d,e,f,g,h⟩ k=S at HS;generalize kAt k=kk at ck HS;generalize ws.getD k 0#32=ww at cw HS;clear htab;unfold W8 at HS;go_wp2_with fail
   rw[No,SV];go_quiet ((go_at_call 184;exact Calls.quiet_of_same (Ky _ _ _ (by omega) (by omega))))
   rw[YX];generalize upS S kk ww=up at HS ⊢;clear ck cw;go_wp2_with (go_at_call 184;refine(Ky _ _ _ (by omega) (by omega)).mono ?_;rintro e w' ⟨rfl,rfl⟩)
   go_roundw
   case rel =>
    rw[Sw,C1,C1];exact⟨k+1,n+nq,by omega,by go_num,by rw[HWR.out,World.drewN_drewN],by rw[HS.out],by rw[HS.out],by rw[HS.out],by rw[HS.out],by rw[HS.out],by rw[HS.out],by rw[HS.out],by rw[HS.out]⟩
   case measure=>simp[intOf];omega
  .have HK:Hid (k=64):=by unfold Hid;omega
   have hA2:wr.heap[w.heap.size]?=some (.cells (Au (Dm ⟨a,b,c,d,e,f,g,h⟩ (Bl ws ⟨a,b,c,d,e,f,g,h⟩ k) 0)) 244 (0,0)):=by rw[hwr];exact HA.out
   have hC2:wr.heap[w.heap.size+1+1]?=some (.cells (Au [0#32,0#32,0#32,0#32,0#32,0#32,0#32,0#32]) 244 (0,0)):=by rw[hwr];exact HC.out
   have hbel2:Bw w wr:=by rw[hwr];exact An hbel n
   clear hwr HA HB HC htab hbel HWR;have HM:Hid (k=64->(V4 ⟨a,b,c,d,e,f,g,h⟩ ws).cells=Au (Dm ⟨a,b,c,d,e,f,g,h⟩ (Bl ws ⟨a,b,c,d,e,f,g,h⟩ k) 8)):=by rintro rfl;rfl
   generalize Bl ws ⟨a,b,c,d,e,f,g,h⟩ k=S at HM hA2 ⊢;generalize hs0:St.mk a b c d e f g h=s0 at HM hA2;have HS0:Hid (St.mk a b c d e f g h=s0):=hs0;clear hs0;go_wp2_with fail
   go_loopw [110] (λi wr=>∃ j:Nat,j<=8/\i=.int .i64 j/\wr.heap[w.heap.size]?=some (.cells (Au (Dm s0 S j)) 244 (0,0))/\wr.heap[w.heap.size+1+1]?=some (.cells (Au [0#32,0#32,0#32,0#32,0#32,0#32,0#32,0#32]) 244 (0,0))/\Bw w wr) (λi _=>8-(intOf i).toNat)
   case atStart=>exact⟨0,by omega,rfl,hA2,hC2,hbel2⟩
   case round =>
    clear hA2 hC2 hbel2;obtain⟨j,hj,rfl,hA,hC,hbel⟩:=hrel;by_cases hlt:j<8
    .have cj:=(cell_of_row wr _ j _ _ _ hA).trans (Bp (Dm s0 S j) j (by rw[En];omega));have fj:=frozen_of_row wr _ j _ _ hA;have hix:=Vi S j hlt;have HV:Hid (Dm s0 S (j+1)=(Dm s0 S j).set j ((Dm s0 S j).getD j 0#32+S.list.getD j 0#32)):=rfl;generalize (Dm s0 S j).getD j 0#32=x at cj HV;generalize S.list.getD j 0#32=y at hix HV;go_wp2
     go_roundw
     case rel =>
      rw[C1];exact⟨j+1,by omega,by go_num,by rw[HV.out];exact Na hA j _,(heap_setCell_other _ _ _ _ (by simp;omega)).trans hC,hbel.setCell (A' _) _⟩
     case measure=>simp[intOf];omega
    .have HJ:Hid (j=8):=by unfold Hid;omega
     have hsz:(prog.info? 244).map (·.size)=some (Au (Dm s0 S j)).size:=by rw[AR,En];kernel_rfl
     have hone:(Au (Dm s0 S j)).all (·.oneCell')=true:=by simp[Au,Value.oneCell']
     go_wp2_with (first|(refine wpList_load_row rfl 244 _ rfl w.heap.size rfl 244 _ (0,0) _ hA underlying244 rfl hsz ?_)|(refine wpList_store_row rfl 244 _ _ rfl (w.heap.size+1+1) _ rfl rfl 244 _ hC hsz (by rw[AR,AR,En];rfl) hone ?_))
     refine bodyPost_ret (v:=.agg (Au (Dm s0 S j))) (results_cell_row rfl _ _ (w.heap.size+1+1) 244 _ (0,0) _ rfl (setRow_heap wr _ _ _ 244 _ hC) underlying244 rfl hsz) rfl ⟨?_,Bo hbel (by omega) _⟩;rw[HJ.out,<- HM.out HK.out,<- HS0.out];rfl
end
end
section
open Go.ChangeShapes Go.WideShapes Go.ChangeAt Go.RowKit
section
theorem dm : prog.globalNamed "conclave/sha.roundWords" = some 3 := by kernel_rfl
theorem UW:(prog.globals[3]?).map (·.type)=some 246:=by kernel_rfl
theorem Xv:prog.cellsOf 246=64:=by kernel_rfl
theorem Xu:prog.cellsOf 243=1:=by kernel_rfl
theorem SJ(i:Nat)(hi:i<64):PV.getD i 0=uw (kAt i):=by
 have all:∀ j:Fin 64,PV.getD j.val 0=uw (kAt j.val):=by decide +kernel
 exact all ⟨i,hi⟩
theorem Zs : prog.globalNamed "conclave/order.needs" = some 2 := by kernel_rfl
theorem S7:(prog.globals[2]?).map (·.type)=some 193:=by kernel_rfl
theorem al:prog.cellsOf 193=12:=by kernel_rfl
theorem Us:prog.cellsOf 192=3:=by kernel_rfl
theorem ai:prog.cellsOf 3=1:=by kernel_rfl
variable{W:World}{cs:Array Value}{fuel:Nat}{p:List MemPlace}
theorem FC{H:Type}{enc:TypeId × Value->H}{base:Nat}{sp:Nat->Bool}{held:Bool}{cs:List Value}{a b c:Int}(h:DataW.trod enc prog W base sp held fuel 192 cs=some (.agg [.lit (.int .i64 a),.lit (.int .i64 b),.lit (.int .i64 c)],p)) :
  cs=[.int .i64 a,.int .i64 b,.int .i64 c]:=by
 obtain⟨y0,y1,y2,n,hx,hl,h0,h1,h2⟩:=Go.Deep.trod_struct3 underlying192 h;rw[Us]at hl
 simp only[ai]at h0 h1 h2
 match cs,hl with
 | [c0,c1,c2],_ =>
  obtain⟨a0,e0,x0,_⟩:=DataW.trod_int underlying3 h0;obtain⟨a1,e1,x1,_⟩:=DataW.trod_int underlying3 h1;obtain⟨a2,e2,x2,_⟩:=DataW.trod_int underlying3 h2;subst x0 x1 x2;simp at e0 e1 e2;subst e0 e1 e2;simp at hx;obtain⟨⟨rfl,rfl,rfl⟩,_⟩:=hx;rfl
theorem UV : prog.globalNamed "conclave/cha.quarters" = some 4 := by kernel_rfl
theorem PJ:(prog.globals[4]?).map (·.type)=some 277:=by kernel_rfl
theorem am:prog.cellsOf 3=1:=by kernel_rfl
theorem Rd:prog.cellsOf 276=4:=by kernel_rfl
theorem Ur:prog.cellsOf 277=32:=by kernel_rfl
def IF:List (List Int):=[[0,4,8,12],[1,5,9,13],[2,6,10,14],[3,7,11,15],[0,5,10,15],[1,6,11,12],[2,7,8,13],[3,4,9,14]]
theorem aU{cs:List Value}(hl:cs.length=32)(rows:List (List Value))(hr:rows.length=8)(h:∀ i,i<8->(cs.drop (i*4)).take 4=rows.getD i []):cs=rows.flatten:=by
 have e0:=h 0 (by omega);have e1:=h 1 (by omega);have e2:=h 2 (by omega);have e3:=h 3 (by omega);have e4:=h 4 (by omega);have e5:=h 5 (by omega);have e6:=h 6 (by omega);have e7:=h 7 (by omega)
 match rows,hr with
 | [r0,r1,r2,r3,r4,r5,r6,r7],_ =>
  simp only[fL,fT]at e0 e1 e2 e3 e4 e5 e6 e7;subst e0 e1 e2 e3 e4 e5 e6 e7;apply List.ext_getElem?;intro i
  match cs,hl with
  | [a0,a1,a2,a3,a4,a5,a6,a7,a8,a9,a10,a11,a12,a13,a14,a15,a16,a17,a18,a19,a20,a21,a22,a23,a24,a25,a26,a27,a28,a29,a30,a31],_=>rfl
theorem VX(hvar : World.var? prog W "conclave/cha.quarters" = some cs)(hd:DataW.trod (fun _=>()) prog W 0 (fun _=>true) false fuel 277 cs.toList=some (Rows.laid_conclave_cha_quarters,p)):Cf W:=by
 obtain⟨xs,m,_,hx,hlen,hxl,hel⟩:=DataW.trod_array underlying277 hd;rw[Ur]at hlen
 rw[Rd]at hel
 have hx1:xs.map (·.1)=IF.map (λzs=>Lib.tabData .i64 zs):=by
  have:=congrArg Prod.fst hx;simp only[Rows.laid_conclave_cha_quarters,DataW.agg.injEq]at this;rw[<- this];rfl
 have hrow:∀ i,i<8->(cs.toList.drop (i*4)).take 4=(IF.map (λzs=>zs.map λz=>Value.int .i64 z)).getD i []:=by
  intro i hi;have h1:=hel i hi;have h2:xs[i]?=some (xs[i]'(by omega)):=E' (by omega);rw[h2]at h1
  have h3:(xs[i]'(by omega)).1=Lib.tabData .i64 (IF.getD i []):=by
   have e1:(xs.map (·.1))[i]?=some (xs[i]'(by omega)).1:=by rw[fX,h2];rfl
   rw[hx1,fX,E' (show i<IF.length from hi)]at e1
   simp only[gb,U']at e1;rw[<- e1,List.getD,E' (show i<IF.length from hi)];rfl
  have h4:xs[i]'(by omega)=(Lib.tabData .i64 (IF.getD i []),(xs[i]'(by omega)).2):=by rw[<- h3]
  rw[h4]at h1
  have h5:=Lib.cells_of_tab underlying276 underlying3 am Rd h1;rw[h5,List.getD,List.getD,fX,E' (show i<IF.length from hi)];rfl
 have hcs:cs.toList=(IF.map (λzs=>zs.map λz=>Value.int .i64 z)).flatten:=aU hlen _ rfl hrow;have hqa:cs=Tl:=by
  apply il;rw[hcs];rfl
 subst hqa;unfold World.var? at hvar;rw[UV]at hvar
 simp only[Option.bind_some]at hvar;split at hvar
 .rename_i c t fr hh
  simp only[U']at hvar;subst hvar;exact⟨t,fr,hh⟩
 .cases hvar
theorem Yj(hvar : World.var? prog W "conclave/order.needs" = some cs)(hd:DataW.trod (fun _=>()) prog W 0 (fun _=>true) false fuel 193 cs.toList=some (Rows.laid_conclave_order_needs,p)):NTab W:=by
 obtain⟨xs,m,_,hx,hl,hxl,hb⟩:=DataW.trod_array underlying193 hd;rw[al]at hl
 rw[Us]at hb
 have hT:cs.toList=LJ.map (Value.int .i64):=by
  match xs,hxl with
  | [x0,x1,x2,x3],_ =>
   simp only[Rows.laid_conclave_order_needs,fN,gy,gc,DataW.agg.injEq,iw,and_true]at hx;obtain⟨⟨h0,h1,h2,h3⟩,_⟩:=hx;have r0:=FC (p:=x0.2) ((hb 0 (by omega)).trans (by rw[h0];rfl));have r1:=FC (p:=x1.2) ((hb 1 (by omega)).trans (by rw[h1];rfl));have r2:=FC (p:=x2.2) ((hb 2 (by omega)).trans (by rw[h2];rfl));have r3:=FC (p:=x3.2) ((hb 3 (by omega)).trans (by rw[h3];rfl));generalize cs.toList=l at hl r0 r1 r2 r3
   match l,hl with
   | [_,_,_,_,_,_,_,_,_,_,_,_],_ =>
    simp at r0 r1 r2 r3;simp[LJ,r0,r1,r2,r3]
 have hT':cs=(LJ.map (Value.int .i64)).toArray:=il (by simpa using hT);subst hT';obtain⟨t,fr,hr⟩:=Jy Zs hvar;refine⟨(G'.1 hr).1,λi hi=>?_⟩;refine cell_of_row _ _ i _ _ _ hr |>.trans ?_;simp[List.getD,List.getElem?_map,List.getElem?_eq_getElem (show i<LJ.length from hi)]
theorem dx:(Rows.laid_conclave_sha_roundWords:DataW Unit)=Lib.tabData .u32 PV:=by kernel_rfl
theorem Wj(hvar : World.var? prog W "conclave/sha.roundWords" = some cs)(hd:DataW.trod (fun _=>()) prog W 0 (fun _=>true) false fuel 246 cs.toList=some (Rows.laid_conclave_sha_roundWords,p)):AA W:=by
 obtain⟨t,fr,hr⟩:=Jy dm hvar;rw[dx]at hd
 have hc:=Lib.cells_of_tab underlying246 underlying243 Xu Xv hd;refine⟨(G'.1 hr).1,λi hi=>?_⟩;rw[cell_of_row _ _ i _ _ _ hr,<- SJ i hi];have h2:cs[i]?=cs.toList[i]?:=by simp
 rw[h2,hc,fX,E' (show i<PV.length from hi),List.getD,E' (show i<PV.length from hi)];rfl
def Vr(cs:Array Value):Obj->Obj
 | .cells _ t frozen=>.cells cs t frozen
 | o=>o
end
end
end Go.Proofs.YtalbmmghmoggcabGreatDoor
