/- Part 5 of the walk. -/
import Derived.Test.YtalbmmghmoggcadGreatDoorZ3
import Derived.Test.YtalbmmghmoggcadGreatDoorZ4
set_option maxRecDepth 100000
set_option maxHeartbeats 4000000
open Go.Proofs.Tryz
set_option linter.unusedVariables false
namespace Go.Proofs.YtalbmmghmoggcadGreatDoor
section
open Go.RowKit
section
def cmA(k c s n v:Int):Array Value:=#[.int .i64 k,.int .i64 c,.int .i64 s,.int .i64 n,.int .i64 v]
def tkA(c r u:Int):Array Value:=#[.int .i64 c,.int .i64 r,.int .i64 u]
def InC(c s n v:Int):Prop:=0<=c/\c<=7/\0<=s/\s<=1048576/\0<=n/\n<=7/\0<=v/\v<=1073741824
instance (c s n v:Int):Decidable (InC c s n v):=by unfold InC;exact inferInstance
def Bf(k c s n v:Int):Int :=
 if ¬ (0<=k/\k<=3)then 4
 else if k=0 then(if c=0/\s=0/\n=0/\v=0 then 0 else 3)
 else if ¬ InC c s n v then 2
 else if 1<k/\v≠0 then 3
 else 0
variable{c k n now r s tc tr tu u v:Int}{g:Nat}{w w':World}{ws:List (BitVec 32)}
theorem Ub(h:¬ (0<=k/\k<=3)):Bf k c s n v=4:=if_pos h
theorem Uc(h:c=0/\s=0/\n=0/\v=0):Bf 0 c s n v=0:=by
 unfold Bf;rw[if_neg (by omega),if_pos rfl,if_pos h]
theorem QQ(h:¬ (c=0/\s=0/\n=0/\v=0)):Bf 0 c s n v=3:=by
 unfold Bf;rw[if_neg (by omega),if_pos rfl,if_neg h]
theorem QR(h:1<=k/\k<=3)(hi:¬ InC c s n v):Bf k c s n v=2:=by
 unfold Bf;rw[if_neg (by omega),if_neg (by omega),if_pos hi]
theorem Ua(h:2<=k/\k<=3)(hi:InC c s n v)(hv:v≠0):Bf k c s n v=3:=by
 unfold Bf;rw[if_neg (by omega),if_neg (by omega),if_neg (λg=>g hi),if_pos ⟨by omega,hv⟩]
theorem SK(h:1<=k/\k<=3)(hi:InC c s n v)(hv:k=1\/v=0):Bf k c s n v=0:=by
 unfold Bf;rw[if_neg (by omega),if_neg (by omega),if_neg (λg=>g hi),if_neg (by omega)]
theorem E4(h:Bf k c s n v=0):(0<=k/\k<=3)/\InC c s n v:=by
 unfold Bf at h;split at h
 .omega
 .rename_i h1
  split at h
  .split at h
   .rename_i h3
    exact⟨by omega,by unfold InC;omega⟩
   .omega
  .split at h
   .omega
   .rename_i h3
    exact⟨by omega,Classical.not_not.1 h3⟩
def Dy(k c s n v:Int):List Int:=Ad k++Ad c++Ad s++Ad n++Ad v
theorem DW(k c s n v:Int):(Dy k c s n v).length=20:=rfl
theorem MI(k c s n v:Int):∀ x∈Dy k c s n v,0<=x/\x<256:=by
 intro x hx;rcases V'.1 hx with hx|hx
 .rcases V'.1 hx with hx|hx
  .rcases V'.1 hx with hx|hx
   .rcases V'.1 hx with hx|hx
    .exact AU _ x hx
    .exact AU _ x hx
   .exact AU _ x hx
  .exact AU _ x hx
 .exact AU _ x hx
def Ac(l:List Int)(i:Nat):Int:=16777216*l.getD i 0+65536*l.getD (i+1) 0+256*l.getD (i+2) 0+l.getD (i+3) 0
theorem Bz(n:Int)(h0:0<=n)(h1:n<4294967296)(l m:List Int):Ac (l++(Ad n++m)) l.length=n:=by
 have e:∀ j,(l++(Ad n++m)).getD (l.length+j) 0=(Ad n++m).getD j 0:=by
  intro j;simp[List.getD,List.getElem?_append_right]
 unfold Ac;rw[show l.length=l.length+0 from rfl,jI,jI,jI,e,e,e,e];show 16777216*(n/16777216%256)+65536*(n/65536%256)+256*(n/256%256)+n%256=n;omega
theorem UG(k c s n v:Int)(h0:0<=k)(h1:k<4294967296):Ac (Dy k c s n v) 0=k:=by
 have h:=Bz k h0 h1 [] (Ad c++Ad s++Ad n++Ad v);exact h
theorem UH(k c s n v:Int)(h0:0<=c)(h1:c<4294967296):Ac (Dy k c s n v) 4=c:=by
 have h:=Bz c h0 h1 (Ad k) (Ad s++Ad n++Ad v);exact h
theorem UI(k c s n v:Int)(h0:0<=s)(h1:s<4294967296):Ac (Dy k c s n v) 8=s:=by
 have h:=Bz s h0 h1 (Ad k++Ad c) (Ad n++Ad v);exact h
theorem RC(k c s n v:Int)(h0:0<=n)(h1:n<4294967296):Ac (Dy k c s n v) 12=n:=by
 have h:=Bz n h0 h1 (Ad k++Ad c++Ad s) (Ad v);exact h
theorem RD(k c s n v:Int)(h0:0<=v)(h1:v<4294967296):Ac (Dy k c s n v) 16=v:=by
 have h:=Bz v h0 h1 (Ad k++Ad c++Ad s++Ad n) [];exact h
def Cj(l:List Int):Int:=if l.length≠20 then 1 else Bf (Ac l 0) (Ac l 4) (Ac l 8) (Ac l 12) (Ac l 16)
def JH(l:List Int):Array Value:=if Cj l=0 then cmA (Ac l 0) (Ac l 4) (Ac l 8) (Ac l 12) (Ac l 16)else cmA 0 0 0 0 0
def Dk(c r u:Int):Prop:=(0<=c/\c<=7)/\(0<=r/\r<=7)/\0<=u/\u<=1048576
instance (c r u:Int):Decidable (Dk c r u):=by unfold Dk;exact inferInstance
def M0(c r u:Int):Int:=if Dk c r u then 0 else 2
theorem Ki(h:Dk c r u):M0 c r u=0:=if_pos h
theorem T1(h:¬ Dk c r u):M0 c r u=2:=if_neg h
def NG(k r:Int):Prop:=(k=1/\r/2%2=1)\/(k=2/\r%2=1)\/(k=3/\r/4=1)
instance (k r:Int):Decidable (NG k r):=by unfold NG;exact inferInstance
def Ez(tc tr tu k c s n v now:Int):Int :=
 if ¬ Dk tc tr tu then 2
 else if Bf k c s n v≠0 then Bf k c s n v
 else if ¬ (NG k tr/\c=tc)then 11
 else if ¬ (0<=now/\now<=tu)then 10
 else 0
theorem VG(h:¬ Dk tc tr tu):Ez tc tr tu k c s n v now=2:=if_pos h
theorem VF(h:Dk tc tr tu)(h1:Bf k c s n v≠0):Ez tc tr tu k c s n v now=Bf k c s n v:=by
 unfold Ez;rw[if_neg (λg=>g h),if_pos h1]
theorem Ks(h:Dk tc tr tu)(h1:Bf k c s n v=0)(h2:¬ (NG k tr/\c=tc)):Ez tc tr tu k c s n v now=11:=by
 unfold Ez;rw[if_neg (λg=>g h),if_neg (λg=>g h1),if_pos h2]
theorem TK(h:Dk tc tr tu)(h1:Bf k c s n v=0)(h2:NG k tr/\c=tc)(h3:¬ (0<=now/\now<=tu)):Ez tc tr tu k c s n v now=10:=by
 unfold Ez;rw[if_neg (λg=>g h),if_neg (λg=>g h1),if_neg (λg=>g h2),if_pos h3]
theorem Zb(h:Dk tc tr tu)(h1:Bf k c s n v=0)(h2:NG k tr/\c=tc)(h3:0<=now/\now<=tu):Ez tc tr tu k c s n v now=0:=by
 unfold Ez;rw[if_neg (λg=>g h),if_neg (λg=>g h1),if_neg (λg=>g h2),if_neg (λg=>g h3)]
def JY(c r u:Int):List Int:=c::r::Ad u
theorem Ef(c r u:Int):(JY c r u).length=6:=rfl
theorem Ny(h:Dk c r u):∀ x∈JY c r u,0<=x/\x<256:=by
 obtain⟨h1,h2,h3⟩:=h;intro x hx;rcases iX.1 hx with rfl|hx
 .omega
 rcases iX.1 hx with rfl|hx
 .omega
 exact AU _ x hx
theorem SP(a b c d e a' b' c' d' e':Int):∀ w,(binOp .eql 25 (.agg #[.int .i64 a,.int .i64 b,.int .i64 c,.int .i64 d,.int .i64 e]) (.agg #[.int .i64 a',.int .i64 b',.int .i64 c',.int .i64 d',.int .i64 e'])).run prog w=.ok (.bool (decide (a=a'/\b=b'/\c=c'/\d=d'/\e=e'))) w:=by
 intro w;rw[run_eql_struct,run_equalIn_agg w 9999 _ _ _ (by kernel_rfl) (by kernel_rfl)];unfold Program.fieldsOf;rw[underlying25];have h3:=underlying3;simp[Op.eqFields,go_sem,h3]
 repeat' split
 all_goals simp_all
theorem aB(a b c d e a' b' c' d' e':Int):∀ w,(binOp .neq 25 (.agg #[.int .i64 a,.int .i64 b,.int .i64 c,.int .i64 d,.int .i64 e]) (.agg #[.int .i64 a',.int .i64 b',.int .i64 c',.int .i64 d',.int .i64 e'])).run prog w=.ok (.bool (!decide (a=a'/\b=b'/\c=c'/\d=d'/\e=e'))) w:=by
 intro w;rw[run_neq_struct,run_equalIn_agg w 9999 _ _ _ (by kernel_rfl) (by kernel_rfl)];unfold Program.fieldsOf;rw[underlying25];have h3:=underlying3;simp[Op.eqFields,go_sem,h3]
 repeat' split
 all_goals simp_all
theorem E3{ty:TypeId}{fr:Nat × Nat}(h:w.heap[g]?=some (.cells (cmA k c s n v) ty fr)) :
  w.cell? ⟨g,0,none⟩=some (.int .i64 k)/\w.cell? ⟨g,1,none⟩=some (.int .i64 c)/\w.cell? ⟨g,2,none⟩=some (.int .i64 s)/\w.cell? ⟨g,3,none⟩=some (.int .i64 n)/\w.cell? ⟨g,4,none⟩=some (.int .i64 v) :=
 ⟨cell_of_row _ _ 0 _ _ _ h,cell_of_row _ _ 1 _ _ _ h,cell_of_row _ _ 2 _ _ _ h,cell_of_row _ _ 3 _ _ _ h,cell_of_row _ _ 4 _ _ _ h⟩
theorem ZS(c s n v:Int):InC c s n v↔(((0<=c/\c<=7)/\(0<=s/\s<=1048576))/\(0<=n/\n<=7))/\(0<=v/\v<=1073741824):=by unfold InC;omega
structure Bc(w:World)(g:Nat)(k c s n v:Int):Prop where
 lt:g<w.heap.size
 row:w.heap[g]?=some (.cells (cmA k c s n v) 25)
theorem Bc.made(w:World)(k c s n v:Int):Bc (w.alloc (.cells (cmA k c s n v) 25)) w.heap.size k c s n v:=⟨by simp,heap_alloc_new _ _⟩
theorem Bc.below(h:Bc w g k c s n v)(hb:Bw w w'):Bc w' g k c s n v :=
 ⟨Z' h.lt hb.size,(hb.block g h.lt).trans h.row⟩
theorem Gc(k c s n v:Int):(prog.info? 25).map (·.size)=some (cmA k c s n v).size:=by show _=some 5;kernel_rfl
def Nh:List Int:=[0,0,0,2,7,1073741824,1,7,0,4,7,0]
structure NTab(w:World):Prop where
 lt:0<w.heap.size
 cell:∀ i,i<12->w.cell? ⟨0,i,none⟩=some (.int .i64 (Nh.getD i 0))
theorem NTab.below(h:NTab w)(hb:Bw w w'):NTab w' :=
 ⟨Z' h.lt hb.size,λi hi=>(hb.cell (p:=⟨0,i,none⟩) h.lt).trans (h.cell i hi)⟩
theorem EC(n g:Int)(w:World) :
  Calls prog 32 #[.int .i64 n,.int .i64 g] w λe w'=>e=.returned (.bool (decide (0<=n/\n<=g)))/\w'=w:=by
 by_cases h0:0<=n
 .by_cases h1:n<=g
  .rw[I' ⟨h0,h1⟩];go_enter func32,ntmps32
   go_wp2
   go_ret;exact⟨Ae (by simp),rfl⟩
  .rw[D' (by omega)];go_enter func32,ntmps32
   go_wp2
   go_ret;exact⟨Ae (by simp),rfl⟩
 .rw[D' (by omega)];go_enter func32,ntmps32
  go_wp2
  go_ret;exact⟨Ae (by simp),rfl⟩
theorem Iw{g:Int}{b:Bool}(h:Hid (decide (0<=n/\n<=g)=b))(w:World) :
  Calls prog 32 #[.int .i64 n,.int .i64 g] w λe w'=>e=.returned (.bool b)/\w'=w:=by
 rw[<- h.out];exact EC n g w
theorem Rx(k:Int)(w:World) :
  Calls prog 36 #[.int .i64 k] w λe w'=>e=.returned (.bool (decide (0<=k/\k<=3)))/\w'=w:=by
 go_enter func36,ntmps36
 go_wp2_with fail
 refine(EC k 3 _).mono ?_;rintro e w1 ⟨rfl,rfl⟩;go_wp2
 go_ret;exact⟨Ae (by simp),rfl⟩
theorem X9(c s n v:Int)(w:World) :
  Calls prog 37 #[.agg (cmA 0 c s n v)] w λe w'=>e=.returned (.int .i64 (Bf 0 c s n v))/\Bw w w':=by
 have bb:Bw w (w.alloc (.cells (cmA 0 c s n v) 25)):=(Below.refl _ _).alloc (A' _) _;simp only[cmA]at bb ⊢;have hq:=aB 0 c s n v 0 0 0 0 0;by_cases h:c=0/\s=0/\n=0/\v=0
 .have HE:Hid (0=Bf 0 c s n v):=(Uc h).symm;rw[I' ⟨rfl,h⟩]at hq
  clear h;go_enter func37,ntmps37
  go_wp2
  go_ret;exact⟨AC HE.out,bb⟩
 .have HE:Hid (3=Bf 0 c s n v):=(QQ h).symm;rw[D' (λg=>h g.2)]at hq
  clear h;go_enter func37,ntmps37
  go_wp2
  go_ret;exact⟨AC HE.out,bb⟩
theorem NTab.name(h:NTab w)(k:Nat)(h0:1<=k)(h1:k<=3):w.cell? ⟨0,k*3+1,none⟩=some (.int .i64 7):=by
 rcases(by omega:k=1\/k=2\/k=3)with rfl|rfl|rfl
 .exact h.cell 4 (by omega)
 .exact h.cell 7 (by omega)
 .exact h.cell 10 (by omega)
theorem NZ(k c s n v:Int)(w:World)(hk:1<=k/\k<=3)(ht:NTab w) :
  Calls prog 38 #[.agg (cmA k c s n v)] w λe w'=>e=.returned (.bool (decide (InC c s n v)))/\Bw w w':=by
 have bb:Bw w (w.alloc (.cells (cmA k c s n v) 25)):=(Below.refl _ _).alloc (A' _) _;have hN:=(ht.below bb).name;have rr:=heap_alloc_new w (.cells (cmA k c s n v) 25);simp only[cmA]at bb hN rr ⊢;obtain⟨m,rfl⟩:=jj (show 0<=k by omega);replace hN:=hN m (by omega) (by omega);have k0:(0:Int)<=(m:Int):=by omega
 have k1:(m:Int)<4:=by omega
 have k2:m<4:=by omega
 clear hk ht;have HI:Hid (InC c s n v↔_):=ZS c s n v;generalize hW:w.alloc (.cells #[.int .i64 (m:Int),.int .i64 c,.int .i64 s,.int .i64 n,.int .i64 v] 25)=W at bb hN rr;go_enter func38,ntmps38
 go_wp2_with fail
 clear hW;obtain⟨c0,c1,c2,c3,c4⟩:=E3 rr;clear rr;by_cases h1:0<=c/\c<=7
 .have U1:Hid (decide _=true):=I' h1;by_cases h2:0<=s/\s<=1048576
  .have U2:Hid (decide _=true):=I' h2;by_cases h3:0<=n/\n<=7
   .have U3:Hid (decide _=true):=I' h3;by_cases h4:0<=v/\v<=1073741824
    .have U4:Hid (decide _=true):=I' h4;have HB:Hid (true=decide (InC c s n v)):=(I' (HI.out.2 ⟨⟨⟨h1,h2⟩,h3⟩,h4⟩)).symm;clear h1 h2 h3 h4 HI;go_quiet ((go_at_call 32;exact Calls.quiet_of_same (Iw (by assumption) _)))
     go_wp2
     go_ret;exact⟨Ae HB.out,Ao bb nq⟩
    .have U4:Hid (decide _=false):=D' h4;have HB:Hid (false=decide (InC c s n v)):=(D' (λG=>h4 ((λg=>g.2) (HI.out.1 G)))).symm;clear h1 h2 h3 h4 HI;go_quiet ((go_at_call 32;exact Calls.quiet_of_same (Iw (by assumption) _)))
     go_wp2
     go_ret;exact⟨Ae HB.out,Ao bb nq⟩
   .have U3:Hid (decide _=false):=D' h3;have HB:Hid (false=decide (InC c s n v)):=(D' (λG=>h3 ((λg=>g.1.2) (HI.out.1 G)))).symm;clear h1 h2 h3 HI;go_quiet ((go_at_call 32;exact Calls.quiet_of_same (Iw (by assumption) _)))
    go_wp2
    go_ret;exact⟨Ae HB.out,Ao bb nq⟩
  .have U2:Hid (decide _=false):=D' h2;have HB:Hid (false=decide (InC c s n v)):=(D' (λG=>h2 ((λg=>g.1.1.2) (HI.out.1 G)))).symm;clear h1 h2 HI;go_quiet ((go_at_call 32;exact Calls.quiet_of_same (Iw (by assumption) _)))
   go_wp2
   go_ret;exact⟨Ae HB.out,Ao bb nq⟩
 .have U1:Hid (decide _=false):=D' h1;have HB:Hid (false=decide (InC c s n v)):=(D' (λG=>h1 ((λg=>g.1.1.1) (HI.out.1 G)))).symm;clear h1 HI;go_quiet ((go_at_call 32;exact Calls.quiet_of_same (Iw (by assumption) _)))
  go_wp2
  go_ret;exact⟨Ae HB.out,Ao bb nq⟩
theorem aW{a b:Int}(h:a=b):Ending.returned (.int .u32 a)=.returned (.int .u32 b):=by rw[h]
theorem fD(n:Nat)(h0:1<=n)(h1:n<=31):bits .and .u64 (IntKind.u64.wrap (-(n:Int))) 31=32-(n:Int):=by
 have e:IntKind.u64.wrap (-(n:Int))=((18446744073709551616-n:Nat):Int):=by rw[IntKind.wrap_u64];omega
 rw[e,show(31:Int)=((31:Nat):Int)from rfl,u64_and_nat _ _ (by omega) (by omega),nat_mask5];omega
theorem Yg(x:BitVec 32)(n:Nat)(w:World)(h0:1<=n)(h1:n<=31) :
  Calls prog 168 #[.int .u32 (uw x),.int .i64 (-(n:Int))] w λe w'=>e=.returned (.int .u32 (uw (x.rotateRight n)))/\w'=w:=by
 have a1:=Dx x;have a2:=YH x;have a3:=fD n h0 h1;go_enter func168,ntmps168
 go_wp2
 go_ret;exact⟨aW (fe x n h0 h1),rfl⟩
theorem Va(x:BitVec 32)(n:Nat)(w:World)(h0:1<=n)(h1:n<=31) :
  Calls prog 138 #[.int .u32 (uw x),.int .i64 (n:Int)] w λe w'=>e=.returned (.int .u32 (uw (x.rotateRight n)))/\w'=w:=by
 go_enter func138,ntmps138
 go_wp2_with fail
 refine(Yg x n w h0 h1).mono ?_;rintro e w1 ⟨rfl,rfl⟩;go_wp2
 go_ret;exact⟨rfl,rfl⟩
theorem Lx(x:BitVec 32)(k:Int)(w:World)(h0:1<=k)(h1:k<=31) :
  Calls prog 138 #[.int .u32 (uw x),.int .i64 k] w λe w'=>e=.returned (.int .u32 (uw (x.rotateRight k.toNat)))/\w'=w:=by
 obtain⟨n,rfl⟩:∃ n:Nat,k=n:=⟨k.toNat,by omega⟩;exact Va x n w (by omega) (by omega)
theorem L2(x:BitVec 32)(h:uw x<256):uw x*16777216=uw (x <<< 24)/\uw x*65536=uw (x <<< 16)/\uw x*256=uw (x <<< 8):=by
 have h0:=Dx x;have e24:=FU x 24;have e16:=FU x 16;have e8:=FU x 8;rw[<- e24,<- e16,<- e8];refine⟨?_,?_,?_⟩
 .rw[show(2:Int)^24=16777216 from rfl];omega
 .rw[show(2:Int)^16=65536 from rfl];omega
 .rw[show(2:Int)^8=256 from rfl];omega
theorem BC{B:Nat}{a:World}(h:Below B a w)(hg:B<=g)(cs:Array Value):Below B a (w.setRow g cs) :=
 h.trans ⟨rfl,rfl,rfl,by simp,λk hk=>setRow_other w g k cs (by omega)⟩
theorem Vg(x:BitVec 32):bits .xor .u32 (bits .xor .u32 (uw (x.rotateRight 7)) (uw (x.rotateRight 18))) (uw x/8)=uw (eK x):=by rw[bS,Dg,Dg];rfl
theorem Vh(x:BitVec 32):bits .xor .u32 (bits .xor .u32 (uw (x.rotateRight 17)) (uw (x.rotateRight 19))) (uw x/1024)=uw (eL x):=by rw[YJ,Dg,Dg];rfl
theorem MC(h:w.heap[g]?=some (.cells (Av ws) 179 (0,0)))(k:Nat)(x:BitVec 32) :
  (w.setCell ⟨g,k,none⟩ (.int .u32 (uw x))).heap[g]?=some (.cells (Av (ws.set k x)) 179 (0,0)):=by
 rw[heap_setCell_same _ _ _ _ _ _ h,LT]
theorem O0(v:Value)(l:List Int)(w:World)(h:Sl w v l)(hl:l.length=64) :
  Calls prog 100 #[v] w λe w'=>e=.returned (.agg (Av (Ns l)))/\Bw w w':=by
 obtain⟨⟨a,cap,rfl,hc,hn,h1⟩,hla,hba⟩:=h;rcases h1 with rfl|⟨b,off,rfl,hb,hcell⟩
 .simp at hl
 rw[hl]at hc hla hcell ⊢
 have HL:Hid (l.length=64):=hl;have HC:Hid (∀ i,i<64->w.cell? ⟨b,off+i,none⟩=some (.int .u8 (uw (Cn (l.getD i 0))))):=λi hi=>by rw[Kj _ (Al hba i)];exact hcell i hi
 have HB:Hid (∀ i,uw (Cn (l.getD i 0))<256):=λi=>by rw[Kj _ (Al hba i)];exact(Al hba i).2
 clear hl hn hcell hba;go_enter func100,ntmps100
 go_wp2_with fail
 go_loopw [10] (λi wr=>∃ k:Nat,k<=16/\i=.int .i64 k/\wr.heap[w.heap.size+1]?=some (.cells (Av (JP l k)) 179 (0,0))/\wr.heap[w.heap.size]?=some (.cells (Av (JP l 0)) 179 (0,0))/\Bw w wr) (λi _=>16-(intOf i).toNat)
 case atStart=>exact⟨0,by omega,rfl,heap_alloc2_new _ _ _,heap_alloc2_old _ _ _,((Below.refl _ _).alloc (A' _) _).alloc (by simp) _⟩
 case round =>
  obtain⟨k,hk,rfl,hW,hR,hbel⟩:=hrel;by_cases hk16:k<16
  .have hz:=BE (JP l k) k (by rw[FN];omega);have hcw:wr.cell? ⟨w.heap.size+1,k,none⟩=some (.int .u32 (uw ((JP l k).getD k 0#32))):=(cell_of_row wr _ k _ _ _ hW).trans hz;have hfw:wr.frozen? ⟨w.heap.size+1,k,none⟩=false:=frozen_of_row wr _ k _ _ hW;have c0:=(hbel.cell (p:=⟨b,off+(4*k),none⟩) hb).trans (HC.out (4*k) (by omega));have c1:=(hbel.cell (p:=⟨b,off+(4*k+1),none⟩) hb).trans (HC.out (4*k+1) (by omega));have c2:=(hbel.cell (p:=⟨b,off+(4*k+2),none⟩) hb).trans (HC.out (4*k+2) (by omega));have c3:=(hbel.cell (p:=⟨b,off+(4*k+3),none⟩) hb).trans (HC.out (4*k+3) (by omega));have l0:=HB.out (4*k);have l1:=HB.out (4*k+1);have l2:=HB.out (4*k+2);have l3:=HB.out (4*k+3);obtain⟨wd,HW,HV⟩:∃ wd,Hid (wd=S8 l k)/\Hid (JP l (k+1)=(JP l k).set k wd):=⟨_,rfl,rfl⟩;unfold S8 at HW;generalize Cn (l.getD (4*k) 0)=x0 at c0 l0 HW;generalize Cn (l.getD (4*k+1) 0)=x1 at c1 l1 HW;generalize Cn (l.getD (4*k+2) 0)=x2 at c2 l2 HW;generalize Cn (l.getD (4*k+3) 0)=x3 at c3 l3 HW;obtain⟨y0,s0,e0⟩:∃ y,uw x0*16777216=uw y/\x0 <<< 24=y:=⟨_,(L2 x0 l0).1,rfl⟩;obtain⟨y1,s1,e1⟩:∃ y,uw x1*65536=uw y/\x1 <<< 16=y:=⟨_,(L2 x1 l1).2.1,rfl⟩;obtain⟨y2,s2,e2⟩:∃ y,uw x2*256=uw y/\x2 <<< 8=y:=⟨_,(L2 x2 l2).2.2,rfl⟩;rw[e0,e1,e2]at HW
   clear e0 e1 e2;have z0:=Dx x0;have z1:=Dx x1;have z2:=Dx x2;have z3:=Dx x3;clear hz;go_wp2_with fail
   refine Ar 35 (by kernel_rfl) (by kernel_rfl) ?_;simp only[jQ,jY,jV,kh]
   repeat (go_big_quiet_step (fail))
   refine wpQuiet_nil ?_;go_wp2
   rw[J9,J9,J9,<- HW.out];go_roundw
   case rel=>exact⟨k+1,by omega,by go_num,by rw[HV.out];exact MC hW k wd,(heap_setCell_other _ _ _ _ (by simp)).trans hR,(hbel.setCell (by simp) _).drew⟩
   case measure=>simp[intOf];omega
  .have HK:Hid (k=16):=by unfold Hid;omega
   clear HC HB;go_wp2_with fail
   go_loopw [5] (λi wr=>∃ k:Nat,k<=48/\i=.int .i64 (16+(k:Int))/\wr.heap[w.heap.size+1]?=some (.cells (Av (Fw l k)) 179 (0,0))/\wr.heap[w.heap.size]?=some (.cells (Av (JP l 0)) 179 (0,0))/\Bw w wr) (λi _=>64-(intOf i).toNat)
   case atStart=>exact⟨0,by omega,rfl,by rw[HK.out]at hW;exact hW,hR,hbel⟩
   case round =>
    clear hW hR hbel HK;obtain⟨k,hk,rfl,hW,hR,hbel⟩:=hrel;by_cases hk48:k<48
    .have hcell:∀ i,i<64->wr.cell? ⟨w.heap.size+1,i,none⟩=some (.int .u32 (uw ((Fw l k).getD i 0#32))):=λi hi=>(cell_of_row wr _ i _ _ _ hW).trans (BE (Fw l k) i (by rw[Eb];exact hi));have c16:=hcell k (by omega);have c15:=hcell (16+k-15) (by omega);have c7:=hcell (16+k-7) (by omega);have c2:=hcell (16+k-2) (by omega);have c0:=hcell (16+k) (by omega);have hfw:wr.frozen? ⟨w.heap.size+1,16+k,none⟩=false:=frozen_of_row wr _ (16+k) _ _ hW;have HV:Hid (Fw l (k+1)=(Fw l k).set (16+k) (X8 (Fw l k) (16+k))):=rfl;unfold X8 at HV;have e16:16+k-16=k:=by omega
     rw[e16]at HV
     generalize (Fw l k).getD k 0#32=x16 at c16 HV;generalize (Fw l k).getD (16+k-15) 0#32=x15 at c15 HV;generalize (Fw l k).getD (16+k-7) 0#32=x7 at c7 HV;generalize (Fw l k).getD (16+k-2) 0#32=x2 at c2 HV;clear hcell e16;have n15:=Dx x15;have n2:=Dx x2;go_wp2_with fail
     go_quiet (fail)
     go_wp2_with (go_at_call 138;refine(Lx _ _ _ (by omega) (by omega)).mono ?_;rintro e w' ⟨rfl,rfl⟩)
     rw[Vg,Vh];generalize eK x15=t0 at HV;generalize eL x2=t1 at HV;refine Ar 15 (by kernel_rfl) (by kernel_rfl) ?_;simp only[jQ,jY,jV,kh]
     repeat (go_big_quiet_step (fail))
     refine wpQuiet_nil ?_;go_wp2
     go_roundw
     case rel =>
      rw[T4];exact⟨k+1,by omega,by go_num,by rw[HV.out];exact MC (w:=wr.drewN (nq+1)) hW (16+k) _,(heap_setCell_other _ _ _ _ (by simp)).trans hR,(Ao hbel _).setCell (by simp) _⟩
     case measure=>simp[intOf];omega
    .have HK:Hid (k=48):=by unfold Hid;omega
     have hsz:(prog.info? 179).map (·.size)=some (Av (Fw l k)).size:=by rw[AZ,Eb];kernel_rfl
     have hone:(Av (Fw l k)).all (·.oneCell')=true:=by simp[Av,Value.oneCell']
     go_wp2_with (first|(refine wpList_load_row rfl 179 _ rfl (w.heap.size+1) rfl 179 _ (0,0) _ hW underlying179 rfl hsz ?_)|(refine wpList_store_row rfl 179 _ _ rfl w.heap.size _ rfl rfl 179 _ hR hsz (by rw[AZ,AZ,FN,Eb]) hone ?_))
     refine bodyPost_ret (v:=.agg (Av (Fw l k))) (results_cell_row rfl _ _ w.heap.size 179 _ (0,0) _ rfl (setRow_heap wr w.heap.size _ _ 179 _ hR) underlying179 rfl hsz) rfl ⟨by rw[HK.out];rfl,BC hbel (A' _) _⟩
def AE(w:World):Prop:=3<w.heap.size/\∀ i,i<64->w.cell? ⟨3,i,none⟩=some (.int .u32 (uw (kAt i)))
theorem AE.below(h:AE w)(hb:Bw w w'):AE w' :=
 ⟨Z' h.1 hb.size,λi hi=>(hb.cell (p:=⟨3,i,none⟩) h.1).trans (h.2 i hi)⟩
theorem bQ(x:BitVec 32):bits .xor .u32 IntKind.u32.max (uw x)=uw (~~~x):=by
 have e:IntKind.u32.max=uw (BitVec.allOnes 32):=rfl;rw[e,Dg,S4,BitVec.allOnes_xor]
theorem OU(e f g:BitVec 32):bits .xor .u32 (bits .and .u32 (uw e) (uw f)) (bits .and .u32 (bits .xor .u32 IntKind.u32.max (uw e)) (uw g))=uw (QM e f g):=by
 rw[bQ,LQ,LQ,Dg];rfl
theorem UE(a b c:BitVec 32):bits .xor .u32 (bits .xor .u32 (bits .and .u32 (uw a) (uw b)) (bits .and .u32 (uw a) (uw c))) (bits .and .u32 (uw b) (uw c))=uw (eb a b c):=by
 rw[LQ,LQ,LQ,Dg,Dg];rfl
theorem TS(x:BitVec 32):bits .xor .u32 (bits .xor .u32 (uw (x.rotateRight 6)) (uw (x.rotateRight 11))) (uw (x.rotateRight 25))=uw (fG x):=by
 rw[Dg,Dg];rfl
theorem TP(x:BitVec 32):bits .xor .u32 (bits .xor .u32 (uw (x.rotateRight 2)) (uw (x.rotateRight 13))) (uw (x.rotateRight 22))=uw (fF x):=by
 rw[Dg,Dg];rfl
theorem bP(s:St)(k w:BitVec 32):((uw s.h+bits .xor .u32 (bits .xor .u32 (uw (s.e.rotateRight 6)) (uw (s.e.rotateRight 11))) (uw (s.e.rotateRight 25))+uw (QM s.e s.f s.g)+uw k)%(4294967296:Int)+uw w)%(4294967296:Int)=uw (upS s k w):=by
 rw[TS,T4,CT];rfl
theorem Ue(s:St):(bits .xor .u32 (bits .xor .u32 (uw (s.a.rotateRight 2)) (uw (s.a.rotateRight 13))) (uw (s.a.rotateRight 22))+uw (eb s.a s.b s.c))%(4294967296:Int)=uw (cD s):=by
 rw[TP,CT];rfl
theorem WW(s:St)(j:Nat)(hj:j<8):∀ w,(Instr.index 177 (.agg #[.int .u32 (uw s.a),.int .u32 (uw s.b),.int .u32 (uw s.c),.int .u32 (uw s.d),.int .u32 (uw s.e),.int .u32 (uw s.f),.int .u32 (uw s.g),.int .u32 (uw s.h)]) (.int .i64 (j:Int))).run prog w=.ok (.int .u32 (uw (s.list.getD j 0#32))) w:=by
 intro w;obtain rfl|rfl|rfl|rfl|rfl|rfl|rfl|rfl:j=0\/j=1\/j=2\/j=3\/j=4\/j=5\/j=6\/j=7:=by omega
 all_goals kernel_rfl
theorem OI(h:w.heap[g]?=some (.cells (Av ws) 177 (0,0)))(k:Nat)(x:BitVec 32) :
  (w.setCell ⟨g,k,none⟩ (.int .u32 (uw x))).heap[g]?=some (.cells (Av (ws.set k x)) 177 (0,0)):=by
 rw[heap_setCell_same _ _ _ _ _ _ h,LT]
theorem gT(w:World)(o1 o2 o3:Obj){W:World}(h:((w.alloc o1).alloc o2).alloc o3=W) :
  W.heap[w.heap.size]?=some o1/\W.heap[w.heap.size+1]?=some o2/\W.heap[w.heap.size+1+1]?=some o3/\Bw w W:=by
 subst h;refine⟨?_,?_,?_,(((Below.refl _ _).alloc (A' _) _).alloc (by simp) _).alloc (by simp;omega) _⟩
 .rw[heap_alloc_old _ _ (by simp;omega)];exact heap_alloc2_old w o1 o2
 .rw[heap_alloc_old _ _ (by simp)];exact heap_alloc2_new w o1 o2
 .have:=heap_alloc_new ((w.alloc o1).alloc o2) o3;simpa using this
theorem UC(s:St)(ws:List (BitVec 32))(w:World)(hws:ws.length=64)(ht:AE w) :
  Calls prog 99 #[.agg s.cells,.agg (Av ws)] w λe w'=>e=.returned (.agg (X1 s ws).cells)/\Bw w w':=by
 obtain⟨a,b,c,d,e,f,g,h⟩:=s;unfold St.cells;go_enter func99,ntmps99
 go_wp2_with fail
 generalize hW0:((w.alloc _).alloc _).alloc _=W0;obtain⟨hA,hB,hC,hbel⟩:=gT w _ _ _ hW0;clear hW0;have htab:=ht.below hbel;have c0:=cell_of_row W0 _ 0 _ _ _ hA;have c1:=cell_of_row W0 _ 1 _ _ _ hA;have c2:=cell_of_row W0 _ 2 _ _ _ hA;have c3:=cell_of_row W0 _ 3 _ _ _ hA;have c4:=cell_of_row W0 _ 4 _ _ _ hA;have c5:=cell_of_row W0 _ 5 _ _ _ hA;have c6:=cell_of_row W0 _ 6 _ _ _ hA;have c7:=cell_of_row W0 _ 7 _ _ _ hA;simp only[jF,jT,lz]at c0 c1 c2 c3 c4 c5 c6 c7;have HA:Hid _:=hA;have HB:Hid _:=hB;have HC:Hid _:=hC;clear hA hB hC;go_quiet (fail)
 go_wp2_with fail
 go_quiet (fail)
 go_wp2_with fail
 clear c0 c1 c2 c3 c4 c5 c6 c7
 go_loopw [5,6,7,8,9,10,11,12,36] (λa' b' c' d' e' f' g' h' i wr=>∃ k n:Nat,k<=64/\i=.int .i64 k/\wr=W0.drewN n/\a'=.int .u32 (uw (B2 ws ⟨a,b,c,d,e,f,g,h⟩ k).a)/\b'=.int .u32 (uw (B2 ws ⟨a,b,c,d,e,f,g,h⟩ k).b)/\c'=.int .u32 (uw (B2 ws ⟨a,b,c,d,e,f,g,h⟩ k).c)/\d'=.int .u32 (uw (B2 ws ⟨a,b,c,d,e,f,g,h⟩ k).d)/\e'=.int .u32 (uw (B2 ws ⟨a,b,c,d,e,f,g,h⟩ k).e)/\f'=.int .u32 (uw (B2 ws ⟨a,b,c,d,e,f,g,h⟩ k).f)/\g'=.int .u32 (uw (B2 ws ⟨a,b,c,d,e,f,g,h⟩ k).g)/\h'=.int .u32 (uw (B2 ws ⟨a,b,c,d,e,f,g,h⟩ k).h)) (λ_ _ _ _ _ _ _ _ i _=>64-(intOf i).toNat)
 case atStart=>exact⟨0,_,by omega,rfl,World.drewN_drewN _ _ _,rfl,rfl,rfl,rfl,rfl,rfl,rfl,rfl⟩
 case round =>
  obtain⟨k,n,hk,rfl,hwr,rfl,rfl,rfl,rfl,rfl,rfl,rfl,rfl⟩:=hrel;have HWR:Hid (wr=W0.drewN n):=hwr;by_cases hlt:k<64
  .have ck:wr.cell? ⟨3,k,none⟩=some (.int .u32 (uw (kAt k))):=by rw[hwr];exact htab.2 k hlt
   have cw:wr.cell? ⟨w.heap.size+1,k,none⟩=some (.int .u32 (uw (ws.getD k 0#32))):=by rw[hwr];exact(cell_of_row W0 _ k _ _ _ HB.out).trans (BE ws k (by omega))
   clear hwr;have HS:Hid (B2 ws ⟨a,b,c,d,e,f,g,h⟩ (k+1)=Yx (B2 ws ⟨a,b,c,d,e,f,g,h⟩ k) (kAt k) (ws.getD k 0#32)):=rfl;generalize B2 ws ⟨a,b,c,d,e,f,g,h⟩ k=S at HS;generalize kAt k=kk at ck HS;generalize ws.getD k 0#32=ww at cw HS;clear htab;unfold Yx at HS;go_wp2_with fail
   rw[OU,UE];go_quiet ((go_at_call 138;exact Calls.quiet_of_same (Lx _ _ _ (by omega) (by omega))))
   rw[bP];generalize upS S kk ww=up at HS ⊢;clear ck cw;go_wp2_with (go_at_call 138;refine(Lx _ _ _ (by omega) (by omega)).mono ?_;rintro e w' ⟨rfl,rfl⟩)
   go_roundw
   case rel =>
    rw[Ue,CT,CT];exact⟨k+1,n+nq,by omega,by go_num,by rw[HWR.out,World.drewN_drewN],by rw[HS.out],by rw[HS.out],by rw[HS.out],by rw[HS.out],by rw[HS.out],by rw[HS.out],by rw[HS.out],by rw[HS.out]⟩
   case measure=>simp[intOf];omega
  .have HK:Hid (k=64):=by unfold Hid;omega
   have hA2:wr.heap[w.heap.size]?=some (.cells (Av (DB ⟨a,b,c,d,e,f,g,h⟩ (B2 ws ⟨a,b,c,d,e,f,g,h⟩ k) 0)) 177 (0,0)):=by rw[hwr];exact HA.out
   have hC2:wr.heap[w.heap.size+1+1]?=some (.cells (Av [0#32,0#32,0#32,0#32,0#32,0#32,0#32,0#32]) 177 (0,0)):=by rw[hwr];exact HC.out
   have hbel2:Bw w wr:=by rw[hwr];exact Ao hbel n
   clear hwr HA HB HC htab hbel HWR;have HM:Hid (k=64->(X1 ⟨a,b,c,d,e,f,g,h⟩ ws).cells=Av (DB ⟨a,b,c,d,e,f,g,h⟩ (B2 ws ⟨a,b,c,d,e,f,g,h⟩ k) 8)):=by rintro rfl;rfl
   generalize B2 ws ⟨a,b,c,d,e,f,g,h⟩ k=S at HM hA2 ⊢;generalize hs0:St.mk a b c d e f g h=s0 at HM hA2;have HS0:Hid (St.mk a b c d e f g h=s0):=hs0;clear hs0;go_wp2_with fail
   go_loopw [110] (λi wr=>∃ j:Nat,j<=8/\i=.int .i64 j/\wr.heap[w.heap.size]?=some (.cells (Av (DB s0 S j)) 177 (0,0))/\wr.heap[w.heap.size+1+1]?=some (.cells (Av [0#32,0#32,0#32,0#32,0#32,0#32,0#32,0#32]) 177 (0,0))/\Bw w wr) (λi _=>8-(intOf i).toNat)
   case atStart=>exact⟨0,by omega,rfl,hA2,hC2,hbel2⟩
   case round =>
    clear hA2 hC2 hbel2;obtain⟨j,hj,rfl,hA,hC,hbel⟩:=hrel;by_cases hlt:j<8
    .have cj:=(cell_of_row wr _ j _ _ _ hA).trans (BE (DB s0 S j) j (by rw[EH];omega));have fj:=frozen_of_row wr _ j _ _ hA;have hix:=WW S j hlt;have HV:Hid (DB s0 S (j+1)=(DB s0 S j).set j ((DB s0 S j).getD j 0#32+S.list.getD j 0#32)):=rfl;generalize (DB s0 S j).getD j 0#32=x at cj HV;generalize S.list.getD j 0#32=y at hix HV;go_wp2
     go_roundw
     case rel =>
      rw[CT];exact⟨j+1,by omega,by go_num,by rw[HV.out];exact OI hA j _,(heap_setCell_other _ _ _ _ (by simp;omega)).trans hC,hbel.setCell (A' _) _⟩
     case measure=>simp[intOf];omega
    .have HJ:Hid (j=8):=by unfold Hid;omega
     have hsz:(prog.info? 177).map (·.size)=some (Av (DB s0 S j)).size:=by rw[AZ,EH];kernel_rfl
     have hone:(Av (DB s0 S j)).all (·.oneCell')=true:=by simp[Av,Value.oneCell']
     go_wp2_with (first|(refine wpList_load_row rfl 177 _ rfl w.heap.size rfl 177 _ (0,0) _ hA underlying177 rfl hsz ?_)|(refine wpList_store_row rfl 177 _ _ rfl (w.heap.size+1+1) _ rfl rfl 177 _ hC hsz (by rw[AZ,AZ,EH];rfl) hone ?_))
     refine bodyPost_ret (v:=.agg (Av (DB s0 S j))) (results_cell_row rfl _ _ (w.heap.size+1+1) 177 _ (0,0) _ rfl (setRow_heap wr _ _ _ 177 _ hC) underlying177 rfl hsz) rfl ⟨?_,BC hbel (by omega) _⟩;rw[HJ.out,<- HM.out HK.out,<- HS0.out];rfl
end
end
section
open Go.ChangeShapes Go.WideShapes Go.ChangeAt Go.RowKit
section
theorem fU : prog.globalNamed "conclave/sha.roundWords" = some 3 := by kernel_rfl
theorem WJ:(prog.globals[3]?).map (·.type)=some 179:=by kernel_rfl
theorem Zl:prog.cellsOf 179=64:=by kernel_rfl
theorem Zk:prog.cellsOf 176=1:=by kernel_rfl
theorem U0(i:Nat)(hi:i<64):R1.getD i 0=uw (kAt i):=by
 have all:∀ j:Fin 64,R1.getD j.val 0=uw (kAt j.val):=by decide +kernel
 exact all ⟨i,hi⟩
theorem cE : prog.globalNamed "conclave/order.needs" = some 0 := by kernel_rfl
theorem Um:(prog.globals[0]?).map (·.type)=some 86:=by kernel_rfl
theorem dw:prog.cellsOf 86=12:=by kernel_rfl
theorem VV:prog.cellsOf 85=3:=by kernel_rfl
theorem du:prog.cellsOf 3=1:=by kernel_rfl
variable{W:World}{cs:Array Value}{fuel:Nat}{p:List MemPlace}
theorem Gi{H:Type}{enc:TypeId × Value->H}{base:Nat}{sp:Nat->Bool}{held:Bool}{cs:List Value}{a b c:Int}(h:DataW.trod enc prog W base sp held fuel 85 cs=some (.agg [.lit (.int .i64 a),.lit (.int .i64 b),.lit (.int .i64 c)],p)) :
  cs=[.int .i64 a,.int .i64 b,.int .i64 c]:=by
 obtain⟨y0,y1,y2,n,hx,hl,h0,h1,h2⟩:=Go.Deep.trod_struct3 underlying85 h;rw[VV]at hl
 simp only[du]at h0 h1 h2
 match cs,hl with
 | [c0,c1,c2],_ =>
  obtain⟨a0,e0,x0,_⟩:=DataW.trod_int underlying3 h0;obtain⟨a1,e1,x1,_⟩:=DataW.trod_int underlying3 h1;obtain⟨a2,e2,x2,_⟩:=DataW.trod_int underlying3 h2;subst x0 x1 x2;simp at e0 e1 e2;subst e0 e1 e2;simp at hx;obtain⟨⟨rfl,rfl,rfl⟩,_⟩:=hx;rfl
theorem WI : prog.globalNamed "conclave/cha.quarters" = some 4 := by kernel_rfl
theorem Rn:(prog.globals[4]?).map (·.type)=some 251:=by kernel_rfl
theorem dz:prog.cellsOf 3=1:=by kernel_rfl
theorem SH:prog.cellsOf 250=4:=by kernel_rfl
theorem VU:prog.cellsOf 251=32:=by kernel_rfl
def Jy:List (List Int):=[[0,4,8,12],[1,5,9,13],[2,6,10,14],[3,7,11,15],[0,5,10,15],[1,6,11,12],[2,7,8,13],[3,4,9,14]]
theorem dX{cs:List Value}(hl:cs.length=32)(rows:List (List Value))(hr:rows.length=8)(h:∀ i,i<8->(cs.drop (i*4)).take 4=rows.getD i []):cs=rows.flatten:=by
 have e0:=h 0 (by omega);have e1:=h 1 (by omega);have e2:=h 2 (by omega);have e3:=h 3 (by omega);have e4:=h 4 (by omega);have e5:=h 5 (by omega);have e6:=h 6 (by omega);have e7:=h 7 (by omega)
 match rows,hr with
 | [r0,r1,r2,r3,r4,r5,r6,r7],_ =>
  simp only[je,jq]at e0 e1 e2 e3 e4 e5 e6 e7;subst e0 e1 e2 e3 e4 e5 e6 e7;apply List.ext_getElem?;intro i
  match cs,hl with
  | [a0,a1,a2,a3,a4,a5,a6,a7,a8,a9,a10,a11,a12,a13,a14,a15,a16,a17,a18,a19,a20,a21,a22,a23,a24,a25,a26,a27,a28,a29,a30,a31],_=>rfl
theorem XW(hvar : World.var? prog W "conclave/cha.quarters" = some cs)(hd:DataW.trod (fun _=>()) prog W 0 (fun _=>true) false fuel 251 cs.toList=some (Rows.laid_conclave_cha_quarters,p)):CB W:=by
 obtain⟨xs,m,_,hx,hlen,hxl,hel⟩:=DataW.trod_array underlying251 hd;rw[VU]at hlen
 rw[SH]at hel
 have hx1:xs.map (·.1)=Jy.map (λzs=>Lib.tabData .i64 zs):=by
  have:=congrArg Prod.fst hx;simp only[Rows.laid_conclave_cha_quarters,DataW.agg.injEq]at this;rw[<- this];rfl
 have hrow:∀ i,i<8->(cs.toList.drop (i*4)).take 4=(Jy.map (λzs=>zs.map λz=>Value.int .i64 z)).getD i []:=by
  intro i hi;have h1:=hel i hi;have h2:xs[i]?=some (xs[i]'(by omega)):=E' (by omega);rw[h2]at h1
  have h3:(xs[i]'(by omega)).1=Lib.tabData .i64 (Jy.getD i []):=by
   have e1:(xs.map (·.1))[i]?=some (xs[i]'(by omega)).1:=by rw[jh,h2];rfl
   rw[hx1,jh,E' (show i<Jy.length from hi)]at e1
   simp only[jC,X']at e1;rw[<- e1,List.getD,E' (show i<Jy.length from hi)];rfl
  have h4:xs[i]'(by omega)=(Lib.tabData .i64 (Jy.getD i []),(xs[i]'(by omega)).2):=by rw[<- h3]
  rw[h4]at h1
  have h5:=Lib.cells_of_tab underlying250 underlying3 dz SH h1;rw[h5,List.getD,List.getD,jh,E' (show i<Jy.length from hi)];rfl
 have hcs:cs.toList=(Jy.map (λzs=>zs.map λz=>Value.int .i64 z)).flatten:=dX hlen _ rfl hrow;have hqa:cs=UW:=by
  apply ky;rw[hcs];rfl
 subst hqa;unfold World.var? at hvar;rw[WI]at hvar
 simp only[Option.bind_some]at hvar;split at hvar
 .rename_i c t fr hh
  simp only[X']at hvar;subst hvar;exact⟨t,fr,hh⟩
 .cases hvar
theorem az(hvar : World.var? prog W "conclave/order.needs" = some cs)(hd:DataW.trod (fun _=>()) prog W 0 (fun _=>true) false fuel 86 cs.toList=some (Rows.laid_conclave_order_needs,p)):NTab W:=by
 obtain⟨xs,m,_,hx,hl,hxl,hb⟩:=DataW.trod_array underlying86 hd;rw[dw]at hl
 rw[VV]at hb
 have hT:cs.toList=Nh.map (Value.int .i64):=by
  match xs,hxl with
  | [x0,x1,x2,x3],_ =>
   simp only[Rows.laid_conclave_order_needs,ji,jX,jE,DataW.agg.injEq,kL,and_true]at hx;obtain⟨⟨h0,h1,h2,h3⟩,_⟩:=hx;have r0:=Gi (p:=x0.2) ((hb 0 (by omega)).trans (by rw[h0];rfl));have r1:=Gi (p:=x1.2) ((hb 1 (by omega)).trans (by rw[h1];rfl));have r2:=Gi (p:=x2.2) ((hb 2 (by omega)).trans (by rw[h2];rfl));have r3:=Gi (p:=x3.2) ((hb 3 (by omega)).trans (by rw[h3];rfl));generalize cs.toList=l at hl r0 r1 r2 r3
   match l,hl with
   | [_,_,_,_,_,_,_,_,_,_,_,_],_ =>
    simp at r0 r1 r2 r3;simp[Nh,r0,r1,r2,r3]
 have hT':cs=(Nh.map (Value.int .i64)).toArray:=ky (by simpa using hT);subst hT';obtain⟨t,fr,hr⟩:=Kk cE hvar;refine⟨(H'.1 hr).1,λi hi=>?_⟩;refine cell_of_row _ _ i _ _ _ hr |>.trans ?_;simp[List.getD,List.getElem?_map,List.getElem?_eq_getElem (show i<Nh.length from hi)]
theorem fX:(Rows.laid_conclave_sha_roundWords:DataW Unit)=Lib.tabData .u32 R1:=by kernel_rfl
theorem Yi(hvar : World.var? prog W "conclave/sha.roundWords" = some cs)(hd:DataW.trod (fun _=>()) prog W 0 (fun _=>true) false fuel 179 cs.toList=some (Rows.laid_conclave_sha_roundWords,p)):AE W:=by
 obtain⟨t,fr,hr⟩:=Kk fU hvar;rw[fX]at hd
 have hc:=Lib.cells_of_tab underlying179 underlying176 Zk Zl hd;refine⟨(H'.1 hr).1,λi hi=>?_⟩;rw[cell_of_row _ _ i _ _ _ hr,<- U0 i hi];have h2:cs[i]?=cs.toList[i]?:=by simp
 rw[h2,hc,jh,E' (show i<R1.length from hi),List.getD,E' (show i<R1.length from hi)];rfl
def Xm(cs:Array Value):Obj->Obj
 | .cells _ t frozen=>.cells cs t frozen
 | o=>o
end
end
end Go.Proofs.YtalbmmghmoggcadGreatDoor
