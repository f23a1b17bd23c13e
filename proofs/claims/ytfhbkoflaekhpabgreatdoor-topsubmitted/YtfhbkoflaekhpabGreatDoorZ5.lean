/- Part 5 of the walk. -/
import Derived.Test.YtfhbkoflaekhpabGreatDoorZ3
import Derived.Test.YtfhbkoflaekhpabGreatDoorZ4
set_option maxRecDepth 100000
set_option maxHeartbeats 4000000
open Go.Proofs.Tryz
set_option linter.unusedVariables false
namespace Go.Proofs.YtfhbkoflaekhpabGreatDoor
section
open Go.RowKit
def cmA(k c s n v:Int):Array Value:=#[.int .i64 k,.int .i64 c,.int .i64 s,.int .i64 n,.int .i64 v]
def tkA(c r u:Int):Array Value:=#[.int .i64 c,.int .i64 r,.int .i64 u]
def InC(c s n v:Int):Prop:=0≤c∧c≤7∧0≤s∧s≤1048576∧0≤n∧n≤7∧0≤v∧v≤1073741824
instance (c s n v:Int):Decidable (InC c s n v):=by unfold InC;exact inferInstance
def AY(k c s n v:Int):Int :=
 if ¬ (0≤k∧k≤3)then 4
 else if k=0 then(if c=0∧s=0∧n=0∧v=0 then 0 else 3)
 else if ¬ InC c s n v then 2
 else if 1<k∧v≠0 then 3
 else 0
theorem Tp{k c s n v:Int}(h:¬ (0≤k∧k≤3)):AY k c s n v=4:=if_pos h
theorem Tq{c s n v:Int}(h:c=0∧s=0∧n=0∧v=0):AY 0 c s n v=0:=by
 unfold AY;rw[if_neg (by omega),if_pos rfl,if_pos h]
theorem Qi{c s n v:Int}(h:¬ (c=0∧s=0∧n=0∧v=0)):AY 0 c s n v=3:=by
 unfold AY;rw[if_neg (by omega),if_pos rfl,if_neg h]
theorem Qj{k c s n v:Int}(h:1≤k∧k≤3)(hi:¬ InC c s n v):AY k c s n v=2:=by
 unfold AY;rw[if_neg (by omega),if_neg (by omega),if_pos hi]
theorem To{k c s n v:Int}(h:2≤k∧k≤3)(hi:InC c s n v)(hv:v≠0):AY k c s n v=3:=by
 unfold AY;rw[if_neg (by omega),if_neg (by omega),if_neg (fun g=>g hi),if_pos ⟨by omega,hv⟩]
theorem RX{k c s n v:Int}(h:1≤k∧k≤3)(hi:InC c s n v)(hv:k=1∨v=0):AY k c s n v=0:=by
 unfold AY;rw[if_neg (by omega),if_neg (by omega),if_neg (fun g=>g hi),if_neg (by omega)]
theorem Es{k c s n v:Int}(h:AY k c s n v=0):(0≤k∧k≤3)∧InC c s n v:=by
 unfold AY at h;split at h
 ·omega
 ·rename_i h1
  split at h
  ·split at h
   ·rename_i h3
    exact⟨by omega,by unfold InC;omega⟩
   ·omega
  ·split at h
   ·omega
   ·rename_i h3
    exact⟨by omega,Classical.not_not.1 h3⟩
def Dp(k c s n v:Int):List Int:=Ac k++Ac c++Ac s++Ac n++Ac v
theorem DP(k c s n v:Int):(Dp k c s n v).length=20:=rfl
theorem Mi(k c s n v:Int):∀ x∈Dp k c s n v,0≤x∧x<256:=by
 intro x hx;rcases List.mem_append.1 hx with hx|hx
 ·rcases List.mem_append.1 hx with hx|hx
  ·rcases List.mem_append.1 hx with hx|hx
   ·rcases List.mem_append.1 hx with hx|hx
    ·exact AO _ x hx
    ·exact AO _ x hx
   ·exact AO _ x hx
  ·exact AO _ x hx
 ·exact AO _ x hx
def Ab(l:List Int)(i:Nat):Int:=16777216*l.getD i 0+65536*l.getD (i+1) 0+256*l.getD (i+2) 0+l.getD (i+3) 0
theorem Bq(n:Int)(h0:0≤n)(h1:n<4294967296)(l m:List Int):Ab (l++(Ac n++m)) l.length=n:=by
 have e:∀ j,(l++(Ac n++m)).getD (l.length+j) 0=(Ac n++m).getD j 0:=by
  intro j;simp[List.getD,List.getElem?_append_right]
 unfold Ab;rw[show l.length=l.length+0 from rfl,Nat.add_assoc,Nat.add_assoc,Nat.add_assoc,e,e,e,e];show 16777216*(n/16777216%256)+65536*(n/65536%256)+256*(n/256%256)+n%256=n;omega
theorem TS(k c s n v:Int)(h0:0≤k)(h1:k<4294967296):Ab (Dp k c s n v) 0=k:=by
 have h:=Bq k h0 h1 [] (Ac c++Ac s++Ac n++Ac v);exact h
theorem TT(k c s n v:Int)(h0:0≤c)(h1:c<4294967296):Ab (Dp k c s n v) 4=c:=by
 have h:=Bq c h0 h1 (Ac k) (Ac s++Ac n++Ac v);exact h
theorem TU(k c s n v:Int)(h0:0≤s)(h1:s<4294967296):Ab (Dp k c s n v) 8=s:=by
 have h:=Bq s h0 h1 (Ac k++Ac c) (Ac n++Ac v);exact h
theorem QU(k c s n v:Int)(h0:0≤n)(h1:n<4294967296):Ab (Dp k c s n v) 12=n:=by
 have h:=Bq n h0 h1 (Ac k++Ac c++Ac s) (Ac v);exact h
theorem QV(k c s n v:Int)(h0:0≤v)(h1:v<4294967296):Ab (Dp k c s n v) 16=v:=by
 have h:=Bq v h0 h1 (Ac k++Ac c++Ac s++Ac n) [];exact h
def BW(l:List Int):Int:=if l.length≠20 then 1 else AY (Ab l 0) (Ab l 4) (Ab l 8) (Ab l 12) (Ab l 16)
def Jz(l:List Int):Array Value:=if BW l=0 then cmA (Ab l 0) (Ab l 4) (Ab l 8) (Ab l 12) (Ab l 16)else cmA 0 0 0 0 0
def CQ(c r u:Int):Prop:=(0≤c∧c≤7)∧(0≤r∧r≤7)∧0≤u∧u≤1048576
instance (c r u:Int):Decidable (CQ c r u):=by unfold CQ;exact inferInstance
def LZ(c r u:Int):Int:=if CQ c r u then 0 else 2
theorem JQ{c r u:Int}(h:CQ c r u):LZ c r u=0:=if_pos h
theorem SL{c r u:Int}(h:¬ CQ c r u):LZ c r u=2:=if_neg h
def Na(k r:Int):Prop:=(k=1∧r/2%2=1)∨(k=2∧r%2=1)∨(k=3∧r/4=1)
instance (k r:Int):Decidable (Na k r):=by unfold Na;exact inferInstance
def D2(tc tr tu k c s n v now:Int):Int :=
 if ¬ CQ tc tr tu then 2
 else if AY k c s n v≠0 then AY k c s n v
 else if ¬ (Na k tr∧c=tc)then 11
 else if ¬ (0≤now∧now≤tu)then 10
 else 0
theorem UZ{tc tr tu k c s n v now:Int}(h:¬ CQ tc tr tu):D2 tc tr tu k c s n v now=2:=if_pos h
theorem UY{tc tr tu k c s n v now:Int}(h:CQ tc tr tu)(h1:AY k c s n v≠0):D2 tc tr tu k c s n v now=AY k c s n v:=by
 unfold D2;rw[if_neg (fun g=>g h),if_pos h1]
theorem JW{tc tr tu k c s n v now:Int}(h:CQ tc tr tu)(h1:AY k c s n v=0)(h2:¬ (Na k tr∧c=tc)):D2 tc tr tu k c s n v now=11:=by
 unfold D2;rw[if_neg (fun g=>g h),if_neg (fun g=>g h1),if_pos h2]
theorem Td{tc tr tu k c s n v now:Int}(h:CQ tc tr tu)(h1:AY k c s n v=0)(h2:Na k tr∧c=tc)(h3:¬ (0≤now∧now≤tu)):D2 tc tr tu k c s n v now=10:=by
 unfold D2;rw[if_neg (fun g=>g h),if_neg (fun g=>g h1),if_neg (fun g=>g h2),if_pos h3]
theorem Yx{tc tr tu k c s n v now:Int}(h:CQ tc tr tu)(h1:AY k c s n v=0)(h2:Na k tr∧c=tc)(h3:0≤now∧now≤tu):D2 tc tr tu k c s n v now=0:=by
 unfold D2;rw[if_neg (fun g=>g h),if_neg (fun g=>g h1),if_neg (fun g=>g h2),if_neg (fun g=>g h3)]
def JF(c r u:Int):List Int:=c::r::Ac u
theorem DY(c r u:Int):(JF c r u).length=6:=rfl
theorem MR{c r u:Int}(h:CQ c r u):∀ x∈JF c r u,0≤x∧x<256:=by
 obtain⟨h1,h2,h3⟩:=h;intro x hx;rcases List.mem_cons.1 hx with rfl|hx
 ·omega
 rcases List.mem_cons.1 hx with rfl|hx
 ·omega
 exact AO _ x hx
theorem Sb(a b c d e a' b' c' d' e':Int):∀ w,(binOp .eql 37 (.agg #[.int .i64 a,.int .i64 b,.int .i64 c,.int .i64 d,.int .i64 e]) (.agg #[.int .i64 a',.int .i64 b',.int .i64 c',.int .i64 d',.int .i64 e'])).run prog w=.ok (.bool (decide (a=a'∧b=b'∧c=c'∧d=d'∧e=e'))) w:=by
 intro w;rw[run_eql_struct,run_equalIn_agg w 9999 _ _ _ (by kernel_rfl) (by kernel_rfl)];unfold Program.fieldsOf;rw[underlying37];have h3:=underlying3;simp[Op.eqFields,go_sem,h3]
 repeat' split
 all_goals simp_all
theorem Zv(a b c d e a' b' c' d' e':Int):∀ w,(binOp .neq 37 (.agg #[.int .i64 a,.int .i64 b,.int .i64 c,.int .i64 d,.int .i64 e]) (.agg #[.int .i64 a',.int .i64 b',.int .i64 c',.int .i64 d',.int .i64 e'])).run prog w=.ok (.bool (!decide (a=a'∧b=b'∧c=c'∧d=d'∧e=e'))) w:=by
 intro w;rw[run_neq_struct,run_equalIn_agg w 9999 _ _ _ (by kernel_rfl) (by kernel_rfl)];unfold Program.fieldsOf;rw[underlying37];have h3:=underlying3;simp[Op.eqFields,go_sem,h3]
 repeat' split
 all_goals simp_all
theorem Er{w:World}{g:Nat}{k c s n v:Int}{ty:TypeId}{fr:Nat × Nat}(h:w.heap[g]?=some (.cells (cmA k c s n v) ty fr)) :
  w.cell? ⟨g,0,none⟩=some (.int .i64 k)∧w.cell? ⟨g,1,none⟩=some (.int .i64 c)∧w.cell? ⟨g,2,none⟩=some (.int .i64 s)∧w.cell? ⟨g,3,none⟩=some (.int .i64 n)∧w.cell? ⟨g,4,none⟩=some (.int .i64 v) :=
 ⟨cell_of_row _ _ 0 _ _ _ h,cell_of_row _ _ 1 _ _ _ h,cell_of_row _ _ 2 _ _ _ h,cell_of_row _ _ 3 _ _ _ h,cell_of_row _ _ 4 _ _ _ h⟩
theorem Zd(c s n v:Int):InC c s n v↔(((0≤c∧c≤7)∧(0≤s∧s≤1048576))∧(0≤n∧n≤7))∧(0≤v∧v≤1073741824):=by unfold InC;omega
structure Bc(w:World)(g:Nat)(k c s n v:Int):Prop where
 lt:g<w.heap.size
 row:w.heap[g]?=some (.cells (cmA k c s n v) 37)
theorem Bc.made(w:World)(k c s n v:Int):Bc (w.alloc (.cells (cmA k c s n v) 37)) w.heap.size k c s n v:=⟨by simp,heap_alloc_new _ _⟩
theorem Bc.below{w w':World}{g:Nat}{k c s n v:Int}(h:Bc w g k c s n v)(hb:Bw w w'):Bc w' g k c s n v :=
 ⟨Nat.lt_of_lt_of_le h.lt hb.size,(hb.block g h.lt).trans h.row⟩
theorem FS(k c s n v:Int):(prog.info? 37).map (·.size)=some (cmA k c s n v).size:=by show _=some 5;kernel_rfl
def MB:List Int:=[0,0,0,2,7,1073741824,1,7,0,4,7,0]
structure NTab(w:World):Prop where
 lt:0<w.heap.size
 cell:∀ i,i<12→w.cell? ⟨0,i,none⟩=some (.int .i64 (MB.getD i 0))
theorem NTab.below{w w':World}(h:NTab w)(hb:Bw w w'):NTab w' :=
 ⟨Nat.lt_of_lt_of_le h.lt hb.size,fun i hi=>(hb.cell (p:=⟨0,i,none⟩) h.lt).trans (h.cell i hi)⟩
theorem E4(n g:Int)(w:World) :
  Calls prog 25 #[.int .i64 n,.int .i64 g] w fun e w'=>e=.returned (.bool (decide (0≤n∧n≤g)))∧w'=w:=by
 by_cases h0:0≤n
 ·by_cases h1:n≤g
  ·rw[decide_eq_true ⟨h0,h1⟩];go_enter func25,ntmps25
   go_wp2
   go_ret;exact⟨Ae (by simp),rfl⟩
  ·rw[decide_eq_false (by omega)];go_enter func25,ntmps25
   go_wp2
   go_ret;exact⟨Ae (by simp),rfl⟩
 ·rw[decide_eq_false (by omega)];go_enter func25,ntmps25
  go_wp2
  go_ret;exact⟨Ae (by simp),rfl⟩
theorem Il{n g:Int}{b:Bool}(h:Hid (decide (0≤n∧n≤g)=b))(w:World) :
  Calls prog 25 #[.int .i64 n,.int .i64 g] w fun e w'=>e=.returned (.bool b)∧w'=w:=by
 rw[← h.out];exact E4 n g w
theorem QD(k:Int)(w:World) :
  Calls prog 53 #[.int .i64 k] w fun e w'=>e=.returned (.bool (decide (0≤k∧k≤3)))∧w'=w:=by
 go_enter func53,ntmps53
 go_wp2_with fail
 refine(E4 k 3 _).mono ?_;rintro e w1 ⟨rfl,rfl⟩;go_wp2
 go_ret;exact⟨Ae (by simp),rfl⟩
theorem WR(c s n v:Int)(w:World) :
  Calls prog 54 #[.agg (cmA 0 c s n v)] w fun e w'=>e=.returned (.int .i64 (AY 0 c s n v))∧Bw w w':=by
 have bb:Bw w (w.alloc (.cells (cmA 0 c s n v) 37)):=(Below.refl _ _).alloc (Nat.le_refl _) _;simp only[cmA]at bb ⊢;have hq:=Zv 0 c s n v 0 0 0 0 0;by_cases h:c=0∧s=0∧n=0∧v=0
 ·have HE:Hid (0=AY 0 c s n v):=(Tq h).symm;rw[decide_eq_true ⟨rfl,h⟩]at hq
  clear h;go_enter func54,ntmps54
  go_wp2
  go_ret;exact⟨AB HE.out,bb⟩
 ·have HE:Hid (3=AY 0 c s n v):=(Qi h).symm;rw[decide_eq_false (fun g=>h g.2)]at hq
  clear h;go_enter func54,ntmps54
  go_wp2
  go_ret;exact⟨AB HE.out,bb⟩
theorem NTab.name{w:World}(h:NTab w)(k:Nat)(h0:1≤k)(h1:k≤3):w.cell? ⟨0,k*3+1,none⟩=some (.int .i64 7):=by
 rcases(by omega:k=1∨k=2∨k=3)with rfl|rfl|rfl
 ·exact h.cell 4 (by omega)
 ·exact h.cell 7 (by omega)
 ·exact h.cell 10 (by omega)
theorem No(k c s n v:Int)(w:World)(hk:1≤k∧k≤3)(ht:NTab w) :
  Calls prog 55 #[.agg (cmA k c s n v)] w fun e w'=>e=.returned (.bool (decide (InC c s n v)))∧Bw w w':=by
 have bb:Bw w (w.alloc (.cells (cmA k c s n v) 37)):=(Below.refl _ _).alloc (Nat.le_refl _) _;have hN:=(ht.below bb).name;have rr:=heap_alloc_new w (.cells (cmA k c s n v) 37);simp only[cmA]at bb hN rr ⊢;obtain⟨m,rfl⟩:=Int.eq_ofNat_of_zero_le (show 0≤k by omega);replace hN:=hN m (by omega) (by omega);have k0:(0:Int)≤(m:Int):=by omega
 have k1:(m:Int)<4:=by omega
 have k2:m<4:=by omega
 clear hk ht;have HI:Hid (InC c s n v↔_):=Zd c s n v;generalize hW:w.alloc (.cells #[.int .i64 (m:Int),.int .i64 c,.int .i64 s,.int .i64 n,.int .i64 v] 37)=W at bb hN rr;go_enter func55,ntmps55
 go_wp2_with fail
 clear hW;obtain⟨c0,c1,c2,c3,c4⟩:=Er rr;clear rr;by_cases h1:0≤c∧c≤7
 ·have U1:Hid (decide _=true):=decide_eq_true h1;by_cases h2:0≤s∧s≤1048576
  ·have U2:Hid (decide _=true):=decide_eq_true h2;by_cases h3:0≤n∧n≤7
   ·have U3:Hid (decide _=true):=decide_eq_true h3;by_cases h4:0≤v∧v≤1073741824
    ·have U4:Hid (decide _=true):=decide_eq_true h4;have HB:Hid (true=decide (InC c s n v)):=(decide_eq_true (HI.out.2 ⟨⟨⟨h1,h2⟩,h3⟩,h4⟩)).symm;clear h1 h2 h3 h4 HI;go_quiet ((go_at_call 25;exact Calls.quiet_of_same (Il (by assumption) _)))
     go_wp2
     go_ret;exact⟨Ae HB.out,An bb nq⟩
    ·have U4:Hid (decide _=false):=decide_eq_false h4;have HB:Hid (false=decide (InC c s n v)):=(decide_eq_false (fun G=>h4 ((fun g=>g.2) (HI.out.1 G)))).symm;clear h1 h2 h3 h4 HI;go_quiet ((go_at_call 25;exact Calls.quiet_of_same (Il (by assumption) _)))
     go_wp2
     go_ret;exact⟨Ae HB.out,An bb nq⟩
   ·have U3:Hid (decide _=false):=decide_eq_false h3;have HB:Hid (false=decide (InC c s n v)):=(decide_eq_false (fun G=>h3 ((fun g=>g.1.2) (HI.out.1 G)))).symm;clear h1 h2 h3 HI;go_quiet ((go_at_call 25;exact Calls.quiet_of_same (Il (by assumption) _)))
    go_wp2
    go_ret;exact⟨Ae HB.out,An bb nq⟩
  ·have U2:Hid (decide _=false):=decide_eq_false h2;have HB:Hid (false=decide (InC c s n v)):=(decide_eq_false (fun G=>h2 ((fun g=>g.1.1.2) (HI.out.1 G)))).symm;clear h1 h2 HI;go_quiet ((go_at_call 25;exact Calls.quiet_of_same (Il (by assumption) _)))
   go_wp2
   go_ret;exact⟨Ae HB.out,An bb nq⟩
 ·have U1:Hid (decide _=false):=decide_eq_false h1;have HB:Hid (false=decide (InC c s n v)):=(decide_eq_false (fun G=>h1 ((fun g=>g.1.1.1) (HI.out.1 G)))).symm;clear h1 HI;go_quiet ((go_at_call 25;exact Calls.quiet_of_same (Il (by assumption) _)))
  go_wp2
  go_ret;exact⟨Ae HB.out,An bb nq⟩
theorem ZS{a b:Int}(h:a=b):Ending.returned (.int .u32 a)=.returned (.int .u32 b):=by rw[h]
theorem eS(n:Nat)(h0:1≤n)(h1:n≤31):bits .and .u64 (IntKind.u64.wrap (-(n:Int))) 31=32-(n:Int):=by
 have e:IntKind.u64.wrap (-(n:Int))=((18446744073709551616-n:Nat):Int):=by rw[IntKind.wrap_u64];omega
 rw[e,show(31:Int)=((31:Nat):Int)from rfl,u64_and_nat _ _ (by omega) (by omega),nat_mask5];omega
theorem Xy(x:BitVec 32)(n:Nat)(w:World)(h0:1≤n)(h1:n≤31) :
  Calls prog 198 #[.int .u32 (uw x),.int .i64 (-(n:Int))] w fun e w'=>e=.returned (.int .u32 (uw (x.rotateRight n)))∧w'=w:=by
 have a1:=Dn x;have a2:=Yd x;have a3:=eS n h0 h1;go_enter func198,ntmps198
 go_wp2
 go_ret;exact⟨ZS (eB x n h0 h1),rfl⟩
theorem Um(x:BitVec 32)(n:Nat)(w:World)(h0:1≤n)(h1:n≤31) :
  Calls prog 186 #[.int .u32 (uw x),.int .i64 (n:Int)] w fun e w'=>e=.returned (.int .u32 (uw (x.rotateRight n)))∧w'=w:=by
 go_enter func186,ntmps186
 go_wp2_with fail
 refine(Xy x n w h0 h1).mono ?_;rintro e w1 ⟨rfl,rfl⟩;go_wp2
 go_ret;exact⟨rfl,rfl⟩
theorem La(x:BitVec 32)(k:Int)(w:World)(h0:1≤k)(h1:k≤31) :
  Calls prog 186 #[.int .u32 (uw x),.int .i64 k] w fun e w'=>e=.returned (.int .u32 (uw (x.rotateRight k.toNat)))∧w'=w:=by
 obtain⟨n,rfl⟩:∃ n:Nat,k=n:=⟨k.toNat,by omega⟩;exact Um x n w (by omega) (by omega)
theorem Le(x:BitVec 32)(h:uw x<256):uw x*16777216=uw (x <<< 24)∧uw x*65536=uw (x <<< 16)∧uw x*256=uw (x <<< 8):=by
 have h0:=Dn x;have e24:=FK x 24;have e16:=FK x 16;have e8:=FK x 8;rw[← e24,← e16,← e8];refine⟨?_,?_,?_⟩
 ·rw[show(2:Int)^24=16777216 from rfl];omega
 ·rw[show(2:Int)^16=65536 from rfl];omega
 ·rw[show(2:Int)^8=256 from rfl];omega
theorem B0{B:Nat}{a w:World}(h:Below B a w){g:Nat}(hg:B≤g)(cs:Array Value):Below B a (w.setRow g cs) :=
 h.trans ⟨rfl,rfl,rfl,by simp,fun k hk=>setRow_other w g k cs (by omega)⟩
theorem Ut(x:BitVec 32):bits .xor .u32 (bits .xor .u32 (uw (x.rotateRight 7)) (uw (x.rotateRight 18))) (uw x/8)=uw (ef x):=by rw[aP,CZ,CZ];rfl
theorem Uu(x:BitVec 32):bits .xor .u32 (bits .xor .u32 (uw (x.rotateRight 17)) (uw (x.rotateRight 19))) (uw x/1024)=uw (eg x):=by rw[Yf,CZ,CZ];rfl
theorem Mc{w:World}{g:Nat}{ws:List (BitVec 32)}(h:w.heap[g]?=some (.cells (Av ws) 248 (0,0)))(k:Nat)(x:BitVec 32) :
  (w.setCell ⟨g,k,none⟩ (.int .u32 (uw x))).heap[g]?=some (.cells (Av (ws.set k x)) 248 (0,0)):=by
 rw[heap_setCell_same _ _ _ _ _ _ h,Lv]
theorem NI(v:Value)(l:List Int)(w:World)(h:Sl w v l)(hl:l.length=64) :
  Calls prog 167 #[v] w fun e w'=>e=.returned (.agg (Av (ML l)))∧Bw w w':=by
 obtain⟨⟨a,cap,rfl,hc,hn,h1⟩,hla,hba⟩:=h;rcases h1 with rfl|⟨b,off,rfl,hb,hcell⟩
 ·simp at hl
 rw[hl]at hc hla hcell ⊢
 have HL:Hid (l.length=64):=hl;have HC:Hid (∀ i,i<64→w.cell? ⟨b,off+i,none⟩=some (.int .u8 (uw (Cb (l.getD i 0))))):=fun i hi=>by rw[JR _ (Ak hba i)];exact hcell i hi
 have HB:Hid (∀ i,uw (Cb (l.getD i 0))<256):=fun i=>by rw[JR _ (Ak hba i)];exact(Ak hba i).2
 clear hl hn hcell hba;go_enter func167,ntmps167
 go_wp2_with fail
 go_loopw [10] (fun i wr=>∃ k:Nat,k≤16∧i=.int .i64 k∧wr.heap[w.heap.size+1]?=some (.cells (Av (J8 l k)) 248 (0,0))∧wr.heap[w.heap.size]?=some (.cells (Av (J8 l 0)) 248 (0,0))∧Bw w wr) (fun i _=>16-(intOf i).toNat)
 case atStart=>exact⟨0,by omega,rfl,heap_alloc2_new _ _ _,heap_alloc2_old _ _ _,((Below.refl _ _).alloc (Nat.le_refl _) _).alloc (by simp) _⟩
 case round =>
  obtain⟨k,hk,rfl,hW,hR,hbel⟩:=hrel;by_cases hk16:k<16
  ·have hz:=B1 (J8 l k) k (by rw[FD];omega);have hcw:wr.cell? ⟨w.heap.size+1,k,none⟩=some (.int .u32 (uw ((J8 l k).getD k 0#32))):=(cell_of_row wr _ k _ _ _ hW).trans hz;have hfw:wr.frozen? ⟨w.heap.size+1,k,none⟩=false:=frozen_of_row wr _ k _ _ hW;have c0:=(hbel.cell (p:=⟨b,off+(4*k),none⟩) hb).trans (HC.out (4*k) (by omega));have c1:=(hbel.cell (p:=⟨b,off+(4*k+1),none⟩) hb).trans (HC.out (4*k+1) (by omega));have c2:=(hbel.cell (p:=⟨b,off+(4*k+2),none⟩) hb).trans (HC.out (4*k+2) (by omega));have c3:=(hbel.cell (p:=⟨b,off+(4*k+3),none⟩) hb).trans (HC.out (4*k+3) (by omega));have l0:=HB.out (4*k);have l1:=HB.out (4*k+1);have l2:=HB.out (4*k+2);have l3:=HB.out (4*k+3);obtain⟨wd,HW,HV⟩:∃ wd,Hid (wd=RN l k)∧Hid (J8 l (k+1)=(J8 l k).set k wd):=⟨_,rfl,rfl⟩;unfold RN at HW;generalize Cb (l.getD (4*k) 0)=x0 at c0 l0 HW;generalize Cb (l.getD (4*k+1) 0)=x1 at c1 l1 HW;generalize Cb (l.getD (4*k+2) 0)=x2 at c2 l2 HW;generalize Cb (l.getD (4*k+3) 0)=x3 at c3 l3 HW;obtain⟨y0,s0,e0⟩:∃ y,uw x0*16777216=uw y∧x0 <<< 24=y:=⟨_,(Le x0 l0).1,rfl⟩;obtain⟨y1,s1,e1⟩:∃ y,uw x1*65536=uw y∧x1 <<< 16=y:=⟨_,(Le x1 l1).2.1,rfl⟩;obtain⟨y2,s2,e2⟩:∃ y,uw x2*256=uw y∧x2 <<< 8=y:=⟨_,(Le x2 l2).2.2,rfl⟩;rw[e0,e1,e2]at HW
   clear e0 e1 e2;have z0:=Dn x0;have z1:=Dn x1;have z2:=Dn x2;have z3:=Dn x3;clear hz;go_wp2_with fail
   refine Ar 35 (by kernel_rfl) (by kernel_rfl) ?_;simp only[List.take_succ_cons,List.take_zero,List.drop_succ_cons,List.drop_zero]
   repeat (go_big_quiet_step (fail))
   refine wpQuiet_nil ?_;go_wp2
   rw[Js,Js,Js,← HW.out];go_roundw
   case rel=>exact⟨k+1,by omega,by go_num,by rw[HV.out];exact Mc hW k wd,(heap_setCell_other _ _ _ _ (by simp)).trans hR,(hbel.setCell (by simp) _).drew⟩
   case measure=>simp[intOf];omega
  ·have HK:Hid (k=16):=by unfold Hid;omega
   clear HC HB;go_wp2_with fail
   go_loopw [5] (fun i wr=>∃ k:Nat,k≤48∧i=.int .i64 (16+(k:Int))∧wr.heap[w.heap.size+1]?=some (.cells (Av (Fg l k)) 248 (0,0))∧wr.heap[w.heap.size]?=some (.cells (Av (J8 l 0)) 248 (0,0))∧Bw w wr) (fun i _=>64-(intOf i).toNat)
   case atStart=>exact⟨0,by omega,rfl,by rw[HK.out]at hW;exact hW,hR,hbel⟩
   case round =>
    clear hW hR hbel HK;obtain⟨k,hk,rfl,hW,hR,hbel⟩:=hrel;by_cases hk48:k<48
    ·have hcell:∀ i,i<64→wr.cell? ⟨w.heap.size+1,i,none⟩=some (.int .u32 (uw ((Fg l k).getD i 0#32))):=fun i hi=>(cell_of_row wr _ i _ _ _ hW).trans (B1 (Fg l k) i (by rw[DU];exact hi));have c16:=hcell k (by omega);have c15:=hcell (16+k-15) (by omega);have c7:=hcell (16+k-7) (by omega);have c2:=hcell (16+k-2) (by omega);have c0:=hcell (16+k) (by omega);have hfw:wr.frozen? ⟨w.heap.size+1,16+k,none⟩=false:=frozen_of_row wr _ (16+k) _ _ hW;have HV:Hid (Fg l (k+1)=(Fg l k).set (16+k) (WQ (Fg l k) (16+k))):=rfl;unfold WQ at HV;have e16:16+k-16=k:=by omega
     rw[e16]at HV
     generalize (Fg l k).getD k 0#32=x16 at c16 HV;generalize (Fg l k).getD (16+k-15) 0#32=x15 at c15 HV;generalize (Fg l k).getD (16+k-7) 0#32=x7 at c7 HV;generalize (Fg l k).getD (16+k-2) 0#32=x2 at c2 HV;clear hcell e16;have n15:=Dn x15;have n2:=Dn x2;go_wp2_with fail
     go_quiet (fail)
     go_wp2_with (go_at_call 186;refine(La _ _ _ (by omega) (by omega)).mono ?_;rintro e w' ⟨rfl,rfl⟩)
     rw[Ut,Uu];generalize ef x15=t0 at HV;generalize eg x2=t1 at HV;refine Ar 15 (by kernel_rfl) (by kernel_rfl) ?_;simp only[List.take_succ_cons,List.take_zero,List.drop_succ_cons,List.drop_zero]
     repeat (go_big_quiet_step (fail))
     refine wpQuiet_nil ?_;go_wp2
     go_roundw
     case rel =>
      rw[SN];exact⟨k+1,by omega,by go_num,by rw[HV.out];exact Mc (w:=wr.drewN (nq+1)) hW (16+k) _,(heap_setCell_other _ _ _ _ (by simp)).trans hR,(An hbel _).setCell (by simp) _⟩
     case measure=>simp[intOf];omega
    ·have HK:Hid (k=48):=by unfold Hid;omega
     have hsz:(prog.info? 248).map (·.size)=some (Av (Fg l k)).size:=by rw[AV,DU];kernel_rfl
     have hone:(Av (Fg l k)).all (·.oneCell')=true:=by simp[Av,Value.oneCell']
     go_wp2_with (first|(refine wpList_load_row rfl 248 _ rfl (w.heap.size+1) rfl 248 _ (0,0) _ hW underlying248 rfl hsz ?_)|(refine wpList_store_row rfl 248 _ _ rfl w.heap.size _ rfl rfl 248 _ hR hsz (by rw[AV,AV,FD,DU]) hone ?_))
     refine bodyPost_ret (v:=.agg (Av (Fg l k))) (results_cell_row rfl _ _ w.heap.size 248 _ (0,0) _ rfl (setRow_heap wr w.heap.size _ _ 248 _ hR) underlying248 rfl hsz) rfl ⟨by rw[HK.out];rfl,B0 hbel (Nat.le_refl _) _⟩
def AC(w:World):Prop:=3<w.heap.size∧∀ i,i<64→w.cell? ⟨3,i,none⟩=some (.int .u32 (uw (kAt i)))
theorem AC.below{w w':World}(h:AC w)(hb:Bw w w'):AC w' :=
 ⟨Nat.lt_of_lt_of_le h.1 hb.size,fun i hi=>(hb.cell (p:=⟨3,i,none⟩) h.1).trans (h.2 i hi)⟩
theorem aN(x:BitVec 32):bits .xor .u32 IntKind.u32.max (uw x)=uw (~~~x):=by
 have e:IntKind.u32.max=uw (BitVec.allOnes 32):=rfl;rw[e,CZ,RJ,BitVec.allOnes_xor]
theorem Ot(e f g:BitVec 32):bits .xor .u32 (bits .and .u32 (uw e) (uw f)) (bits .and .u32 (bits .xor .u32 IntKind.u32.max (uw e)) (uw g))=uw (Qe e f g):=by
 rw[aN,Lr,Lr,CZ];rfl
theorem TL(a b c:BitVec 32):bits .xor .u32 (bits .xor .u32 (bits .and .u32 (uw a) (uw b)) (bits .and .u32 (uw a) (uw c))) (bits .and .u32 (uw b) (uw c))=uw (most a b c):=by
 rw[Lr,Lr,Lr,CZ,CZ];rfl
theorem Th(x:BitVec 32):bits .xor .u32 (bits .xor .u32 (uw (x.rotateRight 6)) (uw (x.rotateRight 11))) (uw (x.rotateRight 25))=uw (eV x):=by
 rw[CZ,CZ];rfl
theorem Tf(x:BitVec 32):bits .xor .u32 (bits .xor .u32 (uw (x.rotateRight 2)) (uw (x.rotateRight 13))) (uw (x.rotateRight 22))=uw (eU x):=by
 rw[CZ,CZ];rfl
theorem aM(s:St)(k w:BitVec 32):((uw s.h+bits .xor .u32 (bits .xor .u32 (uw (s.e.rotateRight 6)) (uw (s.e.rotateRight 11))) (uw (s.e.rotateRight 25))+uw (Qe s.e s.f s.g)+uw k)%(4294967296:Int)+uw w)%(4294967296:Int)=uw (upS s k w):=by
 rw[Th,SN,CL];rfl
theorem Ts(s:St):(bits .xor .u32 (bits .xor .u32 (uw (s.a.rotateRight 2)) (uw (s.a.rotateRight 13))) (uw (s.a.rotateRight 22))+uw (most s.a s.b s.c))%(4294967296:Int)=uw (bv s):=by
 rw[Tf,CL];rfl
theorem Wk(s:St)(j:Nat)(hj:j<8):∀ w,(Instr.index 246 (.agg #[.int .u32 (uw s.a),.int .u32 (uw s.b),.int .u32 (uw s.c),.int .u32 (uw s.d),.int .u32 (uw s.e),.int .u32 (uw s.f),.int .u32 (uw s.g),.int .u32 (uw s.h)]) (.int .i64 (j:Int))).run prog w=.ok (.int .u32 (uw (s.list.getD j 0#32))) w:=by
 intro w;obtain rfl|rfl|rfl|rfl|rfl|rfl|rfl|rfl:j=0∨j=1∨j=2∨j=3∨j=4∨j=5∨j=6∨j=7:=by omega
 all_goals kernel_rfl
theorem Oc{w:World}{g:Nat}{ws:List (BitVec 32)}(h:w.heap[g]?=some (.cells (Av ws) 246 (0,0)))(k:Nat)(x:BitVec 32) :
  (w.setCell ⟨g,k,none⟩ (.int .u32 (uw x))).heap[g]?=some (.cells (Av (ws.set k x)) 246 (0,0)):=by
 rw[heap_setCell_same _ _ _ _ _ _ h,Lv]
theorem gk(w:World)(o1 o2 o3:Obj){W:World}(h:((w.alloc o1).alloc o2).alloc o3=W) :
  W.heap[w.heap.size]?=some o1∧W.heap[w.heap.size+1]?=some o2∧W.heap[w.heap.size+1+1]?=some o3∧Bw w W:=by
 subst h;refine⟨?_,?_,?_,(((Below.refl _ _).alloc (Nat.le_refl _) _).alloc (by simp) _).alloc (by simp;omega) _⟩
 ·rw[heap_alloc_old _ _ (by simp;omega)];exact heap_alloc2_old w o1 o2
 ·rw[heap_alloc_old _ _ (by simp)];exact heap_alloc2_new w o1 o2
 ·have:=heap_alloc_new ((w.alloc o1).alloc o2) o3;simpa using this
theorem TK(s:St)(ws:List (BitVec 32))(w:World)(hws:ws.length=64)(ht:AC w) :
  Calls prog 166 #[.agg s.cells,.agg (Av ws)] w fun e w'=>e=.returned (.agg (WK s ws).cells)∧Bw w w':=by
 obtain⟨a,b,c,d,e,f,g,h⟩:=s;unfold St.cells;go_enter func166,ntmps166
 go_wp2_with fail
 generalize hW0:((w.alloc _).alloc _).alloc _=W0;obtain⟨hA,hB,hC,hbel⟩:=gk w _ _ _ hW0;clear hW0;have htab:=ht.below hbel;have c0:=cell_of_row W0 _ 0 _ _ _ hA;have c1:=cell_of_row W0 _ 1 _ _ _ hA;have c2:=cell_of_row W0 _ 2 _ _ _ hA;have c3:=cell_of_row W0 _ 3 _ _ _ hA;have c4:=cell_of_row W0 _ 4 _ _ _ hA;have c5:=cell_of_row W0 _ 5 _ _ _ hA;have c6:=cell_of_row W0 _ 6 _ _ _ hA;have c7:=cell_of_row W0 _ 7 _ _ _ hA;simp only[List.getElem?_toArray,List.getElem?_cons_zero,List.getElem?_cons_succ]at c0 c1 c2 c3 c4 c5 c6 c7;have HA:Hid _:=hA;have HB:Hid _:=hB;have HC:Hid _:=hC;clear hA hB hC;go_quiet (fail)
 go_wp2_with fail
 go_quiet (fail)
 go_wp2_with fail
 clear c0 c1 c2 c3 c4 c5 c6 c7
 go_loopw [5,6,7,8,9,10,11,12,36] (fun a' b' c' d' e' f' g' h' i wr=>∃ k n:Nat,k≤64∧i=.int .i64 k∧wr=W0.drewN n∧a'=.int .u32 (uw (Bu ws ⟨a,b,c,d,e,f,g,h⟩ k).a)∧b'=.int .u32 (uw (Bu ws ⟨a,b,c,d,e,f,g,h⟩ k).b)∧c'=.int .u32 (uw (Bu ws ⟨a,b,c,d,e,f,g,h⟩ k).c)∧d'=.int .u32 (uw (Bu ws ⟨a,b,c,d,e,f,g,h⟩ k).d)∧e'=.int .u32 (uw (Bu ws ⟨a,b,c,d,e,f,g,h⟩ k).e)∧f'=.int .u32 (uw (Bu ws ⟨a,b,c,d,e,f,g,h⟩ k).f)∧g'=.int .u32 (uw (Bu ws ⟨a,b,c,d,e,f,g,h⟩ k).g)∧h'=.int .u32 (uw (Bu ws ⟨a,b,c,d,e,f,g,h⟩ k).h)) (fun _ _ _ _ _ _ _ _ i _=>64-(intOf i).toNat)
 case atStart=>exact⟨0,_,by omega,rfl,World.drewN_drewN _ _ _,rfl,rfl,rfl,rfl,rfl,rfl,rfl,rfl⟩
 case round =>
  obtain⟨k,n,hk,rfl,hwr,rfl,rfl,rfl,rfl,rfl,rfl,rfl,rfl⟩:=hrel;have HWR:Hid (wr=W0.drewN n):=hwr;by_cases hlt:k<64
  ·have ck:wr.cell? ⟨3,k,none⟩=some (.int .u32 (uw (kAt k))):=by rw[hwr];exact htab.2 k hlt
   have cw:wr.cell? ⟨w.heap.size+1,k,none⟩=some (.int .u32 (uw (ws.getD k 0#32))):=by rw[hwr];exact(cell_of_row W0 _ k _ _ _ HB.out).trans (B1 ws k (by omega))
   clear hwr;have HS:Hid (Bu ws ⟨a,b,c,d,e,f,g,h⟩ (k+1)=XI (Bu ws ⟨a,b,c,d,e,f,g,h⟩ k) (kAt k) (ws.getD k 0#32)):=rfl;generalize Bu ws ⟨a,b,c,d,e,f,g,h⟩ k=S at HS;generalize kAt k=kk at ck HS;generalize ws.getD k 0#32=ww at cw HS;clear htab;unfold XI at HS;go_wp2_with fail
   rw[Ot,TL];go_quiet ((go_at_call 186;exact Calls.quiet_of_same (La _ _ _ (by omega) (by omega))))
   rw[aM];generalize upS S kk ww=up at HS ⊢;clear ck cw;go_wp2_with (go_at_call 186;refine(La _ _ _ (by omega) (by omega)).mono ?_;rintro e w' ⟨rfl,rfl⟩)
   go_roundw
   case rel =>
    rw[Ts,CL,CL];exact⟨k+1,n+nq,by omega,by go_num,by rw[HWR.out,World.drewN_drewN],by rw[HS.out],by rw[HS.out],by rw[HS.out],by rw[HS.out],by rw[HS.out],by rw[HS.out],by rw[HS.out],by rw[HS.out]⟩
   case measure=>simp[intOf];omega
  ·have HK:Hid (k=64):=by unfold Hid;omega
   have hA2:wr.heap[w.heap.size]?=some (.cells (Av (D1 ⟨a,b,c,d,e,f,g,h⟩ (Bu ws ⟨a,b,c,d,e,f,g,h⟩ k) 0)) 246 (0,0)):=by rw[hwr];exact HA.out
   have hC2:wr.heap[w.heap.size+1+1]?=some (.cells (Av [0#32,0#32,0#32,0#32,0#32,0#32,0#32,0#32]) 246 (0,0)):=by rw[hwr];exact HC.out
   have hbel2:Bw w wr:=by rw[hwr];exact An hbel n
   clear hwr HA HB HC htab hbel HWR;have HM:Hid (k=64→(WK ⟨a,b,c,d,e,f,g,h⟩ ws).cells=Av (D1 ⟨a,b,c,d,e,f,g,h⟩ (Bu ws ⟨a,b,c,d,e,f,g,h⟩ k) 8)):=by rintro rfl;rfl
   generalize Bu ws ⟨a,b,c,d,e,f,g,h⟩ k=S at HM hA2 ⊢;generalize hs0:St.mk a b c d e f g h=s0 at HM hA2;have HS0:Hid (St.mk a b c d e f g h=s0):=hs0;clear hs0;go_wp2_with fail
   go_loopw [110] (fun i wr=>∃ j:Nat,j≤8∧i=.int .i64 j∧wr.heap[w.heap.size]?=some (.cells (Av (D1 s0 S j)) 246 (0,0))∧wr.heap[w.heap.size+1+1]?=some (.cells (Av [0#32,0#32,0#32,0#32,0#32,0#32,0#32,0#32]) 246 (0,0))∧Bw w wr) (fun i _=>8-(intOf i).toNat)
   case atStart=>exact⟨0,by omega,rfl,hA2,hC2,hbel2⟩
   case round =>
    clear hA2 hC2 hbel2;obtain⟨j,hj,rfl,hA,hC,hbel⟩:=hrel;by_cases hlt:j<8
    ·have cj:=(cell_of_row wr _ j _ _ _ hA).trans (B1 (D1 s0 S j) j (by rw[E8];omega));have fj:=frozen_of_row wr _ j _ _ hA;have hix:=Wk S j hlt;have HV:Hid (D1 s0 S (j+1)=(D1 s0 S j).set j ((D1 s0 S j).getD j 0#32+S.list.getD j 0#32)):=rfl;generalize (D1 s0 S j).getD j 0#32=x at cj HV;generalize S.list.getD j 0#32=y at hix HV;go_wp2
     go_roundw
     case rel =>
      rw[CL];exact⟨j+1,by omega,by go_num,by rw[HV.out];exact Oc hA j _,(heap_setCell_other _ _ _ _ (by simp;omega)).trans hC,hbel.setCell (Nat.le_refl _) _⟩
     case measure=>simp[intOf];omega
    ·have HJ:Hid (j=8):=by unfold Hid;omega
     have hsz:(prog.info? 246).map (·.size)=some (Av (D1 s0 S j)).size:=by rw[AV,E8];kernel_rfl
     have hone:(Av (D1 s0 S j)).all (·.oneCell')=true:=by simp[Av,Value.oneCell']
     go_wp2_with (first|(refine wpList_load_row rfl 246 _ rfl w.heap.size rfl 246 _ (0,0) _ hA underlying246 rfl hsz ?_)|(refine wpList_store_row rfl 246 _ _ rfl (w.heap.size+1+1) _ rfl rfl 246 _ hC hsz (by rw[AV,AV,E8];rfl) hone ?_))
     refine bodyPost_ret (v:=.agg (Av (D1 s0 S j))) (results_cell_row rfl _ _ (w.heap.size+1+1) 246 _ (0,0) _ rfl (setRow_heap wr _ _ _ 246 _ hC) underlying246 rfl hsz) rfl ⟨?_,B0 hbel (by omega) _⟩;rw[HJ.out,← HM.out HK.out,← HS0.out];rfl
end
section
open Go.ChangeShapes Go.WideShapes Go.ChangeAt Go.RowKit
theorem fo : prog.globalNamed "conclave/sha.roundWords" = some 3 := by kernel_rfl
theorem VW:(prog.globals[3]?).map (·.type)=some 248:=by kernel_rfl
theorem Y6:prog.cellsOf 248=64:=by kernel_rfl
theorem Y5:prog.cellsOf 245=1:=by kernel_rfl
theorem TC(i:Nat)(hi:i<64):QG.getD i 0=uw (kAt i):=by
 have all:∀ j:Fin 64,QG.getD j.val 0=uw (kAt j.val):=by decide +kernel
 exact all ⟨i,hi⟩
theorem bB : prog.globalNamed "conclave/order.needs" = some 0 := by kernel_rfl
theorem T1:(prog.globals[0]?).map (·.type)=some 72:=by kernel_rfl
theorem cK:prog.cellsOf 72=12:=by kernel_rfl
theorem Vn:prog.cellsOf 71=3:=by kernel_rfl
theorem cJ:prog.cellsOf 3=1:=by kernel_rfl
theorem FX{H:Type}{enc:TypeId × Value→H}{W:World}{base:Nat}{sp:Nat→Bool}{held:Bool}{fuel:Nat}{cs:List Value}{a b c:Int}{p:List MemPlace}
  (h:DataW.trod enc prog W base sp held fuel 71 cs=some (.agg [.lit (.int .i64 a),.lit (.int .i64 b),.lit (.int .i64 c)],p)) :
  cs=[.int .i64 a,.int .i64 b,.int .i64 c]:=by
 obtain⟨y0,y1,y2,n,hx,hl,h0,h1,h2⟩:=Go.Deep.trod_struct3 underlying71 h;rw[Vn]at hl
 simp only[cJ]at h0 h1 h2
 match cs,hl with
 | [c0,c1,c2],_ =>
  obtain⟨a0,e0,x0,_⟩:=DataW.trod_int underlying3 h0;obtain⟨a1,e1,x1,_⟩:=DataW.trod_int underlying3 h1;obtain⟨a2,e2,x2,_⟩:=DataW.trod_int underlying3 h2;subst x0 x1 x2;simp at e0 e1 e2;subst e0 e1 e2;simp at hx;obtain⟨⟨rfl,rfl,rfl⟩,_⟩:=hx;rfl
theorem VV : prog.globalNamed "conclave/cha.quarters" = some 4 := by kernel_rfl
theorem Q4:(prog.globals[4]?).map (·.type)=some 279:=by kernel_rfl
theorem cL:prog.cellsOf 3=1:=by kernel_rfl
theorem RT:prog.cellsOf 278=4:=by kernel_rfl
theorem Vm:prog.cellsOf 279=32:=by kernel_rfl
def Jj:List (List Int):=[[0,4,8,12],[1,5,9,13],[2,6,10,14],[3,7,11,15],[0,5,10,15],[1,6,11,12],[2,7,8,13],[3,4,9,14]]
theorem dp{cs:List Value}(hl:cs.length=32)(rows:List (List Value))(hr:rows.length=8)(h:∀ i,i<8→(cs.drop (i*4)).take 4=rows.getD i []):cs=rows.flatten:=by
 have e0:=h 0 (by omega);have e1:=h 1 (by omega);have e2:=h 2 (by omega);have e3:=h 3 (by omega);have e4:=h 4 (by omega);have e5:=h 5 (by omega);have e6:=h 6 (by omega);have e7:=h 7 (by omega)
 match rows,hr with
 | [r0,r1,r2,r3,r4,r5,r6,r7],_ =>
  simp only[List.getD_cons_zero,List.getD_cons_succ]at e0 e1 e2 e3 e4 e5 e6 e7;subst e0 e1 e2 e3 e4 e5 e6 e7;apply List.ext_getElem?;intro i
  match cs,hl with
  | [a0,a1,a2,a3,a4,a5,a6,a7,a8,a9,a10,a11,a12,a13,a14,a15,a16,a17,a18,a19,a20,a21,a22,a23,a24,a25,a26,a27,a28,a29,a30,a31],_=>rfl
theorem Xp {W : World} {cs : Array Value} {fuel : Nat} {p : List MemPlace} (hvar : World.var? prog W "conclave/cha.quarters" = some cs)
  (hd:DataW.trod (fun _=>()) prog W 0 (fun _=>true) false fuel 279 cs.toList=some (Rows.laid_conclave_cha_quarters,p)):Cq W:=by
 obtain⟨xs,m,_,hx,hlen,hxl,hel⟩:=DataW.trod_array underlying279 hd;rw[Vm]at hlen
 rw[RT]at hel
 have hx1:xs.map (·.1)=Jj.map (fun zs=>Lib.tabData .i64 zs):=by
  have:=congrArg Prod.fst hx;simp only[Rows.laid_conclave_cha_quarters,DataW.agg.injEq]at this;rw[← this];rfl
 have hrow:∀ i,i<8→(cs.toList.drop (i*4)).take 4=(Jj.map (fun zs=>zs.map fun z=>Value.int .i64 z)).getD i []:=by
  intro i hi;have h1:=hel i hi;have h2:xs[i]?=some (xs[i]'(by omega)):=List.getElem?_eq_getElem (by omega);rw[h2]at h1
  have h3:(xs[i]'(by omega)).1=Lib.tabData .i64 (Jj.getD i []):=by
   have e1:(xs.map (·.1))[i]?=some (xs[i]'(by omega)).1:=by rw[List.getElem?_map,h2];rfl
   rw[hx1,List.getElem?_map,List.getElem?_eq_getElem (show i<Jj.length from hi)]at e1
   simp only[Option.map_some,Option.some.injEq]at e1;rw[← e1,List.getD,List.getElem?_eq_getElem (show i<Jj.length from hi)];rfl
  have h4:xs[i]'(by omega)=(Lib.tabData .i64 (Jj.getD i []),(xs[i]'(by omega)).2):=by rw[← h3]
  rw[h4]at h1
  have h5:=Lib.cells_of_tab underlying278 underlying3 cL RT h1;rw[h5,List.getD,List.getD,List.getElem?_map,List.getElem?_eq_getElem (show i<Jj.length from hi)];rfl
 have hcs:cs.toList=(Jj.map (fun zs=>zs.map fun z=>Value.int .i64 z)).flatten:=dp hlen _ rfl hrow;have hqa:cs=Ui:=by
  apply Array.ext';rw[hcs];rfl
 subst hqa;unfold World.var? at hvar;rw[VV]at hvar
 simp only[Option.bind_some]at hvar;split at hvar
 ·rename_i c t fr hh
  simp only[Option.some.injEq]at hvar;subst hvar;exact⟨t,fr,hh⟩
 ·cases hvar
theorem Zt {W : World} {cs : Array Value} {fuel : Nat} {p : List MemPlace} (hvar : World.var? prog W "conclave/order.needs" = some cs)
  (hd:DataW.trod (fun _=>()) prog W 0 (fun _=>true) false fuel 72 cs.toList=some (Rows.laid_conclave_order_needs,p)):NTab W:=by
 obtain⟨xs,m,_,hx,hl,hxl,hb⟩:=DataW.trod_array underlying72 hd;rw[cK]at hl
 rw[Vn]at hb
 have hT:cs.toList=MB.map (Value.int .i64):=by
  match xs,hxl with
  | [x0,x1,x2,x3],_ =>
   simp only[Rows.laid_conclave_order_needs,List.map_cons,List.map_nil,Prod.mk.injEq,DataW.agg.injEq,List.cons.injEq,and_true]at hx;obtain⟨⟨h0,h1,h2,h3⟩,_⟩:=hx;have r0:=FX (p:=x0.2) ((hb 0 (by omega)).trans (by rw[h0];rfl));have r1:=FX (p:=x1.2) ((hb 1 (by omega)).trans (by rw[h1];rfl));have r2:=FX (p:=x2.2) ((hb 2 (by omega)).trans (by rw[h2];rfl));have r3:=FX (p:=x3.2) ((hb 3 (by omega)).trans (by rw[h3];rfl));generalize cs.toList=l at hl r0 r1 r2 r3
   match l,hl with
   | [_,_,_,_,_,_,_,_,_,_,_,_],_ =>
    simp at r0 r1 r2 r3;simp[MB,r0,r1,r2,r3]
 have hT':cs=(MB.map (Value.int .i64)).toArray:=Array.ext' (by simpa using hT);subst hT';obtain⟨t,fr,hr⟩:=JS bB hvar;refine⟨(Array.getElem?_eq_some_iff.1 hr).1,fun i hi=>?_⟩;refine cell_of_row _ _ i _ _ _ hr |>.trans ?_;simp[List.getD,List.getElem?_map,List.getElem?_eq_getElem (show i<MB.length from hi)]
theorem fw:(Rows.laid_conclave_sha_roundWords:DataW Unit)=Lib.tabData .u32 QG:=by kernel_rfl
theorem X0 {W : World} {cs : Array Value} {fuel : Nat} {p : List MemPlace} (hvar : World.var? prog W "conclave/sha.roundWords" = some cs)
  (hd:DataW.trod (fun _=>()) prog W 0 (fun _=>true) false fuel 248 cs.toList=some (Rows.laid_conclave_sha_roundWords,p)):AC W:=by
 obtain⟨t,fr,hr⟩:=JS fo hvar;rw[fw]at hd
 have hc:=Lib.cells_of_tab underlying248 underlying245 Y5 Y6 hd;refine⟨(Array.getElem?_eq_some_iff.1 hr).1,fun i hi=>?_⟩;rw[cell_of_row _ _ i _ _ _ hr,← TC i hi];have h2:cs[i]?=cs.toList[i]?:=by simp
 rw[h2,hc,List.getElem?_map,List.getElem?_eq_getElem (show i<QG.length from hi),List.getD,List.getElem?_eq_getElem (show i<QG.length from hi)];rfl
def Wy(cs:Array Value):Obj→Obj
 | .cells _ t frozen=>.cells cs t frozen
 | o=>o
end
end Go.Proofs.YtfhbkoflaekhpabGreatDoor
