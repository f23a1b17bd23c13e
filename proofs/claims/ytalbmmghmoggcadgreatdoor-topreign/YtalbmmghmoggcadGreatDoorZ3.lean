/- Part 3 of the walk. -/
import Derived.Deep.MidRow
import Derived.Laws.Tables
import Derived.Laws.Rows
import Derived.Laws.CopyOwn
import Derived.Deep.RegionLaw
import Derived.Test.YtalbmmghmoggcadGreatDoorZ1
set_option maxRecDepth 100000
set_option maxHeartbeats 4000000
open Go.Proofs.Tryz
set_option linter.unusedVariables false
namespace Go.Proofs.YtalbmmghmoggcadGreatDoor
open Go.RowKit
section
theorem AC{a b:Int}(h:a=b):Ending.returned (.int .i64 a)=.returned (.int .i64 b):=by rw[h]
def chA(k:Value)(s t:Int)(l:List Bool):Array Value:=(k::.int .i64 s::.int .i64 t::l.map Value.bool).toArray
theorem F4(k:Value)(s t:Int)(l:List Bool):(chA k s t l).size=l.length+3:=by simp[chA]
theorem SI(k:Value)(s t:Int)(l:List Bool):(chA k s t l)[0]?=some k:=by simp[chA]
theorem OQ(k:Value)(s t:Int)(l:List Bool):(chA k s t l)[1]?=some (.int .i64 s):=by simp[chA]
theorem G1(l:List Bool)(hl:l.length=8):∃ b0 b1 b2 b3 b4 b5 b6 b7,l=[b0,b1,b2,b3,b4,b5,b6,b7]:=by
 match l,hl with
 | [b0,b1,b2,b3,b4,b5,b6,b7],_=>exact⟨b0,b1,b2,b3,b4,b5,b6,b7,rfl⟩
variable{P:Program}{b0 b1 b2 b3 b4 b5 b6 b7:Bool}{fn:Func}{fr:Nat × Nat}{g:Nat}{h:List Int}{l:List Bool}{n t:Int}{p u:Tmp}{ty:TypeId}{w:World}
theorem TU{k:Value}{s:Int}(h:w.heap[g]?=some (.cells (chA k s t [b0,b1,b2,b3,b4,b5,b6,b7]) ty fr)) :
  w.cell? ⟨g,0,none⟩=some k/\w.cell? ⟨g,1,none⟩=some (.int .i64 s)/\w.cell? ⟨g,2,none⟩=some (.int .i64 t)/\w.cell? ⟨g,3,none⟩=some (.bool b0)/\w.cell? ⟨g,4,none⟩=some (.bool b1)/\w.cell? ⟨g,5,none⟩=some (.bool b2)/\w.cell? ⟨g,6,none⟩=some (.bool b3)/\w.cell? ⟨g,7,none⟩=some (.bool b4)/\w.cell? ⟨g,8,none⟩=some (.bool b5)/\w.cell? ⟨g,9,none⟩=some (.bool b6)/\w.cell? ⟨g,10,none⟩=some (.bool b7) :=
 ⟨cell_of_row _ _ 0 _ _ _ h,cell_of_row _ _ 1 _ _ _ h,cell_of_row _ _ 2 _ _ _ h,cell_of_row _ _ 3 _ _ _ h,cell_of_row _ _ 4 _ _ _ h,cell_of_row _ _ 5 _ _ _ h,cell_of_row _ _ 6 _ _ _ h,cell_of_row _ _ 7 _ _ _ h,cell_of_row _ _ 8 _ _ _ h,cell_of_row _ _ 9 _ _ _ h,cell_of_row _ _ 10 _ _ _ h⟩
def wA(t:Int)(l:List Bool):Array Value:=(.int .i64 t::l.map Value.bool).toArray
theorem D3(t:Int)(l:List Bool):(wA t l).size=l.length+1:=by simp[wA]
theorem fo(t:Int)(l:List Bool):(wA t l)[0]?=some (.int .i64 t):=by simp[wA]
theorem Kl(t:Int)(l:List Bool)(i:Nat)(hi:i<l.length):(wA t l)[1+i]?=some (.bool (l.getD i false)):=by
 rw[mx];simp[wA,List.getD,List.getElem?_eq_getElem hi]
theorem OC(t:Int)(l:List Bool):(wA t l).all (·.oneCell')=true:=by simp[wA,Value.oneCell']
theorem LS(h:w.heap[g]?=some (.cells (wA t [b0,b1,b2,b3,b4,b5,b6,b7]) ty fr)) :
  w.cell? ⟨g,0,none⟩=some (.int .i64 t)/\w.cell? ⟨g,1,none⟩=some (.bool b0)/\w.cell? ⟨g,2,none⟩=some (.bool b1)/\w.cell? ⟨g,3,none⟩=some (.bool b2)/\w.cell? ⟨g,4,none⟩=some (.bool b3)/\w.cell? ⟨g,5,none⟩=some (.bool b4)/\w.cell? ⟨g,6,none⟩=some (.bool b5)/\w.cell? ⟨g,7,none⟩=some (.bool b6)/\w.cell? ⟨g,8,none⟩=some (.bool b7) :=
 ⟨cell_of_row _ _ 0 _ _ _ h,cell_of_row _ _ 1 _ _ _ h,cell_of_row _ _ 2 _ _ _ h,cell_of_row _ _ 3 _ _ _ h,cell_of_row _ _ 4 _ _ _ h,cell_of_row _ _ 5 _ _ _ h,cell_of_row _ _ 6 _ _ _ h,cell_of_row _ _ 7 _ _ _ h,cell_of_row _ _ 8 _ _ _ h⟩
def P9(t:Int)(l:List Bool)(x:Int):Bool:=decide (t-8<=x)&&decide (x<t)&&l.getD (x-(t-8)).toNat false
theorem Oh(t:Int)(l:List Bool)(k:Nat)(hk:k<8):P9 t l (t-8+k)=l.getD k false:=by
 unfold P9;rw[I' (by omega),I' (by omega),show(t-8+(k:Int)-(t-8)).toNat=k by omega];simp
theorem Th{x:Int}(h:t<=x):P9 t l x=false:=by
 unfold P9;rw[D' (show ¬ x<t by omega)];simp
structure OkC(key:List Int)(s t:Int)(l:List Bool):Prop where
 key:key.length=32
 s0:0<=s
 s1:s<=1073741824
 t0:0<=t
 t1:t<=1073741824
 low:∀ i:Nat,i<8->l.getD i false=true->0<=t-8+(i:Int)
 top:t=0\/l.getD 7 false=true
theorem aE(key:List Int)(s t:Int)(l:List Bool):OkC key s t l↔(key.length=32/\0<=s/\s<=1073741824/\0<=t/\t<=1073741824/\(∀ i,i<8->l.getD i false=true->0<=t-8+(i:Int))/\(t=0\/l.getD 7 false=true)) :=
 ⟨λh=>⟨h.1,h.2,h.3,h.4,h.5,h.6,h.7⟩,λh=>⟨h.1,h.2.1,h.2.2.1,h.2.2.2.1,h.2.2.2.2.1,h.2.2.2.2.2.1,h.2.2.2.2.2.2⟩⟩
instance (key:List Int) (s t:Int) (l:List Bool):Decidable (OkC key s t l):=decidable_of_iff _ (aE key s t l).symm
def R9(t:Int)(l:List Bool):Bool:=((List.range 8).all λi=>!l.getD i false||decide (0<=t-8+(i:Int)))&&(decide (t=0)||l.getD 7 false)
theorem FD(t:Int)(l:List Bool):R9 t l=true↔((∀ i:Nat,i<8->l.getD i false=true->0<=t-8+(i:Int))/\(t=0\/l.getD 7 false=true)):=by
 unfold R9;rw[iZ,kK,jS];constructor
 .rintro⟨h1,h2⟩;refine⟨λi hi hb=>?_,h2.imp jn id⟩;have h:=h1 i (kQ.2 hi);rw[hb]at h
  simpa using h
 .rintro⟨h1,h2⟩;refine⟨λi hi=>?_,h2.imp I' id⟩;cases hb:l.getD i false with
  | true=>simpa using h1 i (kQ.1 hi) hb
  | false=>rfl
def Em(key:List Int)(s t:Int)(l:List Bool):Int:=if OkC key s t l then 0 else 5
def GQ(t:Int)(l:List Bool)(n:Int):Bool:=decide (n<t)&&(decide (n<t-8)||P9 t l n)
def Gu(t n:Int):Int:=if t<=n then n+1 else t
def JU(t:Int)(l:List Bool)(n:Int):List Bool:=(List.range 8).map λk:Nat=>decide (Gu t n-8+(k:Int)=n)||P9 t l (Gu t n-8+(k:Int))
theorem Ee(t:Int)(l:List Bool)(n:Int):(JU t l n).length=8:=by simp[JU]
theorem Tv(t:Int)(l:List Bool)(n:Int)(k:Nat)(hk:k<8):(JU t l n).getD k false=(decide (Gu t n-8+(k:Int)=n)||P9 t l (Gu t n-8+(k:Int))):=by
 simp[JU,List.getD,hk]
def noB:List Bool:=List.replicate 8 false
theorem GO:noB.length=8:=rfl
theorem eh(k:Nat):noB.getD k false=false:=by
 rw[noB,jd,List.getElem?_replicate];split<;>rfl
theorem OkC.new{key:List Int}(hk:key.length=32)(s:Int)(h0:0<=s)(h1:s<=1073741824):OkC key s 0 noB :=
 ⟨hk,h0,h1,by omega,by omega,(λi _ h=>by rw[eh]at h;exact absurd h (by simp)),.inl rfl⟩
theorem Tl(h:t<=n):GQ t l n=false:=by unfold GQ;rw[D' (by omega)];simp
theorem aF(h:t-8<=n):GQ t l n=P9 t l n:=by
 by_cases h2:n<t
 .unfold GQ;rw[I' h2,D' (show ¬ n<t-8 by omega)];simp
 .rw[Tl (by omega),Th (by omega)]
theorem PJ(h:n<t-8):GQ t l n=true:=by unfold GQ;rw[I' (show n<t by omega),I' h];simp
def Ad(n:Int):List Int:=[n/16777216%256,n/65536%256,n/256%256,n%256]
def Bm(h:List Int):List Int:=List.replicate 8 0++h
def EW(h:List Int):Int:=16777216*h.getD 0 0+65536*h.getD 1 0+256*h.getD 2 0+h.getD 3 0
theorem Cm(n:Int):(Ad n).length=4:=rfl
theorem AU(n:Int):∀ x∈Ad n,0<=x/\x<256:=by
 intro x hx;simp only[Ad,iX,M',or_false]at hx;rcases hx with rfl|rfl|rfl|rfl<;>omega
theorem G3(hh:h.length=4):(Bm h).length=12:=by simp[Bm,hh]
theorem PH(hb:∀ x∈h,0<=x/\x<256):∀ x∈Bm h,0<=x/\x<256:=by
 intro x hx;rcases V'.1 hx with h1|h1
 .rw[(lh.1 h1).2];omega
 .exact hb x h1
theorem iu(h:List Int)(hh:h.length=4):∃ a b c d,h=[a,b,c,d]:=by
 match h,hh with
 | [a,b,c,d],_=>exact⟨a,b,c,d,rfl⟩
theorem Lh(hh:h.length=4)(hb:∀ x∈h,0<=x/\x<256):0<=EW h/\EW h<4294967296:=by
 obtain⟨a,b,c,d,rfl⟩:=iu h hh;have h1:=hb a (by simp);have h2:=hb b (by simp);have h3:=hb c (by simp);have h4:=hb d (by simp);show 0<=16777216*a+65536*b+256*c+d/\16777216*a+65536*b+256*c+d<4294967296;omega
theorem JA(hl:l.length=8):(prog.info? 137).map (·.size)=some (wA t l).size:=by rw[D3,hl];kernel_rfl
theorem Ig(h:fn.results=#[.cell p ty,.tmp u])(tmps:Array Value)(w:World)(g:Nat)(t:TypeId)(cs:Array Value)(fr:Nat × Nat)(d:TypeDesc)(hp:tmps.getD p undef=.pointer (some ⟨g,0,none⟩))(hg:w.heap[g]?=some (.cells cs t fr))(hu:P.underlying ty=some d)(hd:(match d with|.struct _|.array _ _=>true|_=>false)=true)(hi:(P.info? ty).map (·.size)=some cs.size) :
  (results fn tmps).run P w=.ok (.tuple #[.agg cs,tmps.getD u undef]) w:=by
 have hp':tmps[p]?.getD undef=.pointer (some ⟨g,0,none⟩):=by simpa using hp
 simp[results,h,hp',asAddr,run_loadVar_row w g t ty cs fr d hg hu hd hi]
theorem Fd{v:Tmp}(h:fn.results=#[.cell p ty,.tmp u,.tmp v])(tmps:Array Value)(w:World)(g:Nat)(t:TypeId)(cs:Array Value)(fr:Nat × Nat)(d:TypeDesc)(hp:tmps.getD p undef=.pointer (some ⟨g,0,none⟩))(hg:w.heap[g]?=some (.cells cs t fr))(hu:P.underlying ty=some d)(hd:(match d with|.struct _|.array _ _=>true|_=>false)=true)(hi:(P.info? ty).map (·.size)=some cs.size) :
  (results fn tmps).run P w=.ok (.tuple #[.agg cs,tmps.getD u undef,tmps.getD v undef]) w:=by
 have hp':tmps[p]?.getD undef=.pointer (some ⟨g,0,none⟩):=by simpa using hp
 simp[results,h,hp',asAddr,run_loadVar_row w g t ty cs fr d hg hu hd hi]
def blA(l:List Bool):Array Value:=(l.map Value.bool).toArray
theorem to8{j:Nat}(h:j<8):j=0\/j=1\/j=2\/j=3\/j=4\/j=5\/j=6\/j=7:=by omega
theorem VN(S:List Bool)(hS:S.length=8)(j:Nat)(hj:j<8):∀ w,(Instr.index 53 (.agg (blA S)) (.int .i64 (j:Int))).run prog w=.ok (.bool (S.getD j false)) w:=by
 intro w;obtain⟨b0,b1,b2,b3,b4,b5,b6,b7,rfl⟩:=G1 S hS;rcases to8 hj with rfl|rfl|rfl|rfl|rfl|rfl|rfl|rfl;all_goals kernel_rfl
theorem Fk(k:Value)(s t:Int)(l:List Bool)(w:World)(hl:l.length=8) :
  Calls prog 63 #[.agg (chA k s t l)] w λe w'=>e=.returned (.agg (wA t l))/\Bw w w':=by
 obtain⟨b0,b1,b2,b3,b4,b5,b6,b7,rfl⟩:=G1 l hl;simp only[chA,wA,List.map];go_enter func63,ntmps63
 go_wp2
 exact bodyPost_ret (v:=.agg (wA t [b0,b1,b2,b3,b4,b5,b6,b7])) (results_cell_row rfl _ _ (w.heap.size+1) 137 _ (0,0) _ rfl (heap_alloc2_new _ _ _) underlying137 rfl (JA rfl)) rfl ⟨rfl,((Below.refl _ _).alloc (A' _) _).alloc (by simp) _⟩
theorem DG(t:Int)(l:List Bool)(w:World)(hl:l.length=8)(t0:-1000<=t)(t1:t<=4611686018427387904) :
  Calls prog 102 #[.agg (wA t l)] w λe w'=>e=.returned (.int .i64 (t-8))/\Bw w w':=by
 obtain⟨b0,b1,b2,b3,b4,b5,b6,b7,rfl⟩:=G1 l hl;simp only[wA,List.map];go_enter func102,ntmps102
 go_wp2
 go_ret;exact⟨rfl,(Below.refl _ _).alloc (A' _) _⟩
theorem Ux(t n:Int)(l:List Bool)(w:World)(hl:l.length=8)(t0:0<=t)(t1:t<=1073741824)(n0:0<=n)(n1:n<1073741824) :
  Calls prog 203 #[.agg (wA t l),.int .i64 n] w λe w'=>e=.returned (.bool (GQ t l n))/\Bw w w':=by
 have hl':=hl;obtain⟨b0,b1,b2,b3,b4,b5,b6,b7,rfl⟩:=G1 l hl;simp only[wA,List.map];by_cases h1:t<=n
 .have HO:Hid (false=GQ t [b0,b1,b2,b3,b4,b5,b6,b7] n):=(Tl h1).symm;go_enter func203,ntmps203
  go_wp2
  go_ret;exact⟨Ae HO.out,(Below.refl _ _).alloc (A' _) _⟩
 .have hb:Bw w (w.alloc (.cells (wA t [b0,b1,b2,b3,b4,b5,b6,b7]) 137)):=(Below.refl _ _).alloc (A' _) _;go_enter func203,ntmps203
  go_wp2_with fail
  have hrow:(w.alloc (.cells (wA t [b0,b1,b2,b3,b4,b5,b6,b7]) 137)).heap[w.heap.size]?=some (.cells (wA t [b0,b1,b2,b3,b4,b5,b6,b7]) 137 (0,0)):=heap_alloc_new _ _;refine(DG t [b0,b1,b2,b3,b4,b5,b6,b7] _ rfl (by omega) (by omega)).mono ?_;rintro e w1 ⟨rfl,c1⟩;have d1:Bw w w1:=hb.trans (c1.mono (by simp));replace hrow:=(c1.block w.heap.size (by simp)).trans hrow;clear hb c1;by_cases h2:n<t-8
  .have HO:Hid (true=GQ t [b0,b1,b2,b3,b4,b5,b6,b7] n):=(PJ h2).symm;go_wp2
   go_ret;exact⟨Ae HO.out,d1⟩
  .have h3:n<t:=by omega
   obtain⟨i,hi,hn⟩:∃ i:Nat,i<8/\n=t-8+(i:Int):=⟨(n-(t-8)).toNat,by omega,by omega⟩;have HO:Hid (GQ t [b0,b1,b2,b3,b4,b5,b6,b7] n=[b0,b1,b2,b3,b4,b5,b6,b7].getD i false):=by
    unfold Hid;rw[aF (by omega),hn,Oh _ _ _ hi]
   have HN:Hid (n=t-8+(i:Int)):=hn;have cs:=(cell_of_row _ _ (1+i) _ _ _ hrow).trans (Kl t _ i hi);obtain⟨c0,c1,c2,c3,c4,c5,c6,c7,c8⟩:=LS hrow;have hz:w.heap.size<w1.heap.size:=(H'.1 hrow).1;clear hn;generalize [b0,b1,b2,b3,b4,b5,b6,b7].getD i false=c at cs HO;go_wp2_with fail
   refine(DG t [b0,b1,b2,b3,b4,b5,b6,b7] _ rfl (by omega) (by omega)).mono ?_;rintro e w2 ⟨rfl,e2⟩;have d2:Bw w w2:=d1.trans (e2.mono d1.size);replace cs:=(e2.cell (p:=⟨w.heap.size,1+i,none⟩) hz).trans cs;have hii:n-(t-8)=(i:Int):=by have:=HN.out;omega
   clear c0 c1 c2 c3 c4 c5 c6 c7 c8 hrow e2;go_wp2
   go_ret;exact⟨Ae (by rw[HO.out,D' (by omega),lx]),d2⟩
theorem UB(t:Int)(l:List Bool)(w:World)(hl:l.length=8)(t0:0<=t)(t1:t<=1073741824) :
  Calls prog 64 #[.agg (wA t l)] w λe w'=>e=.returned (.bool (R9 t l))/\Bw w w':=by
 have HS:Hid (∀ i:Nat,i<8->∀ w,(Instr.index 53 (.agg (blA l)) (.int .i64 (i:Int))).run prog w=.ok (.bool (l.getD i false)) w):=λi hi=>VN l hl i hi;obtain⟨b0,b1,b2,b3,b4,b5,b6,b7,rfl⟩:=G1 l hl;simp only[wA,blA,List.map]at HS ⊢;go_enter func64,ntmps64
 go_wp2_with fail
 have hrow:(w.alloc (.cells (wA t [b0,b1,b2,b3,b4,b5,b6,b7]) 137)).heap[w.heap.size]?=some (.cells (wA t [b0,b1,b2,b3,b4,b5,b6,b7]) 137 (0,0)):=heap_alloc_new _ _;have hsz:(w.alloc (.cells (wA t [b0,b1,b2,b3,b4,b5,b6,b7]) 137)).heap.size=w.heap.size+1:=by simp
 have b0':Bw w (w.alloc (.cells (wA t [b0,b1,b2,b3,b4,b5,b6,b7]) 137)):=(Below.refl _ _).alloc (A' _) _;simp only[wA,List.map]at hrow hsz b0';generalize w.alloc (.cells #[.int .i64 t,.bool b0,.bool b1,.bool b2,.bool b3,.bool b4,.bool b5,.bool b6,.bool b7] 137)=W0 at hrow hsz b0' ⊢;generalize (#[.bool b0,.bool b1,.bool b2,.bool b3,.bool b4,.bool b5,.bool b6,.bool b7]:Array Value)=S at HS ⊢
 go_loopw [7] (λiv wr=>∃ i:Nat,i<=8/\iv=.int .i64 i/\Hid (∀ j:Nat,j<i->[b0,b1,b2,b3,b4,b5,b6,b7].getD j false=true->0<=t-8+(j:Int))/\Below (w.heap.size+1) W0 wr) (λiv _=>8-(intOf iv).toNat)
 case atStart=>exact⟨0,by omega,rfl,λj hj=>by omega,Below.refl _ _⟩
 case round =>
  obtain⟨i,hi,rfl,hold,hbel⟩:=hrel;have hr:=(hbel.block w.heap.size (by omega)).trans hrow;obtain⟨c0,c1,c2,c3,c4,c5,c6,c7,c8⟩:=LS hr;have dW:Bw w wr:=b0'.trans (hbel.mono (by omega));have hzr:=hbel.size;by_cases hi8:i<8
  .have hii:(i:Int)<8:=by omega
   have hx:=HS.out i hi8;cases hb:[b0,b1,b2,b3,b4,b5,b6,b7].getD i false with
   | true =>
    rw[hb]at hx
    have HBI:Hid ([b0,b1,b2,b3,b4,b5,b6,b7].getD i false=true):=hb;clear hb hr;go_wp2_with fail
    refine(DG t [b0,b1,b2,b3,b4,b5,b6,b7] _ rfl (by omega) (by omega)).mono ?_;rintro e w2 ⟨rfl,e2⟩;have d2:Bw w w2:=dW.trans (e2.mono dW.size);have hb2:Below (w.heap.size+1) W0 w2:=hbel.trans (e2.mono (by omega));clear c0 c1 c2 c3 c4 c5 c6 c7 c8 e2 hbel;by_cases hneg:t-8+(i:Int)<0
    .have HF:Hid (false=R9 t [b0,b1,b2,b3,b4,b5,b6,b7]):=by
      unfold Hid;symm;rw[kO];intro hm;have:=((FD _ _).1 hm).1 i hi8 HBI.out;omega
     go_wp2
     go_ret;exact⟨Ae HF.out,d2⟩
    .go_wp2
     go_roundw
     case rel =>
      refine⟨i+1,by omega,by go_num,?_,hb2⟩;intro j hj hbj;rcases jt j i with h|h
      .exact hold.out j h hbj
      .obtain rfl:j=i:=by omega
       omega
     case measure=>simp[intOf];omega
   | false =>
    rw[hb]at hx
    have HBI:Hid ([b0,b1,b2,b3,b4,b5,b6,b7].getD i false=false):=hb;clear hb hr;go_wp2
    go_roundw
    case rel =>
     refine⟨i+1,by omega,by go_num,?_,hbel⟩;intro j hj hbj;rcases jt j i with h|h
     .exact hold.out j h hbj
     .obtain rfl:j=i:=by omega
      rw[HBI.out]at hbj
      cases hbj
    case measure=>simp[intOf];omega
  .obtain rfl:i=8:=by omega
   rw[show((8:Nat):Int)=8 from rfl];have HM:Hid ((decide (t=0)||b7)=R9 t [b0,b1,b2,b3,b4,b5,b6,b7]):=by
    unfold Hid;rw[my,FD,kK];constructor
    .intro h;exact⟨hold.out,h.imp jn id⟩
    .intro h;exact h.2.imp I' id
   clear hr HS;go_wp2
   all_goals
    rename_i ht
    go_ret;refine⟨Ae ?_,dW⟩;rw[<- HM.out];simp[ht]
theorem WX:(prog.info? 4).map (·.size)=some 1:=by kernel_rfl
theorem eO(w:World):(Go.sizeOf 4).run prog w=.ok 1 w:=by
 have h:=WX;cases hi:prog.info? 4 with
 | none=>rw[hi]at h;cases h
 | some i =>
  rw[hi]at h
  simp only[jC,X']at h;simp[sizeOf,typeInfo,hi,h]
theorem VI(B d:Nat)(hd:d<=8):∃ ad,(∀ W,(Instr.sliceAt 53 (.pointer (some ⟨B,1,none⟩)) (some (.int .i64 (d:Int))) none none).run prog W=.ok (.slice (some ad) (8-d) (8-d)) W)/\(0<8-d->ad=⟨B,1+d,none⟩):=by
 refine⟨if 8=d then⟨B,1,none⟩else(⟨B,1,none⟩:Addr).add (d*1),λW=>?_,λh=>?_⟩
 .have e1:prog.arrayLen 53=8:=by kernel_rfl
  have e2:prog.elem 53=4:=by kernel_rfl
  rw[run_sliceAt_array_l (P:=prog) W 53 _ underlying53 .i64 _ (by omega) (by rw[e1];omega),e1,e2,eO];simp[Result.andThen,slicedAt]
 .rw[if_neg (by omega),mG];exact Addr.add_mid B 1 d
theorem WS(w:World)(a b c:Obj):(((w.alloc a).alloc b).alloc c).heap[w.heap.size]?=some a/\(((w.alloc a).alloc b).alloc c).heap[w.heap.size+1]?=some b/\(((w.alloc a).alloc b).alloc c).heap[w.heap.size+1+1]?=some c:=by
 have hb:Below ((w.alloc a).alloc b).heap.size ((w.alloc a).alloc b) (((w.alloc a).alloc b).alloc c):=(Below.refl _ _).alloc (A' _) _;have hz:((w.alloc a).alloc b).heap.size=w.heap.size+1+1:=by simp
 have h2:=heap_alloc_new ((w.alloc a).alloc b) c;rw[hz]at h2 hb
 exact⟨(hb.block _ (by omega)).trans (heap_alloc2_old _ _ _),(hb.block _ (by omega)).trans (heap_alloc2_new _ _ _),h2⟩
theorem V6(n:Int)(l:List Bool)(hl:l.length=8)(d:Nat)(h1:1<=d)(h8:d<=8):(splice [.int .i64 n,.bool false,.bool false,.bool false,.bool false,.bool false,.bool false,.bool false,.bool false] 1 ((l.drop d).map Value.bool)).toArray=wA n (l.drop d++List.replicate d false):=by
 obtain⟨b0,b1,b2,b3,b4,b5,b6,b7,rfl⟩:=G1 l hl;have:d=1\/d=2\/d=3\/d=4\/d=5\/d=6\/d=7\/d=8:=by omega
 rcases this with rfl|rfl|rfl|rfl|rfl|rfl|rfl|rfl<;>rfl
theorem Se(t n:Int)(l:List Bool)(w:World)(hl:l.length=8)(t0:0<=t)(t1:t<=1073741824)(n0:t<n)(n1:n<=1073741824)(d:Nat)(hd:d=min (n-t).toNat 8) :
  Calls prog 205 #[.agg (wA t l),.int .i64 n] w λe w'=>e=.returned (.agg (wA n (l.drop d++List.replicate d false)))/\Bw w w':=by
 obtain⟨b0,b1,b2,b3,b4,b5,b6,b7,rfl⟩:=G1 l hl;simp only[wA,List.map];go_enter func205,ntmps205
 have hm:(if 8<n-t then 8 else n-t)=(d:Int):=by split<;>omega
 have hwr:IntKind.i64.wrap (n-t)=n-t:=by rw[IntKind.wrap_i64];omega
 have hdz:1<=d/\d<=8:=by omega
 obtain⟨ad,hsl,had⟩:=VI w.heap.size d (by omega);clear hd;have HR:Hid (∀ w':World,Below (w.heap.size+1+1) (((w.alloc (.cells (wA t [b0,b1,b2,b3,b4,b5,b6,b7]) 137)).alloc (.cells (wA 0 [false,false,false,false,false,false,false,false]) 137)).alloc (.cells (wA n [false,false,false,false,false,false,false,false]) 137)).drew w'->Bw w w'/\w'.heap[w.heap.size+1]?=some (.cells (wA 0 [false,false,false,false,false,false,false,false]) 137 (0,0))):=by
  intro w' hb;obtain⟨_,e1,_⟩:=WS w (.cells (wA t [b0,b1,b2,b3,b4,b5,b6,b7]) 137) (.cells (wA 0 [false,false,false,false,false,false,false,false]) 137) (.cells (wA n [false,false,false,false,false,false,false,false]) 137);refine⟨((((Below.refl _ _).alloc (A' _) _).alloc (by simp) _).alloc (by simp;omega) _).drew.trans (hb.mono (by omega)),?_⟩;exact(hb.block (w.heap.size+1) (by omega)).trans e1
 have HC:Hid (∀ j v,(([b0,b1,b2,b3,b4,b5,b6,b7].drop d).map Value.bool)[j]?=some v->(((w.alloc (.cells (wA t [b0,b1,b2,b3,b4,b5,b6,b7]) 137)).alloc (.cells (wA 0 [false,false,false,false,false,false,false,false]) 137)).alloc (.cells (wA n [false,false,false,false,false,false,false,false]) 137)).drew.cell? (ad.add j)=some v):=by
  intro j v hj;have hjl:j<8-d:=by simpa using(Q'.1 hj).1
  rw[had (by omega),Addr.add_mid];obtain⟨e0,_,_⟩:=WS w (.cells (wA t [b0,b1,b2,b3,b4,b5,b6,b7]) 137) (.cells (wA 0 [false,false,false,false,false,false,false,false]) 137) (.cells (wA n [false,false,false,false,false,false,false,false]) 137);have h1:=(cell_of_row _ _ (1+(d+j)) _ _ _ e0).trans (Kl t _ (d+j) (by simp;omega));rw[jI];refine Eq.trans h1 ?_;rw[jh,jB]at hj
  rw[<- hj,List.getD,E' (show d+j<[b0,b1,b2,b3,b4,b5,b6,b7].length by simp;omega)];rfl
 obtain⟨_,_,e2⟩:=WS w (.cells (wA t [b0,b1,b2,b3,b4,b5,b6,b7]) 137) (.cells (wA 0 [false,false,false,false,false,false,false,false]) 137) (.cells (wA n [false,false,false,false,false,false,false,false]) 137);have HG:Hid _:=e2;clear e2;go_wp2_with fail
 go_region_law (refine step_copy_splice rfl (.tmp 9) (.tmp 16) 282 282 rfl 4 underlying282 WX _ _ _ _ _ _ rfl rfl (w.heap.size+1+1) 1 [.int .i64 n,.bool false,.bool false,.bool false,.bool false,.bool false,.bool false,.bool false,.bool false] 137 HG.out (([b0,b1,b2,b3,b4,b5,b6,b7].drop d).map Value.bool) (by simp) (λhp=>⟨rfl,ad,rfl,HC.out⟩) (by simp;omega) (by intro v hv;obtain⟨x,_,rfl⟩:=ju.1 hv;rfl) (w.heap.size+1+1) _ (Below.refl _ _) (A' _) ?_;intro w4 H4 hb4)
 obtain⟨d4,r4⟩:=HR.out w4 hb4;have hl8:([b0,b1,b2,b3,b4,b5,b6,b7].drop d++List.replicate d false).length=8:=by simp;omega
 have h4:=H4.out;rw[V6 n _ rfl d hdz.1 hdz.2]at h4
 generalize hR:[b0,b1,b2,b3,b4,b5,b6,b7].drop d++List.replicate d false=R at hl8 h4;have HRR:Hid ([b0,b1,b2,b3,b4,b5,b6,b7].drop d++List.replicate d false=R):=hR;clear hR;have hi:=JA (t:=n) hl8;have hz:=(H'.1 h4).1;clear HR HC HG hb4 H4;go_wp2_with (first
  | (refine wpList_load_row rfl 137 _ rfl (w.heap.size+1+1) rfl 137 _ (0,0) _ h4 underlying137 rfl hi ?_)
  | (refine wpList_store_row rfl 137 _ _ rfl (w.heap.size+1) _ rfl rfl 137 _ r4 hi (by rw[D3,D3,hl8];rfl) (OC n R) ?_))
 exact bodyPost_ret (v:=.agg (wA n R)) (results_cell_row rfl _ _ (w.heap.size+1) 137 _ (0,0) _ rfl (setRow_heap w4 (w.heap.size+1) _ _ 137 _ r4) underlying137 rfl hi) rfl ⟨by rw[<- HRR.out];rfl,below_setRow d4 (by omega) _⟩
theorem fm(t:Int)(l:List Bool)(i:Nat)(x:Bool):(wA t l).setIfInBounds (1+i) (.bool x)=wA t (l.set i x):=by
 apply ky;rw[mx];simp[wA,List.map_set]
theorem Q3(h:w.heap[g]?=some (.cells (wA t l) ty (0,0)))(k:Nat)(x:Bool) :
  (w.setCell ⟨g,1+k,none⟩ (.bool x)).heap[g]?=some (.cells (wA t (l.set k x)) ty (0,0)):=by
 rw[heap_setCell_same _ _ _ _ _ _ h,fm]
theorem P5{a b:List Bool}(ha:a.length=8)(hb:b.length=8)(h:∀ k,k<8->a.getD k false=b.getD k false):a=b:=by
 apply kU (by omega);intro k h1 h2;have:=h k (by omega);simpa[List.getD,List.getElem?_eq_getElem h1,List.getElem?_eq_getElem h2]using this
theorem Qi(l:List Bool)(i k:Nat)(x:Bool)(hi:i<l.length):(l.set i x).getD k false=if k=i then x else l.getD k false:=by
 rw[List.getD,List.getElem?_set,List.getD];by_cases h:i=k
 .subst h;simp[hi]
 .rw[if_neg h,if_neg (λe=>h e.symm)]
theorem Y8(t n:Int)(l:List Bool)(hl:l.length=8)(h1:n<t)(i:Nat)(hi:i<8)(hn:n=t-8+(i:Int)):JU t l n=l.set i true/\Gu t n=t:=by
 have hT:Gu t n=t:=by unfold Gu;rw[if_neg (by omega)]
 refine⟨P5 (Ee _ _ _) (by simp[hl]) λk hk=>?_,hT⟩;rw[Tv _ _ _ _ hk,hT,Oh t l k hk,Qi _ _ _ _ (by omega)];by_cases h:k=i
 .rw[if_pos h,I' (by omega)];rfl
 .rw[if_neg h,D' (by omega)];rfl
theorem Sc(l:List Bool)(hl:l.length=8)(d k:Nat)(hk:k<8)(hd:d<=8):(l.drop d++List.replicate d false).getD k false=if d+k<8 then l.getD (d+k) false else false:=by
 by_cases h:d+k<8
 .rw[if_pos h,List.getD,iT (by simp;omega),jB,List.getD]
 .rw[if_neg h,List.getD,iV (by simp;omega),List.getElem?_replicate];split<;>rfl
theorem Vr(t n:Int)(l:List Bool)(hl:l.length=8)(h1:t<=n)(d:Nat)(hd:d=min (n+1-t).toNat 8):JU t l n=(l.drop d++List.replicate d false).set 7 true/\Gu t n=n+1:=by
 have hT:Gu t n=n+1:=by unfold Gu;rw[if_pos h1]
 refine⟨P5 (Ee _ _ _) (by simp;omega) λk hk=>?_,hT⟩;rw[Tv _ _ _ _ hk,hT,Qi _ _ _ _ (by simp;omega),Sc l hl d k hk (by omega)];by_cases h:k=7
 .rw[if_pos h,I' (by omega)];rfl
 .rw[if_neg h,D' (by omega),lx];by_cases h2:d+k<8
  .rw[if_pos h2,show n+1-8+(k:Int)=t-8+((d+k:Nat):Int)by omega,Oh _ _ _ h2]
  .rw[if_neg h2,Th (by omega)]
end
end Go.Proofs.YtalbmmghmoggcadGreatDoor
