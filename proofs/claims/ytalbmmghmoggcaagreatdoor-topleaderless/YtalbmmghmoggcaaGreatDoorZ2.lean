/- Part 2 of the walk. -/
import Derived.Deep.MidRow
import Derived.Laws.Tables
import Derived.Laws.Rows
import Derived.Deep.RegionLaw
import Derived.Deep.RegionHeld3
import Derived.Laws.CopyRow
import Derived.Deep.Cut
import Derived.Laws.Strings2
import Derived.Test.YtalbmmghmoggcaaGreatDoorCards
import Derived.Test.YtalbmmghmoggcaaGreatDoorTie
import Derived.SizedLaws
import Derived.ChangeOld
import Derived.ChangeSame
import Derived.ChangeMaps5
import Derived.Deep.DeepHandedRow
import Derived.Lib.LaidTab
import Derived.Deep.Strs
import Derived.Test.YtalbmmghmoggcaaGreatDoorZ1
set_option maxRecDepth 100000
set_option maxHeartbeats 4000000
open Go.Proofs.Tryz
set_option linter.unusedVariables false
namespace Go.Proofs.YtalbmmghmoggcaaGreatDoor
section
open Go.RowKit
theorem Az{a b:Int}(h:a=b):Ending.returned (.int .i64 a)=.returned (.int .i64 b):=by rw[h]
def chA(k:Value)(s t:Int)(l:List Bool):Array Value:=(k::.int .i64 s::.int .i64 t::l.map Value.bool).toArray
theorem EV(k:Value)(s t:Int)(l:List Bool):(chA k s t l).size=l.length+3:=by simp[chA]
theorem Rp(k:Value)(s t:Int)(l:List Bool):(chA k s t l)[0]?=some k:=by simp[chA]
theorem Nv(k:Value)(s t:Int)(l:List Bool):(chA k s t l)[1]?=some (.int .i64 s):=by simp[chA]
theorem FS(l:List Bool)(hl:l.length=8):∃ b0 b1 b2 b3 b4 b5 b6 b7,l=[b0,b1,b2,b3,b4,b5,b6,b7]:=by
 match l,hl with
 | [b0,b1,b2,b3,b4,b5,b6,b7],_=>exact⟨b0,b1,b2,b3,b4,b5,b6,b7,rfl⟩
theorem Sz{w:World}{g:Nat}{k:Value}{s t:Int}{b0 b1 b2 b3 b4 b5 b6 b7:Bool}{ty:TypeId}{fr:Nat × Nat}(h:w.heap[g]?=some (.cells (chA k s t [b0,b1,b2,b3,b4,b5,b6,b7]) ty fr)) :
  w.cell? ⟨g,0,none⟩=some k/\w.cell? ⟨g,1,none⟩=some (.int .i64 s)/\w.cell? ⟨g,2,none⟩=some (.int .i64 t)/\w.cell? ⟨g,3,none⟩=some (.bool b0)/\w.cell? ⟨g,4,none⟩=some (.bool b1)/\w.cell? ⟨g,5,none⟩=some (.bool b2)/\w.cell? ⟨g,6,none⟩=some (.bool b3)/\w.cell? ⟨g,7,none⟩=some (.bool b4)/\w.cell? ⟨g,8,none⟩=some (.bool b5)/\w.cell? ⟨g,9,none⟩=some (.bool b6)/\w.cell? ⟨g,10,none⟩=some (.bool b7) :=
 ⟨cell_of_row _ _ 0 _ _ _ h,cell_of_row _ _ 1 _ _ _ h,cell_of_row _ _ 2 _ _ _ h,cell_of_row _ _ 3 _ _ _ h,cell_of_row _ _ 4 _ _ _ h,cell_of_row _ _ 5 _ _ _ h,cell_of_row _ _ 6 _ _ _ h,cell_of_row _ _ 7 _ _ _ h,cell_of_row _ _ 8 _ _ _ h,cell_of_row _ _ 9 _ _ _ h,cell_of_row _ _ 10 _ _ _ h⟩
def wA(t:Int)(l:List Bool):Array Value:=(.int .i64 t::l.map Value.bool).toArray
theorem Dg(t:Int)(l:List Bool):(wA t l).size=l.length+1:=by simp[wA]
theorem dh(t:Int)(l:List Bool):(wA t l)[0]?=some (.int .i64 t):=by simp[wA]
theorem J3(t:Int)(l:List Bool)(i:Nat)(hi:i<l.length):(wA t l)[1+i]?=some (.bool (l.getD i false)):=by
 rw[Nat.add_comm];simp[wA,List.getD,List.getElem?_eq_getElem hi]
theorem Nj(t:Int)(l:List Bool):(wA t l).all (·.oneCell')=true:=by simp[wA,Value.oneCell']
theorem KL{w:World}{g:Nat}{t:Int}{b0 b1 b2 b3 b4 b5 b6 b7:Bool}{ty:TypeId}{fr:Nat × Nat}(h:w.heap[g]?=some (.cells (wA t [b0,b1,b2,b3,b4,b5,b6,b7]) ty fr)) :
  w.cell? ⟨g,0,none⟩=some (.int .i64 t)/\w.cell? ⟨g,1,none⟩=some (.bool b0)/\w.cell? ⟨g,2,none⟩=some (.bool b1)/\w.cell? ⟨g,3,none⟩=some (.bool b2)/\w.cell? ⟨g,4,none⟩=some (.bool b3)/\w.cell? ⟨g,5,none⟩=some (.bool b4)/\w.cell? ⟨g,6,none⟩=some (.bool b5)/\w.cell? ⟨g,7,none⟩=some (.bool b6)/\w.cell? ⟨g,8,none⟩=some (.bool b7) :=
 ⟨cell_of_row _ _ 0 _ _ _ h,cell_of_row _ _ 1 _ _ _ h,cell_of_row _ _ 2 _ _ _ h,cell_of_row _ _ 3 _ _ _ h,cell_of_row _ _ 4 _ _ _ h,cell_of_row _ _ 5 _ _ _ h,cell_of_row _ _ 6 _ _ _ h,cell_of_row _ _ 7 _ _ _ h,cell_of_row _ _ 8 _ _ _ h⟩
def Om(t:Int)(l:List Bool)(x:Int):Bool:=decide (t-8<=x)&&decide (x<t)&&l.getD (x-(t-8)).toNat false
theorem MG(t:Int)(l:List Bool)(k:Nat)(hk:k<8):Om t l (t-8+k)=l.getD k false:=by
 unfold Om;rw[decide_eq_true (by omega),decide_eq_true (by omega),show(t-8+(k:Int)-(t-8)).toNat=k by omega];simp
theorem RC{t:Int}{l:List Bool}{x:Int}(h:t<=x):Om t l x=false:=by
 unfold Om;rw[decide_eq_false (show ¬ x<t by omega)];simp
structure OkC(key:List Int)(s t:Int)(l:List Bool):Prop where
 key:key.length=32
 s0:0<=s
 s1:s<=1073741824
 t0:0<=t
 t1:t<=1073741824
 low:∀ i:Nat,i<8->l.getD i false=true->0<=t-8+(i:Int)
 top:t=0\/l.getD 7 false=true
theorem Y4(key:List Int)(s t:Int)(l:List Bool):OkC key s t l↔(key.length=32/\0<=s/\s<=1073741824/\0<=t/\t<=1073741824/\(∀ i,i<8->l.getD i false=true->0<=t-8+(i:Int))/\(t=0\/l.getD 7 false=true)) :=
 ⟨fun h=>⟨h.1,h.2,h.3,h.4,h.5,h.6,h.7⟩,fun h=>⟨h.1,h.2.1,h.2.2.1,h.2.2.2.1,h.2.2.2.2.1,h.2.2.2.2.2.1,h.2.2.2.2.2.2⟩⟩
instance (key:List Int) (s t:Int) (l:List Bool):Decidable (OkC key s t l):=decidable_of_iff _ (Y4 key s t l).symm
def Qp(t:Int)(l:List Bool):Bool:=((List.range 8).all fun i=>!l.getD i false||decide (0<=t-8+(i:Int)))&&(decide (t=0)||l.getD 7 false)
theorem Ff(t:Int)(l:List Bool):Qp t l=true↔((∀ i:Nat,i<8->l.getD i false=true->0<=t-8+(i:Int))/\(t=0\/l.getD 7 false=true)):=by
 unfold Qp;rw[Bool.and_eq_true,Bool.or_eq_true,List.all_eq_true];constructor
 .rintro⟨h1,h2⟩;refine⟨fun i hi hb=>?_,h2.imp of_decide_eq_true id⟩;have h:=h1 i (List.mem_range.2 hi);rw[hb]at h
  simpa using h
 .rintro⟨h1,h2⟩;refine⟨fun i hi=>?_,h2.imp decide_eq_true id⟩;cases hb:l.getD i false with
  | true=>simpa using h1 i (List.mem_range.1 hi) hb
  | false=>rfl
def DN(key:List Int)(s t:Int)(l:List Bool):Int:=if OkC key s t l then 0 else 5
def Gk(t:Int)(l:List Bool)(n:Int):Bool:=decide (n<t)&&(decide (n<t-8)||Om t l n)
def FK(t n:Int):Int:=if t<=n then n+1 else t
def Jl(t:Int)(l:List Bool)(n:Int):List Bool:=(List.range 8).map fun k:Nat=>decide (FK t n-8+(k:Int)=n)||Om t l (FK t n-8+(k:Int))
theorem DH(t:Int)(l:List Bool)(n:Int):(Jl t l n).length=8:=by simp[Jl]
theorem RT(t:Int)(l:List Bool)(n:Int)(k:Nat)(hk:k<8):(Jl t l n).getD k false=(decide (FK t n-8+(k:Int)=n)||Om t l (FK t n-8+(k:Int))):=by
 simp[Jl,List.getD,hk]
def noB:List Bool:=List.replicate 8 false
theorem Gi:noB.length=8:=rfl
theorem bK(k:Nat):noB.getD k false=false:=by
 rw[noB,List.getD_eq_getElem?_getD,List.getElem?_replicate];split<;>rfl
theorem OkC.new{key:List Int}(hk:key.length=32)(s:Int)(h0:0<=s)(h1:s<=1073741824):OkC key s 0 noB :=
 ⟨hk,h0,h1,by omega,by omega,(fun i _ h=>by rw[bK]at h;exact absurd h (by simp)),.inl rfl⟩
theorem RG{t:Int}{l:List Bool}{n:Int}(h:t<=n):Gk t l n=false:=by unfold Gk;rw[decide_eq_false (by omega)];simp
theorem Y5{t:Int}{l:List Bool}{n:Int}(h:t-8<=n):Gk t l n=Om t l n:=by
 by_cases h2:n<t
 .unfold Gk;rw[decide_eq_true h2,decide_eq_false (show ¬ n<t-8 by omega)];simp
 .rw[RG (by omega),RC (by omega)]
theorem Oz{t:Int}{l:List Bool}{n:Int}(h:n<t-8):Gk t l n=true:=by unfold Gk;rw[decide_eq_true (show n<t by omega),decide_eq_true h];simp
def Ag(n:Int):List Int:=[n/16777216%256,n/65536%256,n/256%256,n%256]
def Ba(h:List Int):List Int:=List.replicate 8 0++h
def E4(h:List Int):Int:=16777216*h.getD 0 0+65536*h.getD 1 0+256*h.getD 2 0+h.getD 3 0
theorem BP(n:Int):(Ag n).length=4:=rfl
theorem AL(n:Int):∀ x∈Ag n,0<=x/\x<256:=by
 intro x hx;simp only[Ag,List.mem_cons,List.not_mem_nil,or_false]at hx;rcases hx with rfl|rfl|rfl|rfl<;>omega
theorem FT{h:List Int}(hh:h.length=4):(Ba h).length=12:=by simp[Ba,hh]
theorem Ox{h:List Int}(hb:∀ x∈h,0<=x/\x<256):∀ x∈Ba h,0<=x/\x<256:=by
 intro x hx;rcases List.mem_append.1 hx with h1|h1
 .rw[(List.mem_replicate.1 h1).2];omega
 .exact hb x h1
theorem fo(h:List Int)(hh:h.length=4):∃ a b c d,h=[a,b,c,d]:=by
 match h,hh with
 | [a,b,c,d],_=>exact⟨a,b,c,d,rfl⟩
theorem Ko{h:List Int}(hh:h.length=4)(hb:∀ x∈h,0<=x/\x<256):0<=E4 h/\E4 h<4294967296:=by
 obtain⟨a,b,c,d,rfl⟩:=fo h hh;have h1:=hb a (by simp);have h2:=hb b (by simp);have h3:=hb c (by simp);have h4:=hb d (by simp);show 0<=16777216*a+65536*b+256*c+d/\16777216*a+65536*b+256*c+d<4294967296;omega
theorem IV{t:Int}{l:List Bool}(hl:l.length=8):(prog.info? 227).map (·.size)=some (wA t l).size:=by rw[Dg,hl];kernel_rfl
theorem Hc{P:Program}{fn:Func}{p u:Tmp}{ty:TypeId}(h:fn.results=#[.cell p ty,.tmp u])(tmps:Array Value)(w:World)(g:Nat)(t:TypeId)(cs:Array Value)(fr:Nat × Nat)(d:TypeDesc)
  (hp:tmps.getD p undef=.pointer (some ⟨g,0,none⟩))(hg:w.heap[g]?=some (.cells cs t fr))
  (hu:P.underlying ty=some d)(hd:(match d with|.struct _|.array _ _=>true|_=>false)=true)(hi:(P.info? ty).map (·.size)=some cs.size) :
  (results fn tmps).run P w=.ok (.tuple #[.agg cs,tmps.getD u undef]) w:=by
 have hp':tmps[p]?.getD undef=.pointer (some ⟨g,0,none⟩):=by simpa using hp
 simp[results,h,hp',asAddr,run_loadVar_row w g t ty cs fr d hg hu hd hi]
theorem EA{P:Program}{fn:Func}{p u v:Tmp}{ty:TypeId}(h:fn.results=#[.cell p ty,.tmp u,.tmp v])(tmps:Array Value)(w:World)(g:Nat)(t:TypeId)(cs:Array Value)(fr:Nat × Nat)(d:TypeDesc)
  (hp:tmps.getD p undef=.pointer (some ⟨g,0,none⟩))(hg:w.heap[g]?=some (.cells cs t fr))
  (hu:P.underlying ty=some d)(hd:(match d with|.struct _|.array _ _=>true|_=>false)=true)(hi:(P.info? ty).map (·.size)=some cs.size) :
  (results fn tmps).run P w=.ok (.tuple #[.agg cs,tmps.getD u undef,tmps.getD v undef]) w:=by
 have hp':tmps[p]?.getD undef=.pointer (some ⟨g,0,none⟩):=by simpa using hp
 simp[results,h,hp',asAddr,run_loadVar_row w g t ty cs fr d hg hu hd hi]
def blA(l:List Bool):Array Value:=(l.map Value.bool).toArray
theorem to8{j:Nat}(h:j<8):j=0\/j=1\/j=2\/j=3\/j=4\/j=5\/j=6\/j=7:=by omega
theorem Uw(S:List Bool)(hS:S.length=8)(j:Nat)(hj:j<8):∀ w,(Instr.index 86 (.agg (blA S)) (.int .i64 (j:Int))).run prog w=.ok (.bool (S.getD j false)) w:=by
 intro w;obtain⟨b0,b1,b2,b3,b4,b5,b6,b7,rfl⟩:=FS S hS;rcases to8 hj with rfl|rfl|rfl|rfl|rfl|rfl|rfl|rfl;all_goals kernel_rfl
theorem EH(k:Value)(s t:Int)(l:List Bool)(w:World)(hl:l.length=8) :
  Calls prog 147 #[.agg (chA k s t l)] w fun e w'=>e=.returned (.agg (wA t l))/\Bw w w':=by
 obtain⟨b0,b1,b2,b3,b4,b5,b6,b7,rfl⟩:=FS l hl;simp only[chA,wA,List.map];go_enter func147,ntmps147
 go_wp2
 exact bodyPost_ret (v:=.agg (wA t [b0,b1,b2,b3,b4,b5,b6,b7])) (results_cell_row rfl _ _ (w.heap.size+1) 227 _ (0,0) _ rfl (heap_alloc2_new _ _ _) underlying227 rfl (IV rfl)) rfl ⟨rfl,((Below.refl _ _).alloc (Nat.le_refl _) _).alloc (by simp) _⟩
theorem Dt(t:Int)(l:List Bool)(w:World)(hl:l.length=8)(t0:-1000<=t)(t1:t<=4611686018427387904) :
  Calls prog 172 #[.agg (wA t l)] w fun e w'=>e=.returned (.int .i64 (t-8))/\Bw w w':=by
 obtain⟨b0,b1,b2,b3,b4,b5,b6,b7,rfl⟩:=FS l hl;simp only[wA,List.map];go_enter func172,ntmps172
 go_wp2
 go_ret;exact⟨rfl,(Below.refl _ _).alloc (Nat.le_refl _) _⟩
theorem SS(t n:Int)(l:List Bool)(w:World)(hl:l.length=8)(t0:0<=t)(t1:t<=1073741824)(n0:0<=n)(n1:n<1073741824) :
  Calls prog 195 #[.agg (wA t l),.int .i64 n] w fun e w'=>e=.returned (.bool (Gk t l n))/\Bw w w':=by
 have hl':=hl;obtain⟨b0,b1,b2,b3,b4,b5,b6,b7,rfl⟩:=FS l hl;simp only[wA,List.map];by_cases h1:t<=n
 .have HO:Hid (false=Gk t [b0,b1,b2,b3,b4,b5,b6,b7] n):=(RG h1).symm;go_enter func195,ntmps195
  go_wp2
  go_ret;exact⟨Ac HO.out,(Below.refl _ _).alloc (Nat.le_refl _) _⟩
 .have hb:Bw w (w.alloc (.cells (wA t [b0,b1,b2,b3,b4,b5,b6,b7]) 227)):=(Below.refl _ _).alloc (Nat.le_refl _) _;go_enter func195,ntmps195
  go_wp2_with fail
  have hrow:(w.alloc (.cells (wA t [b0,b1,b2,b3,b4,b5,b6,b7]) 227)).heap[w.heap.size]?=some (.cells (wA t [b0,b1,b2,b3,b4,b5,b6,b7]) 227 (0,0)):=heap_alloc_new _ _;refine(Dt t [b0,b1,b2,b3,b4,b5,b6,b7] _ rfl (by omega) (by omega)).mono ?_;rintro e w1 ⟨rfl,c1⟩;have d1:Bw w w1:=hb.trans (c1.mono (by simp));replace hrow:=(c1.block w.heap.size (by simp)).trans hrow;clear hb c1;by_cases h2:n<t-8
  .have HO:Hid (true=Gk t [b0,b1,b2,b3,b4,b5,b6,b7] n):=(Oz h2).symm;go_wp2
   go_ret;exact⟨Ac HO.out,d1⟩
  .have h3:n<t:=by omega
   obtain⟨i,hi,hn⟩:∃ i:Nat,i<8/\n=t-8+(i:Int):=⟨(n-(t-8)).toNat,by omega,by omega⟩;have HO:Hid (Gk t [b0,b1,b2,b3,b4,b5,b6,b7] n=[b0,b1,b2,b3,b4,b5,b6,b7].getD i false):=by
    unfold Hid;rw[Y5 (by omega),hn,MG _ _ _ hi]
   have HN:Hid (n=t-8+(i:Int)):=hn;have cs:=(cell_of_row _ _ (1+i) _ _ _ hrow).trans (J3 t _ i hi);obtain⟨c0,c1,c2,c3,c4,c5,c6,c7,c8⟩:=KL hrow;have hz:w.heap.size<w1.heap.size:=(Array.getElem?_eq_some_iff.1 hrow).1;clear hn;generalize [b0,b1,b2,b3,b4,b5,b6,b7].getD i false=c at cs HO;go_wp2_with fail
   refine(Dt t [b0,b1,b2,b3,b4,b5,b6,b7] _ rfl (by omega) (by omega)).mono ?_;rintro e w2 ⟨rfl,e2⟩;have d2:Bw w w2:=d1.trans (e2.mono d1.size);replace cs:=(e2.cell (p:=⟨w.heap.size,1+i,none⟩) hz).trans cs;have hii:n-(t-8)=(i:Int):=by have:=HN.out;omega
   clear c0 c1 c2 c3 c4 c5 c6 c7 c8 hrow e2;go_wp2
   go_ret;exact⟨Ac (by rw[HO.out,decide_eq_false (by omega),Bool.false_or]),d2⟩
theorem Td(t:Int)(l:List Bool)(w:World)(hl:l.length=8)(t0:0<=t)(t1:t<=1073741824) :
  Calls prog 148 #[.agg (wA t l)] w fun e w'=>e=.returned (.bool (Qp t l))/\Bw w w':=by
 have HS:Hid (∀ i:Nat,i<8->∀ w,(Instr.index 86 (.agg (blA l)) (.int .i64 (i:Int))).run prog w=.ok (.bool (l.getD i false)) w):=fun i hi=>Uw l hl i hi;obtain⟨b0,b1,b2,b3,b4,b5,b6,b7,rfl⟩:=FS l hl;simp only[wA,blA,List.map]at HS ⊢;go_enter func148,ntmps148
 go_wp2_with fail
 have hrow:(w.alloc (.cells (wA t [b0,b1,b2,b3,b4,b5,b6,b7]) 227)).heap[w.heap.size]?=some (.cells (wA t [b0,b1,b2,b3,b4,b5,b6,b7]) 227 (0,0)):=heap_alloc_new _ _;have hsz:(w.alloc (.cells (wA t [b0,b1,b2,b3,b4,b5,b6,b7]) 227)).heap.size=w.heap.size+1:=by simp
 have b0':Bw w (w.alloc (.cells (wA t [b0,b1,b2,b3,b4,b5,b6,b7]) 227)):=(Below.refl _ _).alloc (Nat.le_refl _) _;simp only[wA,List.map]at hrow hsz b0';generalize w.alloc (.cells #[.int .i64 t,.bool b0,.bool b1,.bool b2,.bool b3,.bool b4,.bool b5,.bool b6,.bool b7] 227)=W0 at hrow hsz b0' ⊢;generalize (#[.bool b0,.bool b1,.bool b2,.bool b3,.bool b4,.bool b5,.bool b6,.bool b7]:Array Value)=S at HS ⊢
 go_loopw [7] (fun iv wr=>∃ i:Nat,i<=8/\iv=.int .i64 i/\Hid (∀ j:Nat,j<i->[b0,b1,b2,b3,b4,b5,b6,b7].getD j false=true->0<=t-8+(j:Int))/\Below (w.heap.size+1) W0 wr) (fun iv _=>8-(intOf iv).toNat)
 case atStart=>exact⟨0,by omega,rfl,fun j hj=>by omega,Below.refl _ _⟩
 case round =>
  obtain⟨i,hi,rfl,hold,hbel⟩:=hrel;have hr:=(hbel.block w.heap.size (by omega)).trans hrow;obtain⟨c0,c1,c2,c3,c4,c5,c6,c7,c8⟩:=KL hr;have dW:Bw w wr:=b0'.trans (hbel.mono (by omega));have hzr:=hbel.size;by_cases hi8:i<8
  .have hii:(i:Int)<8:=by omega
   have hx:=HS.out i hi8;cases hb:[b0,b1,b2,b3,b4,b5,b6,b7].getD i false with
   | true =>
    rw[hb]at hx
    have HBI:Hid ([b0,b1,b2,b3,b4,b5,b6,b7].getD i false=true):=hb;clear hb hr;go_wp2_with fail
    refine(Dt t [b0,b1,b2,b3,b4,b5,b6,b7] _ rfl (by omega) (by omega)).mono ?_;rintro e w2 ⟨rfl,e2⟩;have d2:Bw w w2:=dW.trans (e2.mono dW.size);have hb2:Below (w.heap.size+1) W0 w2:=hbel.trans (e2.mono (by omega));clear c0 c1 c2 c3 c4 c5 c6 c7 c8 e2 hbel;by_cases hneg:t-8+(i:Int)<0
    .have HF:Hid (false=Qp t [b0,b1,b2,b3,b4,b5,b6,b7]):=by
      unfold Hid;symm;rw[Bool.eq_false_iff];intro hm;have:=((Ff _ _).1 hm).1 i hi8 HBI.out;omega
     go_wp2
     go_ret;exact⟨Ac HF.out,d2⟩
    .go_wp2
     go_roundw
     case rel =>
      refine⟨i+1,by omega,by go_num,?_,hb2⟩;intro j hj hbj;rcases Nat.lt_or_ge j i with h|h
      .exact hold.out j h hbj
      .obtain rfl:j=i:=by omega
       omega
     case measure=>simp[intOf];omega
   | false =>
    rw[hb]at hx
    have HBI:Hid ([b0,b1,b2,b3,b4,b5,b6,b7].getD i false=false):=hb;clear hb hr;go_wp2
    go_roundw
    case rel =>
     refine⟨i+1,by omega,by go_num,?_,hbel⟩;intro j hj hbj;rcases Nat.lt_or_ge j i with h|h
     .exact hold.out j h hbj
     .obtain rfl:j=i:=by omega
      rw[HBI.out]at hbj
      cases hbj
    case measure=>simp[intOf];omega
  .obtain rfl:i=8:=by omega
   rw[show((8:Nat):Int)=8 from rfl];have HM:Hid ((decide (t=0)||b7)=Qp t [b0,b1,b2,b3,b4,b5,b6,b7]):=by
    unfold Hid;rw[Bool.eq_iff_iff,Ff,Bool.or_eq_true];constructor
    .intro h;exact⟨hold.out,h.imp of_decide_eq_true id⟩
    .intro h;exact h.2.imp decide_eq_true id
   clear hr HS;go_wp2
   all_goals
    rename_i ht
    go_ret;refine⟨Ac ?_,dW⟩;rw[<- HM.out];simp[ht]
theorem Vy:(prog.info? 4).map (·.size)=some 1:=by kernel_rfl
theorem cN(w:World):(Go.sizeOf 4).run prog w=.ok 1 w:=by
 have h:=Vy;cases hi:prog.info? 4 with
 | none=>rw[hi]at h;cases h
 | some i =>
  rw[hi]at h
  simp only[Option.map_some,Option.some.injEq]at h;simp[sizeOf,typeInfo,hi,h]
theorem Us(B d:Nat)(hd:d<=8):∃ ad,(∀ W,(Instr.sliceAt 86 (.pointer (some ⟨B,1,none⟩)) (some (.int .i64 (d:Int))) none none).run prog W=.ok (.slice (some ad) (8-d) (8-d)) W)/\(0<8-d->ad=⟨B,1+d,none⟩):=by
 refine⟨if 8=d then⟨B,1,none⟩else(⟨B,1,none⟩:Addr).add (d*1),fun W=>?_,fun h=>?_⟩
 .have e1:prog.arrayLen 86=8:=by kernel_rfl
  have e2:prog.elem 86=4:=by kernel_rfl
  rw[run_sliceAt_array_l (P:=prog) W 86 _ underlying86 .i64 _ (by omega) (by rw[e1];omega),e1,e2,cN];simp[Result.andThen,slicedAt]
 .rw[if_neg (by omega),Nat.mul_one];exact Addr.add_mid B 1 d
theorem Vs(w:World)(a b c:Obj):(((w.alloc a).alloc b).alloc c).heap[w.heap.size]?=some a/\(((w.alloc a).alloc b).alloc c).heap[w.heap.size+1]?=some b/\(((w.alloc a).alloc b).alloc c).heap[w.heap.size+1+1]?=some c:=by
 have hb:Below ((w.alloc a).alloc b).heap.size ((w.alloc a).alloc b) (((w.alloc a).alloc b).alloc c):=(Below.refl _ _).alloc (Nat.le_refl _) _;have hz:((w.alloc a).alloc b).heap.size=w.heap.size+1+1:=by simp
 have h2:=heap_alloc_new ((w.alloc a).alloc b) c;rw[hz]at h2 hb
 exact⟨(hb.block _ (by omega)).trans (heap_alloc2_old _ _ _),(hb.block _ (by omega)).trans (heap_alloc2_new _ _ _),h2⟩
theorem Uf(n:Int)(l:List Bool)(hl:l.length=8)(d:Nat)(h1:1<=d)(h8:d<=8):(splice [.int .i64 n,.bool false,.bool false,.bool false,.bool false,.bool false,.bool false,.bool false,.bool false] 1 ((l.drop d).map Value.bool)).toArray=wA n (l.drop d++List.replicate d false):=by
 obtain⟨b0,b1,b2,b3,b4,b5,b6,b7,rfl⟩:=FS l hl;have:d=1\/d=2\/d=3\/d=4\/d=5\/d=6\/d=7\/d=8:=by omega
 rcases this with rfl|rfl|rfl|rfl|rfl|rfl|rfl|rfl<;>rfl
theorem QM(t n:Int)(l:List Bool)(w:World)(hl:l.length=8)(t0:0<=t)(t1:t<=1073741824)(n0:t<n)(n1:n<=1073741824)(d:Nat)(hd:d=min (n-t).toNat 8) :
  Calls prog 197 #[.agg (wA t l),.int .i64 n] w fun e w'=>e=.returned (.agg (wA n (l.drop d++List.replicate d false)))/\Bw w w':=by
 obtain⟨b0,b1,b2,b3,b4,b5,b6,b7,rfl⟩:=FS l hl;simp only[wA,List.map];go_enter func197,ntmps197
 have hm:(if 8<n-t then 8 else n-t)=(d:Int):=by split<;>omega
 have hwr:IntKind.i64.wrap (n-t)=n-t:=by rw[IntKind.wrap_i64];omega
 have hdz:1<=d/\d<=8:=by omega
 obtain⟨ad,hsl,had⟩:=Us w.heap.size d (by omega);clear hd;have HR:Hid (∀ w':World,Below (w.heap.size+1+1) (((w.alloc (.cells (wA t [b0,b1,b2,b3,b4,b5,b6,b7]) 227)).alloc (.cells (wA 0 [false,false,false,false,false,false,false,false]) 227)).alloc (.cells (wA n [false,false,false,false,false,false,false,false]) 227)).drew w'->Bw w w'/\w'.heap[w.heap.size+1]?=some (.cells (wA 0 [false,false,false,false,false,false,false,false]) 227 (0,0))):=by
  intro w' hb;obtain⟨_,e1,_⟩:=Vs w (.cells (wA t [b0,b1,b2,b3,b4,b5,b6,b7]) 227) (.cells (wA 0 [false,false,false,false,false,false,false,false]) 227) (.cells (wA n [false,false,false,false,false,false,false,false]) 227);refine⟨((((Below.refl _ _).alloc (Nat.le_refl _) _).alloc (by simp) _).alloc (by simp;omega) _).drew.trans (hb.mono (by omega)),?_⟩;exact(hb.block (w.heap.size+1) (by omega)).trans e1
 have HC:Hid (∀ j v,(([b0,b1,b2,b3,b4,b5,b6,b7].drop d).map Value.bool)[j]?=some v->(((w.alloc (.cells (wA t [b0,b1,b2,b3,b4,b5,b6,b7]) 227)).alloc (.cells (wA 0 [false,false,false,false,false,false,false,false]) 227)).alloc (.cells (wA n [false,false,false,false,false,false,false,false]) 227)).drew.cell? (ad.add j)=some v):=by
  intro j v hj;have hjl:j<8-d:=by simpa using(List.getElem?_eq_some_iff.1 hj).1
  rw[had (by omega),Addr.add_mid];obtain⟨e0,_,_⟩:=Vs w (.cells (wA t [b0,b1,b2,b3,b4,b5,b6,b7]) 227) (.cells (wA 0 [false,false,false,false,false,false,false,false]) 227) (.cells (wA n [false,false,false,false,false,false,false,false]) 227);have h1:=(cell_of_row _ _ (1+(d+j)) _ _ _ e0).trans (J3 t _ (d+j) (by simp;omega));rw[Nat.add_assoc];refine Eq.trans h1 ?_;rw[List.getElem?_map,List.getElem?_drop]at hj
  rw[<- hj,List.getD,List.getElem?_eq_getElem (show d+j<[b0,b1,b2,b3,b4,b5,b6,b7].length by simp;omega)];rfl
 obtain⟨_,_,e2⟩:=Vs w (.cells (wA t [b0,b1,b2,b3,b4,b5,b6,b7]) 227) (.cells (wA 0 [false,false,false,false,false,false,false,false]) 227) (.cells (wA n [false,false,false,false,false,false,false,false]) 227);have HG:Hid _:=e2;clear e2;go_wp2_with fail
 go_region_law (refine step_copy_splice rfl (.tmp 9) (.tmp 16) 284 284 rfl 4 underlying284 Vy _ _ _ _ _ _ rfl rfl (w.heap.size+1+1) 1 [.int .i64 n,.bool false,.bool false,.bool false,.bool false,.bool false,.bool false,.bool false,.bool false] 227 HG.out (([b0,b1,b2,b3,b4,b5,b6,b7].drop d).map Value.bool) (by simp) (fun hp=>⟨rfl,ad,rfl,HC.out⟩) (by simp;omega) (by intro v hv;obtain⟨x,_,rfl⟩:=List.mem_map.1 hv;rfl) (w.heap.size+1+1) _ (Below.refl _ _) (Nat.le_refl _) ?_;intro w4 H4 hb4)
 obtain⟨d4,r4⟩:=HR.out w4 hb4;have hl8:([b0,b1,b2,b3,b4,b5,b6,b7].drop d++List.replicate d false).length=8:=by simp;omega
 have h4:=H4.out;rw[Uf n _ rfl d hdz.1 hdz.2]at h4
 generalize hR:[b0,b1,b2,b3,b4,b5,b6,b7].drop d++List.replicate d false=R at hl8 h4;have HRR:Hid ([b0,b1,b2,b3,b4,b5,b6,b7].drop d++List.replicate d false=R):=hR;clear hR;have hi:=IV (t:=n) hl8;have hz:=(Array.getElem?_eq_some_iff.1 h4).1;clear HR HC HG hb4 H4;go_wp2_with (first
  | (refine wpList_load_row rfl 227 _ rfl (w.heap.size+1+1) rfl 227 _ (0,0) _ h4 underlying227 rfl hi ?_)
  | (refine wpList_store_row rfl 227 _ _ rfl (w.heap.size+1) _ rfl rfl 227 _ r4 hi (by rw[Dg,Dg,hl8];rfl) (Nj n R) ?_))
 exact bodyPost_ret (v:=.agg (wA n R)) (results_cell_row rfl _ _ (w.heap.size+1) 227 _ (0,0) _ rfl (setRow_heap w4 (w.heap.size+1) _ _ 227 _ r4) underlying227 rfl hi) rfl ⟨by rw[<- HRR.out];rfl,below_setRow d4 (by omega) _⟩
theorem dg(t:Int)(l:List Bool)(i:Nat)(x:Bool):(wA t l).setIfInBounds (1+i) (.bool x)=wA t (l.set i x):=by
 apply Array.ext';rw[Nat.add_comm];simp[wA,List.map_set]
theorem Pm{w:World}{g:Nat}{t:Int}{l:List Bool}{ty:TypeId}(h:w.heap[g]?=some (.cells (wA t l) ty (0,0)))(k:Nat)(x:Bool) :
  (w.setCell ⟨g,1+k,none⟩ (.bool x)).heap[g]?=some (.cells (wA t (l.set k x)) ty (0,0)):=by
 rw[heap_setCell_same _ _ _ _ _ _ h,dg]
theorem Oi{a b:List Bool}(ha:a.length=8)(hb:b.length=8)(h:∀ k,k<8->a.getD k false=b.getD k false):a=b:=by
 apply List.ext_getElem (by omega);intro k h1 h2;have:=h k (by omega);simpa[List.getD,List.getElem?_eq_getElem h1,List.getElem?_eq_getElem h2]using this
theorem OR(l:List Bool)(i k:Nat)(x:Bool)(hi:i<l.length):(l.set i x).getD k false=if k=i then x else l.getD k false:=by
 rw[List.getD,List.getElem?_set,List.getD];by_cases h:i=k
 .subst h;simp[hi]
 .rw[if_neg h,if_neg (fun e=>h e.symm)]
theorem Xb(t n:Int)(l:List Bool)(hl:l.length=8)(h1:n<t)(i:Nat)(hi:i<8)(hn:n=t-8+(i:Int)):Jl t l n=l.set i true/\FK t n=t:=by
 have hT:FK t n=t:=by unfold FK;rw[if_neg (by omega)]
 refine⟨Oi (DH _ _ _) (by simp[hl]) fun k hk=>?_,hT⟩;rw[RT _ _ _ _ hk,hT,MG t l k hk,OR _ _ _ _ (by omega)];by_cases h:k=i
 .rw[if_pos h,decide_eq_true (by omega)];rfl
 .rw[if_neg h,decide_eq_false (by omega)];rfl
theorem QL(l:List Bool)(hl:l.length=8)(d k:Nat)(hk:k<8)(hd:d<=8):(l.drop d++List.replicate d false).getD k false=if d+k<8 then l.getD (d+k) false else false:=by
 by_cases h:d+k<8
 .rw[if_pos h,List.getD,List.getElem?_append_left (by simp;omega),List.getElem?_drop,List.getD]
 .rw[if_neg h,List.getD,List.getElem?_append_right (by simp;omega),List.getElem?_replicate];split<;>rfl
theorem TS(t n:Int)(l:List Bool)(hl:l.length=8)(h1:t<=n)(d:Nat)(hd:d=min (n+1-t).toNat 8):Jl t l n=(l.drop d++List.replicate d false).set 7 true/\FK t n=n+1:=by
 have hT:FK t n=n+1:=by unfold FK;rw[if_pos h1]
 refine⟨Oi (DH _ _ _) (by simp;omega) fun k hk=>?_,hT⟩;rw[RT _ _ _ _ hk,hT,OR _ _ _ _ (by simp;omega),QL l hl d k hk (by omega)];by_cases h:k=7
 .rw[if_pos h,decide_eq_true (by omega)];rfl
 .rw[if_neg h,decide_eq_false (by omega),Bool.false_or];by_cases h2:d+k<8
  .rw[if_pos h2,show n+1-8+(k:Int)=t-8+((d+k:Nat):Int)by omega,MG _ _ _ h2]
  .rw[if_neg h2,RC (by omega)]
end
section
structure Lac where
 k:Int
 n:Int
 a:Int
 p:Int
 d:List Int
def Fw(k:Int):Bool:=decide (k=1\/k=2\/k=3\/k=9\/k=8)
def G4(k:Int):Bool:=decide (4<=k/\k<=6)
def G7(k:Int):Bool:=decide (k=8)
def Yp(x:Lac):Int :=
 if ¬ (1<=x.k/\x.k<=9)then 4
 else if(Fw x.k=true/\¬ (0<=x.n/\x.n<=4))\/(G4 x.k=true/\¬ (0<=x.a/\x.a<=1048576))\/(G7 x.k=true/\¬ (0<=x.p/\x.p<=100000))then 2
 else if 2000<x.d.length then 1
 else if(Fw x.k=false/\x.n≠0)\/(G4 x.k=false/\x.a≠0)\/(G7 x.k=false/\x.p≠0)\/(x.k≠1/\x.d≠[])then 3
 else 0
structure LacOk(x:Lac):Prop where
 k:1<=x.k/\x.k<=9
 n:Fw x.k=true->0<=x.n/\x.n<=4
 a:G4 x.k=true->0<=x.a/\x.a<=1048576
 p:G7 x.k=true->0<=x.p/\x.p<=100000
 d:x.d.length<=2000
 n0:Fw x.k=false->x.n=0
 a0:G4 x.k=false->x.a=0
 p0:G7 x.k=false->x.p=0
 d0:x.k≠1->x.d=[]
theorem Jw{x:Lac}:Yp x=0↔LacOk x:=by
 unfold Yp;constructor
 .intro h;by_cases h1:1<=x.k/\x.k<=9
  .rw[if_neg (fun e=>e h1)]at h
   by_cases h2:(Fw x.k=true/\¬ (0<=x.n/\x.n<=4))\/(G4 x.k=true/\¬ (0<=x.a/\x.a<=1048576))\/(G7 x.k=true/\¬ (0<=x.p/\x.p<=100000))
   .rw[if_pos h2]at h;omega
   .rw[if_neg h2]at h
    by_cases h3:2000<x.d.length
    .rw[if_pos h3]at h;omega
    .rw[if_neg h3]at h
     by_cases h4:(Fw x.k=false/\x.n≠0)\/(G4 x.k=false/\x.a≠0)\/(G7 x.k=false/\x.p≠0)\/(x.k≠1/\x.d≠[])
     .rw[if_pos h4]at h;omega
     .simp only[not_or,not_and,Decidable.not_not]at h2 h4;exact⟨h1,fun e=>by have:=h2.1 e;omega,fun e=>by have:=h2.2.1 e;omega,fun e=>by have:=h2.2.2 e;omega,by omega,h4.1,h4.2.1,h4.2.2.1,h4.2.2.2⟩
  .rw[if_pos h1]at h;omega
 .intro h;rw[if_neg (fun e=>e h.k),if_neg,if_neg (by have:=h.d;omega),if_neg]
  .rintro(⟨h1,h2⟩|⟨h1,h2⟩|⟨h1,h2⟩|⟨h1,h2⟩)
   .exact h2 (h.n0 h1)
   .exact h2 (h.a0 h1)
   .exact h2 (h.p0 h1)
   .exact h2 (h.d0 h1)
  .rintro(⟨h1,h2⟩|⟨h1,h2⟩|⟨h1,h2⟩)
   .exact h2 (h.n h1)
   .exact h2 (h.a h1)
   .exact h2 (h.p h1)
def Si(k:Int):List Int :=
 if k=1 then[115,117,98,109,105,116]else if k=2 then[108,101,97,100]else if k=3 then[115,116,101,112]else if k=4 then[99,97,114,114,121]else if k=5 then[108,111,115,101]
 else if k=6 then[100,111,117,98,108,101]else if k=7 then[97,108,108]else if k=8 then[99,114,97,115,104]else if k=9 then[115,116,97,114,116]else[]
end
section
open Go.RowKit
section
variable{P:Program}{md:Region.Mode}{ops:Array Oper}{Q:Exit->Act->World->Prop}{S:World->Prop}
theorem VX{i d:Nat}{o:Oper}{a:Act}{w w':World}{v:Value}{K:Act->World->Prop}(ho:ops[i]?=some o)(hw:Region.wanted o (yielded ops a.tmps)=true)(hd:o.dst=some d)
  (hrun:(execOp a.eval o).run P w=.ok (.value v) w')(h:K (a.put (some d) v) w'):wpOp P ops Q i K a w :=
 wpOp_step ho fun K' hK=>by
  rw[if_pos hw];unfold Oper.wp;rw[hrun,Oper.upon_value];exact hK _ _ (by rw[hd];exact h)
theorem Gl{i d:Nat}{o:Oper}{a:Act}{w:World}{f:FuncId}{args:Array Value}{K:Act->World->Prop}(ho:ops[i]?=some o)(hw:Region.wanted o (yielded ops a.tmps)=true)(hd:o.dst=some d)
  (hrun:(execOp a.eval o).run P w=.ok (.enter f args) w)(h:Calls P f args w fun e w'=>∃ v,e=.returned v/\K (a.put (some d) v) w'):wpOp P ops Q i K a w :=
 wpOp_step ho fun K' hK=>by
  rw[if_pos hw];unfold Oper.wp;rw[hrun,Oper.upon_enter];refine h.mono fun e w' hh=>?_;obtain⟨v,rfl,hv⟩:=hh;exact hK _ _ (by rw[hd];exact hv)
theorem GW{i:Nat}{o:Oper}{a:Act}{w:World}{K:Act->World->Prop}(ho:ops[i]?=some o)(hw:Region.wanted o (yielded ops a.tmps)=true)(hd:o.dst=none)(ty:TypeId)(x y:Operand)(hop:o.op=.store ty x y)
  (g:Nat)(cells:Array Value)(hx:a.eval x=.pointer (some ⟨g,0,none⟩))(hy:a.eval y=.agg cells)
  (t:TypeId)(old:Array Value)(hg:w.heap[g]?=some (.cells old t (0,0)))(hi:(P.info? ty).map (·.size)=some cells.size)
  (hold:old.size=cells.size)(h1:cells.all (·.oneCell')=true)(h:K a (w.setRow g cells)):wpOp P ops Q i K a w :=
 wpOp_step ho fun K' hK=>by
  rw[if_pos hw];exact wp_store_row ty x y hop g cells hx hy t old hg hi hold h1 (hK _ _ (by rw[hd];exact h))
theorem Bz{i fuel:Nat}{L:Array Bool}{a:Act}{w:World}(hr:Region.ready md ops L=[i])
  (h:wpOp P ops Q i (fun a' w'=>S w'/\wpAnyH P md ops Q S fuel (L.setIfInBounds i true) a' w') a w):wpAnyH P md ops Q S (fuel+1) L a w :=
 wpAnyH_all hr (by simp) (fun j hj=>by
  obtain rfl:j=i:=by simpa using hj
  exact h)
theorem Yf{i i' fuel:Nat}{L:Array Bool}{a:Act}{w:World}(hr:Region.ready md ops L=[i,i'])
  (h:wpOp P ops Q i (fun a' w'=>S w'/\wpAnyH P md ops Q S fuel (L.setIfInBounds i true) a' w') a w)
  (h':wpOp P ops Q i' (fun a' w'=>S w'/\wpAnyH P md ops Q S fuel (L.setIfInBounds i' true) a' w') a w):wpAnyH P md ops Q S (fuel+1) L a w :=
 wpAnyH_all hr (by simp) (fun j hj=>by
  rcases(show j=i\/j=i' by simpa using hj)with rfl|rfl
  .exact h
  .exact h')
theorem Af{i:Nat}(d:Nat){oi:Oper}{v:Value}{fuel:Nat}{listed:Array Bool}{a:Act}{w:World}(hi:ops[i]?=some oi)(hd:oi.dst=some d)
  (hs:Region.noSelect ops=true)(hf:Region.free md ops listed i=true)(hr:(Region.ready md ops listed).contains i=true)
  (hQ:∀ c a w,Q (.panic c) (a.put (some d) v) w->Q (.panic c) a w)(hy:YieldsIf P ops S oi v a)(hS:S w)
  (h:wpAnyH P md ops Q S fuel (listed.setIfInBounds i true) (a.put (some d) v) w):wpAnyH P md ops Q S (fuel+1) listed a w :=
 wpAnyH_take hi hs hf hr (by rw[hd];exact hQ) hy hS (by rw[hd];exact h)
theorem FF{op:Oper}{a:Act}(hw:Region.wanted op (yielded ops a.tmps)=true)(ty:TypeId)(x:Operand)(ho:op.op=.load ty x)(d:TypeDesc)(hu:P.underlying ty=some d)(hd:d.isRow=false)
  (p:Addr)(hx:a.eval x=.pointer (some p))(v:Value)(hS:∀ w,S w->w.cell? p=some v):YieldsIf P ops S op v a :=
 .inl ⟨hw,fun w hw'=>by
  have hagg:(isAgg ty).run P w=.ok false w:=by
   unfold isAgg;rw[Sem.run_bind,run_underlying hu w];cases d<;>simp_all[TypeDesc.isRow]
  have hl:(loadVar ty p).run P w=.ok v w:=by simp[loadVar,hagg,hS w hw',go_sem]
  unfold execOp;simp only[ho,hx,Instr.loadAt,Instr.sureAddr,Sem.run_bind,Sem.run_pure,Result.andThen_ok,hl]⟩
end
theorem DV{P:Program}{ops:Array Oper}{Q:Exit->Act->World->Prop}{l:List Oper}{a:Act}{w:World}(h:wpList P ops Q l a w):wpList P ops Q l a w:=h
theorem Cj{B:Nat}{a w:World}(h:Below B a w){g:Nat}(hg:B<=g)(cs:Array Value):Below B a (w.setRow g cs) :=
 h.trans ⟨rfl,rfl,rfl,by simp,fun k hk=>setRow_other w g k cs (by omega)⟩
theorem EE{w:World}{b b' e k8:Nat}{v:Value}{n:Nat}{xs:List Value}(h:w.ownsRow b e k8 v n xs)(hb:b'<=b):w.ownsRow b' e k8 v n xs:=by
 refine⟨h.1,?_⟩;rcases h.2 with h2|⟨g,cap,cur,hv,hbg,hr⟩
 .exact .inl h2
 .exact .inr ⟨g,cap,cur,hv,Nat.le_trans hb hbg,hr⟩
theorem CL{w w':World}{base e k8:Nat}{v:Value}{n:Nat}{xs:List Value}(h:w.ownsRow base e k8 v n xs)(hk:∀ k,v.ownBlock=some k->w'.heap[k]?=w.heap[k]?):w'.ownsRow base e k8 v n xs:=by
 refine⟨h.1,?_⟩;rcases h.2 with h2|⟨g,cap,cur,hv,hb,hg,hr⟩
 .exact .inl h2
 .exact .inr ⟨g,cap,cur,hv,hb,(hk g (by rw[hv];rfl)).trans hg,hr⟩
theorem WX{P:Program}{fn:Func}{p:Tmp}{ty:TypeId}(h:fn.results=#[.cell p ty])(tmps:Array Value)(w:World)(g:Nat)(t:TypeId)(cs:Array Value)(fr:Nat × Nat)(d:TypeDesc)
  (hp:tmps.getD p undef=.pointer (some ⟨g,0,none⟩))(hg:w.heap[g]?=some (.cells cs t fr))
  (hu:P.underlying ty=some d)(hd:(match d with|.struct _|.array _ _=>true|_=>false)=true)(hi:(P.info? ty).map (·.size)=some cs.size) :
  (results fn tmps).run P w=.ok (.agg cs) w:=by
 have hp':tmps[p]?.getD undef=.pointer (some ⟨g,0,none⟩):=by simpa using hp
 simp[results,h,hp',asAddr,run_loadVar_row w g t ty cs fr d hg hu hd hi]
theorem RS{P:Program}{fn:Func}{p u:Tmp}{ty:TypeId}(h:fn.results=#[.cell p ty,.tmp u])(tmps:Array Value)(w:World)(g:Nat)(t:TypeId)(cs:Array Value)(fr:Nat × Nat)(d:TypeDesc)
  (hp:tmps.getD p undef=.pointer (some ⟨g,0,none⟩))(hg:w.heap[g]?=some (.cells cs t fr))
  (hu:P.underlying ty=some d)(hd:(match d with|.struct _|.array _ _=>true|_=>false)=true)(hi:(P.info? ty).map (·.size)=some cs.size) :
  (results fn tmps).run P w=.ok (.tuple #[.agg cs,tmps.getD u undef]) w:=by
 have hp':tmps[p]?.getD undef=.pointer (some ⟨g,0,none⟩):=by simpa using hp
 simp[results,h,hp',asAddr,run_loadVar_row w g t ty cs fr d hg hu hd hi]
theorem Sl.shapeT{w:World}{v:Value}{l:List Int}(h:Sl w v l):∃ a cap,v=.slice a l.length cap:=by
 obtain⟨⟨a,cap,e,_⟩,_,_⟩:=h;exact⟨a,cap,e⟩
theorem Sl.cellsT{w:World}{ad:Addr}{n cap:Nat}{m:List Int}(h:Sl w (.slice (some ad) n cap) m):∀ j u,(m.map (Value.int .u8))[j]?=some u->w.cell? (ad.add j)=some u:=by
 intro j u hj;obtain⟨⟨a,cp,e,hc,hn,h1⟩,_⟩:=h;simp only[Value.slice.injEq]at e;obtain⟨rfl,rfl,rfl⟩:=e;rcases h1 with rfl|⟨b,off,hab,_,hcell⟩
 .simp at hj
 .obtain rfl:ad=⟨b,off,none⟩:=by simpa using hab
  have hjl:j<m.length:=by
   have:=(List.getElem?_eq_some_iff.1 hj).1;simpa using this
  have hadd:(⟨b,off,none⟩:Addr).add j=⟨b,off+j,none⟩:=by unfold Addr.add;split<;>simp_all
  rw[hadd,hcell j hjl];simp[List.getElem?_eq_getElem hjl]at hj
  rw[AK hjl,hj]
theorem OP{P:Program}(w:World)(base dT sT ty e:Nat)(hu:P.underlying dT=some (.slice e))(hs:(P.info? e).map (·.size)=some 1)(g n:Nat)(xs:List Value)(hown:w.ownsRow base e 1 (.slice (some ⟨g,0,none⟩) n n) n xs)(u:Value)(m:List Int)(hm:n<=m.length)(hv:Sl w u m) :
  ∃ w',(Builtin.copy_ #[dT,sT] ty #[.slice (some ⟨g,0,none⟩) n n,u]).run P w=.ok (goInt n) w'/\w'.ownsRow base e 1 (.slice (some ⟨g,0,none⟩) n n) n ((m.take n).map (Value.int .u8))/\Below g w w':=by
 obtain⟨i,hq,hi⟩:∃ i,P.info? e=some i/\i.size=1:=by
  cases hq:P.info? e with
  | none=>rw[hq]at hs;cases hs
  | some i=>rw[hq]at hs;exact⟨i,rfl,by simpa using hs⟩
 rcases hown.2 with⟨h0,_⟩|⟨g',cap,cur,hvv,hbg,hg,hnc,hcm,hcs,ht⟩
 .cases h0
 .simp only[Value.slice.injEq,Option.some.injEq,Addr.mk.injEq]at hvv;obtain⟨⟨rfl,_⟩,_,rfl⟩:=hvv;have hv2:=hv;obtain⟨⟨a,cp,rfl,hc,hn,h1⟩,_⟩:=hv;have hmin:Nat.min m.length n=n:=Nat.min_eq_right hm;cases a with
  | none =>
   have hc0:=hn rfl;subst hc0;have hm0:n=0:=by omega
   subst hm0;refine⟨w,?_,⟨by simp,.inr ⟨g,0,cur,rfl,hbg,hg,hnc,hcm,hcs,by simp⟩⟩,Below.refl _ _⟩;simp[Builtin.copy_,run_underlying hu,Builtin.lenOf,Builtin.firstCells,sizeOf,typeInfo,hq,storeCells]
  | some ad =>
   have htl:((m.take n).map (Value.int .u8)).length=n:=by simp;omega
   have hl:=run_firstCells_some (P:=P) w 1 n ad m.length cp ((m.take n).map (Value.int .u8)) (by rw[htl];omega) (fun j v hj=>hv2.cellsT j v (by
    rw[List.map_take,List.getElem?_take]at hj
    split at hj
    .exact hj
    .cases hj))
   have hst:=run_storeCells_at P g 0 e ((m.take n).map (Value.int .u8)) 0 cur w hg (by rw[htl];omega) (Ee (m.take n));have hfull:(cur.toList.take (0+0)++(m.take n).map (Value.int .u8)++cur.toList.drop (0+0+((m.take n).map (Value.int .u8)).length))=(m.take n).map (Value.int .u8):=by
    rw[htl,List.drop_eq_nil_of_le (by rw[Array.length_toList];omega)];simp
   rw[hfull]at hst
   refine⟨w.setRow g ((m.take n).map (Value.int .u8)).toArray,?_,⟨by rw[htl];omega,.inr ⟨g,n,((m.take n).map (Value.int .u8)).toArray,rfl,hbg,setRow_heap w g cur _ e _ hg,Nat.le_refl _,hcm,by rw[List.size_toArray,htl];omega,?_⟩⟩,?_⟩
   .simp[-List.map_take,Builtin.copy_,run_underlying hu,Builtin.lenOf,sizeOf,typeInfo,hq,hi,hmin,hl,hst]
   .rw[List.take_of_length_le (by show((m.take n).map (Value.int .u8)).length<=_;rw[htl];omega)]
   .exact⟨rfl,rfl,rfl,by simp,fun k hk=>setRow_other w g k _ (by omega)⟩
theorem KP{P:Program}(w:World){ops:Array Oper}{rest:List Oper}{o:Oper}{a:Act}{Q:Exit->Act->World->Prop}(hgd:o.guard=none)(d s:Operand)(dT sT:TypeId)
  (ho:o.op=.call { callee:=.builtin .copy,args:=#[d,s],argTypes:=#[dT,sT] })
  (base e:Nat)(hu:P.underlying dT=some (.slice e))(hs:(P.info? e).map (·.size)=some 1)(g n:Nat)(xs:List Value)(hd:a.eval d=.slice (some ⟨g,0,none⟩) n n)(hown:w.ownsRow base e 1 (.slice (some ⟨g,0,none⟩) n n) n xs)(u:Value)(hu':a.eval s=u)(m:List Int)(hm:n<=m.length)(hv:Sl w u m)(t:List Int)(htm:t=m.take n)
  (h:∀ w',w'.ownsRow base e 1 (.slice (some ⟨g,0,none⟩) n n) n (t.map (Value.int .u8))->Below g w w'->wpList P ops Q rest (a.put o.dst (goInt n)) w'):wpList P ops Q (o::rest) a w:=by
 subst htm;refine wpList_plain hgd fun K hK=>?_;obtain⟨w',hrun,r1,r2⟩:=OP (P:=P) w base dT sT o.type e hu hs g n xs hown u m hm hv;unfold Oper.wp execOp;simp only[ho,resolve,invoke,builtin,Sem.run_bind,Sem.run_pure,Result.andThen_ok,List.map_toArray,List.map_cons,List.map_nil,hd,hu',hrun];exact hK _ _ (h w' r1 r2)
theorem KR{P:Program}(w:World){ops:Array Oper}{rest:List Oper}{o:Oper}{a:Act}{Q:Exit->Act->World->Prop}
  (hg:o.guard=none)(l c:Operand)(t:TypeId)(hop:o.op=Op.makeSlice t l c)(base:Nat)(e:TypeId)(h1:P.underlying t=some (.slice e))(hinfo:(P.info? e).map (fun i=>(i.zero,i.size,i.bytes))=some (some (.int .u8 0),1,1))
  (n:Nat)(hl:a.eval l=.int .i64 (n:Int))(hc:a.eval c=.int .i64 (n:Int))(hn:n<=140737488351232)(b4:base<=w.heap.size)
  (hK:∀ w',Hid (∃ xs,w'.ownsRow base e 1 (.slice (some ⟨w.heap.size,0,none⟩) n n) n xs)->w.grownBy w' none->wpList P ops Q rest (a.put o.dst (.slice (some ⟨w.heap.size,0,none⟩) n n)) w'):wpList P ops Q (o::rest) a w:=by
 obtain⟨i0,hi,hz0,hz1,hz2⟩:=info_parts hinfo;refine wpList_make_full w hg l c t hop base e i0 (.int .u8 0) 1 h1 hi hz0 hz1 _ _ _ _ n hl hc rfl rfl (by rw[hz2];omega) (by unfold maxLen;omega) b4 (fun w' o1 g1=>hK w' ⟨_,o1⟩ g1)
theorem D2(w:World)(o1:Obj):(w.alloc o1).heap[w.heap.size]?=some o1:=heap_alloc_new w o1
theorem BD(w:World)(o1:Obj):Bw w (w.alloc o1):=(Below.refl _ _).alloc (Nat.le_refl _) _
theorem QX(w:World)(o1 o2:Obj):((w.alloc o1).alloc o2).heap[w.heap.size]?=some o1:=heap_alloc2_old w o1 o2
theorem QY(w:World)(o1 o2:Obj):((w.alloc o1).alloc o2).heap[w.heap.size+1]?=some o2:=heap_alloc2_new w o1 o2
theorem TI(w:World)(o1 o2:Obj):Bw w ((w.alloc o1).alloc o2):=((Below.refl _ _).alloc (Nat.le_refl _) _).alloc (by simp) _
theorem DG{w:World}{base e k8:Nat}{v:Value}{n:Nat}{xs:List Value}(h:w.ownsRow base e k8 v n xs):∃ g c,v=.slice g n c:=by
 rcases h.2 with⟨rfl,h0⟩|⟨g,cap,cur,hv,_⟩
 .exact⟨none,0,by rw[h0]⟩
 .exact⟨_,_,hv⟩
theorem WY{P:Program}{id:Nat}{ops:Array Oper}{K:Act->World->Prop}{Q:Exit->Act->World->Prop}{a:Act}{w:World}(R:World->Prop){A:Act}
  (hreg:∀ K':Act->World->Prop,Hid (∀ W2,R W2->K' A W2)->(Code.region id ops true).wp P (Exit.then K' Q) a w)(hrest:∀ W2,R W2->K A W2):(Code.region id ops true).wp P (Exit.then K Q) a w:=hreg K hrest
theorem WZ{P:Program}{id:Nat}{ops:Array Oper}{K:Act->World->Prop}{Q:Exit->Act->World->Prop}{a:Act}{w:World}(R:Option Addr->Nat->World->Prop){A:Option Addr->Nat->Act}
  (hreg:∀ K':Act->World->Prop,Hid (∀ g c W2,R g c W2->K' (A g c) W2)->(Code.region id ops true).wp P (Exit.then K' Q) a w)(hrest:∀ g c W2,R g c W2->K (A g c) W2):(Code.region id ops true).wp P (Exit.then K Q) a w:=hreg K hrest
theorem KC{w:World}{g:Nat}{cs:List Value}{t:TypeId}{fr:Nat × Nat}(h:w.heap[g]?=some (.cells cs.toArray t fr)):w.rangeAt g 0 cs:=fun j u hj=>by
 rw[cell_of_row _ _ (0+j) _ _ _ h];simpa using hj
theorem KD{w:World}{base k8 n:Nat}{v:Value}{xs:List Value}(h:w.ownsRow base 5 k8 v n xs){g:Nat}{cs:Array Value}{t:TypeId}{fr:Nat × Nat}(hg:w.heap[g]?=some (.cells cs t fr))(ht:t≠5):∀ k,v.ownBlock=some k->k≠g:=by
 intro k hk e;rcases h.2 with⟨h1,_⟩|⟨q,cap,cur,h1,_,h2,_⟩
 .rw[h1]at hk;cases hk
 .rw[h1]at hk
  have hk':q=k:=by simpa[Value.ownBlock]using hk
  rw[hk',e,hg]at h2
  simp only[Option.some.injEq,Obj.cells.injEq]at h2;exact ht h2.2.1
theorem TG{w:World}{base k8 n:Nat}{v:Value}{xs:List Value}(h:w.ownsRow base 5 k8 v n xs){g:Nat}{cs:Array Value}{t:TypeId}{fr:Nat × Nat}(hg:w.heap[g]?=some (.cells cs t fr))(ht:t≠5)(cs':Array Value):(w.setRow g cs').ownsRow base 5 k8 v n xs :=
 CL h (fun k hk=>setRow_other _ _ _ _ (KD h hg ht k hk))
theorem dA:(prog.info? 5).map (·.size)=some 1:=by kernel_rfl
theorem MT{P:Program}(w:World)(b o:Nat)(ty:TypeId)(v old:Value)(hc:w.cell? ⟨b,o,none⟩=some old)(hf:w.frozen? ⟨b,o,none⟩=false)(hi:(P.info? ty).map (·.size)=some 1)(hv:v.oneCell'=true) :
  (storeVar ty ⟨b,o,none⟩ v).run P w=.ok () (w.setCell ⟨b,o,none⟩ v):=by
 cases h:P.info? ty with
 | none=>rw[h]at hi;cases hi
 | some i =>
  rw[h]at hi
  simp at hi;have hadd:(⟨b,o,none⟩:Addr).add 0=⟨b,o,none⟩:=by unfold Addr.add;split<;>simp_all
  have hs:(Go.store ⟨b,o,none⟩ v .plain).run P w=.ok () (w.setCell ⟨b,o,none⟩ v):=by
   rw[run_store P w _ v .plain hv,hc];simp[hf]
  have hcs:v.cells=#[v]:=by cases v<;>first|rfl|cases hv
  unfold storeVar;rw[hcs];simp[sizeOf,typeInfo,h,hi,storeCells,hadd,hs,Result.andThen]
theorem Nm{P:Program}{op:Oper}{a:Act}{w:World}{K:Act->World->Prop}{Q:Exit->Act->World->Prop}(ty:TypeId)(x y:Operand)(ho:op.op=.store ty x y)
  (b o:Nat)(v old:Value)(hx:a.eval x=.pointer (some ⟨b,o,none⟩))(hy:a.eval y=v)(hc:w.cell? ⟨b,o,none⟩=some old)(hf:w.frozen? ⟨b,o,none⟩=false)(hi:(P.info? ty).map (·.size)=some 1)(hv:v.oneCell'=true)
  (h:K (a.put op.dst undef) (w.setCell ⟨b,o,none⟩ v)):op.wp P a w K Q:=by
 unfold Oper.wp execOp;simp only[ho,hx,hy,Instr.storeAt,Instr.sureAddr,Sem.run_bind,Sem.run_pure,Result.andThen_ok,MT w b o ty v old hc hf hi hv];exact h
theorem Q2{P:Program}{ops:Array Oper}{Q:Exit->Act->World->Prop}{i:Nat}{o:Oper}{a:Act}{w:World}{K:Act->World->Prop}(ho:ops[i]?=some o)(hw:Region.wanted o (yielded ops a.tmps)=true)(hd:o.dst=none)(ty:TypeId)(x y:Operand)(hop:o.op=.store ty x y)
  (b k:Nat)(v old:Value)(hx:a.eval x=.pointer (some ⟨b,k,none⟩))(hy:a.eval y=v)(hc:w.cell? ⟨b,k,none⟩=some old)(hf:w.frozen? ⟨b,k,none⟩=false)(hi:(P.info? ty).map (·.size)=some 1)(hv:v.oneCell'=true)
  (h:K a (w.setCell ⟨b,k,none⟩ v)):wpOp P ops Q i K a w :=
 wpOp_step ho fun K' hK=>by
  rw[if_pos hw];exact Nm ty x y hop b k v old hx hy hc hf hi hv (hK _ _ (by rw[hd];exact h))
structure Only(b:Nat)(w w':World):Prop where
 os:w'.os=w.os
 tape:w'.tape=w.tape
 output:w'.output=w.output
 size:w'.heap.size=w.heap.size
 other:∀ k,k≠b->w'.heap[k]?=w.heap[k]?
theorem Only.refl(b:Nat)(w:World):Only b w w:=⟨rfl,rfl,rfl,rfl,fun _ _=>rfl⟩
theorem Only.trans{b:Nat}{w w' w'':World}(h:Only b w w')(k:Only b w' w''):Only b w w'' :=
 ⟨k.os.trans h.os,k.tape.trans h.tape,k.output.trans h.output,k.size.trans h.size,fun i hi=>(k.other i hi).trans (h.other i hi)⟩
theorem Only.one(w:World)(b o:Nat)(v:Value):Only b w (w.setCell ⟨b,o,none⟩ v):=⟨rfl,rfl,rfl,by simp[World.setCell],fun k hk=>heap_setCell_other _ _ _ _ hk⟩
theorem Only.store(w:World)(b o:Nat)(vs:List Value):Only b w (w.setCells b o vs):=by
 induction vs generalizing w o with
 | nil=>exact Only.refl _ _
 | cons v r ih=>exact(Only.one w b o v).trans (ih _ _)
theorem eY{P:Program}{ops:Array Oper}{S:World->Prop}{op:Oper}{a:Act}(hw:Region.wanted op (yielded ops a.tmps)=true)(ty:TypeId)(x:Operand)(ho:op.op=.load ty x)
  (g:Nat)(hx:a.eval x=.pointer (some ⟨g,0,none⟩))(cs:Array Value)(t:TypeId)(fr:Nat × Nat)(d:TypeDesc)(hS:∀ w,S w->w.heap[g]?=some (.cells cs t fr))
  (hu:P.underlying ty=some d)(hd:(match d with|.struct _|.array _ _=>true|_=>false)=true)(hi:(P.info? ty).map (·.size)=some cs.size):YieldsIf P ops S op (.agg cs) a :=
 .inl ⟨hw,fun w hw'=>by
  unfold execOp;simp only[ho,hx,Instr.loadAt,Instr.sureAddr,Sem.run_bind,Sem.run_pure,Result.andThen_ok,run_loadVar_row w g t ty cs fr d (hS w hw') hu hd hi]⟩
theorem dB{P:Program}{fn:Func}{p p':Tmp}{ty ty':TypeId}(h:fn.results=#[.cell p ty,.cell p' ty'])(tmps:Array Value)(w:World)(g g':Nat)(t t':TypeId)(cs cs':Array Value)(fr fr':Nat × Nat)(d d':TypeDesc)
  (hp:tmps.getD p undef=.pointer (some ⟨g,0,none⟩))(hg:w.heap[g]?=some (.cells cs t fr))
  (hu:P.underlying ty=some d)(hd:(match d with|.struct _|.array _ _=>true|_=>false)=true)(hi:(P.info? ty).map (·.size)=some cs.size)
  (hp':tmps.getD p' undef=.pointer (some ⟨g',0,none⟩))(hg':w.heap[g']?=some (.cells cs' t' fr'))
  (hu':P.underlying ty'=some d')(hd':(match d' with|.struct _|.array _ _=>true|_=>false)=true)(hi':(P.info? ty').map (·.size)=some cs'.size) :
  (results fn tmps).run P w=.ok (.tuple #[.agg cs,.agg cs']) w:=by
 have hq:tmps[p]?.getD undef=.pointer (some ⟨g,0,none⟩):=by simpa using hp
 have hq':tmps[p']?.getD undef=.pointer (some ⟨g',0,none⟩):=by simpa using hp'
 simp[results,h,hq,hq',asAddr,run_loadVar_row w g t ty cs fr d hg hu hd hi,run_loadVar_row w g' t' ty' cs' fr' d' hg' hu' hd' hi']
theorem dC{P:Program}{fn:Func}{p p' u:Tmp}{ty ty':TypeId}(h:fn.results=#[.cell p ty,.cell p' ty',.tmp u])(tmps:Array Value)(w:World)(g g':Nat)(t t':TypeId)(cs cs':Array Value)(fr fr':Nat × Nat)(d d':TypeDesc)
  (hp:tmps.getD p undef=.pointer (some ⟨g,0,none⟩))(hg:w.heap[g]?=some (.cells cs t fr))
  (hu:P.underlying ty=some d)(hd:(match d with|.struct _|.array _ _=>true|_=>false)=true)(hi:(P.info? ty).map (·.size)=some cs.size)
  (hp':tmps.getD p' undef=.pointer (some ⟨g',0,none⟩))(hg':w.heap[g']?=some (.cells cs' t' fr'))
  (hu':P.underlying ty'=some d')(hd':(match d' with|.struct _|.array _ _=>true|_=>false)=true)(hi':(P.info? ty').map (·.size)=some cs'.size) :
  (results fn tmps).run P w=.ok (.tuple #[.agg cs,.agg cs',tmps.getD u undef]) w:=by
 have hq:tmps[p]?.getD undef=.pointer (some ⟨g,0,none⟩):=by simpa using hp
 have hq':tmps[p']?.getD undef=.pointer (some ⟨g',0,none⟩):=by simpa using hp'
 simp[results,h,hq,hq',asAddr,run_loadVar_row w g t ty cs fr d hg hu hd hi,run_loadVar_row w g' t' ty' cs' fr' d' hg' hu' hd' hi']
theorem OO(t e:TypeId)(N k:Nat)(ht:prog.underlying t=some (.array N e))(hk:(prog.info? e).map (·.size)=some k)(b o i:Nat)(hi:i<N)(w:World):(Instr.indexAt t (.pointer (some ⟨b,o,none⟩)) (.int .i64 (i:Int))).run prog w=.ok (.pointer (some ⟨b,o+k*i,none⟩)) w:=by
 have hs:(Go.sizeOf e).run prog w=.ok k w:=by
  cases hq:prog.info? e with
  | none=>rw[hq]at hk;cases hk
  | some x =>
   rw[hq]at hk
   simp at hk;simp[sizeOf,typeInfo,hq,hk]
 simp only[Instr.indexAt,Sem.run_bind,run_underlying ht w,Result.andThen_ok,Instr.sureAddr,Sem.run_pure,asIntOf];rw[if_pos ⟨by omega,by omega⟩];simp[hs,Result.andThen,Addr.add_mid,Nat.mul_comm]
theorem Qz{P:Program}{ops:Array Oper}{Q:Exit->Act->World->Prop}{i:Nat}{o:Oper}{a:Act}{w:World}{K:Act->World->Prop}(ho:ops[i]?=some o)(hw:Region.wanted o (yielded ops a.tmps)=true)(hd:o.dst=none)(ty:TypeId)(x y:Operand)(hop:o.op=.store ty x y)
  (b k:Nat)(cells:Array Value)(hx:a.eval x=.pointer (some ⟨b,k,none⟩))(hy:a.eval y=.agg cells)(ht:w.there b k cells.size)(hi:(P.info? ty).map (·.size)=some cells.size)(h1:cells.all (·.oneCell')=true)
  (h:K a (w.setCells b k cells.toList)):wpOp P ops Q i K a w :=
 wpOp_step ho fun K' hK=>by
  rw[if_pos hw];exact wp_store_mid ty x y hop b k cells hx hy ht hi h1 (hK _ _ (by rw[hd];exact h))
def KI(j:Nat)(k:Int):Bool:=if j=0 then Fw k else if j=1 then G4 k else G7 k
def XB(j:Nat):Int:=if j=0 then 4 else if j=1 then 1048576 else 100000
structure LWTab(w:World):Prop where
 lt:0<w.heap.size
 text:∀ k:Nat,k<10->w.cell? ⟨0,4*k,none⟩=some (.string (strOfNums (Si (k:Int))))
 has:∀ k j:Nat,k<10->j<3->w.cell? ⟨0,4*k+1+j,none⟩=some (.bool (KI j (k:Int)))
theorem LWTab.below{w w':World}(h:LWTab w)(hb:Bw w w'):LWTab w' :=
 ⟨Nat.lt_of_lt_of_le h.lt hb.size,fun k hk=>(hb.cell (p:=⟨0,4*k,none⟩) h.lt).trans (h.text k hk),fun k j hk hj=>(hb.cell (p:=⟨0,4*k+1+j,none⟩) h.lt).trans (h.has k j hk hj)⟩
structure LBTab(w:World):Prop where
 lt:1<w.heap.size
 bnd:∀ j:Nat,j<3->w.cell? ⟨1,j,none⟩=some (.int .i64 (XB j))
theorem LBTab.below{w w':World}(h:LBTab w)(hb:Bw w w'):LBTab w' :=
 ⟨Nat.lt_of_lt_of_le h.lt hb.size,fun j hj=>(hb.cell (p:=⟨1,j,none⟩) h.lt).trans (h.bnd j hj)⟩
theorem di:(prog.info? 120).map (·.size)=some 4:=by kernel_rfl
theorem T5(k:Nat)(hk:k<10)(w:World):(Instr.indexAt 121 (.pointer (some ⟨0,0,none⟩)) (.int .i64 (k:Int))).run prog w=.ok (.pointer (some ⟨0,4*k,none⟩)) w:=by
 have h:=OO 121 120 10 4 underlying121 di 0 0 k hk w
 rwa [Nat.zero_add]at h
end
section
open Go.ChangeShapes Go.WideShapes Go.ChangeAt Go.RowKit
theorem own:ownKnob prog.godebug=none:=by kernel_rfl
theorem Yq:laidOutB prog=true:=by kernel_rfl
theorem Ym:prog.cellsOf 3=1:=by kernel_rfl
theorem Yn:prog.cellsOf 4=1:=by kernel_rfl
theorem Yo:prog.cellsOf 9=1:=by kernel_rfl
theorem R7:prog.cellsOf 120=4:=by kernel_rfl
theorem R6:prog.cellsOf 118=3:=by kernel_rfl
theorem Vm : prog.globalNamed "conclave/lines.words" = some 0 := by kernel_rfl
theorem PU:(prog.globals[0]?).map (·.type)=some 121:=by kernel_rfl
theorem R3 : prog.globalNamed "conclave/lines.bounds" = some 1 := by kernel_rfl
theorem NV:(prog.globals[1]?).map (·.type)=some 122:=by kernel_rfl
theorem J1{W:World}{name:String}{g:Nat}{cs:Array Value}(hg:prog.globalNamed name=some g)(h:W.var? prog name=some cs):∃ t fr,W.heap[g]?=some (.cells cs t fr):=by
 unfold World.var? at h;rw[hg]at h
 simp only[Option.bind_some]at h;split at h
 .rename_i c t fr hh
  simp only[Option.some.injEq]at h;subst h;exact⟨t,fr,hh⟩
 .cases h
theorem Qo{H:Type}{enc:TypeId × Value->H}{W:World}{base:Nat}{sp:Nat->Bool}{held:Bool}{fuel:Nat}{cs:List Value}{a b c:Bool}{p:List MemPlace}
  (h:DataW.trod enc prog W base sp held fuel 118 cs=some (.agg [.lit (.bool a),.lit (.bool b),.lit (.bool c)],p)) :
  cs=[.bool a,.bool b,.bool c]:=by
 obtain⟨xs,m,_,hx,hl,hxl,hb⟩:=DataW.trod_array underlying118 h;rw[R6]at hl
 rw[Yn]at hb
 match xs,hxl,cs,hl with
 | [x0,x1,x2],_,[c0,c1,c2],_ =>
  simp only[List.map_cons,List.map_nil,Prod.mk.injEq,DataW.agg.injEq,List.cons.injEq,and_true]at hx;obtain⟨⟨h0,h1,h2⟩,_⟩:=hx;obtain⟨a0,e0,y0⟩:=DataW.trod_bool underlying4 (hb 0 (by omega));obtain⟨a1,e1,y1⟩:=DataW.trod_bool underlying4 (hb 1 (by omega));obtain⟨a2,e2,y2⟩:=DataW.trod_bool underlying4 (hb 2 (by omega));simp at e0 e1 e2 y0 y1 y2;subst e0 e1 e2 y0 y1 y2;simp at h0 h1 h2;subst h0 h1 h2;rfl
theorem Ug{H:Type}{enc:TypeId × Value->H}{W:World}{base:Nat}{sp:Nat->Bool}{held:Bool}{fuel:Nat}{cs:List Value}{s:List UInt8}{a b c:Bool}{p:List MemPlace}
  (h:DataW.trod enc prog W base sp held fuel 120 cs=some (.agg [.lit (.string s),.agg [.lit (.bool a),.lit (.bool b),.lit (.bool c)]],p)) :
  cs=[.string ⟨s.toArray⟩,.bool a,.bool b,.bool c]:=by
 obtain⟨⟨y0,p0⟩,⟨y1,p1⟩,n,hx,hl,h0,h1⟩:=trod_struct2 underlying120 h;rw[R7]at hl
 simp only[Yo,R6]at h0 h1;simp only[Prod.mk.injEq,DataW.agg.injEq,List.cons.injEq,and_true]at hx;obtain⟨⟨rfl,rfl⟩,_⟩:=hx;have r1:=Qo h1;obtain⟨z,e0,y0,_⟩:=DataW.trod_string underlying9 h0
 match cs,hl with
 | [c0,c1,c2,c3],_ =>
  simp at e0 r1 y0;obtain⟨y0,_⟩:=y0;subst e0 y0;obtain⟨rfl,rfl,rfl⟩:=r1;rfl
theorem R1{l:List Value}{a:Nat}{x0 x1 x2 x3:Value}(h:(l.drop a).take 4=[x0,x1,x2,x3]):l[a]?=some x0/\l[a+1]?=some x1/\l[a+2]?=some x2/\l[a+3]?=some x3:=by
 have g:∀ i,i<4->l[a+i]?=[x0,x1,x2,x3][i]?:=fun i hi=>by rw[<- h,List.getElem?_take_of_lt hi,List.getElem?_drop]
 exact⟨g 0 (by omega),g 1 (by omega),g 2 (by omega),g 3 (by omega)⟩
theorem V7{H:Type}(k:Nat)(hk:k<10){l:List (DataW H)}(h:(Rows.laid_conclave_lines_words:DataW H)=.agg l) :
  l[k]?=some (.agg [.lit (.string ((Si (k:Int)).map fun n=>UInt8.ofNat n.toNat)),.agg [.lit (.bool (KI 0 (k:Int))),.lit (.bool (KI 1 (k:Int))),.lit (.bool (KI 2 (k:Int)))]]):=by
 simp only[Rows.laid_conclave_lines_words,DataW.agg.injEq]at h;subst h
 match k,hk with
 | 0,_=>rfl
 | 1,_=>rfl
 | 2,_=>rfl
 | 3,_=>rfl
 | 4,_=>rfl
 | 5,_=>rfl
 | 6,_=>rfl
 | 7,_=>rfl
 | 8,_=>rfl
 | 9,_=>rfl
theorem V6{H:Type}(k:Nat)(hk:k<3){l:List (DataW H)}(h:(Rows.laid_conclave_lines_bounds:DataW H)=.agg l):l[k]?=some (.lit (.int .i64 (XB k))):=by
 simp only[Rows.laid_conclave_lines_bounds,DataW.agg.injEq]at h;subst h
 match k,hk with
 | 0,_=>rfl
 | 1,_=>rfl
 | 2,_=>rfl
theorem Zf {W : World} {rest : List (String × DataW Unit)} {ps : List MemPlace} (h : DataW.LaidVars prog W (("conclave/lines.bounds", Rows.laid_conclave_lines_bounds) :: ("conclave/lines.words", Rows.laid_conclave_lines_words) :: rest) ps) : LWTab W ∧ LBTab W := by
 obtain⟨g0,t0,cs0,fuel0,p0,q0,hg0,ht0,hvar0,hd0,⟨g1,t1,cs1,fuel1,p1,q1,hg1,ht1,hvar1,hd1,_,_⟩,_⟩:=h;obtain rfl:=Option.some.inj (R3.symm.trans hg0);obtain rfl:=Option.some.inj (NV.symm.trans ht0);obtain rfl:=Option.some.inj (Vm.symm.trans hg1);obtain rfl:=Option.some.inj (PU.symm.trans ht1);constructor
 .obtain⟨xs,m,_,hx,hl,hxl,hb⟩:=DataW.trod_array underlying121 hd1;rw[R7]at hb
  simp only[Prod.mk.injEq]at hx;obtain⟨t,fr,hr⟩:=J1 Vm hvar1;have hk:∀ k:Nat,k<10->(cs1.toList.drop (k*4)).take 4=[.string (strOfNums (Si (k:Int))),.bool (KI 0 (k:Int)),.bool (KI 1 (k:Int)),.bool (KI 2 (k:Int))]:=fun k hk=>by
   have h1:=V7 k hk hx.1;rw[List.getElem?_map]at h1
   obtain⟨⟨d,p⟩,hx1,hx2⟩:=Option.map_eq_some_iff.1 h1;have h2:=hb k hk;rw[hx1]at h2
   simp only at hx2;subst hx2;exact Ug h2
  have hc:∀ (i:Nat) (v:Value),cs1.toList[i]?=some v->W.cell? ⟨0,i,none⟩=some v:=fun i v hv=>by
   refine(cell_of_row _ _ i _ _ _ hr).trans ?_
   rwa [Array.getElem?_toList]at hv
  refine⟨(Array.getElem?_eq_some_iff.1 hr).1,fun k h=>?_,fun k j h hj=>?_⟩
  .rw[Nat.mul_comm];exact hc _ _ (R1 (hk k h)).1
  .rw[Nat.mul_comm];obtain⟨_,f1,f2,f3⟩:=R1 (hk k h)
   match j,hj with
   | 0,_=>exact hc _ _ f1
   | 1,_=>exact hc _ _ f2
   | 2,_=>exact hc _ _ f3
 .obtain⟨xs,m,_,hx,hl,hxl,hb⟩:=DataW.trod_array underlying122 hd0;rw[Ym]at hb
  simp only[Prod.mk.injEq]at hx;obtain⟨t,fr,hr⟩:=J1 R3 hvar0;refine⟨(Array.getElem?_eq_some_iff.1 hr).1,fun j hj=>(cell_of_row _ _ j _ _ _ hr).trans ?_⟩;have h1:=V6 j hj hx.1;rw[List.getElem?_map]at h1
  obtain⟨⟨d,p⟩,hx1,hx2⟩:=Option.map_eq_some_iff.1 h1;have h2:=hb j hj;rw[hx1]at h2
  obtain⟨n,e0,y0,_⟩:=DataW.trod_int underlying3 h2;simp only[Prod.mk.injEq]at y0;obtain⟨rfl,_⟩:=y0;simp at hx2;subst hx2;have h3:((cs0.toList.drop (j*1)).take 1)[0]?=some (.int .i64 (XB j)):=by rw[e0];rfl
  rw[List.getElem?_take_of_lt (by omega),List.getElem?_drop,Array.getElem?_toList,Nat.mul_one,Nat.add_zero]at h3
  exact h3
def Pz:Array Value:=((List.range 10).flatMap fun k=>[.string (strOfNums (Si (k:Int))),.bool (KI 0 (k:Int)),.bool (KI 1 (k:Int)),.bool (KI 2 (k:Int))]).toArray
def Nu:Array Value:=((List.range 3).map fun k=>.int .i64 (XB k)).toArray
def V5(cs:Array Value):Obj->Obj
 | .cells _ t frozen=>.cells cs t frozen
 | o=>o
end
section
open Go.RowKit
def cmA(k c s n v:Int):Array Value:=#[.int .i64 k,.int .i64 c,.int .i64 s,.int .i64 n,.int .i64 v]
def tkA(c r u:Int):Array Value:=#[.int .i64 c,.int .i64 r,.int .i64 u]
def InC(c s n v:Int):Prop:=0<=c/\c<=7/\0<=s/\s<=1048576/\0<=n/\n<=7/\0<=v/\v<=1073741824
instance (c s n v:Int):Decidable (InC c s n v):=by unfold InC;exact inferInstance
def AT(k c s n v:Int):Int :=
 if ¬ (0<=k/\k<=3)then 4
 else if k=0 then(if c=0/\s=0/\n=0/\v=0 then 0 else 3)
 else if ¬ InC c s n v then 2
 else if 1<k/\v≠0 then 3
 else 0
theorem S8{k c s n v:Int}(h:¬ (0<=k/\k<=3)):AT k c s n v=4:=if_pos h
theorem S9{c s n v:Int}(h:c=0/\s=0/\n=0/\v=0):AT 0 c s n v=0:=by
 unfold AT;rw[if_neg (by omega),if_pos rfl,if_pos h]
theorem PA{c s n v:Int}(h:¬ (c=0/\s=0/\n=0/\v=0)):AT 0 c s n v=3:=by
 unfold AT;rw[if_neg (by omega),if_pos rfl,if_neg h]
theorem PB{k c s n v:Int}(h:1<=k/\k<=3)(hi:¬ InC c s n v):AT k c s n v=2:=by
 unfold AT;rw[if_neg (by omega),if_neg (by omega),if_pos hi]
theorem S7{k c s n v:Int}(h:2<=k/\k<=3)(hi:InC c s n v)(hv:v≠0):AT k c s n v=3:=by
 unfold AT;rw[if_neg (by omega),if_neg (by omega),if_neg (fun g=>g hi),if_pos ⟨by omega,hv⟩]
theorem Rt{k c s n v:Int}(h:1<=k/\k<=3)(hi:InC c s n v)(hv:k=1\/v=0):AT k c s n v=0:=by
 unfold AT;rw[if_neg (by omega),if_neg (by omega),if_neg (fun g=>g hi),if_neg (by omega)]
theorem F7{k c s n v:Int}(h:AT k c s n v=0):(0<=k/\k<=3)/\InC c s n v:=by
 unfold AT at h;split at h
 .omega
 .rename_i h1
  split at h
  .split at h
   .rename_i h3
    exact⟨by omega,by unfold InC;omega⟩
   .omega
  .split at h
   .omega
   .rename_i h3
    exact⟨by omega,Classical.not_not.1 h3⟩
def Ia(k c s n v:Int):List Int:=Ag k++Ag c++Ag s++Ag n++Ag v
theorem EX(k c s n v:Int):(Ia k c s n v).length=20:=rfl
theorem L3(k c s n v:Int):∀ x∈Ia k c s n v,0<=x/\x<256:=by
 intro x hx;rcases List.mem_append.1 hx with hx|hx
 .rcases List.mem_append.1 hx with hx|hx
  .rcases List.mem_append.1 hx with hx|hx
   .rcases List.mem_append.1 hx with hx|hx
    .exact AL _ x hx
    .exact AL _ x hx
   .exact AL _ x hx
  .exact AL _ x hx
 .exact AL _ x hx
def Ab(l:List Int)(i:Nat):Int:=16777216*l.getD i 0+65536*l.getD (i+1) 0+256*l.getD (i+2) 0+l.getD (i+3) 0
def BZ(l:List Int):Int:=if l.length≠20 then 1 else AT (Ab l 0) (Ab l 4) (Ab l 8) (Ab l 12) (Ab l 16)
def Ja(l:List Int):Array Value:=if BZ l=0 then cmA (Ab l 0) (Ab l 4) (Ab l 8) (Ab l 12) (Ab l 16)else cmA 0 0 0 0 0
def CE(c r u:Int):Prop:=(0<=c/\c<=7)/\(0<=r/\r<=7)/\0<=u/\u<=1048576
instance (c r u:Int):Decidable (CE c r u):=by unfold CE;exact inferInstance
def Lt(c r u:Int):Int:=if CE c r u then 0 else 2
theorem Jz{c r u:Int}(h:CE c r u):Lt c r u=0:=if_pos h
theorem RX{c r u:Int}(h:¬ CE c r u):Lt c r u=2:=if_neg h
def Mq(k r:Int):Prop:=(k=1/\r/2%2=1)\/(k=2/\r%2=1)\/(k=3/\r/4=1)
instance (k r:Int):Decidable (Mq k r):=by unfold Mq;exact inferInstance
def DZ(tc tr tu k c s n v now:Int):Int :=
 if ¬ CE tc tr tu then 2
 else if AT k c s n v≠0 then AT k c s n v
 else if ¬ (Mq k tr/\c=tc)then 11
 else if ¬ (0<=now/\now<=tu)then 10
 else 0
theorem Uq{tc tr tu k c s n v now:Int}(h:¬ CE tc tr tu):DZ tc tr tu k c s n v now=2:=if_pos h
theorem Up{tc tr tu k c s n v now:Int}(h:CE tc tr tu)(h1:AT k c s n v≠0):DZ tc tr tu k c s n v now=AT k c s n v:=by
 unfold DZ;rw[if_neg (fun g=>g h),if_pos h1]
theorem J6{tc tr tu k c s n v now:Int}(h:CE tc tr tu)(h1:AT k c s n v=0)(h2:¬ (Mq k tr/\c=tc)):DZ tc tr tu k c s n v now=11:=by
 unfold DZ;rw[if_neg (fun g=>g h),if_neg (fun g=>g h1),if_pos h2]
theorem Sr{tc tr tu k c s n v now:Int}(h:CE tc tr tu)(h1:AT k c s n v=0)(h2:Mq k tr/\c=tc)(h3:¬ (0<=now/\now<=tu)):DZ tc tr tu k c s n v now=10:=by
 unfold DZ;rw[if_neg (fun g=>g h),if_neg (fun g=>g h1),if_neg (fun g=>g h2),if_pos h3]
theorem X3{tc tr tu k c s n v now:Int}(h:CE tc tr tu)(h1:AT k c s n v=0)(h2:Mq k tr/\c=tc)(h3:0<=now/\now<=tu):DZ tc tr tu k c s n v now=0:=by
 unfold DZ;rw[if_neg (fun g=>g h),if_neg (fun g=>g h1),if_neg (fun g=>g h2),if_neg (fun g=>g h3)]
def Jp(c r u:Int):List Int:=c::r::Ag u
theorem DI(c r u:Int):(Jp c r u).length=6:=rfl
theorem Mi{c r u:Int}(h:CE c r u):∀ x∈Jp c r u,0<=x/\x<256:=by
 obtain⟨h1,h2,h3⟩:=h;intro x hx;rcases List.mem_cons.1 hx with rfl|hx
 .omega
 rcases List.mem_cons.1 hx with rfl|hx
 .omega
 exact AL _ x hx
theorem Rx(a b c d e a' b' c' d' e':Int):∀ w,(binOp .eql 54 (.agg #[.int .i64 a,.int .i64 b,.int .i64 c,.int .i64 d,.int .i64 e]) (.agg #[.int .i64 a',.int .i64 b',.int .i64 c',.int .i64 d',.int .i64 e'])).run prog w=.ok (.bool (decide (a=a'/\b=b'/\c=c'/\d=d'/\e=e'))) w:=by
 intro w;rw[run_eql_struct,run_equalIn_agg w 9999 _ _ _ (by kernel_rfl) (by kernel_rfl)];unfold Program.fieldsOf;rw[underlying54];have h3:=underlying3;simp[Op.eqFields,go_sem,h3]
 repeat' split
 all_goals simp_all
theorem Y0(a b c d e a' b' c' d' e':Int):∀ w,(binOp .neq 54 (.agg #[.int .i64 a,.int .i64 b,.int .i64 c,.int .i64 d,.int .i64 e]) (.agg #[.int .i64 a',.int .i64 b',.int .i64 c',.int .i64 d',.int .i64 e'])).run prog w=.ok (.bool (!decide (a=a'/\b=b'/\c=c'/\d=d'/\e=e'))) w:=by
 intro w;rw[run_neq_struct,run_equalIn_agg w 9999 _ _ _ (by kernel_rfl) (by kernel_rfl)];unfold Program.fieldsOf;rw[underlying54];have h3:=underlying3;simp[Op.eqFields,go_sem,h3]
 repeat' split
 all_goals simp_all
theorem Eb{w:World}{g:Nat}{k c s n v:Int}{ty:TypeId}{fr:Nat × Nat}(h:w.heap[g]?=some (.cells (cmA k c s n v) ty fr)) :
  w.cell? ⟨g,0,none⟩=some (.int .i64 k)/\w.cell? ⟨g,1,none⟩=some (.int .i64 c)/\w.cell? ⟨g,2,none⟩=some (.int .i64 s)/\w.cell? ⟨g,3,none⟩=some (.int .i64 n)/\w.cell? ⟨g,4,none⟩=some (.int .i64 v) :=
 ⟨cell_of_row _ _ 0 _ _ _ h,cell_of_row _ _ 1 _ _ _ h,cell_of_row _ _ 2 _ _ _ h,cell_of_row _ _ 3 _ _ _ h,cell_of_row _ _ 4 _ _ _ h⟩
theorem Yi(c s n v:Int):InC c s n v↔(((0<=c/\c<=7)/\(0<=s/\s<=1048576))/\(0<=n/\n<=7))/\(0<=v/\v<=1073741824):=by unfold InC;omega
structure Bc(w:World)(g:Nat)(k c s n v:Int):Prop where
 lt:g<w.heap.size
 row:w.heap[g]?=some (.cells (cmA k c s n v) 54)
theorem Bc.made(w:World)(k c s n v:Int):Bc (w.alloc (.cells (cmA k c s n v) 54)) w.heap.size k c s n v:=⟨by simp,heap_alloc_new _ _⟩
theorem Bc.below{w w':World}{g:Nat}{k c s n v:Int}(h:Bc w g k c s n v)(hb:Bw w w'):Bc w' g k c s n v :=
 ⟨Nat.lt_of_lt_of_le h.lt hb.size,(hb.block g h.lt).trans h.row⟩
theorem F8(k c s n v:Int):(prog.info? 54).map (·.size)=some (cmA k c s n v).size:=by show _=some 5;kernel_rfl
def LT:List Int:=[0,0,0,2,7,1073741824,1,7,0,4,7,0]
structure NTab(w:World):Prop where
 lt:2<w.heap.size
 cell:∀ i,i<12->w.cell? ⟨2,i,none⟩=some (.int .i64 (LT.getD i 0))
theorem NTab.below{w w':World}(h:NTab w)(hb:Bw w w'):NTab w' :=
 ⟨Nat.lt_of_lt_of_le h.lt hb.size,fun i hi=>(hb.cell (p:=⟨2,i,none⟩) h.lt).trans (h.cell i hi)⟩
theorem El(n g:Int)(w:World) :
  Calls prog 109 #[.int .i64 n,.int .i64 g] w fun e w'=>e=.returned (.bool (decide (0<=n/\n<=g)))/\w'=w:=by
 by_cases h0:0<=n
 .by_cases h1:n<=g
  .rw[decide_eq_true ⟨h0,h1⟩];go_enter func109,ntmps109
   go_wp2
   go_ret;exact⟨Ac (by simp),rfl⟩
  .rw[decide_eq_false (by omega)];go_enter func109,ntmps109
   go_wp2
   go_ret;exact⟨Ac (by simp),rfl⟩
 .rw[decide_eq_false (by omega)];go_enter func109,ntmps109
  go_wp2
  go_ret;exact⟨Ac (by simp),rfl⟩
theorem Hs{n g:Int}{b:Bool}(h:Hid (decide (0<=n/\n<=g)=b))(w:World) :
  Calls prog 109 #[.int .i64 n,.int .i64 g] w fun e w'=>e=.returned (.bool b)/\w'=w:=by
 rw[<- h.out];exact El n g w
theorem Qc(k:Int)(w:World) :
  Calls prog 113 #[.int .i64 k] w fun e w'=>e=.returned (.bool (decide (0<=k/\k<=3)))/\w'=w:=by
 go_enter func113,ntmps113
 go_wp2_with fail
 refine(El k 3 _).mono ?_;rintro e w1 ⟨rfl,rfl⟩;go_wp2
 go_ret;exact⟨Ac (by simp),rfl⟩
theorem VS(c s n v:Int)(w:World) :
  Calls prog 114 #[.agg (cmA 0 c s n v)] w fun e w'=>e=.returned (.int .i64 (AT 0 c s n v))/\Bw w w':=by
 have bb:Bw w (w.alloc (.cells (cmA 0 c s n v) 54)):=(Below.refl _ _).alloc (Nat.le_refl _) _;simp only[cmA]at bb ⊢;have hq:=Y0 0 c s n v 0 0 0 0 0;by_cases h:c=0/\s=0/\n=0/\v=0
 .have HE:Hid (0=AT 0 c s n v):=(S9 h).symm;rw[decide_eq_true ⟨rfl,h⟩]at hq
  clear h;go_enter func114,ntmps114
  go_wp2
  go_ret;exact⟨Az HE.out,bb⟩
 .have HE:Hid (3=AT 0 c s n v):=(PA h).symm;rw[decide_eq_false (fun g=>h g.2)]at hq
  clear h;go_enter func114,ntmps114
  go_wp2
  go_ret;exact⟨Az HE.out,bb⟩
theorem NTab.name{w:World}(h:NTab w)(k:Nat)(h0:1<=k)(h1:k<=3):w.cell? ⟨2,k*3+1,none⟩=some (.int .i64 7):=by
 rcases(by omega:k=1\/k=2\/k=3)with rfl|rfl|rfl
 .exact h.cell 4 (by omega)
 .exact h.cell 7 (by omega)
 .exact h.cell 10 (by omega)
theorem MA(k c s n v:Int)(w:World)(hk:1<=k/\k<=3)(ht:NTab w) :
  Calls prog 115 #[.agg (cmA k c s n v)] w fun e w'=>e=.returned (.bool (decide (InC c s n v)))/\Bw w w':=by
 have bb:Bw w (w.alloc (.cells (cmA k c s n v) 54)):=(Below.refl _ _).alloc (Nat.le_refl _) _;have hN:=(ht.below bb).name;have rr:=heap_alloc_new w (.cells (cmA k c s n v) 54);simp only[cmA]at bb hN rr ⊢;obtain⟨m,rfl⟩:=Int.eq_ofNat_of_zero_le (show 0<=k by omega);replace hN:=hN m (by omega) (by omega);have k0:(0:Int)<=(m:Int):=by omega
 have k1:(m:Int)<4:=by omega
 have k2:m<4:=by omega
 clear hk ht;have HI:Hid (InC c s n v↔_):=Yi c s n v;generalize hW:w.alloc (.cells #[.int .i64 (m:Int),.int .i64 c,.int .i64 s,.int .i64 n,.int .i64 v] 54)=W at bb hN rr;go_enter func115,ntmps115
 go_wp2_with fail
 clear hW;obtain⟨c0,c1,c2,c3,c4⟩:=Eb rr;clear rr;by_cases h1:0<=c/\c<=7
 .have U1:Hid (decide _=true):=decide_eq_true h1;by_cases h2:0<=s/\s<=1048576
  .have U2:Hid (decide _=true):=decide_eq_true h2;by_cases h3:0<=n/\n<=7
   .have U3:Hid (decide _=true):=decide_eq_true h3;by_cases h4:0<=v/\v<=1073741824
    .have U4:Hid (decide _=true):=decide_eq_true h4;have HB:Hid (true=decide (InC c s n v)):=(decide_eq_true (HI.out.2 ⟨⟨⟨h1,h2⟩,h3⟩,h4⟩)).symm;clear h1 h2 h3 h4 HI;go_quiet ((go_at_call 109;exact Calls.quiet_of_same (Hs (by assumption) _)))
     go_wp2
     go_ret;exact⟨Ac HB.out,An bb nq⟩
    .have U4:Hid (decide _=false):=decide_eq_false h4;have HB:Hid (false=decide (InC c s n v)):=(decide_eq_false (fun G=>h4 ((fun g=>g.2) (HI.out.1 G)))).symm;clear h1 h2 h3 h4 HI;go_quiet ((go_at_call 109;exact Calls.quiet_of_same (Hs (by assumption) _)))
     go_wp2
     go_ret;exact⟨Ac HB.out,An bb nq⟩
   .have U3:Hid (decide _=false):=decide_eq_false h3;have HB:Hid (false=decide (InC c s n v)):=(decide_eq_false (fun G=>h3 ((fun g=>g.1.2) (HI.out.1 G)))).symm;clear h1 h2 h3 HI;go_quiet ((go_at_call 109;exact Calls.quiet_of_same (Hs (by assumption) _)))
    go_wp2
    go_ret;exact⟨Ac HB.out,An bb nq⟩
  .have U2:Hid (decide _=false):=decide_eq_false h2;have HB:Hid (false=decide (InC c s n v)):=(decide_eq_false (fun G=>h2 ((fun g=>g.1.1.2) (HI.out.1 G)))).symm;clear h1 h2 HI;go_quiet ((go_at_call 109;exact Calls.quiet_of_same (Hs (by assumption) _)))
   go_wp2
   go_ret;exact⟨Ac HB.out,An bb nq⟩
 .have U1:Hid (decide _=false):=decide_eq_false h1;have HB:Hid (false=decide (InC c s n v)):=(decide_eq_false (fun G=>h1 ((fun g=>g.1.1.1) (HI.out.1 G)))).symm;clear h1 HI;go_quiet ((go_at_call 109;exact Calls.quiet_of_same (Hs (by assumption) _)))
  go_wp2
  go_ret;exact⟨Ac HB.out,An bb nq⟩
end
end Go.Proofs.YtalbmmghmoggcaaGreatDoor
