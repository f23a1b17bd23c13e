/- Part 2 of the walk. -/
import Derived.Deep.MidRow
import Derived.Laws.Tables
import Derived.Laws.Rows
import Derived.Deep.RegionLaw
import Derived.Deep.RegionHeld3
import Derived.Laws.CopyRow
import Derived.Deep.Cut
import Derived.Laws.Strings2
import Derived.Test.YthohlalejhgbmaaGreatDoorCards
import Derived.Test.YthohlalejhgbmaaGreatDoorTie
import Derived.SizedLaws
import Derived.ChangeOld
import Derived.ChangeSame
import Derived.ChangeMaps5
import Derived.Deep.DeepHandedRow
import Derived.Lib.LaidTab
import Derived.Deep.Strs
import Derived.Test.YthohlalejhgbmaaGreatDoorZ1
set_option maxRecDepth 100000
set_option maxHeartbeats 4000000
open Go.Proofs.Tryz
set_option linter.unusedVariables false
namespace Go.Proofs.YthohlalejhgbmaaGreatDoor
section
open Go.RowKit
section
theorem Br{a b:Int}(h:a=b):Ending.returned (.int .i64 a)=.returned (.int .i64 b):=by rw[h]
def chA(k:Value)(s t:Int)(l:List Bool):Array Value:=(k::.int .i64 s::.int .i64 t::l.map Value.bool).toArray
theorem F9(k:Value)(s t:Int)(l:List Bool):(chA k s t l).size=l.length+3:=by simp[chA]
theorem SM(k:Value)(s t:Int)(l:List Bool):(chA k s t l)[0]?=some k:=by simp[chA]
theorem OV(k:Value)(s t:Int)(l:List Bool):(chA k s t l)[1]?=some (.int .i64 s):=by simp[chA]
theorem G9(l:List Bool)(a:l.length=8):∃ b0 b1 b2 b3 b4 b5 b6 b7,l=[b0,b1,b2,b3,b4,b5,b6,b7]:=by
 match l,a with
 | [b0,b1,b2,b3,b4,b5,b6,b7],_=>exact⟨b0,b1,b2,b3,b4,b5,b6,b7,rfl⟩
variable{b0 b1 b2 b3 b4 b5 b6 b7:Bool}{fr:Nat × Nat}{g:Nat}{h:List Int}{l:List Bool}{n t:Int}{ty:TypeId}{w:World}
theorem TZ{k:Value}{s:Int}(h:w.heap[g]?=some (.cells (chA k s t [b0,b1,b2,b3,b4,b5,b6,b7]) ty fr)) :
  w.cell? ⟨g,0,none⟩=some k/\w.cell? ⟨g,1,none⟩=some (.int .i64 s)/\w.cell? ⟨g,2,none⟩=some (.int .i64 t)/\w.cell? ⟨g,3,none⟩=some (.bool b0)/\w.cell? ⟨g,4,none⟩=some (.bool b1)/\w.cell? ⟨g,5,none⟩=some (.bool b2)/\w.cell? ⟨g,6,none⟩=some (.bool b3)/\w.cell? ⟨g,7,none⟩=some (.bool b4)/\w.cell? ⟨g,8,none⟩=some (.bool b5)/\w.cell? ⟨g,9,none⟩=some (.bool b6)/\w.cell? ⟨g,10,none⟩=some (.bool b7) :=
 ⟨cell_of_row _ _ 0 _ _ _ h,cell_of_row _ _ 1 _ _ _ h,cell_of_row _ _ 2 _ _ _ h,cell_of_row _ _ 3 _ _ _ h,cell_of_row _ _ 4 _ _ _ h,cell_of_row _ _ 5 _ _ _ h,cell_of_row _ _ 6 _ _ _ h,cell_of_row _ _ 7 _ _ _ h,cell_of_row _ _ 8 _ _ _ h,cell_of_row _ _ 9 _ _ _ h,cell_of_row _ _ 10 _ _ _ h⟩
def wA(t:Int)(l:List Bool):Array Value:=(.int .i64 t::l.map Value.bool).toArray
theorem D8(t:Int)(l:List Bool):(wA t l).size=l.length+1:=by simp[wA]
theorem gv(t:Int)(l:List Bool):(wA t l)[0]?=some (.int .i64 t):=by simp[wA]
theorem Kx(t:Int)(l:List Bool)(i:Nat)(a:i<l.length):(wA t l)[1+i]?=some (.bool (l.getD i false)):=by
 rw[nH];simp[wA,List.getD,List.getElem?_eq_getElem a]
theorem OH(t:Int)(l:List Bool):(wA t l).all (·.oneCell')=true:=by simp[wA,Value.oneCell']
theorem Mc(h:w.heap[g]?=some (.cells (wA t [b0,b1,b2,b3,b4,b5,b6,b7]) ty fr)) :
  w.cell? ⟨g,0,none⟩=some (.int .i64 t)/\w.cell? ⟨g,1,none⟩=some (.bool b0)/\w.cell? ⟨g,2,none⟩=some (.bool b1)/\w.cell? ⟨g,3,none⟩=some (.bool b2)/\w.cell? ⟨g,4,none⟩=some (.bool b3)/\w.cell? ⟨g,5,none⟩=some (.bool b4)/\w.cell? ⟨g,6,none⟩=some (.bool b5)/\w.cell? ⟨g,7,none⟩=some (.bool b6)/\w.cell? ⟨g,8,none⟩=some (.bool b7) :=
 ⟨cell_of_row _ _ 0 _ _ _ h,cell_of_row _ _ 1 _ _ _ h,cell_of_row _ _ 2 _ _ _ h,cell_of_row _ _ 3 _ _ _ h,cell_of_row _ _ 4 _ _ _ h,cell_of_row _ _ 5 _ _ _ h,cell_of_row _ _ 6 _ _ _ h,cell_of_row _ _ 7 _ _ _ h,cell_of_row _ _ 8 _ _ _ h⟩
def PB(t:Int)(l:List Bool)(x:Int):Bool:=decide (t-8<=x)&&decide (x<t)&&l.getD (x-(t-8)).toNat false
theorem Oo(t:Int)(l:List Bool)(k:Nat)(a:k<8):PB t l (t-8+k)=l.getD k false:=by
 unfold PB;rw[I' (by omega),I' (by omega),show(t-8+(k:Int)-(t-8)).toNat=k by omega];simp
theorem Tl{x:Int}(h:t<=x):PB t l x=false:=by
 unfold PB;rw[D' (show ¬ x<t by omega)];simp
structure OkC(key:List Int)(s t:Int)(l:List Bool):Prop where
 key:key.length=32
 s0:0<=s
 s1:s<=1073741824
 t0:0<=t
 t1:t<=1073741824
 low:∀ i:Nat,i<8->l.getD i false=true->0<=t-8+(i:Int)
 top:t=0\/l.getD 7 false=true
theorem bq(key:List Int)(s t:Int)(l:List Bool):OkC key s t l↔(key.length=32/\0<=s/\s<=1073741824/\0<=t/\t<=1073741824/\(∀ i,i<8->l.getD i false=true->0<=t-8+(i:Int))/\(t=0\/l.getD 7 false=true)) :=
 ⟨λh=>⟨h.1,h.2,h.3,h.4,h.5,h.6,h.7⟩,λh=>⟨h.1,h.2.1,h.2.2.1,h.2.2.2.1,h.2.2.2.2.1,h.2.2.2.2.2.1,h.2.2.2.2.2.2⟩⟩
instance (key:List Int) (s t:Int) (l:List Bool):Decidable (OkC key s t l):=decidable_of_iff _ (bq key s t l).symm
def RF(t:Int)(l:List Bool):Bool:=((List.range 8).all λi=>!l.getD i false||decide (0<=t-8+(i:Int)))&&(decide (t=0)||l.getD 7 false)
theorem FJ(t:Int)(l:List Bool):RF t l=true↔((∀ i:Nat,i<8->l.getD i false=true->0<=t-8+(i:Int))/\(t=0\/l.getD 7 false=true)):=by
 unfold RF;rw[jV,mg,kW];constructor
 .rintro⟨h1,h2⟩;refine⟨λi b a=>?_,h2.imp kr id⟩;have h:=h1 i (l7.2 b);rw[a]at h
  simpa using h
 .rintro⟨h1,h2⟩;refine⟨λi b=>?_,h2.imp I' id⟩;cases a:l.getD i false with
  | true=>simpa using h1 i (l7.1 b) a
  | false=>rfl
def Er(key:List Int)(s t:Int)(l:List Bool):Int:=if OkC key s t l then 0 else 5
def GW(t:Int)(l:List Bool)(n:Int):Bool:=decide (n<t)&&(decide (n<t-8)||PB t l n)
def G1(t n:Int):Int:=if t<=n then n+1 else t
def JZ(t:Int)(l:List Bool)(n:Int):List Bool:=(List.range 8).map λk:Nat=>decide (G1 t n-8+(k:Int)=n)||PB t l (G1 t n-8+(k:Int))
theorem Ei(t:Int)(l:List Bool)(n:Int):(JZ t l n).length=8:=by simp[JZ]
theorem T3(t:Int)(l:List Bool)(n:Int)(k:Nat)(a:k<8):(JZ t l n).getD k false=(decide (G1 t n-8+(k:Int)=n)||PB t l (G1 t n-8+(k:Int))):=by
 simp[JZ,List.getD,a]
def noB:List Bool:=List.replicate 8 false
theorem GU:noB.length=8:=rfl
theorem fx(k:Nat):noB.getD k false=false:=by
 rw[noB,kb,mA];split<;>rfl
theorem OkC.new{key:List Int}(c:key.length=32)(s:Int)(a:0<=s)(b:s<=1073741824):OkC key s 0 noB :=
 ⟨c,a,b,by omega,by omega,(λi _ h=>by rw[fx]at h;exact absurd h (by simp)),.inl rfl⟩
theorem To(h:t<=n):GW t l n=false:=by unfold GW;rw[D' (by omega)];simp
theorem bv(h:t-8<=n):GW t l n=PB t l n:=by
 by_cases a:n<t
 .unfold GW;rw[I' a,D' (show ¬ n<t-8 by omega)];simp
 .rw[To (by omega),Tl (by omega)]
theorem PM(h:n<t-8):GW t l n=true:=by unfold GW;rw[I' (show n<t by omega),I' h];simp
def Ab(n:Int):List Int:=[n/16777216%256,n/65536%256,n/256%256,n%256]
def Bm(h:List Int):List Int:=List.replicate 8 0++h
def Fe(h:List Int):Int:=16777216*h.getD 0 0+65536*h.getD 1 0+256*h.getD 2 0+h.getD 3 0
theorem Ck(n:Int):(Ab n).length=4:=rfl
theorem Au(n:Int):∀ x∈Ab n,0<=x/\x<256:=by
 intro x a;simp only[Ab,jQ,N',or_false]at a;rcases a with rfl|rfl|rfl|rfl<;>omega
theorem GA(a:h.length=4):(Bm h).length=12:=by simp[Bm,a]
theorem PK(a:∀ x∈h,0<=x/\x<256):∀ x∈Bm h,0<=x/\x<256:=by
 intro x b;rcases Q'.1 b with h1|h1
 .rw[(mx.1 h1).2];omega
 .exact a x h1
theorem js(h:List Int)(e:h.length=4):∃ a b c d,h=[a,b,c,d]:=by
 match h,e with
 | [a,b,c,d],_=>exact⟨a,b,c,d,rfl⟩
theorem Lq(f:h.length=4)(e:∀ x∈h,0<=x/\x<256):0<=Fe h/\Fe h<4294967296:=by
 obtain⟨a,b,c,d,rfl⟩:=js h f;have g:=e a (by simp);have i:=e b (by simp);have j:=e c (by simp);have k:=e d (by simp);show 0<=16777216*a+65536*b+256*c+d/\16777216*a+65536*b+256*c+d<4294967296;omega
theorem JB(a:l.length=8):(prog.info? 261).map (·.size)=some (wA t l).size:=by rw[D8,a];kernel_rfl
theorem Im{P:Program}{f:Func}{p u:Tmp}{c:TypeId}(h:f.results=#[.cell p c,.tmp u])(a:Array Value)(w:World)(g:Nat)(t:TypeId)(b:Array Value)(fr:Nat × Nat)(d:TypeDesc)(l:a.getD p undef=.pointer (some ⟨g,0,none⟩))(j:w.heap[g]?=some (.cells b t fr))(m:P.underlying c=some d)(i:(match d with|.struct _|.array _ _=>true|_=>false)=true)(k:(P.info? c).map (·.size)=some b.size) :
  (results f a).run P w=.ok (.tuple #[.agg b,a.getD u undef]) w:=by
 have e:a[p]?.getD undef=.pointer (some ⟨g,0,none⟩):=by simpa using l
 simp[results,h,e,asAddr,run_loadVar_row w g t c b fr d j m i k]
theorem Fk{P:Program}{f:Func}{p u v:Tmp}{c:TypeId}(h:f.results=#[.cell p c,.tmp u,.tmp v])(a:Array Value)(w:World)(g:Nat)(t:TypeId)(b:Array Value)(fr:Nat × Nat)(d:TypeDesc)(l:a.getD p undef=.pointer (some ⟨g,0,none⟩))(j:w.heap[g]?=some (.cells b t fr))(m:P.underlying c=some d)(i:(match d with|.struct _|.array _ _=>true|_=>false)=true)(k:(P.info? c).map (·.size)=some b.size) :
  (results f a).run P w=.ok (.tuple #[.agg b,a.getD u undef,a.getD v undef]) w:=by
 have e:a[p]?.getD undef=.pointer (some ⟨g,0,none⟩):=by simpa using l
 simp[results,h,e,asAddr,run_loadVar_row w g t c b fr d j m i k]
def blA(l:List Bool):Array Value:=(l.map Value.bool).toArray
theorem to8{j:Nat}(h:j<8):j=0\/j=1\/j=2\/j=3\/j=4\/j=5\/j=6\/j=7:=by omega
theorem VT(S:List Bool)(a:S.length=8)(j:Nat)(b:j<8):∀ w,(Instr.index 41 (.agg (blA S)) (.int .i64 (j:Int))).run prog w=.ok (.bool (S.getD j false)) w:=by
 intro w;obtain⟨b0,c,d,e,f,g,h,i,rfl⟩:=G9 S a;rcases to8 b with rfl|rfl|rfl|rfl|rfl|rfl|rfl|rfl;all_goals kernel_rfl
theorem Fs(k:Value)(s t:Int)(l:List Bool)(w:World)(i:l.length=8) :
  Calls prog 173 #[.agg (chA k s t l)] w λe w'=>e=.returned (.agg (wA t l))/\Bw w w':=by
 obtain⟨b0,a,b,c,d,f,g,h,rfl⟩:=G9 l i;simp only[chA,wA,List.map];go_enter func173,ntmps173
 go_wp2
 exact bodyPost_ret (v:=.agg (wA t [b0,a,b,c,d,f,g,h])) (results_cell_row rfl _ _ (w.heap.size+1) 261 _ (0,0) _ rfl (heap_alloc2_new _ _ _) underlying261 rfl (JB rfl)) rfl ⟨rfl,((Below.refl _ _).alloc (A' _) _).alloc (by simp) _⟩
theorem DK(t:Int)(l:List Bool)(w:World)(a:l.length=8)(j:-1000<=t)(k:t<=4611686018427387904) :
  Calls prog 184 #[.agg (wA t l)] w λe w'=>e=.returned (.int .i64 (t-8))/\Bw w w':=by
 obtain⟨b0,b,c,d,f,g,h,i,rfl⟩:=G9 l a;simp only[wA,List.map];go_enter func184,ntmps184
 go_wp2
 go_ret;exact⟨rfl,(Below.refl _ _).alloc (A' _) _⟩
theorem U0(t n:Int)(l:List Bool)(w:World)(v:l.length=8)(P:0<=t)(Q:t<=1073741824)(N:0<=n)(O:n<1073741824) :
  Calls prog 193 #[.agg (wA t l),.int .i64 n] w λe w'=>e=.returned (.bool (GW t l n))/\Bw w w':=by
 have K:=v;obtain⟨b0,b,d,f,g,h,j,k,rfl⟩:=G9 l v;simp only[wA,List.map];by_cases H:t<=n
 .have m:Hid (false=GW t [b0,b,d,f,g,h,j,k] n):=(To H).symm;go_enter func193,ntmps193
  go_wp2
  go_ret;exact⟨Al m.out,(Below.refl _ _).alloc (A' _) _⟩
 .have hb:Bw w (w.alloc (.cells (wA t [b0,b,d,f,g,h,j,k]) 261)):=(Below.refl _ _).alloc (A' _) _;go_enter func193,ntmps193
  go_wp2_with fail
  have a:(w.alloc (.cells (wA t [b0,b,d,f,g,h,j,k]) 261)).heap[w.heap.size]?=some (.cells (wA t [b0,b,d,f,g,h,j,k]) 261 (0,0)):=heap_alloc_new _ _;refine(DK t [b0,b,d,f,g,h,j,k] _ rfl (by omega) (by omega)).mono ?_;rintro e x ⟨rfl,c1⟩;have q:Bw w x:=hb.trans (c1.mono (by simp));replace a:=(c1.block w.heap.size (by simp)).trans a;clear hb c1;by_cases I:n<t-8
  .have m:Hid (true=GW t [b0,b,d,f,g,h,j,k] n):=(PM I).symm;go_wp2
   go_ret;exact⟨Al m.out,q⟩
  .have h3:n<t:=by omega
   obtain⟨i,u,s⟩:∃ i:Nat,i<8/\n=t-8+(i:Int):=⟨(n-(t-8)).toNat,by omega,by omega⟩;have m:Hid (GW t [b0,b,d,f,g,h,j,k] n=[b0,b,d,f,g,h,j,k].getD i false):=by
    unfold Hid;rw[bv (by omega),s,Oo _ _ _ u]
   have y:Hid (n=t-8+(i:Int)):=s;have o:=(cell_of_row _ _ (1+i) _ _ _ a).trans (Kx t _ i u);obtain⟨c0,c1,z,A,B,C,D,E,F⟩:=Mc a;have L:w.heap.size<x.heap.size:=(H'.1 a).1;clear s;generalize [b0,b,d,f,g,h,j,k].getD i false=c at o m;go_wp2_with fail
   refine(DK t [b0,b,d,f,g,h,j,k] _ rfl (by omega) (by omega)).mono ?_;rintro e M ⟨rfl,r⟩;have G:Bw w M:=q.trans (r.mono q.size);replace o:=(r.cell (p:=⟨w.heap.size,1+i,none⟩) L).trans o;have J:n-(t-8)=(i:Int):=by have:=y.out;omega
   clear c0 c1 z A B C D E F a r;go_wp2
   go_ret;exact⟨Al (by rw[m.out,D' (by omega),mB]),G⟩
theorem UF(t:Int)(l:List Bool)(w:World)(C:l.length=8)(T:0<=t)(U:t<=1073741824) :
  Calls prog 174 #[.agg (wA t l)] w λe w'=>e=.returned (.bool (RF t l))/\Bw w w':=by
 have u:Hid (∀ i:Nat,i<8->∀ w,(Instr.index 41 (.agg (blA l)) (.int .i64 (i:Int))).run prog w=.ok (.bool (l.getD i false)) w):=λi A=>VT l C i A;obtain⟨b0,b,c,d,f,g,k,b7,rfl⟩:=G9 l C;simp only[wA,blA,List.map]at u ⊢;go_enter func174,ntmps174
 go_wp2_with fail
 have o:(w.alloc (.cells (wA t [b0,b,c,d,f,g,k,b7]) 261)).heap[w.heap.size]?=some (.cells (wA t [b0,b,c,d,f,g,k,b7]) 261 (0,0)):=heap_alloc_new _ _;have s:(w.alloc (.cells (wA t [b0,b,c,d,f,g,k,b7]) 261)).heap.size=w.heap.size+1:=by simp
 have q:Bw w (w.alloc (.cells (wA t [b0,b,c,d,f,g,k,b7]) 261)):=(Below.refl _ _).alloc (A' _) _;simp only[wA,List.map]at o s q;generalize w.alloc (.cells #[.int .i64 t,.bool b0,.bool b,.bool c,.bool d,.bool f,.bool g,.bool k,.bool b7] 261)=W0 at o s q ⊢;generalize (#[.bool b0,.bool b,.bool c,.bool d,.bool f,.bool g,.bool k,.bool b7]:Array Value)=S at u ⊢
 go_loopw [7] (λiv wr=>∃ i:Nat,i<=8/\iv=.int .i64 i/\Hid (∀ j:Nat,j<i->[b0,b,c,d,f,g,k,b7].getD j false=true->0<=t-8+(j:Int))/\Below (w.heap.size+1) W0 wr) (λiv _=>8-(intOf iv).toNat)
 case atStart=>exact⟨0,by omega,rfl,λj B=>by omega,Below.refl _ _⟩
 case round =>
  obtain⟨i,A,rfl,n,a⟩:=hrel;have v:=(a.block w.heap.size (by omega)).trans o;obtain⟨c0,c1,H,I,J,K,L,M,N⟩:=Mc v;have x:Bw w wr:=q.trans (a.mono (by omega));have R:=a.size;by_cases r:i<8
  .have hii:(i:Int)<8:=by omega
   have E:=u.out i r;cases hb:[b0,b,c,d,f,g,k,b7].getD i false with
   | true =>
    rw[hb]at E
    have p:Hid ([b0,b,c,d,f,g,k,b7].getD i false=true):=hb;clear hb v;go_wp2_with fail
    refine(DK t [b0,b,c,d,f,g,k,b7] _ rfl (by omega) (by omega)).mono ?_;rintro e F ⟨rfl,y⟩;have O:Bw w F:=x.trans (y.mono x.size);have z:Below (w.heap.size+1) W0 F:=a.trans (y.mono (by omega));clear c0 c1 H I J K L M N y a;by_cases D:t-8+(i:Int)<0
    .have HF:Hid (false=RF t [b0,b,c,d,f,g,k,b7]):=by
      unfold Hid;symm;rw[ml];intro P;have:=((FJ _ _).1 P).1 i r p.out;omega
     go_wp2
     go_ret;exact⟨Al HF.out,O⟩
    .go_wp2
     go_roundw
     case rel =>
      refine⟨i+1,by omega,by go_num,?_,z⟩;intro j B m;rcases kt j i with h|h
      .exact n.out j h m
      .obtain rfl:j=i:=by omega
       omega
     case measure=>simp[intOf];omega
   | false =>
    rw[hb]at E
    have p:Hid ([b0,b,c,d,f,g,k,b7].getD i false=false):=hb;clear hb v;go_wp2
    go_roundw
    case rel =>
     refine⟨i+1,by omega,by go_num,?_,a⟩;intro j B m;rcases kt j i with h|h
     .exact n.out j h m
     .obtain rfl:j=i:=by omega
      rw[p.out]at m
      cases m
    case measure=>simp[intOf];omega
  .obtain rfl:i=8:=by omega
   rw[show((8:Nat):Int)=8 from rfl];have G:Hid ((decide (t=0)||b7)=RF t [b0,b,c,d,f,g,k,b7]):=by
    unfold Hid;rw[nI,FJ,mg];constructor
    .intro h;exact⟨n.out,h.imp kr id⟩
    .intro h;exact h.2.imp I' id
   clear v u;go_wp2
   all_goals
    rename_i Q
    go_ret;refine⟨Al ?_,x⟩;rw[<- G.out];simp[Q]
theorem Xj:(prog.info? 4).map (·.size)=some 1:=by kernel_rfl
theorem gb(w:World):(Go.sizeOf 4).run prog w=.ok 1 w:=by
 have h:=Xj;cases hi:prog.info? 4 with
 | none=>rw[hi]at h;cases h
 | some i =>
  rw[hi]at h
  simp only[ku,V']at h;simp[sizeOf,typeInfo,hi,h]
theorem VN(B d:Nat)(b:d<=8):∃ ad,(∀ W,(Instr.sliceAt 41 (.pointer (some ⟨B,1,none⟩)) (some (.int .i64 (d:Int))) none none).run prog W=.ok (.slice (some ad) (8-d) (8-d)) W)/\(0<8-d->ad=⟨B,1+d,none⟩):=by
 refine⟨if 8=d then⟨B,1,none⟩else(⟨B,1,none⟩:Addr).add (d*1),λW=>?_,λh=>?_⟩
 .have e1:prog.arrayLen 41=8:=by kernel_rfl
  have a:prog.elem 41=4:=by kernel_rfl
  rw[run_sliceAt_array_l (P:=prog) W 41 _ underlying41 .i64 _ (by omega) (by rw[e1];omega),e1,a,gb];simp[Result.andThen,slicedAt]
 .rw[if_neg (by omega),Nat.mul_one];exact Addr.add_mid B 1 d
theorem Xd(w:World)(a b c:Obj):(((w.alloc a).alloc b).alloc c).heap[w.heap.size]?=some a/\(((w.alloc a).alloc b).alloc c).heap[w.heap.size+1]?=some b/\(((w.alloc a).alloc b).alloc c).heap[w.heap.size+1+1]?=some c:=by
 have d:Below ((w.alloc a).alloc b).heap.size ((w.alloc a).alloc b) (((w.alloc a).alloc b).alloc c):=(Below.refl _ _).alloc (A' _) _;have f:((w.alloc a).alloc b).heap.size=w.heap.size+1+1:=by simp
 have e:=heap_alloc_new ((w.alloc a).alloc b) c;rw[f]at e d
 exact⟨(d.block _ (by omega)).trans (heap_alloc2_old _ _ _),(d.block _ (by omega)).trans (heap_alloc2_new _ _ _),e⟩
theorem VA(n:Int)(l:List Bool)(a:l.length=8)(d:Nat)(j:1<=d)(k:d<=8):(splice [.int .i64 n,.bool false,.bool false,.bool false,.bool false,.bool false,.bool false,.bool false,.bool false] 1 ((l.drop d).map Value.bool)).toArray=wA n (l.drop d++List.replicate d false):=by
 obtain⟨b0,b,c,e,f,g,h,i,rfl⟩:=G9 l a;have:d=1\/d=2\/d=3\/d=4\/d=5\/d=6\/d=7\/d=8:=by omega
 rcases this with rfl|rfl|rfl|rfl|rfl|rfl|rfl|rfl<;>rfl
theorem Sq(t n:Int)(l:List Bool)(w:World)(N:l.length=8)(X:0<=t)(Y:t<=1073741824)(V:t<n)(W:n<=1073741824)(d:Nat)(L:d=min (n-t).toNat 8) :
  Calls prog 195 #[.agg (wA t l),.int .i64 n] w λe w'=>e=.returned (.agg (wA n (l.drop d++List.replicate d false)))/\Bw w w':=by
 obtain⟨b0,a,b,c,f,g,h,i,rfl⟩:=G9 l N;simp only[wA,List.map];go_enter func195,ntmps195
 have S:(if 8<n-t then 8 else n-t)=(d:Int):=by split<;>omega
 have Q:IntKind.i64.wrap (n-t)=n-t:=by rw[IntKind.wrap_i64];omega
 have o:1<=d/\d<=8:=by omega
 obtain⟨ad,O,r⟩:=VN w.heap.size d (by omega);clear L;have B:Hid (∀ w':World,Below (w.heap.size+1+1) (((w.alloc (.cells (wA t [b0,a,b,c,f,g,h,i]) 261)).alloc (.cells (wA 0 [false,false,false,false,false,false,false,false]) 261)).alloc (.cells (wA n [false,false,false,false,false,false,false,false]) 261)).drew w'->Bw w w'/\w'.heap[w.heap.size+1]?=some (.cells (wA 0 [false,false,false,false,false,false,false,false]) 261 (0,0))):=by
  intro w' E;obtain⟨_,J,_⟩:=Xd w (.cells (wA t [b0,a,b,c,f,g,h,i]) 261) (.cells (wA 0 [false,false,false,false,false,false,false,false]) 261) (.cells (wA n [false,false,false,false,false,false,false,false]) 261);refine⟨((((Below.refl _ _).alloc (A' _) _).alloc (by simp) _).alloc (by simp;omega) _).drew.trans (E.mono (by omega)),?_⟩;exact(E.block (w.heap.size+1) (by omega)).trans J
 have z:Hid (∀ j v,(([b0,a,b,c,f,g,h,i].drop d).map Value.bool)[j]?=some v->(((w.alloc (.cells (wA t [b0,a,b,c,f,g,h,i]) 261)).alloc (.cells (wA 0 [false,false,false,false,false,false,false,false]) 261)).alloc (.cells (wA n [false,false,false,false,false,false,false,false]) 261)).drew.cell? (ad.add j)=some v):=by
  intro j v u;have M:j<8-d:=by simpa using(U'.1 u).1
  rw[r (by omega),Addr.add_mid];obtain⟨I,_,_⟩:=Xd w (.cells (wA t [b0,a,b,c,f,g,h,i]) 261) (.cells (wA 0 [false,false,false,false,false,false,false,false]) 261) (.cells (wA n [false,false,false,false,false,false,false,false]) 261);have K:=(cell_of_row _ _ (1+(d+j)) _ _ _ I).trans (Kx t _ (d+j) (by simp;omega));rw[kM];refine Eq.trans K ?_;rw[kh,kA]at u
  rw[<- u,List.getD,E' (show d+j<[b0,a,b,c,f,g,h,i].length by simp;omega)];rfl
 obtain⟨_,_,C⟩:=Xd w (.cells (wA t [b0,a,b,c,f,g,h,i]) 261) (.cells (wA 0 [false,false,false,false,false,false,false,false]) 261) (.cells (wA n [false,false,false,false,false,false,false,false]) 261);have A:Hid _:=C;clear C;go_wp2_with fail
 go_region_law (refine step_copy_splice rfl (.tmp 9) (.tmp 16) 289 289 rfl 4 underlying289 Xj _ _ _ _ _ _ rfl rfl (w.heap.size+1+1) 1 [.int .i64 n,.bool false,.bool false,.bool false,.bool false,.bool false,.bool false,.bool false,.bool false] 261 A.out (([b0,a,b,c,f,g,h,i].drop d).map Value.bool) (by simp) (λT=>⟨rfl,ad,rfl,z.out⟩) (by simp;omega) (by intro v P;obtain⟨x,_,rfl⟩:=kn.1 P;rfl) (w.heap.size+1+1) _ (Below.refl _ _) (A' _) ?_;intro G y m)
 obtain⟨H,F⟩:=B.out G m;have k:([b0,a,b,c,f,g,h,i].drop d++List.replicate d false).length=8:=by simp;omega
 have p:=y.out;rw[VA n _ rfl d o.1 o.2]at p
 generalize D:[b0,a,b,c,f,g,h,i].drop d++List.replicate d false=R at k p;have q:Hid ([b0,a,b,c,f,g,h,i].drop d++List.replicate d false=R):=D;clear D;have s:=JB (t:=n) k;have U:=(H'.1 p).1;clear B z A m y;go_wp2_with (first
  | (refine wpList_load_row rfl 261 _ rfl (w.heap.size+1+1) rfl 261 _ (0,0) _ p underlying261 rfl s ?_)
  | (refine wpList_store_row rfl 261 _ _ rfl (w.heap.size+1) _ rfl rfl 261 _ F s (by rw[D8,D8,k];rfl) (OH n R) ?_))
 exact bodyPost_ret (v:=.agg (wA n R)) (results_cell_row rfl _ _ (w.heap.size+1) 261 _ (0,0) _ rfl (setRow_heap G (w.heap.size+1) _ _ 261 _ F) underlying261 rfl s) rfl ⟨by rw[<- q.out];rfl,below_setRow H (by omega) _⟩
theorem gu(t:Int)(l:List Bool)(i:Nat)(x:Bool):(wA t l).setIfInBounds (1+i) (.bool x)=wA t (l.set i x):=by
 apply lZ;rw[nH];simp[wA,List.map_set]
theorem Q4(h:w.heap[g]?=some (.cells (wA t l) ty (0,0)))(k:Nat)(x:Bool) :
  (w.setCell ⟨g,1+k,none⟩ (.bool x)).heap[g]?=some (.cells (wA t (l.set k x)) ty (0,0)):=by
 rw[heap_setCell_same _ _ _ _ _ _ h,gu]
theorem P8{a b:List Bool}(e:a.length=8)(f:b.length=8)(h:∀ k,k<8->a.getD k false=b.getD k false):a=b:=by
 apply mo (by omega);intro k c d;have:=h k (by omega);simpa[List.getD,List.getElem?_eq_getElem c,List.getElem?_eq_getElem d]using this
theorem Qi(l:List Bool)(i k:Nat)(x:Bool)(a:i<l.length):(l.set i x).getD k false=if k=i then x else l.getD k false:=by
 rw[List.getD,List.getElem?_set,List.getD];by_cases h:i=k
 .subst h;simp[a]
 .rw[if_neg h,if_neg (λe=>h e.symm)]
theorem YO(t n:Int)(l:List Bool)(c:l.length=8)(d:n<t)(i:Nat)(e:i<8)(f:n=t-8+(i:Int)):JZ t l n=l.set i true/\G1 t n=t:=by
 have a:G1 t n=t:=by unfold G1;rw[if_neg (by omega)]
 refine⟨P8 (Ei _ _ _) (by simp[c]) λk b=>?_,a⟩;rw[T3 _ _ _ _ b,a,Oo t l k b,Qi _ _ _ _ (by omega)];by_cases h:k=i
 .rw[if_pos h,I' (by omega)];rfl
 .rw[if_neg h,D' (by omega)];rfl
theorem Sp(l:List Bool)(c:l.length=8)(d k:Nat)(b:k<8)(a:d<=8):(l.drop d++List.replicate d false).getD k false=if d+k<8 then l.getD (d+k) false else false:=by
 by_cases h:d+k<8
 .rw[if_pos h,List.getD,jO (by simp;omega),kA,List.getD]
 .rw[if_neg h,List.getD,jP (by simp;omega),mA];split<;>rfl
theorem Vx(t n:Int)(l:List Bool)(f:l.length=8)(e:t<=n)(d:Nat)(g:d=min (n+1-t).toNat 8):JZ t l n=(l.drop d++List.replicate d false).set 7 true/\G1 t n=n+1:=by
 have b:G1 t n=n+1:=by unfold G1;rw[if_pos e]
 refine⟨P8 (Ei _ _ _) (by simp;omega) λk c=>?_,b⟩;rw[T3 _ _ _ _ c,b,Qi _ _ _ _ (by simp;omega),Sp l f d k c (by omega)];by_cases h:k=7
 .rw[if_pos h,I' (by omega)];rfl
 .rw[if_neg h,D' (by omega),mB];by_cases a:d+k<8
  .rw[if_pos a,show n+1-8+(k:Int)=t-8+((d+k:Nat):Int)by omega,Oo _ _ _ a]
  .rw[if_neg a,Tl (by omega)]
end
end
section
structure Lac where
 k:Int
 n:Int
 a:Int
 p:Int
 d:List Int
def F1(k:Int):Bool:=decide (k=1\/k=2\/k=3\/k=9\/k=8)
def Hl(k:Int):Bool:=decide (4<=k/\k<=6)
def Hm(k:Int):Bool:=decide (k=8)
def aU(x:Lac):Int :=
 if ¬ (1<=x.k/\x.k<=9)then 4
 else if(F1 x.k=true/\¬ (0<=x.n/\x.n<=4))\/(Hl x.k=true/\¬ (0<=x.a/\x.a<=1048576))\/(Hm x.k=true/\¬ (0<=x.p/\x.p<=100000))then 2
 else if 2000<x.d.length then 1
 else if(F1 x.k=false/\x.n≠0)\/(Hl x.k=false/\x.a≠0)\/(Hm x.k=false/\x.p≠0)\/(x.k≠1/\x.d≠[])then 3
 else 0
structure LacOk(x:Lac):Prop where
 k:1<=x.k/\x.k<=9
 n:F1 x.k=true->0<=x.n/\x.n<=4
 a:Hl x.k=true->0<=x.a/\x.a<=1048576
 p:Hm x.k=true->0<=x.p/\x.p<=100000
 d:x.d.length<=2000
 n0:F1 x.k=false->x.n=0
 a0:Hl x.k=false->x.a=0
 p0:Hm x.k=false->x.p=0
 d0:x.k≠1->x.d=[]
theorem Kp{x:Lac}:aU x=0↔LacOk x:=by
 unfold aU;constructor
 .intro h;by_cases c:1<=x.k/\x.k<=9
  .rw[if_neg (λe=>e c)]at h
   by_cases b:(F1 x.k=true/\¬ (0<=x.n/\x.n<=4))\/(Hl x.k=true/\¬ (0<=x.a/\x.a<=1048576))\/(Hm x.k=true/\¬ (0<=x.p/\x.p<=100000))
   .rw[if_pos b]at h;omega
   .rw[if_neg b]at h
    by_cases g:2000<x.d.length
    .rw[if_pos g]at h;omega
    .rw[if_neg g]at h
     by_cases f:(F1 x.k=false/\x.n≠0)\/(Hl x.k=false/\x.a≠0)\/(Hm x.k=false/\x.p≠0)\/(x.k≠1/\x.d≠[])
     .rw[if_pos f]at h;omega
     .simp only[not_or,not_and,jR]at b f;exact⟨c,λe=>by have:=b.1 e;omega,λe=>by have:=b.2.1 e;omega,λe=>by have:=b.2.2 e;omega,by omega,f.1,f.2.1,f.2.2.1,f.2.2.2⟩
  .rw[if_pos c]at h;omega
 .intro h;rw[if_neg (λe=>e h.k),if_neg,if_neg (by have:=h.d;omega),if_neg]
  .rintro(⟨c,b⟩|⟨c,b⟩|⟨c,b⟩|⟨c,b⟩)
   .exact b (h.n0 c)
   .exact b (h.a0 c)
   .exact b (h.p0 c)
   .exact b (h.d0 c)
  .rintro(⟨c,b⟩|⟨c,b⟩|⟨c,b⟩)
   .exact b (h.n c)
   .exact b (h.a c)
   .exact b (h.p c)
def TK(k:Int):List Int :=
 if k=1 then[115,117,98,109,105,116]else if k=2 then[108,101,97,100]else if k=3 then[115,116,101,112]else if k=4 then[99,97,114,114,121]else if k=5 then[108,111,115,101]
 else if k=6 then[100,111,117,98,108,101]else if k=7 then[97,108,108]else if k=8 then[99,114,97,115,104]else if k=9 then[115,116,97,114,116]else[]
end
section
open Go.RowKit
section
variable{P:Program}{md:Region.Mode}{ops:Array Oper}{Q:Exit->Act->World->Prop}{S:World->Prop}
section
variable{K:Act->World->Prop}{L:Array Bool}{a:Act}{d fuel i:Nat}{o:Oper}{v:Value}{w:World}
theorem XO{c:World}(g:ops[i]?=some o)(j:Region.wanted o (yielded ops a.tmps)=true)(f:o.dst=some d)(b:(execOp a.eval o).run P w=.ok (.value v) c)(h:K (a.put (some d) v) c):wpOp P ops Q i K a w :=
 wpOp_step g λk e=>by
  rw[if_pos j];unfold Oper.wp;rw[b,Oper.upon_value];exact e _ _ (by rw[f];exact h)
theorem Ov{f:FuncId}{args:Array Value}(k:ops[i]?=some o)(m:Region.wanted o (yielded ops a.tmps)=true)(g:o.dst=some d)(b:(execOp a.eval o).run P w=.ok (.enter f args) w)(h:Calls P f args w λe w'=>∃ v,e=.returned v/\K (a.put (some d) v) w'):wpOp P ops Q i K a w :=
 wpOp_step k λn c=>by
  rw[if_pos m];unfold Oper.wp;rw[b,Oper.upon_enter];refine h.mono λe w' j=>?_;obtain⟨v,rfl,l⟩:=j;exact c _ _ (by rw[g];exact l)
theorem Tq(n:ops[i]?=some o)(p:Region.wanted o (yielded ops a.tmps)=true)(k:o.dst=none)(e:TypeId)(x y:Operand)(d:o.op=.store e x y)(g:Nat)(cells:Array Value)(q:a.eval x=.pointer (some ⟨g,0,none⟩))(r:a.eval y=.agg cells)(t:TypeId)(b:Array Value)(l:w.heap[g]?=some (.cells b t (0,0)))(m:(P.info? e).map (·.size)=some cells.size)(c:b.size=cells.size)(f:cells.all (·.oneCell')=true)(h:K a (w.setRow g cells)):wpOp P ops Q i K a w :=
 wpOp_step n λs j=>by
  rw[if_pos p];exact wp_store_row e x y d g cells q r t b l m c f (j _ _ (by rw[k];exact h))
theorem D4(c:Region.ready md ops L=[i])(h:wpOp P ops Q i (λa' w'=>S w'/\wpAnyH P md ops Q S fuel (L.setIfInBounds i true) a' w') a w):wpAnyH P md ops Q S (fuel+1) L a w :=
 wpAnyH_all c (by simp) (λj b=>by
  obtain rfl:j=i:=by simpa using b
  exact h)
theorem aI{i':Nat}(d:Region.ready md ops L=[i,i'])(h:wpOp P ops Q i (λa' w'=>S w'/\wpAnyH P md ops Q S fuel (L.setIfInBounds i true) a' w') a w)(b:wpOp P ops Q i' (λa' w'=>S w'/\wpAnyH P md ops Q S fuel (L.setIfInBounds i' true) a' w') a w):wpAnyH P md ops Q S (fuel+1) L a w :=
 wpAnyH_all d (by simp) (λj c=>by
  rcases(show j=i\/j=i' by simpa using c)with rfl|rfl
  .exact h
  .exact b)
theorem AP(d:Nat){f:Oper}{v:Value}{e:Nat}{b:Array Bool}{a:Act}{w:World}(m:ops[i]?=some f)(g:f.dst=some d)(o:Region.noSelect ops=true)(l:Region.free md ops b i=true)(n:(Region.ready md ops b).contains i=true)(j:∀ c a w,Q (.panic c) (a.put (some d) v) w->Q (.panic c) a w)(p:YieldsIf P ops S f v a)(k:S w)(h:wpAnyH P md ops Q S e (b.setIfInBounds i true) (a.put (some d) v) w):wpAnyH P md ops Q S (e+1) b a w :=
 wpAnyH_take m o l n (by rw[g];exact j) p k (by rw[g];exact h)
theorem VC{op:Oper}(j:Region.wanted op (yielded ops a.tmps)=true)(c:TypeId)(x:Operand)(h:op.op=.load c x)(d:TypeDesc)(i:P.underlying c=some d)(l:d.isRow=false)(p:Addr)(k:a.eval x=.pointer (some p))(v:Value)(f:∀ w,S w->w.cell? p=some v):YieldsIf P ops S op v a :=
 .inl ⟨j,λw e=>by
  have b:(isAgg c).run P w=.ok false w:=by
   unfold isAgg;rw[Sem.run_bind,run_underlying i w];cases d<;>simp_all[TypeDesc.isRow]
  have g:(loadVar c p).run P w=.ok v w:=by simp[loadVar,b,f w e,go_sem]
  unfold execOp;simp only[h,k,Instr.loadAt,Instr.sureAddr,Sem.run_bind,Sem.run_pure,Result.andThen_ok,g]⟩
end
end
section
variable{K:Act->World->Prop}{P:Program}{Q:Exit->Act->World->Prop}{a:Act}{b base e g i id k8 n:Nat}{fr:Nat × Nat}{o op:Oper}{ops:Array Oper}{t:TypeId}{v:Value}{w w':World}{xs:List Value}
theorem Dy{l:List Oper}(h:wpList P ops Q l a w):wpList P ops Q l a w:=h
theorem CG{B:Nat}{a:World}(h:Below B a w){g:Nat}(c:B<=g)(b:Array Value):Below B a (w.setRow g b) :=
 h.trans ⟨rfl,rfl,rfl,by simp,λk d=>setRow_other w g k b (by omega)⟩
theorem Fq{a:Nat}(h:w.ownsRow b e k8 v n xs)(c:a<=b):w.ownsRow a e k8 v n xs:=by
 refine⟨h.1,?_⟩;rcases h.2 with h2|⟨g,cap,cur,hv,hbg,hr⟩
 .exact .inl h2
 .exact .inr ⟨g,cap,cur,hv,jG c hbg,hr⟩
theorem Dk(h:w.ownsRow base e k8 v n xs)(a:∀ k,v.ownBlock=some k->w'.heap[k]?=w.heap[k]?):w'.ownsRow base e k8 v n xs:=by
 refine⟨h.1,?_⟩;rcases h.2 with h2|⟨g,cap,cur,hv,hb,hg,hr⟩
 .exact .inl h2
 .exact .inr ⟨g,cap,cur,hv,hb,(a g (by rw[hv];rfl)).trans hg,hr⟩
theorem YK{P:Program}{f:Func}{p:Tmp}{c:TypeId}(h:f.results=#[.cell p c])(a:Array Value)(w:World)(g:Nat)(t:TypeId)(b:Array Value)(fr:Nat × Nat)(d:TypeDesc)(l:a.getD p undef=.pointer (some ⟨g,0,none⟩))(j:w.heap[g]?=some (.cells b t fr))(m:P.underlying c=some d)(i:(match d with|.struct _|.array _ _=>true|_=>false)=true)(k:(P.info? c).map (·.size)=some b.size) :
  (results f a).run P w=.ok (.agg b) w:=by
 have e:a[p]?.getD undef=.pointer (some ⟨g,0,none⟩):=by simpa using l
 simp[results,h,e,asAddr,run_loadVar_row w g t c b fr d j m i k]
theorem T2{P:Program}{f:Func}{p u:Tmp}{c:TypeId}(h:f.results=#[.cell p c,.tmp u])(a:Array Value)(w:World)(g:Nat)(t:TypeId)(b:Array Value)(fr:Nat × Nat)(d:TypeDesc)(l:a.getD p undef=.pointer (some ⟨g,0,none⟩))(j:w.heap[g]?=some (.cells b t fr))(m:P.underlying c=some d)(i:(match d with|.struct _|.array _ _=>true|_=>false)=true)(k:(P.info? c).map (·.size)=some b.size) :
  (results f a).run P w=.ok (.tuple #[.agg b,a.getD u undef]) w:=by
 have e:a[p]?.getD undef=.pointer (some ⟨g,0,none⟩):=by simpa using l
 simp[results,h,e,asAddr,run_loadVar_row w g t c b fr d j m i k]
theorem Sl.oc{l:List Int}(h:Sl w v l):∃ a cap,v=.slice a l.length cap:=by
 obtain⟨⟨a,cap,e,_⟩,_,_⟩:=h;exact⟨a,cap,e⟩
theorem Sl.py{ad:Addr}{g:Nat}{m:List Int}(h:Sl w (.slice (some ad) n g) m):∀ j u,(m.map (Value.int .u8))[j]?=some u->w.cell? (ad.add j)=some u:=by
 intro j u f;obtain⟨⟨a,k,e,l,o,i⟩,_⟩:=h;simp only[Value.slice.injEq]at e;obtain⟨rfl,rfl,rfl⟩:=e;rcases i with rfl|⟨b,off,hab,_,hcell⟩
 .simp at f
 .obtain rfl:ad=⟨b,off,none⟩:=by simpa using hab
  have c:j<m.length:=by
   have:=(U'.1 f).1;simpa using this
  have d:(⟨b,off,none⟩:Addr).add j=⟨b,off+j,none⟩:=by unfold Addr.add;split<;>simp_all
  rw[d,hcell j c];simp[List.getElem?_eq_getElem c]at f
  rw[AO c,f]
theorem Qg(w:World)(c x F G e:Nat)(y:P.underlying x=some (.slice e))(q:(P.info? e).map (·.size)=some 1)(g n:Nat)(H:List Value)(h:w.ownsRow c e 1 (.slice (some ⟨g,0,none⟩) n n) n H)(u:Value)(m:List Int)(D:n<=m.length)(z:Sl w u m) :
  ∃ w',(Builtin.copy_ #[x,F] G #[.slice (some ⟨g,0,none⟩) n n,u]).run P w=.ok (goInt n) w'/\w'.ownsRow c e 1 (.slice (some ⟨g,0,none⟩) n n) n ((m.take n).map (Value.int .u8))/\Below g w w':=by
 obtain⟨i,l,B⟩:∃ i,P.info? e=some i/\i.size=1:=by
  cases l:P.info? e with
  | none=>rw[l]at q;cases q
  | some i=>rw[l]at q;exact⟨i,rfl,by simpa using q⟩
 rcases h.2 with⟨h0,_⟩|⟨g',cap,cur,hvv,hbg,hg,hnc,hcm,hcs,ht⟩
 .cases h0
 .simp only[Value.slice.injEq,V',Addr.mk.injEq]at hvv;obtain⟨⟨rfl,_⟩,_,rfl⟩:=hvv;have t:=z;obtain⟨⟨a,A,rfl,J,E,I⟩,_⟩:=z;have f:Nat.min m.length n=n:=Nat.min_eq_right D;cases a with
  | none =>
   have r:=E rfl;subst r;have s:n=0:=by omega
   subst s;refine⟨w,?_,⟨by simp,.inr ⟨g,0,cur,rfl,hbg,hg,hnc,hcm,hcs,by simp⟩⟩,Below.refl _ _⟩;simp[Builtin.copy_,run_underlying y,Builtin.lenOf,Builtin.firstCells,sizeOf,typeInfo,l,storeCells]
  | some ad =>
   have b:((m.take n).map (Value.int .u8)).length=n:=by simp;omega
   have C:=run_firstCells_some (P:=P) w 1 n ad m.length A ((m.take n).map (Value.int .u8)) (by rw[b];omega) (λj v p=>t.py j v (by
    rw[mZ,kJ]at p
    split at p
    .exact p
    .cases p))
   have o:=run_storeCells_at P g 0 e ((m.take n).map (Value.int .u8)) 0 cur w hg (by rw[b];omega) (EA (m.take n));have d:(cur.toList.take (0+0)++(m.take n).map (Value.int .u8)++cur.toList.drop (0+0+((m.take n).map (Value.int .u8)).length))=(m.take n).map (Value.int .u8):=by
    rw[b,kD (by rw[lf];omega)];simp
   rw[d]at o
   refine⟨w.setRow g ((m.take n).map (Value.int .u8)).toArray,?_,⟨by rw[b];omega,.inr ⟨g,n,((m.take n).map (Value.int .u8)).toArray,rfl,hbg,setRow_heap w g cur _ e _ hg,A' _,hcm,by rw[lS,b];omega,?_⟩⟩,?_⟩
   .simp[-List.map_take,Builtin.copy_,run_underlying y,Builtin.lenOf,sizeOf,typeInfo,l,B,f,C,o]
   .rw[jS (by show((m.take n).map (Value.int .u8)).length<=_;rw[b];omega)]
   .exact⟨rfl,rfl,rfl,by simp,λk K=>setRow_other w g k _ (by omega)⟩
theorem Mg(w:World){j:Array Oper}{c:List Oper}{o:Oper}{a:Act}{Q:Exit->Act->World->Prop}(l:o.guard=none)(d s:Operand)(k r:TypeId)(A:o.op=.call { callee:=.builtin .copy,args:=#[d,s],argTypes:=#[k,r] })(b e:Nat)(C:P.underlying k=some (.slice e))(B:(P.info? e).map (·.size)=some 1)(g n:Nat)(v:List Value)(y:a.eval d=.slice (some ⟨g,0,none⟩) n n)(f:w.ownsRow b e 1 (.slice (some ⟨g,0,none⟩) n n) n v)(u:Value)(q:a.eval s=u)(m:List Int)(z:n<=m.length)(D:Sl w u m)(t:List Int)(p:t=m.take n)(h:∀ w',w'.ownsRow b e 1 (.slice (some ⟨g,0,none⟩) n n) n (t.map (Value.int .u8))->Below g w w'->wpList P j Q c (a.put o.dst (goInt n)) w'):wpList P j Q (o::c) a w:=by
 subst p;refine wpList_plain l λK x=>?_;obtain⟨w',i,E,F⟩:=Qg (P:=P) w b k r o.type e C B g n v f u m z D;unfold Oper.wp execOp;simp only[A,resolve,invoke,builtin,Sem.run_bind,Sem.run_pure,Result.andThen_ok,mn,kf,lh,y,q,i];exact x _ _ (h w' E F)
theorem Mi(w:World){g:Array Oper}{d:List Oper}{o:Oper}{a:Act}{Q:Exit->Act->World->Prop}(v:o.guard=none)(l c:Operand)(t:TypeId)(h:o.op=Op.makeSlice t l c)(b:Nat)(e:TypeId)(r:P.underlying t=some (.slice e))(f:(P.info? e).map (λi=>(i.zero,i.size,i.bytes))=some (some (.int .u8 0),1,1))(n:Nat)(y:a.eval l=.int .i64 (n:Int))(u:a.eval c=.int .i64 (n:Int))(B:n<=140737488351232)(p:b<=w.heap.size)(s:∀ w',Hid (∃ xs,w'.ownsRow b e 1 (.slice (some ⟨w.heap.size,0,none⟩) n n) n xs)->w.grownBy w' none->wpList P g Q d (a.put o.dst (.slice (some ⟨w.heap.size,0,none⟩) n n)) w'):wpList P g Q (o::d) a w:=by
 obtain⟨z,x,j,k,m⟩:=info_parts f;refine wpList_make_full w v l c t h b e z (.int .u8 0) 1 r x j k _ _ _ _ n y u rfl rfl (by rw[m];omega) (by unfold maxLen;omega) p (λw' A q=>s w' ⟨_,A⟩ q)
theorem DR(w:World)(a:Obj):(w.alloc a).heap[w.heap.size]?=some a:=heap_alloc_new w a
theorem BT(w:World)(a:Obj):Bw w (w.alloc a):=(Below.refl _ _).alloc (A' _) _
theorem LN(w:World)(a b:Obj):((w.alloc a).alloc b).heap[w.heap.size]?=some a:=heap_alloc2_old w a b
theorem LO(w:World)(b a:Obj):((w.alloc b).alloc a).heap[w.heap.size+1]?=some a:=heap_alloc2_new w b a
theorem NB(w:World)(a b:Obj):Bw w ((w.alloc a).alloc b):=((Below.refl _ _).alloc (A' _) _).alloc (by simp) _
theorem Cd(h:w.ownsRow base e k8 v n xs):∃ g c,v=.slice g n c:=by
 rcases h.2 with⟨rfl,h0⟩|⟨g,cap,cur,hv,_⟩
 .exact⟨none,0,by rw[h0]⟩
 .exact⟨_,_,hv⟩
theorem YL(R:World->Prop){A:Act}(c:∀ K':Act->World->Prop,Hid (∀ W2,R W2->K' A W2)->(Code.region id ops true).wp P (Exit.then K' Q) a w)(b:∀ W2,R W2->K A W2):(Code.region id ops true).wp P (Exit.then K Q) a w:=c K b
theorem YM(R:Option Addr->Nat->World->Prop){A:Option Addr->Nat->Act}(d:∀ K':Act->World->Prop,Hid (∀ g c W2,R g c W2->K' (A g c) W2)->(Code.region id ops true).wp P (Exit.then K' Q) a w)(b:∀ g c W2,R g c W2->K (A g c) W2):(Code.region id ops true).wp P (Exit.then K Q) a w:=d K b
theorem LK{cs:List Value}(h:w.heap[g]?=some (.cells cs.toArray t fr)):w.rangeAt g 0 cs:=λj u a=>by
 rw[cell_of_row _ _ (0+j) _ _ _ h];simpa using a
theorem LM(h:w.ownsRow base 5 k8 v n xs){g:Nat}{c:Array Value}{t:TypeId}{fr:Nat × Nat}(d:w.heap[g]?=some (.cells c t fr))(f:t≠5):∀ k,v.ownBlock=some k->k≠g:=by
 intro k a e;rcases h.2 with⟨h1,_⟩|⟨q,cap,cur,h1,_,h2,_⟩
 .rw[h1]at a;cases a
 .rw[h1]at a
  have b:q=k:=by simpa[Value.ownBlock]using a
  rw[b,e,d]at h2
  simp only[V',Obj.cells.injEq]at h2;exact f h2.2.1
theorem Vr(h:w.ownsRow base 5 k8 v n xs){g:Nat}{b:Array Value}{t:TypeId}{fr:Nat × Nat}(c:w.heap[g]?=some (.cells b t fr))(e:t≠5)(a:Array Value):(w.setRow g a).ownsRow base 5 k8 v n xs :=
 Dk h (λk d=>setRow_other _ _ _ _ (LM h c e k d))
theorem gQ:(prog.info? 5).map (·.size)=some 1:=by kernel_rfl
theorem O3(w:World)(b o:Nat)(f:TypeId)(v e:Value)(j:w.cell? ⟨b,o,none⟩=some e)(k:w.frozen? ⟨b,o,none⟩=false)(c:(P.info? f).map (·.size)=some 1)(g:v.oneCell'=true) :
  (storeVar f ⟨b,o,none⟩ v).run P w=.ok () (w.setCell ⟨b,o,none⟩ v):=by
 cases h:P.info? f with
 | none=>rw[h]at c;cases c
 | some i =>
  rw[h]at c
  simp at c;have a:(⟨b,o,none⟩:Addr).add 0=⟨b,o,none⟩:=by unfold Addr.add;split<;>simp_all
  have l:(Go.store ⟨b,o,none⟩ v .plain).run P w=.ok () (w.setCell ⟨b,o,none⟩ v):=by
   rw[run_store P w _ v .plain g,j];simp[k]
  have d:v.cells=#[v]:=by cases v<;>first|rfl|cases g
  unfold storeVar;rw[d];simp[sizeOf,typeInfo,h,c,storeCells,a,l,Result.andThen]
theorem OK{Q:Exit->Act->World->Prop}(d:TypeId)(x y:Operand)(i:op.op=.store d x y)(b o:Nat)(v c:Value)(k:a.eval x=.pointer (some ⟨b,o,none⟩))(l:a.eval y=v)(e:w.cell? ⟨b,o,none⟩=some c)(f:w.frozen? ⟨b,o,none⟩=false)(g:(P.info? d).map (·.size)=some 1)(j:v.oneCell'=true)(h:K (a.put op.dst undef) (w.setCell ⟨b,o,none⟩ v)):op.wp P a w K Q:=by
 unfold Oper.wp execOp;simp only[i,k,l,Instr.storeAt,Instr.sureAddr,Sem.run_bind,Sem.run_pure,Result.andThen_ok,O3 w b o d v c e f g j];exact h
theorem RP(n:ops[i]?=some o)(q:Region.wanted o (yielded ops a.tmps)=true)(j:o.dst=none)(e:TypeId)(x y:Operand)(d:o.op=.store e x y)(b k:Nat)(v c:Value)(r:a.eval x=.pointer (some ⟨b,k,none⟩))(s:a.eval y=v)(g:w.cell? ⟨b,k,none⟩=some c)(l:w.frozen? ⟨b,k,none⟩=false)(m:(P.info? e).map (·.size)=some 1)(p:v.oneCell'=true)(h:K a (w.setCell ⟨b,k,none⟩ v)):wpOp P ops Q i K a w :=
 wpOp_step n λt f=>by
  rw[if_pos q];exact OK e x y d b k v c r s g l m p (f _ _ (by rw[j];exact h))
structure Only(b:Nat)(w w':World):Prop where
 os:w'.os=w.os
 tape:w'.tape=w.tape
 output:w'.output=w.output
 size:w'.heap.size=w.heap.size
 other:∀ k,k≠b->w'.heap[k]?=w.heap[k]?
theorem Only.refl(b:Nat)(w:World):Only b w w:=⟨rfl,rfl,rfl,rfl,λ_ _=>rfl⟩
theorem Only.trans{a:World}(h:Only b w w')(k:Only b w' a):Only b w a :=
 ⟨k.os.trans h.os,k.tape.trans h.tape,k.output.trans h.output,k.size.trans h.size,λi c=>(k.other i c).trans (h.other i c)⟩
theorem Only.one(w:World)(b o:Nat)(v:Value):Only b w (w.setCell ⟨b,o,none⟩ v):=⟨rfl,rfl,rfl,by simp[World.setCell],λk a=>heap_setCell_other _ _ _ _ a⟩
theorem Only.store(w:World)(b o:Nat)(a:List Value):Only b w (w.setCells b o a):=by
 induction a generalizing w o with
 | nil=>exact Only.refl _ _
 | cons v r ih=>exact(Only.one w b o v).trans (ih _ _)
theorem ji{P:Program}{b:Array Oper}{S:World->Prop}{op:Oper}{a:Act}(m:Region.wanted op (yielded b a.tmps)=true)(e:TypeId)(x:Operand)(k:op.op=.load e x)(g:Nat)(n:a.eval x=.pointer (some ⟨g,0,none⟩))(c:Array Value)(t:TypeId)(fr:Nat × Nat)(d:TypeDesc)(h:∀ w,S w->w.heap[g]?=some (.cells c t fr))(l:P.underlying e=some d)(i:(match d with|.struct _|.array _ _=>true|_=>false)=true)(j:(P.info? e).map (·.size)=some c.size):YieldsIf P b S op (.agg c) a :=
 .inl ⟨m,λw f=>by
  unfold execOp;simp only[k,n,Instr.loadAt,Instr.sureAddr,Sem.run_bind,Sem.run_pure,Result.andThen_ok,run_loadVar_row w g t e c fr d (h w f) l i j]⟩
theorem gR{P:Program}{u:Func}{p s:Tmp}{j c:TypeId}(h:u.results=#[.cell p j,.cell s c])(a:Array Value)(w:World)(g i:Nat)(t v:TypeId)(f b:Array Value)(fr e:Nat × Nat)(d k:TypeDesc)(A:a.getD p undef=.pointer (some ⟨g,0,none⟩))(y:w.heap[g]?=some (.cells f t fr))(C:P.underlying j=some d)(x:(match d with|.struct _|.array _ _=>true|_=>false)=true)(z:(P.info? j).map (·.size)=some f.size)(o:a.getD s undef=.pointer (some ⟨i,0,none⟩))(m:w.heap[i]?=some (.cells b v e))(r:P.underlying c=some k)(l:(match k with|.struct _|.array _ _=>true|_=>false)=true)(n:(P.info? c).map (·.size)=some b.size) :
  (results u a).run P w=.ok (.tuple #[.agg f,.agg b]) w:=by
 have B:a[p]?.getD undef=.pointer (some ⟨g,0,none⟩):=by simpa using A
 have q:a[s]?.getD undef=.pointer (some ⟨i,0,none⟩):=by simpa using o
 simp[results,h,B,q,asAddr,run_loadVar_row w g t j f fr d y C x z,run_loadVar_row w i v c b e k m r l n]
theorem gT{P:Program}{v:Func}{p s u:Tmp}{j c:TypeId}(h:v.results=#[.cell p j,.cell s c,.tmp u])(a:Array Value)(w:World)(g i:Nat)(t x:TypeId)(f b:Array Value)(fr e:Nat × Nat)(d k:TypeDesc)(B:a.getD p undef=.pointer (some ⟨g,0,none⟩))(z:w.heap[g]?=some (.cells f t fr))(D:P.underlying j=some d)(y:(match d with|.struct _|.array _ _=>true|_=>false)=true)(A:(P.info? j).map (·.size)=some f.size)(o:a.getD s undef=.pointer (some ⟨i,0,none⟩))(m:w.heap[i]?=some (.cells b x e))(r:P.underlying c=some k)(l:(match k with|.struct _|.array _ _=>true|_=>false)=true)(n:(P.info? c).map (·.size)=some b.size) :
  (results v a).run P w=.ok (.tuple #[.agg f,.agg b,a.getD u undef]) w:=by
 have C:a[p]?.getD undef=.pointer (some ⟨g,0,none⟩):=by simpa using B
 have q:a[s]?.getD undef=.pointer (some ⟨i,0,none⟩):=by simpa using o
 simp[results,h,C,q,asAddr,run_loadVar_row w g t j f fr d z D y A,run_loadVar_row w i x c b e k m r l n]
theorem Qf(t e:TypeId)(N k:Nat)(d:prog.underlying t=some (.array N e))(a:(prog.info? e).map (·.size)=some k)(b o i:Nat)(f:i<N)(w:World):(Instr.indexAt t (.pointer (some ⟨b,o,none⟩)) (.int .i64 (i:Int))).run prog w=.ok (.pointer (some ⟨b,o+k*i,none⟩)) w:=by
 have c:(Go.sizeOf e).run prog w=.ok k w:=by
  cases hq:prog.info? e with
  | none=>rw[hq]at a;cases a
  | some x =>
   rw[hq]at a
   simp at a;simp[sizeOf,typeInfo,hq,a]
 simp only[Instr.indexAt,Sem.run_bind,run_underlying d w,Result.andThen_ok,Instr.sureAddr,Sem.run_pure,asIntOf];rw[if_pos ⟨by omega,by omega⟩];simp[c,Result.andThen,Addr.add_mid,Nat.mul_comm]
theorem RO(l:ops[i]?=some o)(n:Region.wanted o (yielded ops a.tmps)=true)(g:o.dst=none)(d:TypeId)(x y:Operand)(c:o.op=.store d x y)(b k:Nat)(cells:Array Value)(p:a.eval x=.pointer (some ⟨b,k,none⟩))(q:a.eval y=.agg cells)(m:w.there b k cells.size)(j:(P.info? d).map (·.size)=some cells.size)(e:cells.all (·.oneCell')=true)(h:K a (w.setCells b k cells.toList)):wpOp P ops Q i K a w :=
 wpOp_step l λr f=>by
  rw[if_pos n];exact wp_store_mid d x y c b k cells p q m j e (f _ _ (by rw[g];exact h))
def LZ(j:Nat)(k:Int):Bool:=if j=0 then F1 k else if j=1 then Hl k else Hm k
def ZA(j:Nat):Int:=if j=0 then 4 else if j=1 then 1048576 else 100000
structure LWTab(w:World):Prop where
 lt:0<w.heap.size
 text:∀ k:Nat,k<10->w.cell? ⟨0,4*k,none⟩=some (.string (strOfNums (TK (k:Int))))
 has:∀ k j:Nat,k<10->j<3->w.cell? ⟨0,4*k+1+j,none⟩=some (.bool (LZ j (k:Int)))
theorem LWTab.ab(h:LWTab w)(a:Bw w w'):LWTab w' :=
 ⟨Y' h.lt a.size,λk b=>(a.cell (p:=⟨0,4*k,none⟩) h.lt).trans (h.text k b),λk j b c=>(a.cell (p:=⟨0,4*k+1+j,none⟩) h.lt).trans (h.has k j b c)⟩
structure LBTab(w:World):Prop where
 lt:1<w.heap.size
 pR:∀ j:Nat,j<3->w.cell? ⟨1,j,none⟩=some (.int .i64 (ZA j))
theorem LBTab.ab(h:LBTab w)(a:Bw w w'):LBTab w' :=
 ⟨Y' h.lt a.size,λj b=>(a.cell (p:=⟨1,j,none⟩) h.lt).trans (h.pR j b)⟩
theorem gw:(prog.info? 131).map (·.size)=some 4:=by kernel_rfl
theorem Vj(k:Nat)(a:k<10)(w:World):(Instr.indexAt 132 (.pointer (some ⟨0,0,none⟩)) (.int .i64 (k:Int))).run prog w=.ok (.pointer (some ⟨0,4*k,none⟩)) w:=by
 have h:=Qf 132 131 10 4 underlying132 gw 0 0 k a w
 rwa [kl]at h
end
end
section
open Go.ChangeShapes Go.WideShapes Go.ChangeAt Go.RowKit
section
theorem own:ownKnob prog.godebug=none:=by kernel_rfl
theorem aV:laidOutB prog=true:=by kernel_rfl
theorem aR:prog.cellsOf 3=1:=by kernel_rfl
theorem aS:prog.cellsOf 4=1:=by kernel_rfl
theorem aT:prog.cellsOf 9=1:=by kernel_rfl
theorem Te:prog.cellsOf 131=4:=by kernel_rfl
theorem Td:prog.cellsOf 129=3:=by kernel_rfl
theorem WX : prog.globalNamed "conclave/lines.words" = some 0 := by kernel_rfl
theorem Ru:(prog.globals[0]?).map (·.type)=some 132:=by kernel_rfl
theorem Ta : prog.globalNamed "conclave/lines.bounds" = some 1 := by kernel_rfl
theorem Pu:(prog.globals[1]?).map (·.type)=some 133:=by kernel_rfl
variable{H:Type}{W:World}{a b c held:Bool}{base fuel:Nat}{cs:List Value}{p:List MemPlace}{sp:Nat->Bool}
theorem Kw{name:String}{g:Nat}{a:Array Value}(b:prog.globalNamed name=some g)(h:W.var? prog name=some a):∃ t fr,W.heap[g]?=some (.cells a t fr):=by
 unfold World.var? at h;rw[b]at h
 simp only[Option.bind_some]at h;split at h
 .rename_i c t fr hh
  simp only[V']at h;subst h;exact⟨t,fr,hh⟩
 .cases h
theorem RE{e:TypeId × Value->H}(h:DataW.trod e prog W base sp held fuel 129 cs=some (.agg [.lit (.bool a),.lit (.bool b),.lit (.bool c)],p)) :
  cs=[.bool a,.bool b,.bool c]:=by
 obtain⟨u,m,_,q,o,f,d⟩:=DataW.trod_array underlying129 h;rw[Td]at o
 rw[aS]at d
 match u,f,cs,o with
 | [x0,x1,x2],_,[c0,c1,c2],_ =>
  simp only[kf,lh,kG,DataW.agg.injEq,mh,and_true]at q;obtain⟨⟨k,l,n⟩,_⟩:=q;obtain⟨a0,g,r⟩:=DataW.trod_bool underlying4 (d 0 (by omega));obtain⟨v,i,s⟩:=DataW.trod_bool underlying4 (d 1 (by omega));obtain⟨w,j,t⟩:=DataW.trod_bool underlying4 (d 2 (by omega));simp at g i j r s t;subst g i j r s t;simp at k l n;subst k l n;rfl
theorem VB{e:TypeId × Value->H}{s:List UInt8}(h:DataW.trod e prog W base sp held fuel 131 cs=some (.agg [.lit (.string s),.agg [.lit (.bool a),.lit (.bool b),.lit (.bool c)]],p)) :
  cs=[.string ⟨s.toArray⟩,.bool a,.bool b,.bool c]:=by
 obtain⟨⟨d,m⟩,⟨q,o⟩,n,k,j,g,i⟩:=trod_struct2 underlying131 h;rw[Te]at j
 simp only[aT,Td]at g i;simp only[kG,DataW.agg.injEq,mh,and_true]at k;obtain⟨⟨rfl,rfl⟩,_⟩:=k;have l:=RE i;obtain⟨z,f,d,_⟩:=DataW.trod_string underlying9 g
 match cs,j with
 | [c0,c1,c2,c3],_ =>
  simp at f l d;obtain⟨d,_⟩:=d;subst f d;obtain⟨rfl,rfl,rfl⟩:=l;rfl
theorem SY{l:List Value}{a:Nat}{b c d e:Value}(h:(l.drop a).take 4=[b,c,d,e]):l[a]?=some b/\l[a+1]?=some c/\l[a+2]?=some d/\l[a+3]?=some e:=by
 have g:∀ i,i<4->l[a+i]?=[b,c,d,e][i]?:=λi f=>by rw[<- h,List.getElem?_take_of_lt f,kA]
 exact⟨g 0 (by omega),g 1 (by omega),g 2 (by omega),g 3 (by omega)⟩
theorem Xv(k:Nat)(a:k<10){l:List (DataW H)}(h:(Rows.laid_conclave_lines_words:DataW H)=.agg l) :
  l[k]?=some (.agg [.lit (.string ((TK (k:Int)).map λn=>UInt8.ofNat n.toNat)),.agg [.lit (.bool (LZ 0 (k:Int))),.lit (.bool (LZ 1 (k:Int))),.lit (.bool (LZ 2 (k:Int)))]]):=by
 simp only[Rows.laid_conclave_lines_words,DataW.agg.injEq]at h;subst h
 match k,a with
 | 0,_=>rfl
 | 1,_=>rfl
 | 2,_=>rfl
 | 3,_=>rfl
 | 4,_=>rfl
 | 5,_=>rfl
 | 6,_=>rfl
 | 7,_=>rfl
 | 8,_=>rfl
 | 9,_=>rfl
theorem Xu(k:Nat)(a:k<3){l:List (DataW H)}(h:(Rows.laid_conclave_lines_bounds:DataW H)=.agg l):l[k]?=some (.lit (.int .i64 (ZA k))):=by
 simp only[Rows.laid_conclave_lines_bounds,DataW.agg.injEq]at h;subst h
 match k,a with
 | 0,_=>rfl
 | 1,_=>rfl
 | 2,_=>rfl
theorem cM{r : List (String × DataW Unit)}{M : List MemPlace}(h : DataW.LaidVars prog W (("conclave/lines.bounds", Rows.laid_conclave_lines_bounds) :: ("conclave/lines.words", Rows.laid_conclave_lines_words) :: r) M) : LWTab W ∧ LBTab W := by
 obtain⟨N,T,w,x,P,R,B,D,b,z,⟨O,U,f,y,Q,S,C,E,c,A,_,_⟩,_⟩:=h;obtain rfl:=kK (Ta.symm.trans B);obtain rfl:=kK (Pu.symm.trans D);obtain rfl:=kK (WX.symm.trans C);obtain rfl:=kK (Ru.symm.trans E);constructor
 .obtain⟨xs,m,_,hx,hl,hxl,hb⟩:=DataW.trod_array underlying132 A;rw[Te]at hb
  simp only[kG]at hx;obtain⟨t,fr,q⟩:=Kw WX c;have o:∀ k:Nat,k<10->(f.toList.drop (k*4)).take 4=[.string (strOfNums (TK (k:Int))),.bool (LZ 0 (k:Int)),.bool (LZ 1 (k:Int)),.bool (LZ 2 (k:Int))]:=λk o=>by
   have g:=Xv k o hx.1;rw[kh]at g
   obtain⟨⟨d,p⟩,e,a⟩:=lu.1 g;have l:=hb k o;rw[e]at l
   simp only at a;subst a;exact VB l
  have s:∀ (i:Nat) (v:Value),f.toList[i]?=some v->W.cell? ⟨0,i,none⟩=some v:=λi v L=>by
   refine(cell_of_row _ _ i _ _ _ q).trans ?_
   rwa [Array.getElem?_toList]at L
  refine⟨(H'.1 q).1,λk h=>?_,λk j h u=>?_⟩
  .rw[mu];exact s _ _ (SY (o k h)).1
  .rw[mu];obtain⟨_,I,J,K⟩:=SY (o k h)
   match j,u with
   | 0,_=>exact s _ _ I
   | 1,_=>exact s _ _ J
   | 2,_=>exact s _ _ K
 .obtain⟨xs,m,_,hx,hl,hxl,hb⟩:=DataW.trod_array underlying133 z;rw[aR]at hb
  simp only[kG]at hx;obtain⟨t,fr,q⟩:=Kw Ta b;refine⟨(H'.1 q).1,λj u=>(cell_of_row _ _ j _ _ _ q).trans ?_⟩;have g:=Xu j u hx.1;rw[kh]at g
  obtain⟨⟨d,p⟩,e,a⟩:=lu.1 g;have l:=hb j u;rw[e]at l
  obtain⟨n,H,G,_⟩:=DataW.trod_int underlying3 l;simp only[kG]at G;obtain⟨rfl,_⟩:=G;simp at a;subst a;have F:((w.toList.drop (j*1)).take 1)[0]?=some (.int .i64 (ZA j)):=by rw[H];rfl
  rw[List.getElem?_take_of_lt (by omega),kA,Array.getElem?_toList,Nat.mul_one,lU]at F
  exact F
def QK:Array Value:=((List.range 10).flatMap λk=>[.string (strOfNums (TK (k:Int))),.bool (LZ 0 (k:Int)),.bool (LZ 1 (k:Int)),.bool (LZ 2 (k:Int))]).toArray
def OU:Array Value:=((List.range 3).map λk=>.int .i64 (ZA k)).toArray
def Xt(cs:Array Value):Obj->Obj
 | .cells _ t frozen=>.cells cs t frozen
 | o=>o
end
end
section
open Go.RowKit
section
def cmA(k c s n v:Int):Array Value:=#[.int .i64 k,.int .i64 c,.int .i64 s,.int .i64 n,.int .i64 v]
def tkA(c r u:Int):Array Value:=#[.int .i64 c,.int .i64 r,.int .i64 u]
def InC(c s n v:Int):Prop:=0<=c/\c<=7/\0<=s/\s<=1048576/\0<=n/\n<=7/\0<=v/\v<=1073741824
instance (c s n v:Int):Decidable (InC c s n v):=by unfold InC;exact inferInstance
def AW(k c s n v:Int):Int :=
 if ¬ (0<=k/\k<=3)then 4
 else if k=0 then(if c=0/\s=0/\n=0/\v=0 then 0 else 3)
 else if ¬ InC c s n v then 2
 else if 1<k/\v≠0 then 3
 else 0
variable{c k n now r s tc tr tu u v:Int}{g:Nat}{w w':World}
theorem Uf(h:¬ (0<=k/\k<=3)):AW k c s n v=4:=if_pos h
theorem Ug(h:c=0/\s=0/\n=0/\v=0):AW 0 c s n v=0:=by
 unfold AW;rw[if_neg (by omega),if_pos rfl,if_pos h]
theorem QU(h:¬ (c=0/\s=0/\n=0/\v=0)):AW 0 c s n v=3:=by
 unfold AW;rw[if_neg (by omega),if_pos rfl,if_neg h]
theorem QV(h:1<=k/\k<=3)(a:¬ InC c s n v):AW k c s n v=2:=by
 unfold AW;rw[if_neg (by omega),if_neg (by omega),if_pos a]
theorem Ue(h:2<=k/\k<=3)(a:InC c s n v)(b:v≠0):AW k c s n v=3:=by
 unfold AW;rw[if_neg (by omega),if_neg (by omega),if_neg (λg=>g a),if_pos ⟨by omega,b⟩]
theorem SQ(h:1<=k/\k<=3)(a:InC c s n v)(b:k=1\/v=0):AW k c s n v=0:=by
 unfold AW;rw[if_neg (by omega),if_neg (by omega),if_neg (λg=>g a),if_neg (by omega)]
theorem E7(h:AW k c s n v=0):(0<=k/\k<=3)/\InC c s n v:=by
 unfold AW at h;split at h
 .omega
 .rename_i h1
  split at h
  .split at h
   .rename_i h3
    exact⟨by omega,by unfold InC;omega⟩
   .omega
  .split at h
   .omega
   .rename_i h3
    exact⟨by omega,Classical.not_not.1 h3⟩
def CS(k c s n v:Int):List Int:=Ab k++Ab c++Ab s++Ab n++Ab v
theorem BI(k c s n v:Int):(CS k c s n v).length=20:=rfl
theorem Gj(k c s n v:Int):∀ x∈CS k c s n v,0<=x/\x<256:=by
 intro x hx;rcases Q'.1 hx with hx|hx
 .rcases Q'.1 hx with hx|hx
  .rcases Q'.1 hx with hx|hx
   .rcases Q'.1 hx with hx|hx
    .exact Au _ x hx
    .exact Au _ x hx
   .exact Au _ x hx
  .exact Au _ x hx
 .exact Au _ x hx
def Ac(l:List Int)(i:Nat):Int:=16777216*l.getD i 0+65536*l.getD (i+1) 0+256*l.getD (i+2) 0+l.getD (i+3) 0
theorem Bz(n:Int)(a:0<=n)(b:n<4294967296)(l m:List Int):Ac (l++(Ab n++m)) l.length=n:=by
 have e:∀ j,(l++(Ab n++m)).getD (l.length+j) 0=(Ab n++m).getD j 0:=by
  intro j;simp[List.getD,List.getElem?_append_right]
 unfold Ac;rw[show l.length=l.length+0 from rfl,kM,kM,kM,e,e,e,e];show 16777216*(n/16777216%256)+65536*(n/65536%256)+256*(n/256%256)+n%256=n;omega
theorem UK(k c s n v:Int)(a:0<=k)(b:k<4294967296):Ac (CS k c s n v) 0=k:=by
 have h:=Bz k a b [] (Ab c++Ab s++Ab n++Ab v);exact h
theorem UL(k c s n v:Int)(a:0<=c)(b:c<4294967296):Ac (CS k c s n v) 4=c:=by
 have h:=Bz c a b (Ab k) (Ab s++Ab n++Ab v);exact h
theorem UM(k c s n v:Int)(a:0<=s)(b:s<4294967296):Ac (CS k c s n v) 8=s:=by
 have h:=Bz s a b (Ab k++Ab c) (Ab n++Ab v);exact h
theorem RI(k c s n v:Int)(a:0<=n)(b:n<4294967296):Ac (CS k c s n v) 12=n:=by
 have h:=Bz n a b (Ab k++Ab c++Ab s) (Ab v);exact h
theorem RJ(k c s n v:Int)(a:0<=v)(b:v<4294967296):Ac (CS k c s n v) 16=v:=by
 have h:=Bz v a b (Ab k++Ab c++Ab s++Ab n) [];exact h
def Ca(l:List Int):Int:=if l.length≠20 then 1 else AW (Ac l 0) (Ac l 4) (Ac l 8) (Ac l 12) (Ac l 16)
def JJ(l:List Int):Array Value:=if Ca l=0 then cmA (Ac l 0) (Ac l 4) (Ac l 8) (Ac l 12) (Ac l 16)else cmA 0 0 0 0 0
def De(c r u:Int):Prop:=(0<=c/\c<=7)/\(0<=r/\r<=7)/\0<=u/\u<=1048576
instance (c r u:Int):Decidable (De c r u):=by unfold De;exact inferInstance
def MD(c r u:Int):Int:=if De c r u then 0 else 2
theorem Ku(h:De c r u):MD c r u=0:=if_pos h
theorem T8(h:¬ De c r u):MD c r u=2:=if_neg h
def NL(k r:Int):Prop:=(k=1/\r/2%2=1)\/(k=2/\r%2=1)\/(k=3/\r/4=1)
instance (k r:Int):Decidable (NL k r):=by unfold NL;exact inferInstance
def E4(tc tr tu k c s n v now:Int):Int :=
 if ¬ De tc tr tu then 2
 else if AW k c s n v≠0 then AW k c s n v
 else if ¬ (NL k tr/\c=tc)then 11
 else if ¬ (0<=now/\now<=tu)then 10
 else 0
theorem VL(h:¬ De tc tr tu):E4 tc tr tu k c s n v now=2:=if_pos h
theorem VK(h:De tc tr tu)(a:AW k c s n v≠0):E4 tc tr tu k c s n v now=AW k c s n v:=by
 unfold E4;rw[if_neg (λg=>g h),if_pos a]
theorem K4(h:De tc tr tu)(a:AW k c s n v=0)(b:¬ (NL k tr/\c=tc)):E4 tc tr tu k c s n v now=11:=by
 unfold E4;rw[if_neg (λg=>g h),if_neg (λg=>g a),if_pos b]
theorem TU(h:De tc tr tu)(a:AW k c s n v=0)(b:NL k tr/\c=tc)(d:¬ (0<=now/\now<=tu)):E4 tc tr tu k c s n v now=10:=by
 unfold E4;rw[if_neg (λg=>g h),if_neg (λg=>g a),if_neg (λg=>g b),if_pos d]
theorem Zs(h:De tc tr tu)(a:AW k c s n v=0)(b:NL k tr/\c=tc)(d:0<=now/\now<=tu):E4 tc tr tu k c s n v now=0:=by
 unfold E4;rw[if_neg (λg=>g h),if_neg (λg=>g a),if_neg (λg=>g b),if_neg (λg=>g d)]
def Kd(c r u:Int):List Int:=c::r::Ab u
theorem Ej(c r u:Int):(Kd c r u).length=6:=rfl
theorem ND(h:De c r u):∀ x∈Kd c r u,0<=x/\x<256:=by
 obtain⟨a,b,d⟩:=h;intro x hx;rcases jQ.1 hx with rfl|hx
 .omega
 rcases jQ.1 hx with rfl|hx
 .omega
 exact Au _ x hx
theorem SV(a b c d e f g h i j:Int):∀ w,(binOp .eql 47 (.agg #[.int .i64 a,.int .i64 b,.int .i64 c,.int .i64 d,.int .i64 e]) (.agg #[.int .i64 f,.int .i64 g,.int .i64 h,.int .i64 i,.int .i64 j])).run prog w=.ok (.bool (decide (a=f/\b=g/\c=h/\d=i/\e=j))) w:=by
 intro w;rw[run_eql_struct,run_equalIn_agg w 9999 _ _ _ (by kernel_rfl) (by kernel_rfl)];unfold Program.fieldsOf;rw[underlying47];have k:=underlying3;simp[Op.eqFields,go_sem,k]
 repeat' split
 all_goals simp_all
theorem bi(a b c d e f g h i j:Int):∀ w,(binOp .neq 47 (.agg #[.int .i64 a,.int .i64 b,.int .i64 c,.int .i64 d,.int .i64 e]) (.agg #[.int .i64 f,.int .i64 g,.int .i64 h,.int .i64 i,.int .i64 j])).run prog w=.ok (.bool (!decide (a=f/\b=g/\c=h/\d=i/\e=j))) w:=by
 intro w;rw[run_neq_struct,run_equalIn_agg w 9999 _ _ _ (by kernel_rfl) (by kernel_rfl)];unfold Program.fieldsOf;rw[underlying47];have k:=underlying3;simp[Op.eqFields,go_sem,k]
 repeat' split
 all_goals simp_all
theorem E6{a:TypeId}{fr:Nat × Nat}(h:w.heap[g]?=some (.cells (cmA k c s n v) a fr)) :
  w.cell? ⟨g,0,none⟩=some (.int .i64 k)/\w.cell? ⟨g,1,none⟩=some (.int .i64 c)/\w.cell? ⟨g,2,none⟩=some (.int .i64 s)/\w.cell? ⟨g,3,none⟩=some (.int .i64 n)/\w.cell? ⟨g,4,none⟩=some (.int .i64 v) :=
 ⟨cell_of_row _ _ 0 _ _ _ h,cell_of_row _ _ 1 _ _ _ h,cell_of_row _ _ 2 _ _ _ h,cell_of_row _ _ 3 _ _ _ h,cell_of_row _ _ 4 _ _ _ h⟩
theorem aL(c s n v:Int):InC c s n v↔(((0<=c/\c<=7)/\(0<=s/\s<=1048576))/\(0<=n/\n<=7))/\(0<=v/\v<=1073741824):=by unfold InC;omega
structure Bc(w:World)(g:Nat)(k c s n v:Int):Prop where
 lt:g<w.heap.size
 row:w.heap[g]?=some (.cells (cmA k c s n v) 47)
theorem Bc.made(w:World)(k c s n v:Int):Bc (w.alloc (.cells (cmA k c s n v) 47)) w.heap.size k c s n v:=⟨by simp,heap_alloc_new _ _⟩
theorem Bc.ab(h:Bc w g k c s n v)(a:Bw w w'):Bc w' g k c s n v :=
 ⟨Y' h.lt a.size,(a.block g h.lt).trans h.row⟩
theorem Gi(k c s n v:Int):(prog.info? 47).map (·.size)=some (cmA k c s n v).size:=by show _=some 5;kernel_rfl
def Nk:List Int:=[0,0,0,2,7,1073741824,1,7,0,4,7,0]
structure NTab(w:World):Prop where
 lt:2<w.heap.size
 cell:∀ i,i<12->w.cell? ⟨2,i,none⟩=some (.int .i64 (Nk.getD i 0))
theorem NTab.ab(h:NTab w)(a:Bw w w'):NTab w' :=
 ⟨Y' h.lt a.size,λi b=>(a.cell (p:=⟨2,i,none⟩) h.lt).trans (h.cell i b)⟩
theorem EL(n g:Int)(w:World) :
  Calls prog 120 #[.int .i64 n,.int .i64 g] w λe w'=>e=.returned (.bool (decide (0<=n/\n<=g)))/\w'=w:=by
 by_cases a:0<=n
 .by_cases h1:n<=g
  .rw[I' ⟨a,h1⟩];go_enter func120,ntmps120
   go_wp2
   go_ret;exact⟨Al (by simp),rfl⟩
  .rw[D' (by omega)];go_enter func120,ntmps120
   go_wp2
   go_ret;exact⟨Al (by simp),rfl⟩
 .rw[D' (by omega)];go_enter func120,ntmps120
  go_wp2
  go_ret;exact⟨Al (by simp),rfl⟩
theorem I2{g:Int}{b:Bool}(h:Hid (decide (0<=n/\n<=g)=b))(w:World) :
  Calls prog 120 #[.int .i64 n,.int .i64 g] w λe w'=>e=.returned (.bool b)/\w'=w:=by
 rw[<- h.out];exact EL n g w
theorem R3(k:Int)(w:World) :
  Calls prog 79 #[.int .i64 k] w λe w'=>e=.returned (.bool (decide (0<=k/\k<=3)))/\w'=w:=by
 go_enter func79,ntmps79
 go_wp2_with fail
 refine(EL k 3 _).mono ?_;rintro e a ⟨rfl,rfl⟩;go_wp2
 go_ret;exact⟨Al (by simp),rfl⟩
theorem XI(c s n v:Int)(w:World) :
  Calls prog 80 #[.agg (cmA 0 c s n v)] w λe w'=>e=.returned (.int .i64 (AW 0 c s n v))/\Bw w w':=by
 have a:Bw w (w.alloc (.cells (cmA 0 c s n v) 47)):=(Below.refl _ _).alloc (A' _) _;simp only[cmA]at a ⊢;have b:=bi 0 c s n v 0 0 0 0 0;by_cases h:c=0/\s=0/\n=0/\v=0
 .have HE:Hid (0=AW 0 c s n v):=(Ug h).symm;rw[I' ⟨rfl,h⟩]at b
  clear h;go_enter func80,ntmps80
  go_wp2
  go_ret;exact⟨Br HE.out,a⟩
 .have HE:Hid (3=AW 0 c s n v):=(QU h).symm;rw[D' (λg=>h g.2)]at b
  clear h;go_enter func80,ntmps80
  go_wp2
  go_ret;exact⟨Br HE.out,a⟩
theorem NTab.name(h:NTab w)(k:Nat)(a:1<=k)(b:k<=3):w.cell? ⟨2,k*3+1,none⟩=some (.int .i64 7):=by
 rcases(by omega:k=1\/k=2\/k=3)with rfl|rfl|rfl
 .exact h.cell 4 (by omega)
 .exact h.cell 7 (by omega)
 .exact h.cell 10 (by omega)
theorem Oi(k c s n v:Int)(w:World)(r:1<=k/\k<=3)(p:NTab w) :
  Calls prog 81 #[.agg (cmA k c s n v)] w λe w'=>e=.returned (.bool (decide (InC c s n v)))/\Bw w w':=by
 have f:Bw w (w.alloc (.cells (cmA k c s n v) 47)):=(Below.refl _ _).alloc (A' _) _;have l:=(p.ab f).name;have o:=heap_alloc_new w (.cells (cmA k c s n v) 47);simp only[cmA]at f l o ⊢;obtain⟨m,rfl⟩:=jY (show 0<=k by omega);replace l:=l m (by omega) (by omega);have y:(0:Int)<=(m:Int):=by omega
 have z:(m:Int)<4:=by omega
 have A:m<4:=by omega
 clear r p;have a:Hid (InC c s n v↔_):=aL c s n v;generalize q:w.alloc (.cells #[.int .i64 (m:Int),.int .i64 c,.int .i64 s,.int .i64 n,.int .i64 v] 47)=W at f l o;go_enter func81,ntmps81
 go_wp2_with fail
 clear q;obtain⟨c0,c1,t,u,x⟩:=E6 o;clear o;by_cases d:0<=c/\c<=7
 .have U1:Hid (decide _=true):=I' d;by_cases h:0<=s/\s<=1048576
  .have U2:Hid (decide _=true):=I' h;by_cases i:0<=n/\n<=7
   .have U3:Hid (decide _=true):=I' i;by_cases j:0<=v/\v<=1073741824
    .have U4:Hid (decide _=true):=I' j;have b:Hid (true=decide (InC c s n v)):=(I' (a.out.2 ⟨⟨⟨d,h⟩,i⟩,j⟩)).symm;clear d h i j a;go_quiet ((go_at_call 120;exact Calls.quiet_of_same (I2 (by assumption) _)))
     go_wp2
     go_ret;exact⟨Al b.out,Am f nq⟩
    .have U4:Hid (decide _=false):=D' j;have b:Hid (false=decide (InC c s n v)):=(D' (λG=>j ((λg=>g.2) (a.out.1 G)))).symm;clear d h i j a;go_quiet ((go_at_call 120;exact Calls.quiet_of_same (I2 (by assumption) _)))
     go_wp2
     go_ret;exact⟨Al b.out,Am f nq⟩
   .have U3:Hid (decide _=false):=D' i;have b:Hid (false=decide (InC c s n v)):=(D' (λG=>i ((λg=>g.1.2) (a.out.1 G)))).symm;clear d h i a;go_quiet ((go_at_call 120;exact Calls.quiet_of_same (I2 (by assumption) _)))
    go_wp2
    go_ret;exact⟨Al b.out,Am f nq⟩
  .have U2:Hid (decide _=false):=D' h;have b:Hid (false=decide (InC c s n v)):=(D' (λG=>h ((λg=>g.1.1.2) (a.out.1 G)))).symm;clear d h a;go_quiet ((go_at_call 120;exact Calls.quiet_of_same (I2 (by assumption) _)))
   go_wp2
   go_ret;exact⟨Al b.out,Am f nq⟩
 .have U1:Hid (decide _=false):=D' d;have b:Hid (false=decide (InC c s n v)):=(D' (λG=>d ((λg=>g.1.1.1) (a.out.1 G)))).symm;clear d a;go_quiet ((go_at_call 120;exact Calls.quiet_of_same (I2 (by assumption) _)))
  go_wp2
  go_ret;exact⟨Al b.out,Am f nq⟩
end
end
end Go.Proofs.YthohlalejhgbmaaGreatDoor
