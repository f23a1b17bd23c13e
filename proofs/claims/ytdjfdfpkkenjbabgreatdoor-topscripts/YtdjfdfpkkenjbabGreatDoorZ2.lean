/- Part 2 of the walk. -/
import Derived.Deep.MidRow
import Derived.Laws.Tables
import Derived.Laws.Rows
import Derived.Deep.RegionLaw
import Derived.Deep.RegionHeld3
import Derived.Laws.CopyRow
import Derived.Deep.Cut
import Derived.Laws.Strings2
import Derived.Test.YtdjfdfpkkenjbabGreatDoorCards
import Derived.Test.YtdjfdfpkkenjbabGreatDoorTie
import Derived.SizedLaws
import Derived.ChangeOld
import Derived.ChangeSame
import Derived.ChangeMaps5
import Derived.Deep.DeepHandedRow
import Derived.Lib.LaidTab
import Derived.Deep.Strs
import Derived.Test.YtdjfdfpkkenjbabGreatDoorZ1
set_option maxRecDepth 100000
set_option maxHeartbeats 4000000
open Go.Proofs.Tryz
set_option linter.unusedVariables false
namespace Go.Proofs.YtdjfdfpkkenjbabGreatDoor
section
open Go.RowKit
section
theorem Bu{a b:Int}(h:a=b):Ending.returned (.int .i64 a)=.returned (.int .i64 b):=by rw[h]
def chA(k:Value)(s t:Int)(l:List Bool):Array Value:=(k::.int .i64 s::.int .i64 t::l.map Value.bool).toArray
theorem FH(k:Value)(s t:Int)(l:List Bool):(chA k s t l).size=l.length+3:=by simp[chA]
theorem Ul(k:Value)(s t:Int)(l:List Bool):(chA k s t l)[0]?=some k:=by simp[chA]
theorem PB(k:Value)(s t:Int)(l:List Bool):(chA k s t l)[1]?=some (.int .i64 s):=by simp[chA]
theorem GJ(l:List Bool)(a:l.length=8):∃ b0 b1 b2 b3 b4 b5 b6 b7,l=[b0,b1,b2,b3,b4,b5,b6,b7]:=by
 match l,a with
 | [b0,b1,b2,b3,b4,b5,b6,b7],_=>exact⟨b0,b1,b2,b3,b4,b5,b6,b7,rfl⟩
variable{b0 b1 b2 b3 b4 b5 b6 b7:Bool}{fr:Nat × Nat}{g:Nat}{h:List Int}{l:List Bool}{n t:Int}{ty:TypeId}{w:World}
theorem Vu{k:Value}{s:Int}(h:w.heap[g]?=some (.cells (chA k s t [b0,b1,b2,b3,b4,b5,b6,b7]) ty fr)) :
  w.cell? ⟨g,0,none⟩=some k/\w.cell? ⟨g,1,none⟩=some (.int .i64 s)/\w.cell? ⟨g,2,none⟩=some (.int .i64 t)/\w.cell? ⟨g,3,none⟩=some (.bool b0)/\w.cell? ⟨g,4,none⟩=some (.bool b1)/\w.cell? ⟨g,5,none⟩=some (.bool b2)/\w.cell? ⟨g,6,none⟩=some (.bool b3)/\w.cell? ⟨g,7,none⟩=some (.bool b4)/\w.cell? ⟨g,8,none⟩=some (.bool b5)/\w.cell? ⟨g,9,none⟩=some (.bool b6)/\w.cell? ⟨g,10,none⟩=some (.bool b7) :=
 ⟨cell_of_row _ _ 0 _ _ _ h,cell_of_row _ _ 1 _ _ _ h,cell_of_row _ _ 2 _ _ _ h,cell_of_row _ _ 3 _ _ _ h,cell_of_row _ _ 4 _ _ _ h,cell_of_row _ _ 5 _ _ _ h,cell_of_row _ _ 6 _ _ _ h,cell_of_row _ _ 7 _ _ _ h,cell_of_row _ _ 8 _ _ _ h,cell_of_row _ _ 9 _ _ _ h,cell_of_row _ _ 10 _ _ _ h⟩
def wA(t:Int)(l:List Bool):Array Value:=(.int .i64 t::l.map Value.bool).toArray
theorem DD(t:Int)(l:List Bool):(wA t l).size=l.length+1:=by simp[wA]
theorem j9(t:Int)(l:List Bool):(wA t l)[0]?=some (.int .i64 t):=by simp[wA]
theorem KV(t:Int)(l:List Bool)(i:Nat)(a:i<l.length):(wA t l)[1+i]?=some (.bool (l.getD i false)):=by
 rw[Nat.add_comm];simp[wA,List.getD,List.getElem?_eq_getElem a]
theorem Pu(t:Int)(l:List Bool):(wA t l).all (·.oneCell')=true:=by simp[wA,Value.oneCell']
theorem Mw(h:w.heap[g]?=some (.cells (wA t [b0,b1,b2,b3,b4,b5,b6,b7]) ty fr)) :
  w.cell? ⟨g,0,none⟩=some (.int .i64 t)/\w.cell? ⟨g,1,none⟩=some (.bool b0)/\w.cell? ⟨g,2,none⟩=some (.bool b1)/\w.cell? ⟨g,3,none⟩=some (.bool b2)/\w.cell? ⟨g,4,none⟩=some (.bool b3)/\w.cell? ⟨g,5,none⟩=some (.bool b4)/\w.cell? ⟨g,6,none⟩=some (.bool b5)/\w.cell? ⟨g,7,none⟩=some (.bool b6)/\w.cell? ⟨g,8,none⟩=some (.bool b7) :=
 ⟨cell_of_row _ _ 0 _ _ _ h,cell_of_row _ _ 1 _ _ _ h,cell_of_row _ _ 2 _ _ _ h,cell_of_row _ _ 3 _ _ _ h,cell_of_row _ _ 4 _ _ _ h,cell_of_row _ _ 5 _ _ _ h,cell_of_row _ _ 6 _ _ _ h,cell_of_row _ _ 7 _ _ _ h,cell_of_row _ _ 8 _ _ _ h⟩
def Qs(t:Int)(l:List Bool)(x:Int):Bool:=decide (t-8<=x)&&decide (x<t)&&l.getD (x-(t-8)).toNat false
theorem ON(t:Int)(l:List Bool)(k:Nat)(a:k<8):Qs t l (t-8+k)=l.getD k false:=by
 unfold Qs;rw[N' (by omega),N' (by omega),show(t-8+(k:Int)-(t-8)).toNat=k by omega];simp
theorem UE{x:Int}(h:t<=x):Qs t l x=false:=by
 unfold Qs;rw[G' (show ¬ x<t by omega)];simp
structure OkC(key:List Int)(s t:Int)(l:List Bool):Prop where
 key:key.length=32
 s0:0<=s
 s1:s<=1073741824
 t0:0<=t
 t1:t<=1073741824
 low:∀ i:Nat,i<8->l.getD i false=true->0<=t-8+(i:Int)
 top:t=0\/l.getD 7 false=true
theorem dU(key:List Int)(s t:Int)(l:List Bool):OkC key s t l↔(key.length=32/\0<=s/\s<=1073741824/\0<=t/\t<=1073741824/\(∀ i,i<8->l.getD i false=true->0<=t-8+(i:Int))/\(t=0\/l.getD 7 false=true)) :=
 ⟨λh=>⟨h.1,h.2,h.3,h.4,h.5,h.6,h.7⟩,λh=>⟨h.1,h.2.1,h.2.2.1,h.2.2.2.1,h.2.2.2.2.1,h.2.2.2.2.2.1,h.2.2.2.2.2.2⟩⟩
instance (key:List Int) (s t:Int) (l:List Bool):Decidable (OkC key s t l):=decidable_of_iff _ (dU key s t l).symm
def SK(t:Int)(l:List Bool):Bool:=((List.range 8).all λi=>!l.getD i false||decide (0<=t-8+(i:Int)))&&(decide (t=0)||l.getD 7 false)
theorem FS(t:Int)(l:List Bool):SK t l=true↔((∀ i:Nat,i<8->l.getD i false=true->0<=t-8+(i:Int))/\(t=0\/l.getD 7 false=true)):=by
 unfold SK;rw[mW,pg,nV];constructor
 .rintro⟨h1,h2⟩;refine⟨λi b a=>?_,h2.imp nX id⟩;have h:=h1 i (o8.2 b);rw[a]at h
  simpa using h
 .rintro⟨h1,h2⟩;refine⟨λi b=>?_,h2.imp N' id⟩;cases a:l.getD i false with
  | true=>simpa using h1 i (o8.1 b) a
  | false=>rfl
def Ex(key:List Int)(s t:Int)(l:List Bool):Int:=if OkC key s t l then 0 else 5
def Hj(t:Int)(l:List Bool)(n:Int):Bool:=decide (n<t)&&(decide (n<t-8)||Qs t l n)
def GB(t n:Int):Int:=if t<=n then n+1 else t
def K9(t:Int)(l:List Bool)(n:Int):List Bool:=(List.range 8).map λk:Nat=>decide (GB t n-8+(k:Int)=n)||Qs t l (GB t n-8+(k:Int))
theorem Eo(t:Int)(l:List Bool)(n:Int):(K9 t l n).length=8:=by simp[K9]
theorem UV(t:Int)(l:List Bool)(n:Int)(k:Nat)(a:k<8):(K9 t l n).getD k false=(decide (GB t n-8+(k:Int)=n)||Qs t l (GB t n-8+(k:Int))):=by
 simp[K9,List.getD,a]
def noB:List Bool:=List.replicate 8 false
theorem Hh:noB.length=8:=rfl
theorem iL(k:Nat):noB.getD k false=false:=by
 rw[noB,nc,pE];split<;>rfl
theorem OkC.new{key:List Int}(c:key.length=32)(s:Int)(a:0<=s)(b:s<=1073741824):OkC key s 0 noB :=
 ⟨c,a,b,by omega,by omega,(λi _ h=>by rw[iL]at h;exact absurd h (by simp)),.inl rfl⟩
theorem UH(h:t<=n):Hj t l n=false:=by unfold Hj;rw[G' (by omega)];simp
theorem dV(h:t-8<=n):Hj t l n=Qs t l n:=by
 by_cases a:n<t
 .unfold Hj;rw[N' a,G' (show ¬ n<t-8 by omega)];simp
 .rw[UH (by omega),UE (by omega)]
theorem Q6(h:n<t-8):Hj t l n=true:=by unfold Hj;rw[N' (show n<t by omega),N' h];simp
def Af(n:Int):List Int:=[n/16777216%256,n/65536%256,n/256%256,n%256]
def Bk(h:List Int):List Int:=List.replicate 8 0++h
def Fr(h:List Int):Int:=16777216*h.getD 0 0+65536*h.getD 1 0+256*h.getD 2 0+h.getD 3 0
theorem Cj(n:Int):(Af n).length=4:=rfl
theorem AT(n:Int):∀ x∈Af n,0<=x/\x<256:=by
 intro x a;simp only[Af,mK,O',or_false]at a;rcases a with rfl|rfl|rfl|rfl<;>omega
theorem GM(a:h.length=4):(Bk h).length=12:=by simp[Bk,a]
theorem Q2(a:∀ x∈h,0<=x/\x<256):∀ x∈Bk h,0<=x/\x<256:=by
 intro x b;rcases Z'.1 b with h1|h1
 .rw[(pB.1 h1).2];omega
 .exact a x h1
theorem mj(h:List Int)(e:h.length=4):∃ a b c d,h=[a,b,c,d]:=by
 match h,e with
 | [a,b,c,d],_=>exact⟨a,b,c,d,rfl⟩
theorem LR(f:h.length=4)(e:∀ x∈h,0<=x/\x<256):0<=Fr h/\Fr h<4294967296:=by
 obtain⟨a,b,c,d,rfl⟩:=mj h f;have g:=e a (by simp);have i:=e b (by simp);have j:=e c (by simp);have k:=e d (by simp);show 0<=16777216*a+65536*b+256*c+d/\16777216*a+65536*b+256*c+d<4294967296;omega
theorem Kl(a:l.length=8):(prog.info? 284).map (·.size)=some (wA t l).size:=by rw[DD,a];kernel_rfl
theorem I6{P:Program}{f:Func}{p u:Tmp}{c:TypeId}(h:f.results=#[.cell p c,.tmp u])(a:Array Value)(w:World)(g:Nat)(t:TypeId)(b:Array Value)(fr:Nat × Nat)(d:TypeDesc)(l:a.getD p undef=.pointer (some ⟨g,0,none⟩))(j:w.heap[g]?=some (.cells b t fr))(m:P.underlying c=some d)(i:(match d with|.struct _|.array _ _=>true|_=>false)=true)(k:(P.info? c).map (·.size)=some b.size) :
  (results f a).run P w=.ok (.tuple #[.agg b,a.getD u undef]) w:=by
 have e:a[p]?.getD undef=.pointer (some ⟨g,0,none⟩):=by simpa using l
 simp[results,h,e,asAddr,run_loadVar_row w g t c b fr d j m i k]
theorem Fx{P:Program}{f:Func}{p u v:Tmp}{c:TypeId}(h:f.results=#[.cell p c,.tmp u,.tmp v])(a:Array Value)(w:World)(g:Nat)(t:TypeId)(b:Array Value)(fr:Nat × Nat)(d:TypeDesc)(l:a.getD p undef=.pointer (some ⟨g,0,none⟩))(j:w.heap[g]?=some (.cells b t fr))(m:P.underlying c=some d)(i:(match d with|.struct _|.array _ _=>true|_=>false)=true)(k:(P.info? c).map (·.size)=some b.size) :
  (results f a).run P w=.ok (.tuple #[.agg b,a.getD u undef,a.getD v undef]) w:=by
 have e:a[p]?.getD undef=.pointer (some ⟨g,0,none⟩):=by simpa using l
 simp[results,h,e,asAddr,run_loadVar_row w g t c b fr d j m i k]
def blA(l:List Bool):Array Value:=(l.map Value.bool).toArray
theorem to8{j:Nat}(h:j<8):j=0\/j=1\/j=2\/j=3\/j=4\/j=5\/j=6\/j=7:=by omega
theorem X8(S:List Bool)(a:S.length=8)(j:Nat)(b:j<8):∀ w,(Instr.index 135 (.agg (blA S)) (.int .i64 (j:Int))).run prog w=.ok (.bool (S.getD j false)) w:=by
 intro w;obtain⟨b0,c,d,e,f,g,h,i,rfl⟩:=GJ S a;rcases to8 b with rfl|rfl|rfl|rfl|rfl|rfl|rfl|rfl;all_goals kernel_rfl
theorem F5(k:Value)(s t:Int)(l:List Bool)(w:World)(i:l.length=8) :
  Calls prog 195 #[.agg (chA k s t l)] w λe w'=>e=.returned (.agg (wA t l))/\Bw w w':=by
 obtain⟨b0,a,b,c,d,f,g,h,rfl⟩:=GJ l i;simp only[chA,wA,List.map];go_enter func195,ntmps195
 go_wp2
 exact bodyPost_ret (v:=.agg (wA t [b0,a,b,c,d,f,g,h])) (results_cell_row rfl _ _ (w.heap.size+1) 284 _ (0,0) _ rfl (heap_alloc2_new _ _ _) underlying284 rfl (Kl rfl)) rfl ⟨rfl,((Below.refl _ _).alloc (A' _) _).alloc (by simp) _⟩
theorem DO(t:Int)(l:List Bool)(w:World)(a:l.length=8)(j:-1000<=t)(k:t<=4611686018427387904) :
  Calls prog 223 #[.agg (wA t l)] w λe w'=>e=.returned (.int .i64 (t-8))/\Bw w w':=by
 obtain⟨b0,b,c,d,f,g,h,i,rfl⟩:=GJ l a;simp only[wA,List.map];go_enter func223,ntmps223
 go_wp2
 go_ret;exact⟨rfl,(Below.refl _ _).alloc (A' _) _⟩
theorem VQ(t n:Int)(l:List Bool)(w:World)(v:l.length=8)(P:0<=t)(Q:t<=1073741824)(N:0<=n)(O:n<1073741824) :
  Calls prog 246 #[.agg (wA t l),.int .i64 n] w λe w'=>e=.returned (.bool (Hj t l n))/\Bw w w':=by
 have K:=v;obtain⟨b0,b,d,f,g,h,j,k,rfl⟩:=GJ l v;simp only[wA,List.map];by_cases H:t<=n
 .have m:Hid (false=Hj t [b0,b,d,f,g,h,j,k] n):=(UH H).symm;go_enter func246,ntmps246
  go_wp2
  go_ret;exact⟨Aj m.out,(Below.refl _ _).alloc (A' _) _⟩
 .have hb:Bw w (w.alloc (.cells (wA t [b0,b,d,f,g,h,j,k]) 284)):=(Below.refl _ _).alloc (A' _) _;go_enter func246,ntmps246
  go_wp2_with fail
  have a:(w.alloc (.cells (wA t [b0,b,d,f,g,h,j,k]) 284)).heap[w.heap.size]?=some (.cells (wA t [b0,b,d,f,g,h,j,k]) 284 (0,0)):=heap_alloc_new _ _;refine(DO t [b0,b,d,f,g,h,j,k] _ rfl (by omega) (by omega)).mono ?_;rintro e x ⟨rfl,c1⟩;have q:Bw w x:=hb.trans (c1.mono (by simp));replace a:=(c1.block w.heap.size (by simp)).trans a;clear hb c1;by_cases I:n<t-8
  .have m:Hid (true=Hj t [b0,b,d,f,g,h,j,k] n):=(Q6 I).symm;go_wp2
   go_ret;exact⟨Aj m.out,q⟩
  .have h3:n<t:=by omega
   obtain⟨i,u,s⟩:∃ i:Nat,i<8/\n=t-8+(i:Int):=⟨(n-(t-8)).toNat,by omega,by omega⟩;have m:Hid (Hj t [b0,b,d,f,g,h,j,k] n=[b0,b,d,f,g,h,j,k].getD i false):=by
    unfold Hid;rw[dV (by omega),s,ON _ _ _ u]
   have y:Hid (n=t-8+(i:Int)):=s;have o:=(cell_of_row _ _ (1+i) _ _ _ a).trans (KV t _ i u);obtain⟨c0,c1,z,A,B,C,D,E,F⟩:=Mw a;have L:w.heap.size<x.heap.size:=(D'.1 a).1;clear s;generalize [b0,b,d,f,g,h,j,k].getD i false=c at o m;go_wp2_with fail
   refine(DO t [b0,b,d,f,g,h,j,k] _ rfl (by omega) (by omega)).mono ?_;rintro e M ⟨rfl,r⟩;have G:Bw w M:=q.trans (r.mono q.size);replace o:=(r.cell (p:=⟨w.heap.size,1+i,none⟩) L).trans o;have J:n-(t-8)=(i:Int):=by have:=y.out;omega
   clear c0 c1 z A B C D E F a r;go_wp2
   go_ret;exact⟨Aj (by rw[m.out,G' (by omega),pF]),G⟩
theorem We(t:Int)(l:List Bool)(w:World)(C:l.length=8)(T:0<=t)(U:t<=1073741824) :
  Calls prog 196 #[.agg (wA t l)] w λe w'=>e=.returned (.bool (SK t l))/\Bw w w':=by
 have u:Hid (∀ i:Nat,i<8->∀ w,(Instr.index 135 (.agg (blA l)) (.int .i64 (i:Int))).run prog w=.ok (.bool (l.getD i false)) w):=λi A=>X8 l C i A;obtain⟨b0,b,c,d,f,g,k,b7,rfl⟩:=GJ l C;simp only[wA,blA,List.map]at u ⊢;go_enter func196,ntmps196
 go_wp2_with fail
 have o:(w.alloc (.cells (wA t [b0,b,c,d,f,g,k,b7]) 284)).heap[w.heap.size]?=some (.cells (wA t [b0,b,c,d,f,g,k,b7]) 284 (0,0)):=heap_alloc_new _ _;have s:(w.alloc (.cells (wA t [b0,b,c,d,f,g,k,b7]) 284)).heap.size=w.heap.size+1:=by simp
 have q:Bw w (w.alloc (.cells (wA t [b0,b,c,d,f,g,k,b7]) 284)):=(Below.refl _ _).alloc (A' _) _;simp only[wA,List.map]at o s q;generalize w.alloc (.cells #[.int .i64 t,.bool b0,.bool b,.bool c,.bool d,.bool f,.bool g,.bool k,.bool b7] 284)=W0 at o s q ⊢;generalize (#[.bool b0,.bool b,.bool c,.bool d,.bool f,.bool g,.bool k,.bool b7]:Array Value)=S at u ⊢
 go_loopw [7] (λiv wr=>∃ i:Nat,i<=8/\iv=.int .i64 i/\Hid (∀ j:Nat,j<i->[b0,b,c,d,f,g,k,b7].getD j false=true->0<=t-8+(j:Int))/\Below (w.heap.size+1) W0 wr) (λiv _=>8-(intOf iv).toNat)
 case atStart=>exact⟨0,by omega,rfl,λj B=>by omega,Below.refl _ _⟩
 case round =>
  obtain⟨i,A,rfl,n,a⟩:=hrel;have v:=(a.block w.heap.size (by omega)).trans o;obtain⟨c0,c1,H,I,J,K,L,M,N⟩:=Mw v;have x:Bw w wr:=q.trans (a.mono (by omega));have R:=a.size;by_cases r:i<8
  .have hii:(i:Int)<8:=by omega
   have E:=u.out i r;cases hb:[b0,b,c,d,f,g,k,b7].getD i false with
   | true =>
    rw[hb]at E
    have p:Hid ([b0,b,c,d,f,g,k,b7].getD i false=true):=hb;clear hb v;go_wp2_with fail
    refine(DO t [b0,b,c,d,f,g,k,b7] _ rfl (by omega) (by omega)).mono ?_;rintro e F ⟨rfl,y⟩;have O:Bw w F:=x.trans (y.mono x.size);have z:Below (w.heap.size+1) W0 F:=a.trans (y.mono (by omega));clear c0 c1 H I J K L M N y a;by_cases D:t-8+(i:Int)<0
    .have HF:Hid (false=SK t [b0,b,c,d,f,g,k,b7]):=by
      unfold Hid;symm;rw[oQ];intro P;have:=((FS _ _).1 P).1 i r p.out;omega
     go_wp2
     go_ret;exact⟨Aj HF.out,O⟩
    .go_wp2
     go_roundw
     case rel =>
      refine⟨i+1,by omega,by go_num,?_,z⟩;intro j B m;rcases nO j i with h|h
      .exact n.out j h m
      .obtain rfl:j=i:=by omega
       omega
     case measure=>simp[intOf];omega
   | false =>
    rw[hb]at E
    have p:Hid ([b0,b,c,d,f,g,k,b7].getD i false=false):=hb;clear hb v;go_wp2
    go_roundw
    case rel =>
     refine⟨i+1,by omega,by go_num,?_,a⟩;intro j B m;rcases nO j i with h|h
     .exact n.out j h m
     .obtain rfl:j=i:=by omega
      rw[p.out]at m
      cases m
    case measure=>simp[intOf];omega
  .obtain rfl:i=8:=by omega
   rw[show((8:Nat):Int)=8 from rfl];have G:Hid ((decide (t=0)||b7)=SK t [b0,b,c,d,f,g,k,b7]):=by
    unfold Hid;rw[pG,FS,pg];constructor
    .intro h;exact⟨n.out,h.imp nX id⟩
    .intro h;exact h.2.imp N' id
   clear v u;go_wp2
   all_goals
    rename_i Q
    go_ret;refine⟨Aj ?_,x⟩;rw[<- G.out];simp[Q]
theorem YD:(prog.info? 4).map (·.size)=some 1:=by kernel_rfl
theorem jm(w:World):(Go.sizeOf 4).run prog w=.ok 1 w:=by
 have h:=YD;cases hi:prog.info? 4 with
 | none=>rw[hi]at h;cases h
 | some i =>
  rw[hi]at h
  simp only[nA,P']at h;simp[sizeOf,typeInfo,hi,h]
theorem X2(B d:Nat)(b:d<=8):∃ ad,(∀ W,(Instr.sliceAt 135 (.pointer (some ⟨B,1,none⟩)) (some (.int .i64 (d:Int))) none none).run prog W=.ok (.slice (some ad) (8-d) (8-d)) W)/\(0<8-d->ad=⟨B,1+d,none⟩):=by
 refine⟨if 8=d then⟨B,1,none⟩else(⟨B,1,none⟩:Addr).add (d*1),λW=>?_,λh=>?_⟩
 .have e1:prog.arrayLen 135=8:=by kernel_rfl
  have a:prog.elem 135=4:=by kernel_rfl
  rw[run_sliceAt_array_l (P:=prog) W 135 _ underlying135 .i64 _ (by omega) (by rw[e1];omega),e1,a,jm];simp[Result.andThen,slicedAt]
 .rw[if_neg (by omega),rp];exact Addr.add_mid B 1 d
theorem Y3(w:World)(a b c:Obj):(((w.alloc a).alloc b).alloc c).heap[w.heap.size]?=some a/\(((w.alloc a).alloc b).alloc c).heap[w.heap.size+1]?=some b/\(((w.alloc a).alloc b).alloc c).heap[w.heap.size+1+1]?=some c:=by
 have d:Below ((w.alloc a).alloc b).heap.size ((w.alloc a).alloc b) (((w.alloc a).alloc b).alloc c):=(Below.refl _ _).alloc (A' _) _;have f:((w.alloc a).alloc b).heap.size=w.heap.size+1+1:=by simp
 have e:=heap_alloc_new ((w.alloc a).alloc b) c;rw[f]at e d
 exact⟨(d.block _ (by omega)).trans (heap_alloc2_old _ _ _),(d.block _ (by omega)).trans (heap_alloc2_new _ _ _),e⟩
theorem Xm(n:Int)(l:List Bool)(a:l.length=8)(d:Nat)(j:1<=d)(k:d<=8):(splice [.int .i64 n,.bool false,.bool false,.bool false,.bool false,.bool false,.bool false,.bool false,.bool false] 1 ((l.drop d).map Value.bool)).toArray=wA n (l.drop d++List.replicate d false):=by
 obtain⟨b0,b,c,e,f,g,h,i,rfl⟩:=GJ l a;have:d=1\/d=2\/d=3\/d=4\/d=5\/d=6\/d=7\/d=8:=by omega
 rcases this with rfl|rfl|rfl|rfl|rfl|rfl|rfl|rfl<;>rfl
theorem Tt(t n:Int)(l:List Bool)(w:World)(N:l.length=8)(X:0<=t)(Y:t<=1073741824)(V:t<n)(W:n<=1073741824)(d:Nat)(L:d=min (n-t).toNat 8) :
  Calls prog 248 #[.agg (wA t l),.int .i64 n] w λe w'=>e=.returned (.agg (wA n (l.drop d++List.replicate d false)))/\Bw w w':=by
 obtain⟨b0,a,b,c,f,g,h,i,rfl⟩:=GJ l N;simp only[wA,List.map];go_enter func248,ntmps248
 have S:(if 8<n-t then 8 else n-t)=(d:Int):=by split<;>omega
 have Q:IntKind.i64.wrap (n-t)=n-t:=by rw[IntKind.wrap_i64];omega
 have o:1<=d/\d<=8:=by omega
 obtain⟨ad,O,r⟩:=X2 w.heap.size d (by omega);clear L;have B:Hid (∀ w':World,Below (w.heap.size+1+1) (((w.alloc (.cells (wA t [b0,a,b,c,f,g,h,i]) 284)).alloc (.cells (wA 0 [false,false,false,false,false,false,false,false]) 284)).alloc (.cells (wA n [false,false,false,false,false,false,false,false]) 284)).drew w'->Bw w w'/\w'.heap[w.heap.size+1]?=some (.cells (wA 0 [false,false,false,false,false,false,false,false]) 284 (0,0))):=by
  intro w' E;obtain⟨_,J,_⟩:=Y3 w (.cells (wA t [b0,a,b,c,f,g,h,i]) 284) (.cells (wA 0 [false,false,false,false,false,false,false,false]) 284) (.cells (wA n [false,false,false,false,false,false,false,false]) 284);refine⟨((((Below.refl _ _).alloc (A' _) _).alloc (by simp) _).alloc (by simp;omega) _).drew.trans (E.mono (by omega)),?_⟩;exact(E.block (w.heap.size+1) (by omega)).trans J
 have z:Hid (∀ j v,(([b0,a,b,c,f,g,h,i].drop d).map Value.bool)[j]?=some v->(((w.alloc (.cells (wA t [b0,a,b,c,f,g,h,i]) 284)).alloc (.cells (wA 0 [false,false,false,false,false,false,false,false]) 284)).alloc (.cells (wA n [false,false,false,false,false,false,false,false]) 284)).drew.cell? (ad.add j)=some v):=by
  intro j v u;have M:j<8-d:=by simpa using(Q'.1 u).1
  rw[r (by omega),Addr.add_mid];obtain⟨I,_,_⟩:=Y3 w (.cells (wA t [b0,a,b,c,f,g,h,i]) 284) (.cells (wA 0 [false,false,false,false,false,false,false,false]) 284) (.cells (wA n [false,false,false,false,false,false,false,false]) 284);have K:=(cell_of_row _ _ (1+(d+j)) _ _ _ I).trans (KV t _ (d+j) (by simp;omega));rw[nP];refine Eq.trans K ?_;rw[ny,nN]at u
  rw[<- u,List.getD,H' (show d+j<[b0,a,b,c,f,g,h,i].length by simp;omega)];rfl
 obtain⟨_,_,C⟩:=Y3 w (.cells (wA t [b0,a,b,c,f,g,h,i]) 284) (.cells (wA 0 [false,false,false,false,false,false,false,false]) 284) (.cells (wA n [false,false,false,false,false,false,false,false]) 284);have A:Hid _:=C;clear C;go_wp2_with fail
 go_region_law (refine step_copy_splice rfl (.tmp 9) (.tmp 16) 346 346 rfl 4 underlying346 YD _ _ _ _ _ _ rfl rfl (w.heap.size+1+1) 1 [.int .i64 n,.bool false,.bool false,.bool false,.bool false,.bool false,.bool false,.bool false,.bool false] 284 A.out (([b0,a,b,c,f,g,h,i].drop d).map Value.bool) (by simp) (λT=>⟨rfl,ad,rfl,z.out⟩) (by simp;omega) (by intro v P;obtain⟨x,_,rfl⟩:=nG.1 P;rfl) (w.heap.size+1+1) _ (Below.refl _ _) (A' _) ?_;intro G y m)
 obtain⟨H,F⟩:=B.out G m;have k:([b0,a,b,c,f,g,h,i].drop d++List.replicate d false).length=8:=by simp;omega
 have p:=y.out;rw[Xm n _ rfl d o.1 o.2]at p
 generalize D:[b0,a,b,c,f,g,h,i].drop d++List.replicate d false=R at k p;have q:Hid ([b0,a,b,c,f,g,h,i].drop d++List.replicate d false=R):=D;clear D;have s:=Kl (t:=n) k;have U:=(D'.1 p).1;clear B z A m y;go_wp2_with (first
  | (refine wpList_load_row rfl 284 _ rfl (w.heap.size+1+1) rfl 284 _ (0,0) _ p underlying284 rfl s ?_)
  | (refine wpList_store_row rfl 284 _ _ rfl (w.heap.size+1) _ rfl rfl 284 _ F s (by rw[DD,DD,k];rfl) (Pu n R) ?_))
 exact bodyPost_ret (v:=.agg (wA n R)) (results_cell_row rfl _ _ (w.heap.size+1) 284 _ (0,0) _ rfl (setRow_heap G (w.heap.size+1) _ _ 284 _ F) underlying284 rfl s) rfl ⟨by rw[<- q.out];rfl,below_setRow H (by omega) _⟩
theorem j8(t:Int)(l:List Bool)(i:Nat)(x:Bool):(wA t l).setIfInBounds (1+i) (.bool x)=wA t (l.set i x):=by
 apply oP;rw[Nat.add_comm];simp[wA,List.map_set]
theorem Ru(h:w.heap[g]?=some (.cells (wA t l) ty (0,0)))(k:Nat)(x:Bool) :
  (w.setCell ⟨g,1+k,none⟩ (.bool x)).heap[g]?=some (.cells (wA t (l.set k x)) ty (0,0)):=by
 rw[heap_setCell_same _ _ _ _ _ _ h,j8]
theorem Qn{a b:List Bool}(e:a.length=8)(f:b.length=8)(h:∀ k,k<8->a.getD k false=b.getD k false):a=b:=by
 apply pq (by omega);intro k c d;have:=h k (by omega);simpa[List.getD,List.getElem?_eq_getElem c,List.getElem?_eq_getElem d]using this
theorem QU(l:List Bool)(i k:Nat)(x:Bool)(a:i<l.length):(l.set i x).getD k false=if k=i then x else l.getD k false:=by
 rw[List.getD,List.getElem?_set,List.getD];by_cases h:i=k
 .subst h;simp[a]
 .rw[if_neg h,if_neg (λe=>h e.symm)]
theorem aX(t n:Int)(l:List Bool)(c:l.length=8)(d:n<t)(i:Nat)(e:i<8)(f:n=t-8+(i:Int)):K9 t l n=l.set i true/\GB t n=t:=by
 have a:GB t n=t:=by unfold GB;rw[if_neg (by omega)]
 refine⟨Qn (Eo _ _ _) (by simp[c]) λk b=>?_,a⟩;rw[UV _ _ _ _ b,a,ON t l k b,QU _ _ _ _ (by omega)];by_cases h:k=i
 .rw[if_pos h,N' (by omega)];rfl
 .rw[if_neg h,G' (by omega)];rfl
theorem Ts(l:List Bool)(c:l.length=8)(d k:Nat)(b:k<8)(a:d<=8):(l.drop d++List.replicate d false).getD k false=if d+k<8 then l.getD (d+k) false else false:=by
 by_cases h:d+k<8
 .rw[if_pos h,List.getD,mP (by simp;omega),nN,List.getD]
 .rw[if_neg h,List.getD,mQ (by simp;omega),pE];split<;>rfl
theorem Xc(t n:Int)(l:List Bool)(f:l.length=8)(e:t<=n)(d:Nat)(g:d=min (n+1-t).toNat 8):K9 t l n=(l.drop d++List.replicate d false).set 7 true/\GB t n=n+1:=by
 have b:GB t n=n+1:=by unfold GB;rw[if_pos e]
 refine⟨Qn (Eo _ _ _) (by simp;omega) λk c=>?_,b⟩;rw[UV _ _ _ _ c,b,QU _ _ _ _ (by simp;omega),Ts l f d k c (by omega)];by_cases h:k=7
 .rw[if_pos h,N' (by omega)];rfl
 .rw[if_neg h,G' (by omega),pF];by_cases a:d+k<8
  .rw[if_pos a,show n+1-8+(k:Int)=t-8+((d+k:Nat):Int)by omega,ON _ _ _ a]
  .rw[if_neg a,UE (by omega)]
end
end
section
section
structure Lac where
 k:Int
 n:Int
 a:Int
 p:Int
 d:List Int
def Aw(k:Int):Bool:=decide (k=1\/k=2\/k=3\/k=9\/k=8)
def AA(k:Int):Bool:=decide (4<=k/\k<=6)
def AC(k:Int):Bool:=decide (k=8)
def YL(x:Lac):Int :=
 if ¬ (1<=x.k/\x.k<=9)then 4
 else if(Aw x.k=true/\¬ (0<=x.n/\x.n<=4))\/(AA x.k=true/\¬ (0<=x.a/\x.a<=1048576))\/(AC x.k=true/\¬ (0<=x.p/\x.p<=100000))then 2
 else if 2000<x.d.length then 1
 else if(Aw x.k=false/\x.n≠0)\/(AA x.k=false/\x.a≠0)\/(AC x.k=false/\x.p≠0)\/(x.k≠1/\x.d≠[])then 3
 else 0
structure LacOk(x:Lac):Prop where
 k:1<=x.k/\x.k<=9
 n:Aw x.k=true->0<=x.n/\x.n<=4
 a:AA x.k=true->0<=x.a/\x.a<=1048576
 p:AC x.k=true->0<=x.p/\x.p<=100000
 d:x.d.length<=2000
 n0:Aw x.k=false->x.n=0
 a0:AA x.k=false->x.a=0
 p0:AC x.k=false->x.p=0
 d0:x.k≠1->x.d=[]
variable{c k:Int}{d s:List Int}{m n:Nat}{x:Lac}
theorem Iq:YL x=0↔LacOk x:=by
 unfold YL;constructor
 .intro h;by_cases c:1<=x.k/\x.k<=9
  .rw[if_neg (λe=>e c)]at h
   by_cases b:(Aw x.k=true/\¬ (0<=x.n/\x.n<=4))\/(AA x.k=true/\¬ (0<=x.a/\x.a<=1048576))\/(AC x.k=true/\¬ (0<=x.p/\x.p<=100000))
   .rw[if_pos b]at h;omega
   .rw[if_neg b]at h
    by_cases g:2000<x.d.length
    .rw[if_pos g]at h;omega
    .rw[if_neg g]at h
     by_cases f:(Aw x.k=false/\x.n≠0)\/(AA x.k=false/\x.a≠0)\/(AC x.k=false/\x.p≠0)\/(x.k≠1/\x.d≠[])
     .rw[if_pos f]at h;omega
     .simp only[not_or,not_and,oJ]at b f;exact⟨c,λe=>by have:=b.1 e;omega,λe=>by have:=b.2.1 e;omega,λe=>by have:=b.2.2 e;omega,by omega,f.1,f.2.1,f.2.2.1,f.2.2.2⟩
  .rw[if_pos c]at h;omega
 .intro h;rw[if_neg (λe=>e h.k),if_neg,if_neg (by have:=h.d;omega),if_neg]
  .rintro(⟨c,b⟩|⟨c,b⟩|⟨c,b⟩|⟨c,b⟩)
   .exact b (h.n0 c)
   .exact b (h.a0 c)
   .exact b (h.p0 c)
   .exact b (h.d0 c)
  .rintro(⟨c,b⟩|⟨c,b⟩|⟨c,b⟩)
   .exact b (h.n c)
   .exact b (h.a c)
   .exact b (h.p c)
def AF(k:Int):List Int :=
 if k=1 then[115,117,98,109,105,116]else if k=2 then[108,101,97,100]else if k=3 then[115,116,101,112]else if k=4 then[99,97,114,114,121]else if k=5 then[108,111,115,101]
 else if k=6 then[100,111,117,98,108,101]else if k=7 then[97,108,108]else if k=8 then[99,114,97,115,104]else if k=9 then[115,116,97,114,116]else[]
def BR(n:Nat):List Int:=if n<10 then[48+(n:Int)]else BR (n/10)++[48+((n%10:Nat):Int)]
termination_by n
decreasing_by omega
theorem CP(h:n<10):BR n=[48+(n:Int)]:=by rw[BR,if_pos h]
theorem Fg(h:¬ n<10):BR n=BR (n/10)++[48+((n%10:Nat):Int)]:=by rw[BR,if_neg h]
theorem GZ(n:Nat):∀ c∈BR n,48<=c/\c<=57:=by
 induction n using Nat.strongRecOn with
 | ind n ih =>
  intro c a;by_cases h:n<10
  .rw[CP h]at a;simp at a;omega
  .rw[Fg h]at a
   rcases Z'.1 a with h1|h1
   .exact ih _ (by omega) c h1
   .simp at h1;omega
theorem Uq(n:Nat):BR n≠[]:=by
 by_cases h:n<10
 .rw[CP h];simp
 .rw[Fg h];simp
def dv(s:List Int):Int:=s.foldl (λn c=>10*n+(c-48)) 0
theorem If(s:List Int)(c:Int):dv (s++[c])=10*dv s+(c-48):=by unfold dv;rw[List.foldl_append];rfl
theorem KK(n:Nat):dv (BR n)=(n:Int):=by
 induction n using Nat.strongRecOn with
 | ind n ih =>
  by_cases h:n<10
  .rw[CP h];simp[dv];omega
  .rw[Fg h,If,ih _ (by omega)];omega
theorem XV(h:BR n=BR m):n=m:=by
 have:=congrArg dv h;rw[KK,KK]at this
 omega
theorem UR{α:Type}{M:List α->Prop}(d:M [])(f:∀ s c,M s->M (s++[c]))(s:List α):M s:=by
 have key:∀ n,∀ s:List α,s.length=n->M s:=by
  intro n;induction n with
  | zero=>intro s a;rw[List.length_eq_zero_iff.1 a];exact d
  | succ n ih =>
   intro s a;have b:s≠[]:=by intro e;rw[e]at a;simp at a
   rw[<- oI b];exact f _ _ (ih _ (by rw[List.length_dropLast];omega))
 exact key _ s rfl
theorem ED(h:∀ c∈s,48<=c/\c<=57):0<=dv s:=by
 revert h
 refine UR (M:=λs=>(∀ c∈s,48<=c/\c<=57)->0<=dv s) (λ_=>by simp[dv]) (λs c b h=>?_) s;rw[If];have d:=b (λx a=>h x (by simp[a]));have e:=h c (by simp);omega
theorem Up(f:s≠[])(h:∀ c∈s,48<=c/\c<=57)(d:s[0]?=some 48->s.length=1):BR (dv s).toNat=s:=by
 revert f h d
 refine UR (M:=λs=>s≠[]->(∀ c∈s,48<=c/\c<=57)->(s[0]?=some 48->s.length=1)->BR (dv s).toNat=s) (λh=>absurd rfl h) (λs c n _ h d=>?_) s;have i:∀ x∈s,48<=x/\x<=57:=λx m=>h x (by simp[m]);have o:=h c (by simp);have p:=ED i;rw[If];by_cases e:s=[]
 .subst e;have a:(10*dv []+(c-48)).toNat<10:=by simp[dv];omega
  rw[CP a];simp[dv];omega
 .have h1:s[0]?≠some 48:=by
   intro a;obtain⟨x,r,rfl⟩:=np e;have:=d (by simpa using a);simp at this
  have b:=n e i (λa=>absurd a h1);have g:dv s≠0:=by
   intro a;rw[a]at b
   have j:BR (0:Int).toNat=[48]:=by rw[CP (by decide)];rfl
   rw[j]at b
   rw[<- b]at h1
   exact h1 rfl
  rw[Fg (by omega)];have k:(10*dv s+(c-48)).toNat/10=(dv s).toNat:=by omega
  have l:48+(((10*dv s+(c-48)).toNat%10:Nat):Int)=c:=by omega
  rw[k,l,b]
theorem V5(n:Nat):(BR n)[0]?=some 48->(BR n).length=1:=by
 induction n using Nat.strongRecOn with
 | ind n ih =>
  by_cases h:n<10
  .rw[CP h];intro _;rfl
  .rw[Fg h];intro e;obtain⟨x,r,b⟩:=np (Uq (n/10));rw[b]at e
   have f:(BR (n/10))[0]?=some 48:=by rw[b];simpa using e
   have d:=ih _ (by omega) f;have g:r=[]:=by rw[b]at d;simpa using d
   have a:x=48:=by simpa using e
   have c:=KK (n/10);rw[b,g,a]at c
   simp[dv]at c
   omega
theorem Ic(k:Nat)(h:n<10^(k+1)):(BR n).length<=k+1:=by
 induction k generalizing n with
 | zero=>rw[CP (by simpa using h)];simp
 | succ k ih =>
  by_cases a:n<10
  .rw[CP a];simp
  .rw[Fg a,I'];have:=ih (n:=n/10) (by rw[Nat.pow_succ]at h;omega);simp;omega
theorem Gu(n:Nat){c:Int}(h:c<48):c∉BR n:=λe=>by have:=(GZ n c e).1;omega
def hxD(n:Int):Int:=if n<10 then 48+n else 87+n
def Bm:List Int->List Int
 | []=>[]
 | c::r=>hxD (c/16)::hxD (c%16)::Bm r
theorem Dt(d:List Int):(Bm d).length=2*d.length:=by
 induction d with
 | nil=>rfl
 | cons c r ih=>simp[Bm,ih];omega
def hxV(c:Int):Int:=if 48<=c/\c<=57 then c-48 else if 97<=c/\c<=102 then c-87 else -1
theorem Gz{n:Int}(a:0<=n)(b:n<16):hxV (hxD n)=n:=by
 unfold hxD hxV;split<;>split<;>(try split)<;>omega
theorem KN(h:hxV c≠-1):hxD (hxV c)=c/\0<=hxV c/\hxV c<16:=by
 unfold hxV at h ⊢;unfold hxD;split
 .split<;>omega
 .split
  .split<;>omega
  .rename_i h1 h2
   rw[if_neg h1,if_neg h2]at h
   exact absurd rfl h
theorem Y6{n:Int}(a:0<=n):48<=hxD n:=by unfold hxD;split<;>omega
theorem U6(h:∀ x∈d,0<=x/\x<256):∀ c∈Bm d,48<=c:=by
 induction d with
 | nil=>intro c hc;simp[Bm]at hc
 | cons x r ih =>
  intro c hc;have b:=h x (by simp);simp only[Bm,mK]at hc;rcases hc with rfl|rfl|hc
  .exact Y6 (by omega)
  .exact Y6 (by omega)
  .exact ih (λy a=>h y (by simp[a])) c hc
theorem Qf(a b:List Int):Bm (a++b)=Bm a++Bm b:=by
 induction a with
 | nil=>rfl
 | cons x r ih=>simp[Bm,ih]
theorem Y5{a b:List Int}(d:∀ x∈a,0<=x/\x<256)(e:∀ x∈b,0<=x/\x<256)(h:Bm a=Bm b):a=b:=by
 induction a generalizing b with
 | nil=>cases b with
  | nil=>rfl
  | cons y s=>simp[Bm]at h
 | cons x r ih=>cases b with
  | nil=>simp[Bm]at h
  | cons y s =>
   simp only[Bm,nt]at h;have i:=d x (by simp);have j:=e y (by simp);have f:=congrArg hxV h.1;have g:=congrArg hxV h.2.1;rw[Gz (by omega) (by omega),Gz (by omega) (by omega)]at f g
   rw[ih (λz c=>d z (by simp[c])) (λz c=>e z (by simp[c])) h.2.2]
   congr 1
   omega
def Ef:List (List Int)->List Int
 | []=>[]
 | [x]=>x
 | x::y::r=>x++32::Ef (y::r)
def splitB:List Int->List (List Int)
 | []=>[[]]
 | c::r=>if c=32 then[]::splitB r else match splitB r with
  | []=>[[c]]
  | x::s=>(c::x)::s
theorem BP(s:List Int):splitB s≠[]:=by
 cases s with
 | nil=>simp[splitB]
 | cons c r =>
  rw[splitB];split
  .simp
  .split<;>simp
theorem Gd(s:List Int):Ef (splitB s)=s:=by
 induction s with
 | nil=>rfl
 | cons c r ih =>
  obtain⟨x,t,e⟩:=np (BP r);rw[splitB];split
  .rename_i h
   rw[e,Ef,<- e,ih,h];rfl
  .rw[e]at ih ⊢
   simp only;cases t with
   | nil=>simp only[Ef]at ih ⊢;rw[ih]
   | cons y u=>simp only[Ef]at ih ⊢;rw[<- ih];rfl
theorem QX{x:List Int}(h:32∉x):splitB x=[x]:=by
 induction x with
 | nil=>rfl
 | cons c r ih =>
  simp only[mK,not_or]at h;rw[splitB,if_neg (λe=>h.1 e.symm),ih h.2]
theorem QW{x:List Int}(h:32∉x)(s:List Int):splitB (x++32::s)=x::splitB s:=by
 induction x with
 | nil=>rw[nF,splitB,if_pos rfl]
 | cons c r ih =>
  simp only[mK,not_or]at h;rw[nW,splitB,if_neg (λe=>h.1 e.symm),ih h.2]
theorem DC:∀ {ws:List (List Int)},ws≠[]->(∀ x∈ws,32∉x)->splitB (Ef ws)=ws
 | [],h,_=>absurd rfl h
 | [x],_,h=>QX (h x (by simp))
 | x::y::r,_,h=>by
  rw[Ef,QW (h x (by simp)),DC (by simp) (λz hz=>h z (by simp[hz]))]
theorem Jw(s:List Int):∀ x∈splitB s,32∉x:=by
 induction s with
 | nil=>simp[splitB]
 | cons c r ih =>
  rw[splitB];split
  .intro x hx;rcases mK.1 hx with rfl|hx
   .simp
   .exact ih x hx
  .rename_i h
   obtain⟨y,t,e⟩:=np (BP r);rw[e]at ih ⊢
   simp only;intro x hx;rcases mK.1 hx with rfl|hx
   .have:=ih y (by simp);simp only[mK,not_or];exact⟨λe=>h e.symm,this⟩
   .exact ih x (by simp[hx])
def Ce(x:Lac):List (List Int) :=
 AF x.k::((if Aw x.k=true then[BR x.n.toNat]else[])++(if AA x.k=true then[BR x.a.toNat]else[])++(if AC x.k=true then[BR x.p.toNat]else[])++(if x.k=1 then[Bm x.d]else[]))
def Bd(x:Lac):List Int :=
 AF x.k++(if Aw x.k=true then 32::BR x.n.toNat else[])++(if AA x.k=true then 32::BR x.a.toNat else[])++(if AC x.k=true then 32::BR x.p.toNat else[])++(if x.k=1 then 32::Bm x.d else[])
def IQ(x:Lac):Prop:=∀ c∈x.d,0<=c/\c<256
def KW(x:Lac):Prop:=LacOk x/\IQ x
theorem NI(h:1<=k/\k<=9):k=1\/k=2\/k=3\/k=4\/k=5\/k=6\/k=7\/k=8\/k=9:=by omega
theorem E7(k:Int):∀ c∈AF k,97<=c/\c<=122:=by
 unfold AF
 repeat' split
 all_goals simp
theorem LG(x:Lac):Bd x=Ef (Ce x):=by
 unfold Bd Ce;generalize Aw x.k=b1;generalize AA x.k=b2;generalize AC x.k=b3;by_cases a:x.k=1
 .rw[if_pos a,if_pos a];cases b1<;>cases b2<;>cases b3<;>simp[Ef]
 .rw[if_neg a,if_neg a];cases b1<;>cases b2<;>cases b3<;>simp[Ef]
theorem Ou(a:IQ x):∀ y∈Ce x,32∉y:=by
 intro y hy e;unfold Ce at hy;simp only[mK,Z']at hy;rcases hy with rfl|((hy|hy)|hy)|hy
 .have:=(E7 _ _ e).1;omega
 .split at hy
  .simp at hy;subst hy;exact Gu _ (by omega) e
  .simp at hy
 .split at hy
  .simp at hy;subst hy;exact Gu _ (by omega) e
  .simp at hy
 .split at hy
  .simp at hy;subst hy;exact Gu _ (by omega) e
  .simp at hy
 .split at hy
  .simp at hy;subst hy;have:=U6 a _ e;omega
  .simp at hy
theorem Eg(a:IQ x){s:List Int}:Bd x=s↔splitB s=Ce x:=by
 rw[LG];constructor
 .intro h;rw[<- h];exact DC (by unfold Ce;simp) (Ou a)
 .intro h;rw[<- h,Gd]
theorem Xn{m:Int}(a:1<=k/\k<=9)(b:1<=m/\m<=9)(h:AF k=AF m):k=m:=by
 rcases NI a with rfl|rfl|rfl|rfl|rfl|rfl|rfl|rfl|rfl<;>rcases NI b with rfl|rfl|rfl|rfl|rfl|rfl|rfl|rfl|rfl<;>first|rfl|(exfalso;revert h;decide)
theorem VZ{y:Lac}(c:KW x)(d:KW y)(h:Bd x=Bd y):x=y:=by
 have e:=(Eg c.2).1 h;rw[LG,DC (by unfold Ce;simp) (Ou d.2)]at e
 unfold Ce at e;simp only[nt]at e;have r:=Xn d.1.k c.1.k e.1;have q:=e.2;clear e h;obtain⟨L,M,K,N,H⟩:=x;obtain⟨J,P,O,Q,I⟩:=y;simp only at r q;subst r;obtain⟨s,g⟩:=q' q (by repeat' split<;>simp);obtain⟨t,A⟩:=q' s (by repeat' split<;>simp);obtain⟨z,w⟩:=q' t (by repeat' split<;>simp);have num:∀ {b:Bool} {u v m:Int},(if b=true then[BR u.toNat]else[])=(if b=true then[BR v.toNat]else[])->(b=true->0<=u/\u<=m)->(b=true->0<=v/\v<=m)->(b=false->u=0)->(b=false->v=0)->u=v:=by
  intro b u v m h F G l o;cases b with
  | false=>rw[l rfl,o rfl]
  | true =>
   simp only[if_true,nt,and_true]at h;have f:=XV h;have i:=F rfl;have j:=G rfl;omega
 have D:=num z d.1.n c.1.n d.1.n0 c.1.n0;have B:=num w d.1.a c.1.a d.1.a0 c.1.a0;have E:=num A d.1.p c.1.p d.1.p0 c.1.p0;have C:I=H:=by
  by_cases f:J=1
  .rw[if_pos f,if_pos f]at g
   simp only[nt,and_true]at g;exact Y5 d.2 c.2 g
  .have i:=c.1.d0 f;have j:=d.1.d0 f;simp only at i j;rw[i,j]
 rw[D,B,E,C]
theorem Hg(a:IQ x):10∉Bd x:=by
 unfold Bd;intro e;simp only[Z']at e;rcases e with(((e|e)|e)|e)|e
 .have:=(E7 _ _ e).1;omega
 .split at e
  .simp only[mK]at e;rcases e with e|e
   .omega
   .exact Gu _ (by omega) e
  .simp at e
 .split at e
  .simp only[mK]at e;rcases e with e|e
   .omega
   .exact Gu _ (by omega) e
  .simp at e
 .split at e
  .simp only[mK]at e;rcases e with e|e
   .omega
   .exact Gu _ (by omega) e
  .simp at e
 .split at e
  .simp only[mK]at e;rcases e with e|e
   .omega
   .have:=U6 a _ e;omega
  .simp at e
def AP(l:List Lac):List Int:=l.flatMap (λa=>Bd a++[10])
theorem Dd(a:Lac)(l:List Lac):AP (a::l)=Bd a++10::AP l:=by simp[AP]
theorem Si(l:List Lac)(a:Lac):AP (l++[a])=AP l++(Bd a++[10]):=by simp[AP]
structure Rd(M:Nat)(t:List Int)(l:List Lac)(r:List Int):Prop where
 eq:t=AP l++r
 ok:∀ a∈l,KW a
 kv:l.length<=M
 stop:r≠[]->l.length<M->∀ a s,KW a->r≠Bd a++10::s
theorem fQ{x y u v:List Int}(a:10∉x)(d:10∉y)(h:x++10::u=y++10::v):x=y/\u=v:=by
 induction x generalizing y with
 | nil=>cases y with
  | nil=>simpa using h
  | cons c s =>
   simp only[nF,nW,nt]at h;exact absurd (by simp[h.1]) d
 | cons b r ih=>cases y with
  | nil =>
   simp only[nF,nW,nt]at h;exact absurd (by simp[h.1]) a
  | cons c s =>
   simp only[nW,nt]at h;simp only[mK,not_or]at a d;obtain⟨e,f⟩:=ih a.2 d.2 h.2;exact⟨by rw[h.1,e],f⟩
theorem Rd.unique{M:Nat}{t:List Int}{l l':List Lac}{r r':List Int}(h:Rd M t l r)(g:Rd M t l' r'):l=l'/\r=r':=by
 induction l generalizing M t l' with
 | nil =>
  cases l' with
  | nil=>exact⟨rfl,by have:=h.eq.symm.trans g.eq;simpa[AP]using this⟩
  | cons b m =>
   have e:=h.eq.symm.trans g.eq;rw[Dd]at e
   simp only[AP,List.flatMap_nil,nF]at e;have c:=g.kv;simp only[mR]at c;exact absurd (by simpa[AP]using e) (h.stop (by rw[e];simp) (by simp;omega) b _ (g.ok b (by simp)))
 | cons a m ih =>
  cases l' with
  | nil =>
   have e:=g.eq.symm.trans h.eq;rw[Dd]at e
   simp only[AP,List.flatMap_nil,nF]at e;have c:=h.kv;simp only[mR]at c;exact absurd (by simpa[AP]using e) (g.stop (by rw[e];simp) (by simp;omega) a _ (h.ok a (by simp)))
  | cons b m' =>
   have e:=h.eq.symm.trans g.eq;rw[Dd,Dd,mN,mN]at e
   obtain⟨k,n⟩:=fQ (Hg (h.ok a (by simp)).2) (Hg (g.ok b (by simp)).2) (by simpa using e);have i:=VZ (h.ok a (by simp)) (g.ok b (by simp)) k;have c:=h.kv;have q:=g.kv;simp only[mR]at c q;obtain⟨d,rfl⟩:∃ d,M=d+1:=⟨M-1,by omega⟩;obtain⟨o,p⟩:=ih (M:=d) (t:=AP m++r) (l':=m') ⟨rfl,λx j=>h.ok x (by simp[j]),by omega,λf s=>h.stop f (by simp;omega)⟩ ⟨n,λx j=>g.ok x (by simp[j]),by omega,λf s=>g.stop f (by simp;omega)⟩;exact⟨by rw[i,o],p⟩
def whV(s:List Int):Int:=if s≠[]/\s.length<=7/\(s[0]?=some 48->s.length=1)/\∀ c∈s,48<=c/\c<=57 then dv s else -1
theorem fE(h:m<10000000):whV (BR m)=(m:Int):=by
 unfold whV;rw[if_pos ⟨Uq m,Ic 6 h,V5 m,GZ m⟩,KK]
theorem bJ(h:whV s≠-1):BR (whV s).toNat=s/\0<=whV s:=by
 unfold whV at h ⊢;split at h
 .rename_i h1
  rw[if_pos h1];exact⟨Up h1.1 h1.2.2.2 h1.2.2.1,ED h1.2.2.2⟩
 .exact absurd rfl h
def D2:List Int->Option (List Int)
 | []=>some []
 | [_]=>none
 | a::b::r=>if hxV a<0\/hxV b<0 then none else(D2 r).map (λd=>(16*hxV a+hxV b)::d)
theorem Om(h:∀ c∈d,0<=c/\c<256):D2 (Bm d)=some d:=by
 induction d with
 | nil=>rfl
 | cons c r ih =>
  have b:=h c (by simp);rw[Bm,D2,Gz (by omega) (by omega),Gz (by omega) (by omega),if_neg (by omega),ih (λx a=>h x (by simp[a]))];simp only[nA,P',nt,and_true];omega
theorem EG:∀ {s d:List Int},D2 s=some d->Bm d=s/\∀ c∈d,0<=c/\c<256
 | [],d,h=>by simp[D2]at h;subst h;exact⟨rfl,by simp⟩
 | [_],d,h=>by simp[D2]at h
 | a::b::r,d,h=>by
  rw[D2]at h
  split at h
  .cases h
  .rename_i h1
   cases hr:D2 r with
   | none=>rw[hr]at h;cases h
   | some d' =>
    rw[hr]at h
    simp only[nA,P']at h;subst h;obtain⟨h2,h3⟩:=EG hr;have e:=KN (c:=a) (by omega);have f:=KN (c:=b) (by omega);refine⟨?_,?_⟩
    .rw[Bm,h2,show(16*hxV a+hxV b)/16=hxV a by omega,show(16*hxV a+hxV b)%16=hxV b by omega,e.1,f.1]
    .intro c hc;rcases mK.1 hc with rfl|hc
     .omega
     .exact h3 c hc
def AM(w:List Int):Int :=
 if w=AF 1 then 1 else if w=AF 2 then 2 else if w=AF 3 then 3 else if w=AF 4 then 4 else if w=AF 5 then 5 else if w=AF 6 then 6 else if w=AF 7 then 7 else if w=AF 8 then 8 else if w=AF 9 then 9 else 0
theorem He(h:1<=k/\k<=9):AM (AF k)=k:=by
 rcases NI h with rfl|rfl|rfl|rfl|rfl|rfl|rfl|rfl|rfl<;>decide
theorem De{w:List Int}(h:AM w≠0):AF (AM w)=w/\1<=AM w/\AM w<=9:=by
 have key:AM w=0\/(AF (AM w)=w/\1<=AM w/\AM w<=9):=by
  unfold AM
  repeat' split
  all_goals first|(left;rfl)|(right;rename_i a;exact⟨a.symm,by decide,by decide⟩)
 exact key.resolve_left h
def CF:List (List Int)->Option Lac
 | [w]=>if AM w=7 then some ⟨7,0,0,0,[]⟩else none
 | [w,x]=>if AM w=2\/AM w=3\/AM w=9 then some ⟨AM w,whV x,0,0,[]⟩else if AM w=4\/AM w=5\/AM w=6 then some ⟨AM w,0,whV x,0,[]⟩else none
 | [w,x,y]=>if AM w=1 then(D2 y).map (λd=>⟨1,whV x,0,0,d⟩)else if AM w=8 then some ⟨8,whV x,0,whV y,[]⟩else none
 | _=>none
def rdL(s:List Int):Option Lac:=match CF (splitB s)with
 | some x=>if YL x=0 then some x else none
 | none=>none
theorem Rv(h:KW x):CF (Ce x)=some x:=by
 have c:∀ {b:Bool} {z m:Int},b=true->(b=true->0<=z/\z<=m)->m<=1048576->whV (BR z.toNat)=z:=by
  intro b z m c j s;have:=j c;rw[fE (by omega)];omega
 obtain⟨k,n,a,p,d⟩:=x;rcases NI h.1.k with e|e|e|e|e|e|e|e|e<;>simp only at e<;>subst e;all_goals
  have l:=h.1.n0;have a0:=h.1.a0;have q:=h.1.p0;have g:=h.1.d0;have o:=λe=>c (z:=n) (b:=true) rfl (λ_=>h.1.n e) (by omega);have f:=λe=>c (z:=a) (b:=true) rfl (λ_=>h.1.a e) (by omega);have r:=λe=>c (z:=p) (b:=true) rfl (λ_=>h.1.p e) (by omega);have i:=Om h.2;clear c;simp[Aw,AA,AC]at l a0 q g o f r i
  simp[Ce,Aw,AA,AC,CF,He, *]
theorem RC{l:List (List Int)}(h:CF l=some x)(g:LacOk x):Ce x=l/\IQ x:=by
 have num:∀ {z:List Int} {m:Int},(0<=whV z/\whV z<=m)->BR (whV z).toNat=z:=λi=>(bJ (by omega)).1
 match l,h with
 | [],h=>cases h
 | [w],h =>
  simp only[CF]at h;split at h
  .rename_i h1
   simp only[P']at h;subst h;have b:=(De (w:=w) (by omega)).1;rw[h1]at b
   simp[Ce,Aw,AA,AC,b,IQ]
  .cases h
 | [w,y],h =>
  simp only[CF]at h;split at h
  .rename_i h1
   simp only[P']at h;subst h;have b:=(De (w:=w) (by omega)).1;have e:Aw (AM w)=true:=by unfold Aw;simp;omega
   have f:AA (AM w)=false:=by unfold AA;simp;omega
   have j:AC (AM w)=false:=by unfold AC;simp;omega
   have k:¬ AM w=1:=by omega
   have c:=num (g.n e);simp[Ce,b,e,f,j,k,c,IQ]
  .split at h
   .rename_i h0 h1
    simp only[P']at h;subst h;have b:=(De (w:=w) (by omega)).1;have e:Aw (AM w)=false:=by unfold Aw;simp;omega
    have f:AA (AM w)=true:=by unfold AA;simp;omega
    have j:AC (AM w)=false:=by unfold AC;simp;omega
    have k:¬ AM w=1:=by omega
    have c:=num (g.a f);simp[Ce,b,e,f,j,k,c,IQ]
   .cases h
 | [w,y,z],h =>
  simp only[CF]at h;split at h
  .rename_i h1
   have b:=(De (w:=w) (by omega)).1;rw[h1]at b
   cases i:D2 z with
   | none=>rw[i]at h;cases h
   | some d =>
    rw[i]at h
    simp only[nA,P']at h;subst h;obtain⟨e,f⟩:=EG i;have c:=num (g.n rfl);exact⟨by simp[Ce,Aw,AA,AC,b,e,c],f⟩
  .split at h
   .rename_i h0 h1
    simp only[P']at h;subst h;have b:=(De (w:=w) (by omega)).1;rw[h1]at b
    have c:=num (g.n rfl);have o:=num (g.p rfl);simp[Ce,Aw,AA,AC,b,c,o,IQ]
   .cases h
 | _::_::_::_::_,h=>cases h
theorem KP:rdL s=some x↔KW x/\Bd x=s:=by
 unfold rdL;constructor
 .intro h;cases hc:CF (splitB s)with
  | none=>rw[hc]at h;cases h
  | some y =>
   rw[hc]at h
   simp only at h;split at h
   .rename_i h1
    simp only[P']at h;subst h;have a:=Iq.1 h1;obtain⟨c,b⟩:=RC hc a;exact⟨⟨a,b⟩,(Eg b).2 c.symm⟩
   .cases h
 .rintro⟨h1,a⟩;rw[(Eg h1.2).1 a,Rv h1];simp only;rw[if_pos (Iq.2 h1.1)]
end
end
section
open Go.RowKit
section
variable{P:Program}{md:Region.Mode}{ops:Array Oper}{Q:Exit->Act->World->Prop}{S:World->Prop}
section
variable{K:Act->World->Prop}{L:Array Bool}{a:Act}{d fuel i:Nat}{o:Oper}{v:Value}{w:World}
theorem Zq{c:World}(g:ops[i]?=some o)(j:Region.wanted o (yielded ops a.tmps)=true)(f:o.dst=some d)(b:(execOp a.eval o).run P w=.ok (.value v) c)(h:K (a.put (some d) v) c):wpOp P ops Q i K a w :=
 wpOp_step g λk e=>by
  rw[if_pos j];unfold Oper.wp;rw[b,Oper.upon_value];exact e _ _ (by rw[f];exact h)
theorem OT{f:FuncId}{args:Array Value}(k:ops[i]?=some o)(m:Region.wanted o (yielded ops a.tmps)=true)(g:o.dst=some d)(b:(execOp a.eval o).run P w=.ok (.enter f args) w)(h:Calls P f args w λe w'=>∃ v,e=.returned v/\K (a.put (some d) v) w'):wpOp P ops Q i K a w :=
 wpOp_step k λn c=>by
  rw[if_pos m];unfold Oper.wp;rw[b,Oper.upon_enter];refine h.mono λe w' j=>?_;obtain⟨v,rfl,l⟩:=j;exact c _ _ (by rw[g];exact l)
theorem UJ(n:ops[i]?=some o)(p:Region.wanted o (yielded ops a.tmps)=true)(k:o.dst=none)(e:TypeId)(x y:Operand)(d:o.op=.store e x y)(g:Nat)(cells:Array Value)(q:a.eval x=.pointer (some ⟨g,0,none⟩))(r:a.eval y=.agg cells)(t:TypeId)(b:Array Value)(l:w.heap[g]?=some (.cells b t (0,0)))(m:(P.info? e).map (·.size)=some cells.size)(c:b.size=cells.size)(f:cells.all (·.oneCell')=true)(h:K a (w.setRow g cells)):wpOp P ops Q i K a w :=
 wpOp_step n λs j=>by
  rw[if_pos p];exact wp_store_row e x y d g cells q r t b l m c f (j _ _ (by rw[k];exact h))
theorem D7(c:Region.ready md ops L=[i])(h:wpOp P ops Q i (λa' w'=>S w'/\wpAnyH P md ops Q S fuel (L.setIfInBounds i true) a' w') a w):wpAnyH P md ops Q S (fuel+1) L a w :=
 wpAnyH_all c (by simp) (λj b=>by
  obtain rfl:j=i:=by simpa using b
  exact h)
theorem di{i':Nat}(d:Region.ready md ops L=[i,i'])(h:wpOp P ops Q i (λa' w'=>S w'/\wpAnyH P md ops Q S fuel (L.setIfInBounds i true) a' w') a w)(b:wpOp P ops Q i' (λa' w'=>S w'/\wpAnyH P md ops Q S fuel (L.setIfInBounds i' true) a' w') a w):wpAnyH P md ops Q S (fuel+1) L a w :=
 wpAnyH_all d (by simp) (λj c=>by
  rcases(show j=i\/j=i' by simpa using c)with rfl|rfl
  .exact h
  .exact b)
theorem AQ(d:Nat){f:Oper}{v:Value}{e:Nat}{b:Array Bool}{a:Act}{w:World}(m:ops[i]?=some f)(g:f.dst=some d)(o:Region.noSelect ops=true)(l:Region.free md ops b i=true)(n:(Region.ready md ops b).contains i=true)(j:∀ c a w,Q (.panic c) (a.put (some d) v) w->Q (.panic c) a w)(p:YieldsIf P ops S f v a)(k:S w)(h:wpAnyH P md ops Q S e (b.setIfInBounds i true) (a.put (some d) v) w):wpAnyH P md ops Q S (e+1) b a w :=
 wpAnyH_take m o l n (by rw[g];exact j) p k (by rw[g];exact h)
theorem Xp{op:Oper}(j:Region.wanted op (yielded ops a.tmps)=true)(c:TypeId)(x:Operand)(h:op.op=.load c x)(d:TypeDesc)(i:P.underlying c=some d)(l:d.isRow=false)(p:Addr)(k:a.eval x=.pointer (some p))(v:Value)(f:∀ w,S w->w.cell? p=some v):YieldsIf P ops S op v a :=
 .inl ⟨j,λw e=>by
  have b:(isAgg c).run P w=.ok false w:=by
   unfold isAgg;rw[Sem.run_bind,run_underlying i w];cases d<;>simp_all[TypeDesc.isRow]
  have g:(loadVar c p).run P w=.ok v w:=by simp[loadVar,b,f w e,go_sem]
  unfold execOp;simp only[h,k,Instr.loadAt,Instr.sureAddr,Sem.run_bind,Sem.run_pure,Result.andThen_ok,g]⟩
end
end
section
variable{B base e g i id k8 n:Nat}{K:Act->World->Prop}{P:Program}{Q:Exit->Act->World->Prop}{a:Act}{b:Int}{fr:Nat × Nat}{l m:List Int}{o op:Oper}{ops:Array Oper}{rest:List Oper}{t:TypeId}{v:Value}{w w':World}{xs:List Value}
theorem Bo{l:List Oper}(h:wpList P ops Q l a w):wpList P ops Q l a w:=h
theorem Aq{a:World}(h:Below B a w){g:Nat}(c:B<=g)(b:Array Value):Below B a (w.setRow g b) :=
 h.trans ⟨rfl,rfl,rfl,by simp,λk d=>setRow_other w g k b (by omega)⟩
theorem CB{b a:Nat}(h:w.ownsRow b e k8 v n xs)(c:a<=b):w.ownsRow a e k8 v n xs:=by
 refine⟨h.1,?_⟩;rcases h.2 with h2|⟨g,cap,cur,hv,hbg,hr⟩
 .exact .inl h2
 .exact .inr ⟨g,cap,cur,hv,mI c hbg,hr⟩
theorem Ar(h:w.ownsRow base e k8 v n xs)(a:∀ k,v.ownBlock=some k->w'.heap[k]?=w.heap[k]?):w'.ownsRow base e k8 v n xs:=by
 refine⟨h.1,?_⟩;rcases h.2 with h2|⟨g,cap,cur,hv,hb,hg,hr⟩
 .exact .inl h2
 .exact .inr ⟨g,cap,cur,hv,hb,(a g (by rw[hv];rfl)).trans hg,hr⟩
theorem aT{P:Program}{f:Func}{p:Tmp}{c:TypeId}(h:f.results=#[.cell p c])(a:Array Value)(w:World)(g:Nat)(t:TypeId)(b:Array Value)(fr:Nat × Nat)(d:TypeDesc)(l:a.getD p undef=.pointer (some ⟨g,0,none⟩))(j:w.heap[g]?=some (.cells b t fr))(m:P.underlying c=some d)(i:(match d with|.struct _|.array _ _=>true|_=>false)=true)(k:(P.info? c).map (·.size)=some b.size) :
  (results f a).run P w=.ok (.agg b) w:=by
 have e:a[p]?.getD undef=.pointer (some ⟨g,0,none⟩):=by simpa using l
 simp[results,h,e,asAddr,run_loadVar_row w g t c b fr d j m i k]
theorem ES{P:Program}{f:Func}{p u:Tmp}{c:TypeId}(h:f.results=#[.cell p c,.tmp u])(a:Array Value)(w:World)(g:Nat)(t:TypeId)(b:Array Value)(fr:Nat × Nat)(d:TypeDesc)(l:a.getD p undef=.pointer (some ⟨g,0,none⟩))(j:w.heap[g]?=some (.cells b t fr))(m:P.underlying c=some d)(i:(match d with|.struct _|.array _ _=>true|_=>false)=true)(k:(P.info? c).map (·.size)=some b.size) :
  (results f a).run P w=.ok (.tuple #[.agg b,a.getD u undef]) w:=by
 have e:a[p]?.getD undef=.pointer (some ⟨g,0,none⟩):=by simpa using l
 simp[results,h,e,asAddr,run_loadVar_row w g t c b fr d j m i k]
theorem Sl.kn(h:Sl w v l):∃ a cap,v=.slice a l.length cap:=by
 obtain⟨⟨a,cap,e,_⟩,_,_⟩:=h;exact⟨a,cap,e⟩
theorem Sl.ss{ad:Addr}{g:Nat}(h:Sl w (.slice (some ad) n g) m):∀ j u,(m.map (Value.int .u8))[j]?=some u->w.cell? (ad.add j)=some u:=by
 intro j u f;obtain⟨⟨a,k,e,l,o,i⟩,_⟩:=h;simp only[Value.slice.injEq]at e;obtain⟨rfl,rfl,rfl⟩:=e;rcases i with rfl|⟨b,off,hab,_,hcell⟩
 .simp at f
 .obtain rfl:ad=⟨b,off,none⟩:=by simpa using hab
  have c:j<m.length:=by
   have:=(Q'.1 f).1;simpa using this
  have d:(⟨b,off,none⟩:Addr).add j=⟨b,off+j,none⟩:=by unfold Addr.add;split<;>simp_all
  rw[d,hcell j c];simp[List.getElem?_eq_getElem c]at f
  rw[As c,f]
theorem QS(w:World)(c x F G e:Nat)(y:P.underlying x=some (.slice e))(q:(P.info? e).map (·.size)=some 1)(g n:Nat)(H:List Value)(h:w.ownsRow c e 1 (.slice (some ⟨g,0,none⟩) n n) n H)(u:Value)(m:List Int)(D:n<=m.length)(z:Sl w u m) :
  ∃ w',(Builtin.copy_ #[x,F] G #[.slice (some ⟨g,0,none⟩) n n,u]).run P w=.ok (goInt n) w'/\w'.ownsRow c e 1 (.slice (some ⟨g,0,none⟩) n n) n ((m.take n).map (Value.int .u8))/\Below g w w':=by
 obtain⟨i,l,B⟩:∃ i,P.info? e=some i/\i.size=1:=by
  cases l:P.info? e with
  | none=>rw[l]at q;cases q
  | some i=>rw[l]at q;exact⟨i,rfl,by simpa using q⟩
 rcases h.2 with⟨h0,_⟩|⟨g',cap,cur,hvv,hbg,hg,hnc,hcm,hcs,ht⟩
 .cases h0
 .simp only[Value.slice.injEq,P',Addr.mk.injEq]at hvv;obtain⟨⟨rfl,_⟩,_,rfl⟩:=hvv;have t:=z;obtain⟨⟨a,A,rfl,J,E,I⟩,_⟩:=z;have f:Nat.min m.length n=n:=Nat.min_eq_right D;cases a with
  | none =>
   have r:=E rfl;subst r;have s:n=0:=by omega
   subst s;refine⟨w,?_,⟨by simp,.inr ⟨g,0,cur,rfl,hbg,hg,hnc,hcm,hcs,by simp⟩⟩,Below.refl _ _⟩;simp[Builtin.copy_,run_underlying y,Builtin.lenOf,Builtin.firstCells,sizeOf,typeInfo,l,storeCells]
  | some ad =>
   have b:((m.take n).map (Value.int .u8)).length=n:=by simp;omega
   have C:=run_firstCells_some (P:=P) w 1 n ad m.length A ((m.take n).map (Value.int .u8)) (by rw[b];omega) (λj v p=>t.ss j v (by
    rw[qA,nQ]at p
    split at p
    .exact p
    .cases p))
   have o:=run_storeCells_at P g 0 e ((m.take n).map (Value.int .u8)) 0 cur w hg (by rw[b];omega) (EH (m.take n));have d:(cur.toList.take (0+0)++(m.take n).map (Value.int .u8)++cur.toList.drop (0+0+((m.take n).map (Value.int .u8)).length))=(m.take n).map (Value.int .u8):=by
    rw[b,nu (by rw[om];omega)];simp
   rw[d]at o
   refine⟨w.setRow g ((m.take n).map (Value.int .u8)).toArray,?_,⟨by rw[b];omega,.inr ⟨g,n,((m.take n).map (Value.int .u8)).toArray,rfl,hbg,setRow_heap w g cur _ e _ hg,A' _,hcm,by rw[oo,b];omega,?_⟩⟩,?_⟩
   .simp[-List.map_take,Builtin.copy_,run_underlying y,Builtin.lenOf,sizeOf,typeInfo,l,B,f,C,o]
   .rw[mV (by show((m.take n).map (Value.int .u8)).length<=_;rw[b];omega)]
   .exact⟨rfl,rfl,rfl,by simp,λk K=>setRow_other w g k _ (by omega)⟩
theorem M0(w:World){i:Array Oper}{rest:List Oper}{o:Oper}{a:Act}{Q:Exit->Act->World->Prop}(k:o.guard=none)(d s:Operand)(j q:TypeId)(z:o.op=.call { callee:=.builtin .copy,args:=#[d,s],argTypes:=#[j,q] })(b e:Nat)(B:P.underlying j=some (.slice e))(A:(P.info? e).map (·.size)=some 1)(g n:Nat)(r:List Value)(x:a.eval d=.slice (some ⟨g,0,none⟩) n n)(c:w.ownsRow b e 1 (.slice (some ⟨g,0,none⟩) n n) n r)(u:Value)(p:a.eval s=u)(m:List Int)(y:n<=m.length)(C:Sl w u m)(t:List Int)(l:t=m.take n)(h:∀ w',w'.ownsRow b e 1 (.slice (some ⟨g,0,none⟩) n n) n (t.map (Value.int .u8))->Below g w w'->wpList P i Q rest (a.put o.dst (goInt n)) w'):wpList P i Q (o::rest) a w:=by
 subst l;refine wpList_plain k λK v=>?_;obtain⟨w',f,D,E⟩:=QS (P:=P) w b j q o.type e B A g n r c u m y C;unfold Oper.wp execOp;simp only[z,resolve,invoke,builtin,Sem.run_bind,Sem.run_pure,Result.andThen_ok,po,mT,nJ,x,p,f];exact v _ _ (h w' D E)
theorem M2(w:World){f:Array Oper}{rest:List Oper}{o:Oper}{a:Act}{Q:Exit->Act->World->Prop}(u:o.guard=none)(l c:Operand)(t:TypeId)(g:o.op=Op.makeSlice t l c)(b:Nat)(e:TypeId)(q:P.underlying t=some (.slice e))(d:(P.info? e).map (λi=>(i.zero,i.size,i.bytes))=some (some (.int .u8 0),1,1))(n:Nat)(x:a.eval l=.int .i64 (n:Int))(s:a.eval c=.int .i64 (n:Int))(A:n<=140737488351232)(m:b<=w.heap.size)(r:∀ w',Hid (∃ xs,w'.ownsRow b e 1 (.slice (some ⟨w.heap.size,0,none⟩) n n) n xs)->w.grownBy w' none->wpList P f Q rest (a.put o.dst (.slice (some ⟨w.heap.size,0,none⟩) n n)) w'):wpList P f Q (o::rest) a w:=by
 obtain⟨y,v,h,j,k⟩:=info_parts d;refine wpList_make_full w u l c t g b e y (.int .u8 0) 1 q v h j _ _ _ _ n x s rfl rfl (by rw[k];omega) (by unfold maxLen;omega) m (λw' z p=>r w' ⟨_,z⟩ p)
theorem CD(w:World)(a:Obj):(w.alloc a).heap[w.heap.size]?=some a:=heap_alloc_new w a
theorem BF(w:World)(a:Obj):Bw w (w.alloc a):=(Below.refl _ _).alloc (A' _) _
theorem Mo(w:World)(a b:Obj):((w.alloc a).alloc b).heap[w.heap.size]?=some a:=heap_alloc2_old w a b
theorem Hu(w:World)(b a:Obj):((w.alloc b).alloc a).heap[w.heap.size+1]?=some a:=heap_alloc2_new w b a
theorem J3(w:World)(a b:Obj):Bw w ((w.alloc a).alloc b):=((Below.refl _ _).alloc (A' _) _).alloc (by simp) _
theorem TD(w:World)(a b c:Obj):(((w.alloc a).alloc b).alloc c).heap[w.heap.size]?=some a:=by
 rw[heap_alloc_old _ _ (by simp;omega)];exact heap_alloc2_old w a b
theorem TE(w:World)(b a c:Obj):(((w.alloc b).alloc a).alloc c).heap[w.heap.size+1]?=some a:=by
 rw[heap_alloc_old _ _ (by simp)];exact heap_alloc2_new w b a
theorem TF(w:World)(b c a:Obj):(((w.alloc b).alloc c).alloc a).heap[w.heap.size+2]?=some a:=by
 have:=heap_alloc_new ((w.alloc b).alloc c) a;simpa using this
theorem Oj(w:World)(a b c:Obj):Bw w (((w.alloc a).alloc b).alloc c):=(((Below.refl _ _).alloc (A' _) _).alloc (by simp) _).alloc (by simp;omega) _
theorem Bf(h:w.ownsRow base e k8 v n xs):∃ g c,v=.slice g n c:=by
 rcases h.2 with⟨rfl,h0⟩|⟨g,cap,cur,hv,_⟩
 .exact⟨none,0,by rw[h0]⟩
 .exact⟨_,_,hv⟩
theorem ju(h:Below B w w'){b o:Nat}{a:List Value}(c:b<B)(d:w.rangeAt b o a):w'.rangeAt b o a :=
 λj v e=>(h.cell (p:=⟨b,o+j,none⟩) c).trans (d j v e)
theorem aU(R:World->Prop){A:Act}(c:∀ K':Act->World->Prop,Hid (∀ W2,R W2->K' A W2)->(Code.region id ops true).wp P (Exit.then K' Q) a w)(b:∀ W2,R W2->K A W2):(Code.region id ops true).wp P (Exit.then K Q) a w:=c K b
theorem aV(R:Option Addr->Nat->World->Prop){A:Option Addr->Nat->Act}(d:∀ K':Act->World->Prop,Hid (∀ g c W2,R g c W2->K' (A g c) W2)->(Code.region id ops true).wp P (Exit.then K' Q) a w)(b:∀ g c W2,R g c W2->K (A g c) W2):(Code.region id ops true).wp P (Exit.then K Q) a w:=d K b
theorem Ht{cs:List Value}(h:w.heap[g]?=some (.cells cs.toArray t fr)):w.rangeAt g 0 cs:=λj u a=>by
 rw[cell_of_row _ _ (0+j) _ _ _ h];simpa using a
theorem ID(h:w.ownsRow base 5 k8 v n xs){g:Nat}{c:Array Value}{t:TypeId}{fr:Nat × Nat}(d:w.heap[g]?=some (.cells c t fr))(f:t≠5):∀ k,v.ownBlock=some k->k≠g:=by
 intro k a e;rcases h.2 with⟨h1,_⟩|⟨q,cap,cur,h1,_,h2,_⟩
 .rw[h1]at a;cases a
 .rw[h1]at a
  have b:q=k:=by simpa[Value.ownBlock]using a
  rw[b,e,d]at h2
  simp only[P',Obj.cells.injEq]at h2;exact f h2.2.1
theorem J1(h:w.ownsRow base 5 k8 v n xs){g:Nat}{b:Array Value}{t:TypeId}{fr:Nat × Nat}(c:w.heap[g]?=some (.cells b t fr))(e:t≠5)(a:Array Value):(w.setRow g a).ownsRow base 5 k8 v n xs :=
 Ar h (λk d=>setRow_other _ _ _ _ (ID h c e k d))
theorem Mn(h:w.ownsRow base 5 k8 v n xs){g:Nat}{a:Array Value}{t:TypeId}{fr:Nat × Nat}(b:w.heap[g]?=some (.cells a t fr))(d:t≠5)(j:Nat)(u:Value):(w.setCell ⟨g,j,none⟩ u).ownsRow base 5 k8 v n xs :=
 Ar h (λk c=>Below.heap_setCell w ⟨g,j,none⟩ u k (ID h b d k c))
theorem fO:(prog.info? 5).map (·.size)=some 1:=by kernel_rfl
theorem Pd(w:World)(b o:Nat)(f:TypeId)(v e:Value)(j:w.cell? ⟨b,o,none⟩=some e)(k:w.frozen? ⟨b,o,none⟩=false)(c:(P.info? f).map (·.size)=some 1)(g:v.oneCell'=true) :
  (storeVar f ⟨b,o,none⟩ v).run P w=.ok () (w.setCell ⟨b,o,none⟩ v):=by
 cases h:P.info? f with
 | none=>rw[h]at c;cases c
 | some i =>
  rw[h]at c
  simp at c;have a:(⟨b,o,none⟩:Addr).add 0=⟨b,o,none⟩:=by unfold Addr.add;split<;>simp_all
  have l:(Go.store ⟨b,o,none⟩ v .plain).run P w=.ok () (w.setCell ⟨b,o,none⟩ v):=by
   rw[run_store P w _ v .plain g,j];simp[k]
  have d:v.cells=#[v]:=by cases v<;>first|rfl|cases g
  unfold storeVar;rw[d];simp[sizeOf,typeInfo,h,c,storeCells,a,l,Result.andThen]
theorem IP{Q:Exit->Act->World->Prop}(d:TypeId)(x y:Operand)(i:op.op=.store d x y)(b o:Nat)(v c:Value)(k:a.eval x=.pointer (some ⟨b,o,none⟩))(l:a.eval y=v)(e:w.cell? ⟨b,o,none⟩=some c)(f:w.frozen? ⟨b,o,none⟩=false)(g:(P.info? d).map (·.size)=some 1)(j:v.oneCell'=true)(h:K (a.put op.dst undef) (w.setCell ⟨b,o,none⟩ v)):op.wp P a w K Q:=by
 unfold Oper.wp execOp;simp only[i,k,l,Instr.storeAt,Instr.sureAddr,Sem.run_bind,Sem.run_pure,Result.andThen_ok,Pd w b o d v c e f g j];exact h
theorem JB(d:op.guard=none)(e:TypeId)(x y:Operand)(k:op.op=.store e x y)(b o:Nat)(v c:Value)(m:a.eval x=.pointer (some ⟨b,o,none⟩))(n:a.eval y=v)(g:w.cell? ⟨b,o,none⟩=some c)(i:w.frozen? ⟨b,o,none⟩=false)(j:(P.info? e).map (·.size)=some 1)(l:v.oneCell'=true)(h:wpList P ops Q rest (a.put op.dst undef) (w.setCell ⟨b,o,none⟩ v)):wpList P ops Q (op::rest) a w :=
 wpList_plain d λ_ f=>IP e x y k b o v c m n g i j l (f _ _ h)
theorem SX(n:ops[i]?=some o)(q:Region.wanted o (yielded ops a.tmps)=true)(j:o.dst=none)(e:TypeId)(x y:Operand)(d:o.op=.store e x y)(b k:Nat)(v c:Value)(r:a.eval x=.pointer (some ⟨b,k,none⟩))(s:a.eval y=v)(g:w.cell? ⟨b,k,none⟩=some c)(l:w.frozen? ⟨b,k,none⟩=false)(m:(P.info? e).map (·.size)=some 1)(p:v.oneCell'=true)(h:K a (w.setCell ⟨b,k,none⟩ v)):wpOp P ops Q i K a w :=
 wpOp_step n λt f=>by
  rw[if_pos q];exact IP e x y d b k v c r s g l m p (f _ _ (by rw[j];exact h))
structure Only(b:Nat)(w w':World):Prop where
 os:w'.os=w.os
 tape:w'.tape=w.tape
 output:w'.output=w.output
 size:w'.heap.size=w.heap.size
 other:∀ k,k≠b->w'.heap[k]?=w.heap[k]?
theorem Only.refl(b:Nat)(w:World):Only b w w:=⟨rfl,rfl,rfl,rfl,λ_ _=>rfl⟩
theorem Only.trans{b:Nat}{a:World}(h:Only b w w')(k:Only b w' a):Only b w a :=
 ⟨k.os.trans h.os,k.tape.trans h.tape,k.output.trans h.output,k.size.trans h.size,λi c=>(k.other i c).trans (h.other i c)⟩
theorem Only.one(w:World)(b o:Nat)(v:Value):Only b w (w.setCell ⟨b,o,none⟩ v):=⟨rfl,rfl,rfl,by simp[World.setCell],λk a=>heap_setCell_other _ _ _ _ a⟩
theorem Only.store(w:World)(b o:Nat)(a:List Value):Only b w (w.setCells b o a):=by
 induction a generalizing w o with
 | nil=>exact Only.refl _ _
 | cons v r ih=>exact(Only.one w b o v).trans (ih _ _)
theorem TG(w:World)(a b c d:Obj):((((w.alloc a).alloc b).alloc c).alloc d).heap[w.heap.size]?=some a:=by
 rw[heap_alloc_old _ _ (by simp<;>omega)];exact TD w a b c
theorem TH(w:World)(b a c d:Obj):((((w.alloc b).alloc a).alloc c).alloc d).heap[w.heap.size+1]?=some a:=by
 rw[heap_alloc_old _ _ (by simp<;>omega)];exact TE w b a c
theorem TI(w:World)(b c a d:Obj):((((w.alloc b).alloc c).alloc a).alloc d).heap[w.heap.size+2]?=some a:=by
 rw[heap_alloc_old _ _ (by simp<;>omega)];exact TF w b c a
theorem TJ(w:World)(b c d a:Obj):((((w.alloc b).alloc c).alloc d).alloc a).heap[w.heap.size+3]?=some a:=by
 have:=heap_alloc_new (((w.alloc b).alloc c).alloc d) a;simpa using this
theorem WV(w:World)(a b c d:Obj):Bw w ((((w.alloc a).alloc b).alloc c).alloc d):=(Oj w a b c).alloc (by simp<;>omega) _
theorem TK(w:World)(a b c d e:Obj):(((((w.alloc a).alloc b).alloc c).alloc d).alloc e).heap[w.heap.size]?=some a:=by
 rw[heap_alloc_old _ _ (by simp<;>omega)];exact TG w a b c d
theorem TL(w:World)(b a c d e:Obj):(((((w.alloc b).alloc a).alloc c).alloc d).alloc e).heap[w.heap.size+1]?=some a:=by
 rw[heap_alloc_old _ _ (by simp<;>omega)];exact TH w b a c d
theorem TP(w:World)(b c a d e:Obj):(((((w.alloc b).alloc c).alloc a).alloc d).alloc e).heap[w.heap.size+2]?=some a:=by
 rw[heap_alloc_old _ _ (by simp<;>omega)];exact TI w b c a d
theorem TS(w:World)(b c d a e:Obj):(((((w.alloc b).alloc c).alloc d).alloc a).alloc e).heap[w.heap.size+3]?=some a:=by
 rw[heap_alloc_old _ _ (by simp<;>omega)];exact TJ w b c d a
theorem TT(w:World)(b c d e a:Obj):(((((w.alloc b).alloc c).alloc d).alloc e).alloc a).heap[w.heap.size+4]?=some a:=by
 have:=heap_alloc_new ((((w.alloc b).alloc c).alloc d).alloc e) a;simpa using this
theorem WW(w:World)(a b c d e:Obj):Bw w (((((w.alloc a).alloc b).alloc c).alloc d).alloc e):=(WV w a b c d).alloc (by simp<;>omega) _
theorem lU{P:Program}{b:Array Oper}{S:World->Prop}{op:Oper}{a:Act}(m:Region.wanted op (yielded b a.tmps)=true)(e:TypeId)(x:Operand)(k:op.op=.load e x)(g:Nat)(n:a.eval x=.pointer (some ⟨g,0,none⟩))(c:Array Value)(t:TypeId)(fr:Nat × Nat)(d:TypeDesc)(h:∀ w,S w->w.heap[g]?=some (.cells c t fr))(l:P.underlying e=some d)(i:(match d with|.struct _|.array _ _=>true|_=>false)=true)(j:(P.info? e).map (·.size)=some c.size):YieldsIf P b S op (.agg c) a :=
 .inl ⟨m,λw f=>by
  unfold execOp;simp only[k,n,Instr.loadAt,Instr.sureAddr,Sem.run_bind,Sem.run_pure,Result.andThen_ok,run_loadVar_row w g t e c fr d (h w f) l i j]⟩
theorem jT{P:Program}{u:Func}{p s:Tmp}{j c:TypeId}(h:u.results=#[.cell p j,.cell s c])(a:Array Value)(w:World)(g i:Nat)(t v:TypeId)(f b:Array Value)(fr e:Nat × Nat)(d k:TypeDesc)(A:a.getD p undef=.pointer (some ⟨g,0,none⟩))(y:w.heap[g]?=some (.cells f t fr))(C:P.underlying j=some d)(x:(match d with|.struct _|.array _ _=>true|_=>false)=true)(z:(P.info? j).map (·.size)=some f.size)(o:a.getD s undef=.pointer (some ⟨i,0,none⟩))(m:w.heap[i]?=some (.cells b v e))(r:P.underlying c=some k)(l:(match k with|.struct _|.array _ _=>true|_=>false)=true)(n:(P.info? c).map (·.size)=some b.size) :
  (results u a).run P w=.ok (.tuple #[.agg f,.agg b]) w:=by
 have B:a[p]?.getD undef=.pointer (some ⟨g,0,none⟩):=by simpa using A
 have q:a[s]?.getD undef=.pointer (some ⟨i,0,none⟩):=by simpa using o
 simp[results,h,B,q,asAddr,run_loadVar_row w g t j f fr d y C x z,run_loadVar_row w i v c b e k m r l n]
theorem jU{P:Program}{v:Func}{p s u:Tmp}{j c:TypeId}(h:v.results=#[.cell p j,.cell s c,.tmp u])(a:Array Value)(w:World)(g i:Nat)(t x:TypeId)(f b:Array Value)(fr e:Nat × Nat)(d k:TypeDesc)(B:a.getD p undef=.pointer (some ⟨g,0,none⟩))(z:w.heap[g]?=some (.cells f t fr))(D:P.underlying j=some d)(y:(match d with|.struct _|.array _ _=>true|_=>false)=true)(A:(P.info? j).map (·.size)=some f.size)(o:a.getD s undef=.pointer (some ⟨i,0,none⟩))(m:w.heap[i]?=some (.cells b x e))(r:P.underlying c=some k)(l:(match k with|.struct _|.array _ _=>true|_=>false)=true)(n:(P.info? c).map (·.size)=some b.size) :
  (results v a).run P w=.ok (.tuple #[.agg f,.agg b,a.getD u undef]) w:=by
 have C:a[p]?.getD undef=.pointer (some ⟨g,0,none⟩):=by simpa using B
 have q:a[s]?.getD undef=.pointer (some ⟨i,0,none⟩):=by simpa using o
 simp[results,h,C,q,asAddr,run_loadVar_row w g t j f fr d z D y A,run_loadVar_row w i x c b e k m r l n]
theorem Ga(t e:TypeId)(N k:Nat)(d:prog.underlying t=some (.array N e))(a:(prog.info? e).map (·.size)=some k)(b o i:Nat)(f:i<N)(w:World):(Instr.indexAt t (.pointer (some ⟨b,o,none⟩)) (.int .i64 (i:Int))).run prog w=.ok (.pointer (some ⟨b,o+k*i,none⟩)) w:=by
 have c:(Go.sizeOf e).run prog w=.ok k w:=by
  cases hq:prog.info? e with
  | none=>rw[hq]at a;cases a
  | some x =>
   rw[hq]at a
   simp at a;simp[sizeOf,typeInfo,hq,a]
 simp only[Instr.indexAt,Sem.run_bind,run_underlying d w,Result.andThen_ok,Instr.sureAddr,Sem.run_pure,asIntOf];rw[if_pos ⟨by omega,by omega⟩];simp[c,Result.andThen,Addr.add_mid,Nat.mul_comm]
theorem SW(l:ops[i]?=some o)(n:Region.wanted o (yielded ops a.tmps)=true)(g:o.dst=none)(d:TypeId)(x y:Operand)(c:o.op=.store d x y)(b k:Nat)(cells:Array Value)(p:a.eval x=.pointer (some ⟨b,k,none⟩))(q:a.eval y=.agg cells)(m:w.there b k cells.size)(j:(P.info? d).map (·.size)=some cells.size)(e:cells.all (·.oneCell')=true)(h:K a (w.setCells b k cells.toList)):wpOp P ops Q i K a w :=
 wpOp_step l λr f=>by
  rw[if_pos n];exact wp_store_mid d x y c b k cells p q m j e (f _ _ (by rw[g];exact h))
theorem jS(h:∀ x∈l,0<=x/\x<256)(g:∀ x∈m,0<=x/\x<256):∀ x∈l++m,0<=x/\x<256:=by
 intro x hx;rcases Z'.1 hx with hx|hx
 .exact h x hx
 .exact g x hx
theorem BQ(h:w.ownsRow base e k8 v n xs){g:Nat}{c:Array Value}{t:TypeId}{fr:Nat × Nat}(f:w.heap[g]?=some (.cells c t fr))(i:t≠e):∀ k,v.ownBlock=some k->k≠g:=by
 intro k a d;rcases h.2 with⟨h1,_⟩|⟨q,cap,cur,h1,_,h2,_⟩
 .rw[h1]at a;cases a
 .rw[h1]at a
  have b:q=k:=by simpa[Value.ownBlock]using a
  rw[b,d,f]at h2
  simp only[P',Obj.cells.injEq]at h2;exact i h2.2.1
theorem Ki(h:w.ownsRow base e k8 v n xs){u:Value}(c:w.grownBy w' u.ownBlock)(a:∀ k,v.ownBlock=some k->some k≠u.ownBlock):w'.ownsRow base e k8 v n xs :=
 Ar h (λk b=>c.block k (h.lt k b).2 (a k b))
theorem Oi{c d a b l m n o:Nat}{u:Value}{p:List Value}(h:w.ownsRow c a l u n xs)(g:w.ownsRow d b m v o p)(f:a≠b):∀ k,u.ownBlock=some k->some k≠v.ownBlock:=by
 intro k i e;rcases g.2 with⟨h1,_⟩|⟨q,cap,cur,h1,_,h2,_⟩
 .rw[h1]at e;cases e
 .rw[h1]at e
  have j:k=q:=by simpa[Value.ownBlock]using e
  subst j;exact BQ h h2 (λx=>f x.symm) k i rfl
theorem SM{a:Int}(h:¬ a=b):(a==b)=false:=by simpa using h
theorem Yj{a:Int}(h:a=b):(a==b)=true:=by simpa using h
theorem Zi{a:Int}(h:¬ a=b):(a != b)=true:=by simpa using h
theorem Yk{a:Int}(h:a=b):(a != b)=false:=by simpa using h
theorem AR(l:List Int):(strOfNums l).size=l.length:=strOfNums_size l
theorem KS(l:List Int)(i j:Nat):(strOfNums l).extract i j=strOfNums ((l.take j).drop i):=by
 unfold strOfNums;rw[ByteArray.extract_mk]
 congr 2
 rw[<- List.map_drop,<- qA,List.drop_take]
theorem jq(b:∀ x∈l,0<=x/\x<256){i:Nat}(h:i<(strOfNums l).size):(((strOfNums l)[i]'h).toNat:Int)=l.getD i 0:=by
 have a:i<l.length:=by rwa [AR]at h
 have e:(strOfNums l)[i]'h=UInt8.ofNat (l[i]'a).toNat:=by
  show(strOfNums l).data[i]=_;simp[strOfNums]
 have c:=b (l[i]'a) (na a);rw[e,nc,H' a,qb];simp;omega
theorem KQ(a:∀ x∈l,0<=x/\x<256)(i:Nat)(h:i<l.length)(w:World):(Instr.index 9 (.string (strOfNums l)) (.int .i64 (i:Int))).run prog w=.ok (.int .u8 (l.getD i 0)) w:=by
 have b:i<(strOfNums l).size:=by rw[AR];exact h
 rw[run_index_string w 9 _ _ _ underlying9,dif_pos ⟨by omega,by omega⟩];have:=jq a b;simp only[oK];rw[this]
theorem ZW(a:∀ x∈l,0<=x/\x<256)(h:0<l.length)(w:World):(Instr.index 9 (.string (strOfNums l)) (.int .i64 0)).run prog w=.ok (.int .u8 (l.getD 0 0)) w:=KQ a 0 h w
def Cc(j:Nat)(k:Int):Bool:=if j=0 then Aw k else if j=1 then AA k else AC k
def Eu(j:Nat):Int:=if j=0 then 4 else if j=1 then 1048576 else 100000
def AN(b:Bool):Int:=if b=true then 1 else 0
def npc(k:Int):Int:=1+AN (Aw k)+AN (AA k)+AN (AC k)+AN (k==1)
structure LWTab(w:World):Prop where
 lt:0<w.heap.size
 text:∀ k:Nat,k<10->w.cell? ⟨0,4*k,none⟩=some (.string (strOfNums (AF (k:Int))))
 has:∀ k j:Nat,k<10->j<3->w.cell? ⟨0,4*k+1+j,none⟩=some (.bool (Cc j (k:Int)))
theorem LWTab.ab(h:LWTab w)(a:Bw w w'):LWTab w' :=
 ⟨X' h.lt a.size,λk b=>(a.cell (p:=⟨0,4*k,none⟩) h.lt).trans (h.text k b),λk j b c=>(a.cell (p:=⟨0,4*k+1+j,none⟩) h.lt).trans (h.has k j b c)⟩
structure LBTab(w:World):Prop where
 lt:1<w.heap.size
 sE:∀ j:Nat,j<3->w.cell? ⟨1,j,none⟩=some (.int .i64 (Eu j))
theorem LBTab.ab(h:LBTab w)(a:Bw w w'):LBTab w' :=
 ⟨X' h.lt a.size,λj b=>(a.cell (p:=⟨1,j,none⟩) h.lt).trans (h.sE j b)⟩
theorem jA:(prog.info? 75).map (·.size)=some 4:=by kernel_rfl
theorem EQ(k:Nat)(a:k<10)(w:World):(Instr.indexAt 76 (.pointer (some ⟨0,0,none⟩)) (.int .i64 (k:Int))).run prog w=.ok (.pointer (some ⟨0,4*k,none⟩)) w:=by
 have h:=Ga 76 75 10 4 underlying76 jA 0 0 k a w
 rwa [nn]at h
theorem Od(k j:Nat)(a:j<3)(w:World):(Instr.indexAt 73 (.pointer (some ⟨0,4*k+1,none⟩)) (.int .i64 (j:Int))).run prog w=.ok (.pointer (some ⟨0,4*k+1+j,none⟩)) w:=by
 have h:=Ga 73 4 3 1 underlying73 (by kernel_rfl) 0 (4*k+1) j a w
 rwa [qj]at h
theorem WG(j:Nat)(a:j<3)(w:World):(Instr.indexAt 109 (.pointer (some ⟨1,0,none⟩)) (.int .i64 (j:Int))).run prog w=.ok (.pointer (some ⟨1,j,none⟩)) w:=by
 have h:=Ga 109 3 3 1 underlying109 (by kernel_rfl) 1 0 j a w
 rwa [nn,qj]at h
end
end
section
open Go.ChangeShapes Go.WideShapes Go.ChangeAt Go.RowKit
section
theorem own:ownKnob prog.godebug=none:=by kernel_rfl
theorem dD:laidOutB prog=true:=by kernel_rfl
theorem dx:prog.cellsOf 3=1:=by kernel_rfl
theorem dy:prog.cellsOf 4=1:=by kernel_rfl
theorem d8:prog.cellsOf 9=1:=by kernel_rfl
theorem UA:prog.cellsOf 75=4:=by kernel_rfl
theorem U9:prog.cellsOf 73=3:=by kernel_rfl
theorem Yx : prog.globalNamed "conclave/lines.words" = some 0 := by kernel_rfl
theorem So:(prog.globals[0]?).map (·.type)=some 76:=by kernel_rfl
theorem Uz : prog.globalNamed "conclave/lines.bounds" = some 1 := by kernel_rfl
theorem PY:(prog.globals[1]?).map (·.type)=some 109:=by kernel_rfl
variable{H:Type}{W:World}{a b c held:Bool}{base fuel:Nat}{cs:List Value}{p:List MemPlace}{sp:Nat->Bool}
theorem IM{name:String}{g:Nat}{a:Array Value}(b:prog.globalNamed name=some g)(h:W.var? prog name=some a):∃ t fr,W.heap[g]?=some (.cells a t fr):=by
 unfold World.var? at h;rw[b]at h
 simp only[qJ]at h;split at h
 .rename_i c t fr hh
  simp only[P']at h;subst h;exact⟨t,fr,hh⟩
 .cases h
theorem SJ{e:TypeId × Value->H}(h:DataW.trod e prog W base sp held fuel 73 cs=some (.agg [.lit (.bool a),.lit (.bool b),.lit (.bool c)],p)) :
  cs=[.bool a,.bool b,.bool c]:=by
 obtain⟨u,m,_,q,o,f,d⟩:=DataW.trod_array underlying73 h;rw[U9]at o
 rw[dy]at d
 match u,f,cs,o with
 | [x0,x1,x2],_,[c0,c1,c2],_ =>
  simp only[mT,nJ,nH,DataW.agg.injEq,nt,and_true]at q;obtain⟨⟨k,l,n⟩,_⟩:=q;obtain⟨a0,g,r⟩:=DataW.trod_bool underlying4 (d 0 (by omega));obtain⟨v,i,s⟩:=DataW.trod_bool underlying4 (d 1 (by omega));obtain⟨w,j,t⟩:=DataW.trod_bool underlying4 (d 2 (by omega));simp at g i j r s t;subst g i j r s t;simp at k l n;subst k l n;rfl
theorem Xo{e:TypeId × Value->H}{s:List UInt8}(h:DataW.trod e prog W base sp held fuel 75 cs=some (.agg [.lit (.string s),.agg [.lit (.bool a),.lit (.bool b),.lit (.bool c)]],p)) :
  cs=[.string ⟨s.toArray⟩,.bool a,.bool b,.bool c]:=by
 obtain⟨⟨d,m⟩,⟨q,o⟩,n,k,j,g,i⟩:=trod_struct2 underlying75 h;rw[UA]at j
 simp only[d8,U9]at g i;simp only[nH,DataW.agg.injEq,nt,and_true]at k;obtain⟨⟨rfl,rfl⟩,_⟩:=k;have l:=SJ i;obtain⟨z,f,d,_⟩:=DataW.trod_string underlying9 g
 match cs,j with
 | [c0,c1,c2,c3],_ =>
  simp at f l d;obtain⟨d,_⟩:=d;subst f d;obtain⟨rfl,rfl,rfl⟩:=l;rfl
theorem Ux{l:List Value}{a:Nat}{b c d e:Value}(h:(l.drop a).take 4=[b,c,d,e]):l[a]?=some b/\l[a+1]?=some c/\l[a+2]?=some d/\l[a+3]?=some e:=by
 have g:∀ i,i<4->l[a+i]?=[b,c,d,e][i]?:=λi f=>by rw[<- h,List.getElem?_take_of_lt f,nN]
 exact⟨g 0 (by omega),g 1 (by omega),g 2 (by omega),g 3 (by omega)⟩
theorem YN(k:Nat)(a:k<10){l:List (DataW H)}(h:(Rows.laid_conclave_lines_words:DataW H)=.agg l) :
  l[k]?=some (.agg [.lit (.string ((AF (k:Int)).map λn=>UInt8.ofNat n.toNat)),.agg [.lit (.bool (Cc 0 (k:Int))),.lit (.bool (Cc 1 (k:Int))),.lit (.bool (Cc 2 (k:Int)))]]):=by
 simp only[Rows.laid_conclave_lines_words,DataW.agg.injEq]at h;subst h
 match k,a with
 | 0,_=>rfl
 | 1,_=>rfl
 | 2,_=>rfl
 | 3,_=>rfl
 | 4,_=>rfl
 | 5,_=>rfl
 | 6,_=>rfl
 | 7,_=>rfl
 | 8,_=>rfl
 | 9,_=>rfl
theorem YM(k:Nat)(a:k<3){l:List (DataW H)}(h:(Rows.laid_conclave_lines_bounds:DataW H)=.agg l):l[k]?=some (.lit (.int .i64 (Eu k))):=by
 simp only[Rows.laid_conclave_lines_bounds,DataW.agg.injEq]at h;subst h
 match k,a with
 | 0,_=>rfl
 | 1,_=>rfl
 | 2,_=>rfl
theorem eX{rest : List (String × DataW Unit)}{L : List MemPlace}(h : DataW.LaidVars prog W (("conclave/lines.bounds", Rows.laid_conclave_lines_bounds) :: ("conclave/lines.words", Rows.laid_conclave_lines_words) :: rest) L) : LWTab W ∧ LBTab W := by
 obtain⟨M,S,u,w,O,Q,A,C,b,y,⟨N,T,f,x,P,R,B,D,c,z,_,_⟩,_⟩:=h;obtain rfl:=nL (Uz.symm.trans A);obtain rfl:=nL (PY.symm.trans C);obtain rfl:=nL (Yx.symm.trans B);obtain rfl:=nL (So.symm.trans D);constructor
 .obtain⟨xs,m,_,hx,hl,hxl,hb⟩:=DataW.trod_array underlying76 z;rw[UA]at hb
  simp only[nH]at hx;obtain⟨t,fr,q⟩:=IM Yx c;have o:∀ k:Nat,k<10->(f.toList.drop (k*4)).take 4=[.string (strOfNums (AF (k:Int))),.bool (Cc 0 (k:Int)),.bool (Cc 1 (k:Int)),.bool (Cc 2 (k:Int))]:=λk o=>by
   have g:=YN k o hx.1;rw[ny]at g
   obtain⟨⟨d,p⟩,e,a⟩:=ou.1 g;have l:=hb k o;rw[e]at l
   simp only at a;subst a;exact Xo l
  have r:∀ (i:Nat) (v:Value),f.toList[i]?=some v->W.cell? ⟨0,i,none⟩=some v:=λi v K=>by
   refine(cell_of_row _ _ i _ _ _ q).trans ?_
   rwa [Array.getElem?_toList]at K
  refine⟨(D'.1 q).1,λk h=>?_,λk j h s=>?_⟩
  .rw[ph];exact r _ _ (Ux (o k h)).1
  .rw[ph];obtain⟨_,H,I,J⟩:=Ux (o k h)
   match j,s with
   | 0,_=>exact r _ _ H
   | 1,_=>exact r _ _ I
   | 2,_=>exact r _ _ J
 .obtain⟨xs,m,_,hx,hl,hxl,hb⟩:=DataW.trod_array underlying109 y;rw[dx]at hb
  simp only[nH]at hx;obtain⟨t,fr,q⟩:=IM Uz b;refine⟨(D'.1 q).1,λj s=>(cell_of_row _ _ j _ _ _ q).trans ?_⟩;have g:=YM j s hx.1;rw[ny]at g
  obtain⟨⟨d,p⟩,e,a⟩:=ou.1 g;have l:=hb j s;rw[e]at l
  obtain⟨n,G,F,_⟩:=DataW.trod_int underlying3 l;simp only[nH]at F;obtain⟨rfl,_⟩:=F;simp at a;subst a;have E:((u.toList.drop (j*1)).take 1)[0]?=some (.int .i64 (Eu j)):=by rw[G];rfl
  rw[List.getElem?_take_of_lt (by omega),nN,Array.getElem?_toList,rp,oU]at E
  exact E
def RF:Array Value:=((List.range 10).flatMap λk=>[.string (strOfNums (AF (k:Int))),.bool (Cc 0 (k:Int)),.bool (Cc 1 (k:Int)),.bool (Cc 2 (k:Int))]).toArray
def P9:Array Value:=((List.range 3).map λk=>.int .i64 (Eu k)).toArray
def Hf(cs:Array Value):Obj->Obj
 | .cells _ t frozen=>.cells cs t frozen
 | o=>o
end
end
section
open Go.RowKit
section
def cmA(k c s n v:Int):Array Value:=#[.int .i64 k,.int .i64 c,.int .i64 s,.int .i64 n,.int .i64 v]
def tkA(c r u:Int):Array Value:=#[.int .i64 c,.int .i64 r,.int .i64 u]
def InC(c s n v:Int):Prop:=0<=c/\c<=7/\0<=s/\s<=1048576/\0<=n/\n<=7/\0<=v/\v<=1073741824
instance (c s n v:Int):Decidable (InC c s n v):=by unfold InC;exact inferInstance
def Bb(k c s n v:Int):Int :=
 if ¬ (0<=k/\k<=3)then 4
 else if k=0 then(if c=0/\s=0/\n=0/\v=0 then 0 else 3)
 else if ¬ InC c s n v then 2
 else if 1<k/\v≠0 then 3
 else 0
variable{c k n now r s tc tr tu u v:Int}{g:Nat}{w w':World}
theorem V2(h:¬ (0<=k/\k<=3)):Bb k c s n v=4:=if_pos h
theorem V3(h:c=0/\s=0/\n=0/\v=0):Bb 0 c s n v=0:=by
 unfold Bb;rw[if_neg (by omega),if_pos rfl,if_pos h]
theorem RN(h:¬ (c=0/\s=0/\n=0/\v=0)):Bb 0 c s n v=3:=by
 unfold Bb;rw[if_neg (by omega),if_pos rfl,if_neg h]
theorem RP(h:1<=k/\k<=3)(a:¬ InC c s n v):Bb k c s n v=2:=by
 unfold Bb;rw[if_neg (by omega),if_neg (by omega),if_pos a]
theorem V1(h:2<=k/\k<=3)(a:InC c s n v)(b:v≠0):Bb k c s n v=3:=by
 unfold Bb;rw[if_neg (by omega),if_neg (by omega),if_neg (λg=>g a),if_pos ⟨by omega,b⟩]
theorem Un(h:1<=k/\k<=3)(a:InC c s n v)(b:k=1\/v=0):Bb k c s n v=0:=by
 unfold Bb;rw[if_neg (by omega),if_neg (by omega),if_neg (λg=>g a),if_neg (by omega)]
theorem Gs(h:Bb k c s n v=0):(0<=k/\k<=3)/\InC c s n v:=by
 unfold Bb at h;split at h
 .omega
 .rename_i h1
  split at h
  .split at h
   .rename_i h3
    exact⟨by omega,by unfold InC;omega⟩
   .omega
  .split at h
   .omega
   .rename_i h3
    exact⟨by omega,Classical.not_not.1 h3⟩
def Jc(k c s n v:Int):List Int:=Af k++Af c++Af s++Af n++Af v
theorem FJ(k c s n v:Int):(Jc k c s n v).length=20:=rfl
theorem Nr(k c s n v:Int):∀ x∈Jc k c s n v,0<=x/\x<256:=by
 intro x hx;rcases Z'.1 hx with hx|hx
 .rcases Z'.1 hx with hx|hx
  .rcases Z'.1 hx with hx|hx
   .rcases Z'.1 hx with hx|hx
    .exact AT _ x hx
    .exact AT _ x hx
   .exact AT _ x hx
  .exact AT _ x hx
 .exact AT _ x hx
def Ab(l:List Int)(i:Nat):Int:=16777216*l.getD i 0+65536*l.getD (i+1) 0+256*l.getD (i+2) 0+l.getD (i+3) 0
def Ct(l:List Int):Int:=if l.length≠20 then 1 else Bb (Ab l 0) (Ab l 4) (Ab l 8) (Ab l 12) (Ab l 16)
def Ku(l:List Int):Array Value:=if Ct l=0 then cmA (Ab l 0) (Ab l 4) (Ab l 8) (Ab l 12) (Ab l 16)else cmA 0 0 0 0 0
def Da(c r u:Int):Prop:=(0<=c/\c<=7)/\(0<=r/\r<=7)/\0<=u/\u<=1048576
instance (c r u:Int):Decidable (Da c r u):=by unfold Da;exact inferInstance
def Nh(c r u:Int):Int:=if Da c r u then 0 else 2
theorem KT(h:Da c r u):Nh c r u=0:=if_pos h
theorem UZ(h:¬ Da c r u):Nh c r u=2:=if_neg h
def Oy(k r:Int):Prop:=(k=1/\r/2%2=1)\/(k=2/\r%2=1)\/(k=3/\r/4=1)
instance (k r:Int):Decidable (Oy k r):=by unfold Oy;exact inferInstance
def EA(tc tr tu k c s n v now:Int):Int :=
 if ¬ Da tc tr tu then 2
 else if Bb k c s n v≠0 then Bb k c s n v
 else if ¬ (Oy k tr/\c=tc)then 11
 else if ¬ (0<=now/\now<=tu)then 10
 else 0
theorem X0(h:¬ Da tc tr tu):EA tc tr tu k c s n v now=2:=if_pos h
theorem Xz(h:Da tc tr tu)(a:Bb k c s n v≠0):EA tc tr tu k c s n v now=Bb k c s n v:=by
 unfold EA;rw[if_neg (λg=>g h),if_pos a]
theorem Lb(h:Da tc tr tu)(a:Bb k c s n v=0)(b:¬ (Oy k tr/\c=tc)):EA tc tr tu k c s n v now=11:=by
 unfold EA;rw[if_neg (λg=>g h),if_neg (λg=>g a),if_pos b]
theorem Vn(h:Da tc tr tu)(a:Bb k c s n v=0)(b:Oy k tr/\c=tc)(d:¬ (0<=now/\now<=tu)):EA tc tr tu k c s n v now=10:=by
 unfold EA;rw[if_neg (λg=>g h),if_neg (λg=>g a),if_neg (λg=>g b),if_pos d]
theorem bV(h:Da tc tr tu)(a:Bb k c s n v=0)(b:Oy k tr/\c=tc)(d:0<=now/\now<=tu):EA tc tr tu k c s n v now=0:=by
 unfold EA;rw[if_neg (λg=>g h),if_neg (λg=>g a),if_neg (λg=>g b),if_neg (λg=>g d)]
def KE(c r u:Int):List Int:=c::r::Af u
theorem Ep(c r u:Int):(KE c r u).length=6:=rfl
theorem Ol(h:Da c r u):∀ x∈KE c r u,0<=x/\x<256:=by
 obtain⟨a,b,d⟩:=h;intro x hx;rcases mK.1 hx with rfl|hx
 .omega
 rcases mK.1 hx with rfl|hx
 .omega
 exact AT _ x hx
theorem Uu(a b c d e f g h i j:Int):∀ w,(binOp .eql 64 (.agg #[.int .i64 a,.int .i64 b,.int .i64 c,.int .i64 d,.int .i64 e]) (.agg #[.int .i64 f,.int .i64 g,.int .i64 h,.int .i64 i,.int .i64 j])).run prog w=.ok (.bool (decide (a=f/\b=g/\c=h/\d=i/\e=j))) w:=by
 intro w;rw[run_eql_struct,run_equalIn_agg w 9999 _ _ _ (by kernel_rfl) (by kernel_rfl)];unfold Program.fieldsOf;rw[underlying64];have k:=underlying3;simp[Op.eqFields,go_sem,k]
 repeat' split
 all_goals simp_all
theorem dN(a b c d e f g h i j:Int):∀ w,(binOp .neq 64 (.agg #[.int .i64 a,.int .i64 b,.int .i64 c,.int .i64 d,.int .i64 e]) (.agg #[.int .i64 f,.int .i64 g,.int .i64 h,.int .i64 i,.int .i64 j])).run prog w=.ok (.bool (!decide (a=f/\b=g/\c=h/\d=i/\e=j))) w:=by
 intro w;rw[run_neq_struct,run_equalIn_agg w 9999 _ _ _ (by kernel_rfl) (by kernel_rfl)];unfold Program.fieldsOf;rw[underlying64];have k:=underlying3;simp[Op.eqFields,go_sem,k]
 repeat' split
 all_goals simp_all
theorem EC{a:TypeId}{fr:Nat × Nat}(h:w.heap[g]?=some (.cells (cmA k c s n v) a fr)) :
  w.cell? ⟨g,0,none⟩=some (.int .i64 k)/\w.cell? ⟨g,1,none⟩=some (.int .i64 c)/\w.cell? ⟨g,2,none⟩=some (.int .i64 s)/\w.cell? ⟨g,3,none⟩=some (.int .i64 n)/\w.cell? ⟨g,4,none⟩=some (.int .i64 v) :=
 ⟨cell_of_row _ _ 0 _ _ _ h,cell_of_row _ _ 1 _ _ _ h,cell_of_row _ _ 2 _ _ _ h,cell_of_row _ _ 3 _ _ _ h,cell_of_row _ _ 4 _ _ _ h⟩
theorem dm(c s n v:Int):InC c s n v↔(((0<=c/\c<=7)/\(0<=s/\s<=1048576))/\(0<=n/\n<=7))/\(0<=v/\v<=1073741824):=by unfold InC;omega
structure Bc(w:World)(g:Nat)(k c s n v:Int):Prop where
 lt:g<w.heap.size
 row:w.heap[g]?=some (.cells (cmA k c s n v) 64)
theorem Bc.made(w:World)(k c s n v:Int):Bc (w.alloc (.cells (cmA k c s n v) 64)) w.heap.size k c s n v:=⟨by simp,heap_alloc_new _ _⟩
theorem Bc.ab(h:Bc w g k c s n v)(a:Bw w w'):Bc w' g k c s n v :=
 ⟨X' h.lt a.size,(a.block g h.lt).trans h.row⟩
theorem Gt(k c s n v:Int):(prog.info? 64).map (·.size)=some (cmA k c s n v).size:=by show _=some 5;kernel_rfl
def NT:List Int:=[0,0,0,2,7,1073741824,1,7,0,4,7,0]
structure NTab(w:World):Prop where
 lt:3<w.heap.size
 cell:∀ i,i<12->w.cell? ⟨3,i,none⟩=some (.int .i64 (NT.getD i 0))
theorem NTab.ab(h:NTab w)(a:Bw w w'):NTab w' :=
 ⟨X' h.lt a.size,λi b=>(a.cell (p:=⟨3,i,none⟩) h.lt).trans (h.cell i b)⟩
theorem EU(n g:Int)(w:World) :
  Calls prog 148 #[.int .i64 n,.int .i64 g] w λe w'=>e=.returned (.bool (decide (0<=n/\n<=g)))/\w'=w:=by
 by_cases a:0<=n
 .by_cases h1:n<=g
  .rw[N' ⟨a,h1⟩];go_enter func148,ntmps148
   go_wp2
   go_ret;exact⟨Aj (by simp),rfl⟩
  .rw[G' (by omega)];go_enter func148,ntmps148
   go_wp2
   go_ret;exact⟨Aj (by simp),rfl⟩
 .rw[G' (by omega)];go_enter func148,ntmps148
  go_wp2
  go_ret;exact⟨Aj (by simp),rfl⟩
theorem IL{g:Int}{b:Bool}(h:Hid (decide (0<=n/\n<=g)=b))(w:World) :
  Calls prog 148 #[.int .i64 n,.int .i64 g] w λe w'=>e=.returned (.bool b)/\w'=w:=by
 rw[<- h.out];exact EU n g w
theorem S5(k:Int)(w:World) :
  Calls prog 152 #[.int .i64 k] w λe w'=>e=.returned (.bool (decide (0<=k/\k<=3)))/\w'=w:=by
 go_enter func152,ntmps152
 go_wp2_with fail
 refine(EU k 3 _).mono ?_;rintro e a ⟨rfl,rfl⟩;go_wp2
 go_ret;exact⟨Aj (by simp),rfl⟩
theorem Zk(c s n v:Int)(w:World) :
  Calls prog 153 #[.agg (cmA 0 c s n v)] w λe w'=>e=.returned (.int .i64 (Bb 0 c s n v))/\Bw w w':=by
 have a:Bw w (w.alloc (.cells (cmA 0 c s n v) 64)):=(Below.refl _ _).alloc (A' _) _;simp only[cmA]at a ⊢;have b:=dN 0 c s n v 0 0 0 0 0;by_cases h:c=0/\s=0/\n=0/\v=0
 .have HE:Hid (0=Bb 0 c s n v):=(V3 h).symm;rw[N' ⟨rfl,h⟩]at b
  clear h;go_enter func153,ntmps153
  go_wp2
  go_ret;exact⟨Bu HE.out,a⟩
 .have HE:Hid (3=Bb 0 c s n v):=(RN h).symm;rw[G' (λg=>h g.2)]at b
  clear h;go_enter func153,ntmps153
  go_wp2
  go_ret;exact⟨Bu HE.out,a⟩
theorem NTab.name(h:NTab w)(k:Nat)(a:1<=k)(b:k<=3):w.cell? ⟨3,k*3+1,none⟩=some (.int .i64 7):=by
 rcases(by omega:k=1\/k=2\/k=3)with rfl|rfl|rfl
 .exact h.cell 4 (by omega)
 .exact h.cell 7 (by omega)
 .exact h.cell 10 (by omega)
theorem OH(k c s n v:Int)(w:World)(r:1<=k/\k<=3)(p:NTab w) :
  Calls prog 154 #[.agg (cmA k c s n v)] w λe w'=>e=.returned (.bool (decide (InC c s n v)))/\Bw w w':=by
 have f:Bw w (w.alloc (.cells (cmA k c s n v) 64)):=(Below.refl _ _).alloc (A' _) _;have l:=(p.ab f).name;have o:=heap_alloc_new w (.cells (cmA k c s n v) 64);simp only[cmA]at f l o ⊢;obtain⟨m,rfl⟩:=nh (show 0<=k by omega);replace l:=l m (by omega) (by omega);have y:(0:Int)<=(m:Int):=by omega
 have z:(m:Int)<4:=by omega
 have A:m<4:=by omega
 clear r p;have a:Hid (InC c s n v↔_):=dm c s n v;generalize q:w.alloc (.cells #[.int .i64 (m:Int),.int .i64 c,.int .i64 s,.int .i64 n,.int .i64 v] 64)=W at f l o;go_enter func154,ntmps154
 go_wp2_with fail
 clear q;obtain⟨c0,c1,t,u,x⟩:=EC o;clear o;by_cases d:0<=c/\c<=7
 .have U1:Hid (decide _=true):=N' d;by_cases h:0<=s/\s<=1048576
  .have U2:Hid (decide _=true):=N' h;by_cases i:0<=n/\n<=7
   .have U3:Hid (decide _=true):=N' i;by_cases j:0<=v/\v<=1073741824
    .have U4:Hid (decide _=true):=N' j;have b:Hid (true=decide (InC c s n v)):=(N' (a.out.2 ⟨⟨⟨d,h⟩,i⟩,j⟩)).symm;clear d h i j a;go_quiet ((go_at_call 148;exact Calls.quiet_of_same (IL (by assumption) _)))
     go_wp2
     go_ret;exact⟨Aj b.out,Ak f nq⟩
    .have U4:Hid (decide _=false):=G' j;have b:Hid (false=decide (InC c s n v)):=(G' (λG=>j ((λg=>g.2) (a.out.1 G)))).symm;clear d h i j a;go_quiet ((go_at_call 148;exact Calls.quiet_of_same (IL (by assumption) _)))
     go_wp2
     go_ret;exact⟨Aj b.out,Ak f nq⟩
   .have U3:Hid (decide _=false):=G' i;have b:Hid (false=decide (InC c s n v)):=(G' (λG=>i ((λg=>g.1.2) (a.out.1 G)))).symm;clear d h i a;go_quiet ((go_at_call 148;exact Calls.quiet_of_same (IL (by assumption) _)))
    go_wp2
    go_ret;exact⟨Aj b.out,Ak f nq⟩
  .have U2:Hid (decide _=false):=G' h;have b:Hid (false=decide (InC c s n v)):=(G' (λG=>h ((λg=>g.1.1.2) (a.out.1 G)))).symm;clear d h a;go_quiet ((go_at_call 148;exact Calls.quiet_of_same (IL (by assumption) _)))
   go_wp2
   go_ret;exact⟨Aj b.out,Ak f nq⟩
 .have U1:Hid (decide _=false):=G' d;have b:Hid (false=decide (InC c s n v)):=(G' (λG=>d ((λg=>g.1.1.1) (a.out.1 G)))).symm;clear d a;go_quiet ((go_at_call 148;exact Calls.quiet_of_same (IL (by assumption) _)))
  go_wp2
  go_ret;exact⟨Aj b.out,Ak f nq⟩
end
end
end Go.Proofs.YtdjfdfpkkenjbabGreatDoor
