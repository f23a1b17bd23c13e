/- Part 2 of the walk. -/
import Derived.Deep.MidRow
import Derived.Laws.Tables
import Derived.Laws.Rows
import Derived.Deep.RegionLaw
import Derived.Deep.RegionHeld3
import Derived.Laws.CopyRow
import Derived.Deep.Cut
import Derived.Laws.Strings2
import Derived.Test.YtgbabbapcibnlaaGreatDoorCards
import Derived.Test.YtgbabbapcibnlaaGreatDoorTie
import Derived.SizedLaws
import Derived.ChangeOld
import Derived.ChangeSame
import Derived.ChangeMaps5
import Derived.Deep.DeepHandedRow
import Derived.Lib.LaidTab
import Derived.Deep.Strs
import Derived.Test.YtgbabbapcibnlaaGreatDoorZ1
set_option maxRecDepth 100000
set_option maxHeartbeats 4000000
open Go.Proofs.Tryz
set_option linter.unusedVariables false
namespace Go.Proofs.YtgbabbapcibnlaaGreatDoor
section
open Go.RowKit
section
theorem BM{a b:Int}(h:a=b):Ending.returned (.int .i64 a)=.returned (.int .i64 b):=by rw[h]
def chA(k:Value)(s t:Int)(l:List Bool):Array Value:=(k::.int .i64 s::.int .i64 t::l.map Value.bool).toArray
theorem Gp(k:Value)(s t:Int)(l:List Bool):(chA k s t l).size=l.length+3:=by simp[chA]
theorem Ur(k:Value)(s t:Int)(l:List Bool):(chA k s t l)[0]?=some k:=by simp[chA]
theorem Qe(k:Value)(s t:Int)(l:List Bool):(chA k s t l)[1]?=some (.int .i64 s):=by simp[chA]
theorem Hx(l:List Bool)(a:l.length=8):∃ b0 b1 b2 b3 b4 b5 b6 b7,l=[b0,b1,b2,b3,b4,b5,b6,b7]:=by
 match l,a with
 | [b0,b1,b2,b3,b4,b5,b6,b7],_=>exact⟨b0,b1,b2,b3,b4,b5,b6,b7,rfl⟩
variable{b0 b1 b2 b3 b4 b5 b6 b7:Bool}{fr:Nat × Nat}{g:Nat}{h:List Int}{l:List Bool}{n t:Int}{ty:TypeId}{w:World}
theorem V4{k:Value}{s:Int}(h:w.heap[g]?=some (.cells (chA k s t [b0,b1,b2,b3,b4,b5,b6,b7]) ty fr)) :
  w.cell? ⟨g,0,none⟩=some k/\w.cell? ⟨g,1,none⟩=some (.int .i64 s)/\w.cell? ⟨g,2,none⟩=some (.int .i64 t)/\w.cell? ⟨g,3,none⟩=some (.bool b0)/\w.cell? ⟨g,4,none⟩=some (.bool b1)/\w.cell? ⟨g,5,none⟩=some (.bool b2)/\w.cell? ⟨g,6,none⟩=some (.bool b3)/\w.cell? ⟨g,7,none⟩=some (.bool b4)/\w.cell? ⟨g,8,none⟩=some (.bool b5)/\w.cell? ⟨g,9,none⟩=some (.bool b6)/\w.cell? ⟨g,10,none⟩=some (.bool b7) :=
 ⟨cell_of_row _ _ 0 _ _ _ h,cell_of_row _ _ 1 _ _ _ h,cell_of_row _ _ 2 _ _ _ h,cell_of_row _ _ 3 _ _ _ h,cell_of_row _ _ 4 _ _ _ h,cell_of_row _ _ 5 _ _ _ h,cell_of_row _ _ 6 _ _ _ h,cell_of_row _ _ 7 _ _ _ h,cell_of_row _ _ 8 _ _ _ h,cell_of_row _ _ 9 _ _ _ h,cell_of_row _ _ 10 _ _ _ h⟩
def wA(t:Int)(l:List Bool):Array Value:=(.int .i64 t::l.map Value.bool).toArray
theorem Eb(t:Int)(l:List Bool):(wA t l).size=l.length+1:=by simp[wA]
theorem j8(t:Int)(l:List Bool):(wA t l)[0]?=some (.int .i64 t):=by simp[wA]
theorem Lt(t:Int)(l:List Bool)(i:Nat)(a:i<l.length):(wA t l)[1+i]?=some (.bool (l.getD i false)):=by
 rw[qM];simp[wA,List.getD,List.getElem?_eq_getElem a]
theorem PP(t:Int)(l:List Bool):(wA t l).all (·.oneCell')=true:=by simp[wA,Value.oneCell']
theorem Nf(h:w.heap[g]?=some (.cells (wA t [b0,b1,b2,b3,b4,b5,b6,b7]) ty fr)) :
  w.cell? ⟨g,0,none⟩=some (.int .i64 t)/\w.cell? ⟨g,1,none⟩=some (.bool b0)/\w.cell? ⟨g,2,none⟩=some (.bool b1)/\w.cell? ⟨g,3,none⟩=some (.bool b2)/\w.cell? ⟨g,4,none⟩=some (.bool b3)/\w.cell? ⟨g,5,none⟩=some (.bool b4)/\w.cell? ⟨g,6,none⟩=some (.bool b5)/\w.cell? ⟨g,7,none⟩=some (.bool b6)/\w.cell? ⟨g,8,none⟩=some (.bool b7) :=
 ⟨cell_of_row _ _ 0 _ _ _ h,cell_of_row _ _ 1 _ _ _ h,cell_of_row _ _ 2 _ _ _ h,cell_of_row _ _ 3 _ _ _ h,cell_of_row _ _ 4 _ _ _ h,cell_of_row _ _ 5 _ _ _ h,cell_of_row _ _ 6 _ _ _ h,cell_of_row _ _ 7 _ _ _ h,cell_of_row _ _ 8 _ _ _ h⟩
def QK(t:Int)(l:List Bool)(x:Int):Bool:=decide (t-8<=x)&&decide (x<t)&&l.getD (x-(t-8)).toNat false
theorem Pp(t:Int)(l:List Bool)(k:Nat)(a:k<8):QK t l (t-8+k)=l.getD k false:=by
 unfold QK;rw[O' (by omega),O' (by omega),show(t-8+(k:Int)-(t-8)).toNat=k by omega];simp
theorem UM{x:Int}(h:t<=x):QK t l x=false:=by
 unfold QK;rw[E' (show ¬ x<t by omega)];simp
structure OkC(key:List Int)(s t:Int)(l:List Bool):Prop where
 key:key.length=32
 s0:0<=s
 s1:s<=1073741824
 t0:0<=t
 t1:t<=1073741824
 low:∀ i:Nat,i<8->l.getD i false=true->0<=t-8+(i:Int)
 top:t=0\/l.getD 7 false=true
theorem eg(key:List Int)(s t:Int)(l:List Bool):OkC key s t l↔(key.length=32/\0<=s/\s<=1073741824/\0<=t/\t<=1073741824/\(∀ i,i<8->l.getD i false=true->0<=t-8+(i:Int))/\(t=0\/l.getD 7 false=true)) :=
 ⟨λh=>⟨h.1,h.2,h.3,h.4,h.5,h.6,h.7⟩,λh=>⟨h.1,h.2.1,h.2.2.1,h.2.2.2.1,h.2.2.2.2.1,h.2.2.2.2.2.1,h.2.2.2.2.2.2⟩⟩
instance (key:List Int) (s t:Int) (l:List Bool):Decidable (OkC key s t l):=decidable_of_iff _ (eg key s t l).symm
def Tc(t:Int)(l:List Bool):Bool:=((List.range 8).all λi=>!l.getD i false||decide (0<=t-8+(i:Int)))&&(decide (t=0)||l.getD 7 false)
theorem G1(t:Int)(l:List Bool):Tc t l=true↔((∀ i:Nat,i<8->l.getD i false=true->0<=t-8+(i:Int))/\(t=0\/l.getD 7 false=true)):=by
 unfold Tc;rw[mU,pf,nP];constructor
 .rintro⟨h1,h2⟩;refine⟨λi b a=>?_,h2.imp mZ id⟩;have h:=h1 i (oc.2 b);rw[a]at h
  simpa using h
 .rintro⟨h1,h2⟩;refine⟨λi b=>?_,h2.imp O' id⟩;cases a:l.getD i false with
  | true=>simpa using h1 i (oc.1 b) a
  | false=>rfl
def EW(key:List Int)(s t:Int)(l:List Bool):Int:=if OkC key s t l then 0 else 5
def Io(t:Int)(l:List Bool)(n:Int):Bool:=decide (n<t)&&(decide (n<t-8)||QK t l n)
def Hs(t n:Int):Int:=if t<=n then n+1 else t
def KT(t:Int)(l:List Bool)(n:Int):List Bool:=(List.range 8).map λk:Nat=>decide (Hs t n-8+(k:Int)=n)||QK t l (Hs t n-8+(k:Int))
theorem EP(t:Int)(l:List Bool)(n:Int):(KT t l n).length=8:=by simp[KT]
theorem Vd(t:Int)(l:List Bool)(n:Int)(k:Nat)(a:k<8):(KT t l n).getD k false=(decide (Hs t n-8+(k:Int)=n)||QK t l (Hs t n-8+(k:Int))):=by
 simp[KT,List.getD,a]
def noB:List Bool:=List.replicate 8 false
theorem Im:noB.length=8:=rfl
theorem iN(k:Nat):noB.getD k false=false:=by
 rw[noB,nu,List.getElem?_replicate];split<;>rfl
theorem OkC.new{key:List Int}(c:key.length=32)(s:Int)(a:0<=s)(b:s<=1073741824):OkC key s 0 noB :=
 ⟨c,a,b,by omega,by omega,(λi _ h=>by rw[iN]at h;exact absurd h (by simp)),.inl rfl⟩
theorem UP(h:t<=n):Io t l n=false:=by unfold Io;rw[E' (by omega)];simp
theorem eh(h:t-8<=n):Io t l n=QK t l n:=by
 by_cases a:n<t
 .unfold Io;rw[O' a,E' (show ¬ n<t-8 by omega)];simp
 .rw[UP (by omega),UM (by omega)]
theorem QU(h:n<t-8):Io t l n=true:=by unfold Io;rw[O' (show n<t by omega),O' h];simp
def Ad(n:Int):List Int:=[n/16777216%256,n/65536%256,n/256%256,n%256]
def BI(h:List Int):List Int:=List.replicate 8 0++h
def FL(h:List Int):Int:=16777216*h.getD 0 0+65536*h.getD 1 0+256*h.getD 2 0+h.getD 3 0
theorem CI(n:Int):(Ad n).length=4:=rfl
theorem Bb(n:Int):∀ x∈Ad n,0<=x/\x<256:=by
 intro x a;simp only[Ad,mJ,P',or_false]at a;rcases a with rfl|rfl|rfl|rfl<;>omega
theorem Hy(a:h.length=4):(BI h).length=12:=by simp[BI,a]
theorem QS(a:∀ x∈h,0<=x/\x<256):∀ x∈BI h,0<=x/\x<256:=by
 intro x b;rcases U'.1 b with h1|h1
 .rw[(pD.1 h1).2];omega
 .exact a x h1
theorem lW(h:List Int)(e:h.length=4):∃ a b c d,h=[a,b,c,d]:=by
 match h,e with
 | [a,b,c,d],_=>exact⟨a,b,c,d,rfl⟩
theorem Mm(f:h.length=4)(e:∀ x∈h,0<=x/\x<256):0<=FL h/\FL h<4294967296:=by
 obtain⟨a,b,c,d,rfl⟩:=lW h f;have g:=e a (by simp);have i:=e b (by simp);have j:=e c (by simp);have k:=e d (by simp);show 0<=16777216*a+65536*b+256*c+d/\16777216*a+65536*b+256*c+d<4294967296;omega
theorem KB(a:l.length=8):(prog.info? 226).map (·.size)=some (wA t l).size:=by rw[Eb,a];kernel_rfl
theorem Jd{P:Program}{f:Func}{p u:Tmp}{c:TypeId}(h:f.results=#[.cell p c,.tmp u])(a:Array Value)(w:World)(g:Nat)(t:TypeId)(b:Array Value)(fr:Nat × Nat)(d:TypeDesc)(l:a.getD p undef=.pointer (some ⟨g,0,none⟩))(j:w.heap[g]?=some (.cells b t fr))(m:P.underlying c=some d)(i:(match d with|.struct _|.array _ _=>true|_=>false)=true)(k:(P.info? c).map (·.size)=some b.size) :
  (results f a).run P w=.ok (.tuple #[.agg b,a.getD u undef]) w:=by
 have e:a[p]?.getD undef=.pointer (some ⟨g,0,none⟩):=by simpa using l
 simp[results,h,e,asAddr,run_loadVar_row w g t c b fr d j m i k]
theorem FR{P:Program}{f:Func}{p u v:Tmp}{c:TypeId}(h:f.results=#[.cell p c,.tmp u,.tmp v])(a:Array Value)(w:World)(g:Nat)(t:TypeId)(b:Array Value)(fr:Nat × Nat)(d:TypeDesc)(l:a.getD p undef=.pointer (some ⟨g,0,none⟩))(j:w.heap[g]?=some (.cells b t fr))(m:P.underlying c=some d)(i:(match d with|.struct _|.array _ _=>true|_=>false)=true)(k:(P.info? c).map (·.size)=some b.size) :
  (results f a).run P w=.ok (.tuple #[.agg b,a.getD u undef,a.getD v undef]) w:=by
 have e:a[p]?.getD undef=.pointer (some ⟨g,0,none⟩):=by simpa using l
 simp[results,h,e,asAddr,run_loadVar_row w g t c b fr d j m i k]
def blA(l:List Bool):Array Value:=(l.map Value.bool).toArray
theorem to8{j:Nat}(h:j<8):j=0\/j=1\/j=2\/j=3\/j=4\/j=5\/j=6\/j=7:=by omega
theorem XI(S:List Bool)(a:S.length=8)(j:Nat)(b:j<8):∀ w,(Instr.index 85 (.agg (blA S)) (.int .i64 (j:Int))).run prog w=.ok (.bool (S.getD j false)) w:=by
 intro w;obtain⟨b0,c,d,e,f,g,h,i,rfl⟩:=Hx S a;rcases to8 b with rfl|rfl|rfl|rfl|rfl|rfl|rfl|rfl;all_goals kernel_rfl
theorem FZ(k:Value)(s t:Int)(l:List Bool)(w:World)(i:l.length=8) :
  Calls prog 147 #[.agg (chA k s t l)] w λe w'=>e=.returned (.agg (wA t l))/\Bw w w':=by
 obtain⟨b0,a,b,c,d,f,g,h,rfl⟩:=Hx l i;simp only[chA,wA,List.map];go_enter func147,ntmps147
 go_wp2
 exact bodyPost_ret (v:=.agg (wA t [b0,a,b,c,d,f,g,h])) (results_cell_row rfl _ _ (w.heap.size+1) 226 _ (0,0) _ rfl (heap_alloc2_new _ _ _) underlying226 rfl (KB rfl)) rfl ⟨rfl,((Below.refl _ _).alloc (A' _) _).alloc (by simp) _⟩
theorem Ep(t:Int)(l:List Bool)(w:World)(a:l.length=8)(j:-1000<=t)(k:t<=4611686018427387904) :
  Calls prog 172 #[.agg (wA t l)] w λe w'=>e=.returned (.int .i64 (t-8))/\Bw w w':=by
 obtain⟨b0,b,c,d,f,g,h,i,rfl⟩:=Hx l a;simp only[wA,List.map];go_enter func172,ntmps172
 go_wp2
 go_ret;exact⟨rfl,(Below.refl _ _).alloc (A' _) _⟩
theorem VY(t n:Int)(l:List Bool)(w:World)(v:l.length=8)(P:0<=t)(Q:t<=1073741824)(N:0<=n)(O:n<1073741824) :
  Calls prog 195 #[.agg (wA t l),.int .i64 n] w λe w'=>e=.returned (.bool (Io t l n))/\Bw w w':=by
 have K:=v;obtain⟨b0,b,d,f,g,h,j,k,rfl⟩:=Hx l v;simp only[wA,List.map];by_cases H:t<=n
 .have m:Hid (false=Io t [b0,b,d,f,g,h,j,k] n):=(UP H).symm;go_enter func195,ntmps195
  go_wp2
  go_ret;exact⟨Am m.out,(Below.refl _ _).alloc (A' _) _⟩
 .have hb:Bw w (w.alloc (.cells (wA t [b0,b,d,f,g,h,j,k]) 226)):=(Below.refl _ _).alloc (A' _) _;go_enter func195,ntmps195
  go_wp2_with fail
  have a:(w.alloc (.cells (wA t [b0,b,d,f,g,h,j,k]) 226)).heap[w.heap.size]?=some (.cells (wA t [b0,b,d,f,g,h,j,k]) 226 (0,0)):=heap_alloc_new _ _;refine(Ep t [b0,b,d,f,g,h,j,k] _ rfl (by omega) (by omega)).mono ?_;rintro e x ⟨rfl,c1⟩;have q:Bw w x:=hb.trans (c1.mono (by simp));replace a:=(c1.block w.heap.size (by simp)).trans a;clear hb c1;by_cases I:n<t-8
  .have m:Hid (true=Io t [b0,b,d,f,g,h,j,k] n):=(QU I).symm;go_wp2
   go_ret;exact⟨Am m.out,q⟩
  .have h3:n<t:=by omega
   obtain⟨i,u,s⟩:∃ i:Nat,i<8/\n=t-8+(i:Int):=⟨(n-(t-8)).toNat,by omega,by omega⟩;have m:Hid (Io t [b0,b,d,f,g,h,j,k] n=[b0,b,d,f,g,h,j,k].getD i false):=by
    unfold Hid;rw[eh (by omega),s,Pp _ _ _ u]
   have y:Hid (n=t-8+(i:Int)):=s;have o:=(cell_of_row _ _ (1+i) _ _ _ a).trans (Lt t _ i u);obtain⟨c0,c1,z,A,B,C,D,E,F⟩:=Nf a;have L:w.heap.size<x.heap.size:=(Q'.1 a).1;clear s;generalize [b0,b,d,f,g,h,j,k].getD i false=c at o m;go_wp2_with fail
   refine(Ep t [b0,b,d,f,g,h,j,k] _ rfl (by omega) (by omega)).mono ?_;rintro e M ⟨rfl,r⟩;have G:Bw w M:=q.trans (r.mono q.size);replace o:=(r.cell (p:=⟨w.heap.size,1+i,none⟩) L).trans o;have J:n-(t-8)=(i:Int):=by have:=y.out;omega
   clear c0 c1 z A B C D E F a r;go_wp2
   go_ret;exact⟨Am (by rw[m.out,E' (by omega),pG]),G⟩
theorem Wl(t:Int)(l:List Bool)(w:World)(C:l.length=8)(T:0<=t)(U:t<=1073741824) :
  Calls prog 148 #[.agg (wA t l)] w λe w'=>e=.returned (.bool (Tc t l))/\Bw w w':=by
 have u:Hid (∀ i:Nat,i<8->∀ w,(Instr.index 85 (.agg (blA l)) (.int .i64 (i:Int))).run prog w=.ok (.bool (l.getD i false)) w):=λi A=>XI l C i A;obtain⟨b0,b,c,d,f,g,k,b7,rfl⟩:=Hx l C;simp only[wA,blA,List.map]at u ⊢;go_enter func148,ntmps148
 go_wp2_with fail
 have o:(w.alloc (.cells (wA t [b0,b,c,d,f,g,k,b7]) 226)).heap[w.heap.size]?=some (.cells (wA t [b0,b,c,d,f,g,k,b7]) 226 (0,0)):=heap_alloc_new _ _;have s:(w.alloc (.cells (wA t [b0,b,c,d,f,g,k,b7]) 226)).heap.size=w.heap.size+1:=by simp
 have q:Bw w (w.alloc (.cells (wA t [b0,b,c,d,f,g,k,b7]) 226)):=(Below.refl _ _).alloc (A' _) _;simp only[wA,List.map]at o s q;generalize w.alloc (.cells #[.int .i64 t,.bool b0,.bool b,.bool c,.bool d,.bool f,.bool g,.bool k,.bool b7] 226)=W0 at o s q ⊢;generalize (#[.bool b0,.bool b,.bool c,.bool d,.bool f,.bool g,.bool k,.bool b7]:Array Value)=S at u ⊢
 go_loopw [7] (λiv wr=>∃ i:Nat,i<=8/\iv=.int .i64 i/\Hid (∀ j:Nat,j<i->[b0,b,c,d,f,g,k,b7].getD j false=true->0<=t-8+(j:Int))/\Below (w.heap.size+1) W0 wr) (λiv _=>8-(intOf iv).toNat)
 case atStart=>exact⟨0,by omega,rfl,λj B=>by omega,Below.refl _ _⟩
 case round =>
  obtain⟨i,A,rfl,n,a⟩:=hrel;have v:=(a.block w.heap.size (by omega)).trans o;obtain⟨c0,c1,H,I,J,K,L,M,N⟩:=Nf v;have x:Bw w wr:=q.trans (a.mono (by omega));have R:=a.size;by_cases r:i<8
  .have hii:(i:Int)<8:=by omega
   have E:=u.out i r;cases hb:[b0,b,c,d,f,g,k,b7].getD i false with
   | true =>
    rw[hb]at E
    have p:Hid ([b0,b,c,d,f,g,k,b7].getD i false=true):=hb;clear hb v;go_wp2_with fail
    refine(Ep t [b0,b,c,d,f,g,k,b7] _ rfl (by omega) (by omega)).mono ?_;rintro e F ⟨rfl,y⟩;have O:Bw w F:=x.trans (y.mono x.size);have z:Below (w.heap.size+1) W0 F:=a.trans (y.mono (by omega));clear c0 c1 H I J K L M N y a;by_cases D:t-8+(i:Int)<0
    .have HF:Hid (false=Tc t [b0,b,c,d,f,g,k,b7]):=by
      unfold Hid;symm;rw[pl];intro P;have:=((G1 _ _).1 P).1 i r p.out;omega
     go_wp2
     go_ret;exact⟨Am HF.out,O⟩
    .go_wp2
     go_roundw
     case rel =>
      refine⟨i+1,by omega,by go_num,?_,z⟩;intro j B m;rcases nw j i with h|h
      .exact n.out j h m
      .obtain rfl:j=i:=by omega
       omega
     case measure=>simp[intOf];omega
   | false =>
    rw[hb]at E
    have p:Hid ([b0,b,c,d,f,g,k,b7].getD i false=false):=hb;clear hb v;go_wp2
    go_roundw
    case rel =>
     refine⟨i+1,by omega,by go_num,?_,a⟩;intro j B m;rcases nw j i with h|h
     .exact n.out j h m
     .obtain rfl:j=i:=by omega
      rw[p.out]at m
      cases m
    case measure=>simp[intOf];omega
  .obtain rfl:i=8:=by omega
   rw[show((8:Nat):Int)=8 from rfl];have G:Hid ((decide (t=0)||b7)=Tc t [b0,b,c,d,f,g,k,b7]):=by
    unfold Hid;rw[qP,G1,pf];constructor
    .intro h;exact⟨n.out,h.imp mZ id⟩
    .intro h;exact h.2.imp O' id
   clear v u;go_wp2
   all_goals
    rename_i Q
    go_ret;refine⟨Am ?_,x⟩;rw[<- G.out];simp[Q]
theorem YO:(prog.info? 4).map (·.size)=some 1:=by kernel_rfl
theorem jp(w:World):(Go.sizeOf 4).run prog w=.ok 1 w:=by
 have h:=YO;cases hi:prog.info? 4 with
 | none=>rw[hi]at h;cases h
 | some i =>
  rw[hi]at h
  simp only[nD,X']at h;simp[sizeOf,typeInfo,hi,h]
theorem XC(B d:Nat)(b:d<=8):∃ ad,(∀ W,(Instr.sliceAt 85 (.pointer (some ⟨B,1,none⟩)) (some (.int .i64 (d:Int))) none none).run prog W=.ok (.slice (some ad) (8-d) (8-d)) W)/\(0<8-d->ad=⟨B,1+d,none⟩):=by
 refine⟨if 8=d then⟨B,1,none⟩else(⟨B,1,none⟩:Addr).add (d*1),λW=>?_,λh=>?_⟩
 .have e1:prog.arrayLen 85=8:=by kernel_rfl
  have a:prog.elem 85=4:=by kernel_rfl
  rw[run_sliceAt_array_l (P:=prog) W 85 _ underlying85 .i64 _ (by omega) (by rw[e1];omega),e1,a,jp];simp[Result.andThen,slicedAt]
 .rw[if_neg (by omega),Nat.mul_one];exact Addr.add_mid B 1 d
theorem YI(w:World)(a b c:Obj):(((w.alloc a).alloc b).alloc c).heap[w.heap.size]?=some a/\(((w.alloc a).alloc b).alloc c).heap[w.heap.size+1]?=some b/\(((w.alloc a).alloc b).alloc c).heap[w.heap.size+1+1]?=some c:=by
 have d:Below ((w.alloc a).alloc b).heap.size ((w.alloc a).alloc b) (((w.alloc a).alloc b).alloc c):=(Below.refl _ _).alloc (A' _) _;have f:((w.alloc a).alloc b).heap.size=w.heap.size+1+1:=by simp
 have e:=heap_alloc_new ((w.alloc a).alloc b) c;rw[f]at e d
 exact⟨(d.block _ (by omega)).trans (heap_alloc2_old _ _ _),(d.block _ (by omega)).trans (heap_alloc2_new _ _ _),e⟩
theorem Xx(n:Int)(l:List Bool)(a:l.length=8)(d:Nat)(j:1<=d)(k:d<=8):(splice [.int .i64 n,.bool false,.bool false,.bool false,.bool false,.bool false,.bool false,.bool false,.bool false] 1 ((l.drop d).map Value.bool)).toArray=wA n (l.drop d++List.replicate d false):=by
 obtain⟨b0,b,c,e,f,g,h,i,rfl⟩:=Hx l a;have:d=1\/d=2\/d=3\/d=4\/d=5\/d=6\/d=7\/d=8:=by omega
 rcases this with rfl|rfl|rfl|rfl|rfl|rfl|rfl|rfl<;>rfl
theorem TD(t n:Int)(l:List Bool)(w:World)(N:l.length=8)(X:0<=t)(Y:t<=1073741824)(V:t<n)(W:n<=1073741824)(d:Nat)(L:d=min (n-t).toNat 8) :
  Calls prog 197 #[.agg (wA t l),.int .i64 n] w λe w'=>e=.returned (.agg (wA n (l.drop d++List.replicate d false)))/\Bw w w':=by
 obtain⟨b0,a,b,c,f,g,h,i,rfl⟩:=Hx l N;simp only[wA,List.map];go_enter func197,ntmps197
 have S:(if 8<n-t then 8 else n-t)=(d:Int):=by split<;>omega
 have Q:IntKind.i64.wrap (n-t)=n-t:=by rw[IntKind.wrap_i64];omega
 have o:1<=d/\d<=8:=by omega
 obtain⟨ad,O,r⟩:=XC w.heap.size d (by omega);clear L;have B:Hid (∀ w':World,Below (w.heap.size+1+1) (((w.alloc (.cells (wA t [b0,a,b,c,f,g,h,i]) 226)).alloc (.cells (wA 0 [false,false,false,false,false,false,false,false]) 226)).alloc (.cells (wA n [false,false,false,false,false,false,false,false]) 226)).drew w'->Bw w w'/\w'.heap[w.heap.size+1]?=some (.cells (wA 0 [false,false,false,false,false,false,false,false]) 226 (0,0))):=by
  intro w' E;obtain⟨_,J,_⟩:=YI w (.cells (wA t [b0,a,b,c,f,g,h,i]) 226) (.cells (wA 0 [false,false,false,false,false,false,false,false]) 226) (.cells (wA n [false,false,false,false,false,false,false,false]) 226);refine⟨((((Below.refl _ _).alloc (A' _) _).alloc (by simp) _).alloc (by simp;omega) _).drew.trans (E.mono (by omega)),?_⟩;exact(E.block (w.heap.size+1) (by omega)).trans J
 have z:Hid (∀ j v,(([b0,a,b,c,f,g,h,i].drop d).map Value.bool)[j]?=some v->(((w.alloc (.cells (wA t [b0,a,b,c,f,g,h,i]) 226)).alloc (.cells (wA 0 [false,false,false,false,false,false,false,false]) 226)).alloc (.cells (wA n [false,false,false,false,false,false,false,false]) 226)).drew.cell? (ad.add j)=some v):=by
  intro j v u;have M:j<8-d:=by simpa using(V'.1 u).1
  rw[r (by omega),Addr.add_mid];obtain⟨I,_,_⟩:=YI w (.cells (wA t [b0,a,b,c,f,g,h,i]) 226) (.cells (wA 0 [false,false,false,false,false,false,false,false]) 226) (.cells (wA n [false,false,false,false,false,false,false,false]) 226);have K:=(cell_of_row _ _ (1+(d+j)) _ _ _ I).trans (Lt t _ (d+j) (by simp;omega));rw[nH];refine Eq.trans K ?_;rw[nm,nC]at u
  rw[<- u,List.getD,G' (show d+j<[b0,a,b,c,f,g,h,i].length by simp;omega)];rfl
 obtain⟨_,_,C⟩:=YI w (.cells (wA t [b0,a,b,c,f,g,h,i]) 226) (.cells (wA 0 [false,false,false,false,false,false,false,false]) 226) (.cells (wA n [false,false,false,false,false,false,false,false]) 226);have A:Hid _:=C;clear C;go_wp2_with fail
 go_region_law (refine step_copy_splice rfl (.tmp 9) (.tmp 16) 283 283 rfl 4 underlying283 YO _ _ _ _ _ _ rfl rfl (w.heap.size+1+1) 1 [.int .i64 n,.bool false,.bool false,.bool false,.bool false,.bool false,.bool false,.bool false,.bool false] 226 A.out (([b0,a,b,c,f,g,h,i].drop d).map Value.bool) (by simp) (λT=>⟨rfl,ad,rfl,z.out⟩) (by simp;omega) (by intro v P;obtain⟨x,_,rfl⟩:=mS.1 P;rfl) (w.heap.size+1+1) _ (Below.refl _ _) (A' _) ?_;intro G y m)
 obtain⟨H,F⟩:=B.out G m;have k:([b0,a,b,c,f,g,h,i].drop d++List.replicate d false).length=8:=by simp;omega
 have p:=y.out;rw[Xx n _ rfl d o.1 o.2]at p
 generalize D:[b0,a,b,c,f,g,h,i].drop d++List.replicate d false=R at k p;have q:Hid ([b0,a,b,c,f,g,h,i].drop d++List.replicate d false=R):=D;clear D;have s:=KB (t:=n) k;have U:=(Q'.1 p).1;clear B z A m y;go_wp2_with (first
  | (refine wpList_load_row rfl 226 _ rfl (w.heap.size+1+1) rfl 226 _ (0,0) _ p underlying226 rfl s ?_)
  | (refine wpList_store_row rfl 226 _ _ rfl (w.heap.size+1) _ rfl rfl 226 _ F s (by rw[Eb,Eb,k];rfl) (PP n R) ?_))
 exact bodyPost_ret (v:=.agg (wA n R)) (results_cell_row rfl _ _ (w.heap.size+1) 226 _ (0,0) _ rfl (setRow_heap G (w.heap.size+1) _ _ 226 _ F) underlying226 rfl s) rfl ⟨by rw[<- q.out];rfl,below_setRow H (by omega) _⟩
theorem j7(t:Int)(l:List Bool)(i:Nat)(x:Bool):(wA t l).setIfInBounds (1+i) (.bool x)=wA t (l.set i x):=by
 apply oY;rw[qM];simp[wA,List.map_set]
theorem RK(h:w.heap[g]?=some (.cells (wA t l) ty (0,0)))(k:Nat)(x:Bool) :
  (w.setCell ⟨g,1+k,none⟩ (.bool x)).heap[g]?=some (.cells (wA t (l.set k x)) ty (0,0)):=by
 rw[heap_setCell_same _ _ _ _ _ _ h,j7]
theorem QH{a b:List Bool}(e:a.length=8)(f:b.length=8)(h:∀ k,k<8->a.getD k false=b.getD k false):a=b:=by
 apply oW (by omega);intro k c d;have:=h k (by omega);simpa[List.getD,List.getElem?_eq_getElem c,List.getElem?_eq_getElem d]using this
theorem Rx(l:List Bool)(i k:Nat)(x:Bool)(a:i<l.length):(l.set i x).getD k false=if k=i then x else l.getD k false:=by
 rw[List.getD,List.getElem?_set,List.getD];by_cases h:i=k
 .subst h;simp[a]
 .rw[if_neg h,if_neg (λe=>h e.symm)]
theorem bD(t n:Int)(l:List Bool)(c:l.length=8)(d:n<t)(i:Nat)(e:i<8)(f:n=t-8+(i:Int)):KT t l n=l.set i true/\Hs t n=t:=by
 have a:Hs t n=t:=by unfold Hs;rw[if_neg (by omega)]
 refine⟨QH (EP _ _ _) (by simp[c]) λk b=>?_,a⟩;rw[Vd _ _ _ _ b,a,Pp t l k b,Rx _ _ _ _ (by omega)];by_cases h:k=i
 .rw[if_pos h,O' (by omega)];rfl
 .rw[if_neg h,E' (by omega)];rfl
theorem TC(l:List Bool)(c:l.length=8)(d k:Nat)(b:k<8)(a:d<=8):(l.drop d++List.replicate d false).getD k false=if d+k<8 then l.getD (d+k) false else false:=by
 by_cases h:d+k<8
 .rw[if_pos h,List.getD,mM (by simp;omega),nC,List.getD]
 .rw[if_neg h,List.getD,mO (by simp;omega),List.getElem?_replicate];split<;>rfl
theorem Xh(t n:Int)(l:List Bool)(f:l.length=8)(e:t<=n)(d:Nat)(g:d=min (n+1-t).toNat 8):KT t l n=(l.drop d++List.replicate d false).set 7 true/\Hs t n=n+1:=by
 have b:Hs t n=n+1:=by unfold Hs;rw[if_pos e]
 refine⟨QH (EP _ _ _) (by simp;omega) λk c=>?_,b⟩;rw[Vd _ _ _ _ c,b,Rx _ _ _ _ (by simp;omega),TC l f d k c (by omega)];by_cases h:k=7
 .rw[if_pos h,O' (by omega)];rfl
 .rw[if_neg h,E' (by omega),pG];by_cases a:d+k<8
  .rw[if_pos a,show n+1-8+(k:Int)=t-8+((d+k:Nat):Int)by omega,Pp _ _ _ a]
  .rw[if_neg a,UM (by omega)]
end
end
section
structure Lac where
 k:Int
 n:Int
 a:Int
 p:Int
 d:List Int
def Gi(k:Int):Bool:=decide (k=1\/k=2\/k=3\/k=9\/k=8)
def I3(k:Int):Bool:=decide (4<=k/\k<=6)
def I4(k:Int):Bool:=decide (k=8)
def dM(x:Lac):Int :=
 if ¬ (1<=x.k/\x.k<=9)then 4
 else if(Gi x.k=true/\¬ (0<=x.n/\x.n<=4))\/(I3 x.k=true/\¬ (0<=x.a/\x.a<=1048576))\/(I4 x.k=true/\¬ (0<=x.p/\x.p<=100000))then 2
 else if 2000<x.d.length then 1
 else if(Gi x.k=false/\x.n≠0)\/(I3 x.k=false/\x.a≠0)\/(I4 x.k=false/\x.p≠0)\/(x.k≠1/\x.d≠[])then 3
 else 0
structure LacOk(x:Lac):Prop where
 k:1<=x.k/\x.k<=9
 n:Gi x.k=true->0<=x.n/\x.n<=4
 a:I3 x.k=true->0<=x.a/\x.a<=1048576
 p:I4 x.k=true->0<=x.p/\x.p<=100000
 d:x.d.length<=2000
 n0:Gi x.k=false->x.n=0
 a0:I3 x.k=false->x.a=0
 p0:I4 x.k=false->x.p=0
 d0:x.k≠1->x.d=[]
theorem DC{x:Lac}:dM x=0↔LacOk x:=by
 unfold dM;constructor
 .intro h;by_cases c:1<=x.k/\x.k<=9
  .rw[if_neg (λe=>e c)]at h
   by_cases b:(Gi x.k=true/\¬ (0<=x.n/\x.n<=4))\/(I3 x.k=true/\¬ (0<=x.a/\x.a<=1048576))\/(I4 x.k=true/\¬ (0<=x.p/\x.p<=100000))
   .rw[if_pos b]at h;omega
   .rw[if_neg b]at h
    by_cases g:2000<x.d.length
    .rw[if_pos g]at h;omega
    .rw[if_neg g]at h
     by_cases f:(Gi x.k=false/\x.n≠0)\/(I3 x.k=false/\x.a≠0)\/(I4 x.k=false/\x.p≠0)\/(x.k≠1/\x.d≠[])
     .rw[if_pos f]at h;omega
     .simp only[not_or,not_and,mE]at b f;exact⟨c,λe=>by have:=b.1 e;omega,λe=>by have:=b.2.1 e;omega,λe=>by have:=b.2.2 e;omega,by omega,f.1,f.2.1,f.2.2.1,f.2.2.2⟩
  .rw[if_pos c]at h;omega
 .intro h;rw[if_neg (λe=>e h.k),if_neg,if_neg (by have:=h.d;omega),if_neg]
  .rintro(⟨c,b⟩|⟨c,b⟩|⟨c,b⟩|⟨c,b⟩)
   .exact b (h.n0 c)
   .exact b (h.a0 c)
   .exact b (h.p0 c)
   .exact b (h.d0 c)
  .rintro(⟨c,b⟩|⟨c,b⟩|⟨c,b⟩)
   .exact b (h.n c)
   .exact b (h.a c)
   .exact b (h.p c)
def Vu(k:Int):List Int :=
 if k=1 then[115,117,98,109,105,116]else if k=2 then[108,101,97,100]else if k=3 then[115,116,101,112]else if k=4 then[99,97,114,114,121]else if k=5 then[108,111,115,101]
 else if k=6 then[100,111,117,98,108,101]else if k=7 then[97,108,108]else if k=8 then[99,114,97,115,104]else if k=9 then[115,116,97,114,116]else[]
end
section
open Go.RowKit
section
variable{P:Program}{md:Region.Mode}{ops:Array Oper}{Q:Exit->Act->World->Prop}{S:World->Prop}
section
variable{K:Act->World->Prop}{L:Array Bool}{a:Act}{d fuel i:Nat}{o:Oper}{v:Value}{w:World}
theorem ZC{c:World}(g:ops[i]?=some o)(j:Region.wanted o (yielded ops a.tmps)=true)(f:o.dst=some d)(b:(execOp a.eval o).run P w=.ok (.value v) c)(h:K (a.put (some d) v) c):wpOp P ops Q i K a w :=
 wpOp_step g λk e=>by
  rw[if_pos j];unfold Oper.wp;rw[b,Oper.upon_value];exact e _ _ (by rw[f];exact h)
theorem Pu{f:FuncId}{args:Array Value}(k:ops[i]?=some o)(m:Region.wanted o (yielded ops a.tmps)=true)(g:o.dst=some d)(b:(execOp a.eval o).run P w=.ok (.enter f args) w)(h:Calls P f args w λe w'=>∃ v,e=.returned v/\K (a.put (some d) v) w'):wpOp P ops Q i K a w :=
 wpOp_step k λn c=>by
  rw[if_pos m];unfold Oper.wp;rw[b,Oper.upon_enter];refine h.mono λe w' j=>?_;obtain⟨v,rfl,l⟩:=j;exact c _ _ (by rw[g];exact l)
theorem UR(n:ops[i]?=some o)(p:Region.wanted o (yielded ops a.tmps)=true)(k:o.dst=none)(e:TypeId)(x y:Operand)(d:o.op=.store e x y)(g:Nat)(cells:Array Value)(q:a.eval x=.pointer (some ⟨g,0,none⟩))(r:a.eval y=.agg cells)(t:TypeId)(b:Array Value)(l:w.heap[g]?=some (.cells b t (0,0)))(m:(P.info? e).map (·.size)=some cells.size)(c:b.size=cells.size)(f:cells.all (·.oneCell')=true)(h:K a (w.setRow g cells)):wpOp P ops Q i K a w :=
 wpOp_step n λs j=>by
  rw[if_pos p];exact wp_store_row e x y d g cells q r t b l m c f (j _ _ (by rw[k];exact h))
theorem DW(c:Region.ready md ops L=[i])(h:wpOp P ops Q i (λa' w'=>S w'/\wpAnyH P md ops Q S fuel (L.setIfInBounds i true) a' w') a w):wpAnyH P md ops Q S (fuel+1) L a w :=
 wpAnyH_all c (by simp) (λj b=>by
  obtain rfl:j=i:=by simpa using b
  exact h)
theorem dA{i':Nat}(d:Region.ready md ops L=[i,i'])(h:wpOp P ops Q i (λa' w'=>S w'/\wpAnyH P md ops Q S fuel (L.setIfInBounds i true) a' w') a w)(b:wpOp P ops Q i' (λa' w'=>S w'/\wpAnyH P md ops Q S fuel (L.setIfInBounds i' true) a' w') a w):wpAnyH P md ops Q S (fuel+1) L a w :=
 wpAnyH_all d (by simp) (λj c=>by
  rcases(show j=i\/j=i' by simpa using c)with rfl|rfl
  .exact h
  .exact b)
theorem AZ(d:Nat){f:Oper}{v:Value}{e:Nat}{b:Array Bool}{a:Act}{w:World}(m:ops[i]?=some f)(g:f.dst=some d)(o:Region.noSelect ops=true)(l:Region.free md ops b i=true)(n:(Region.ready md ops b).contains i=true)(j:∀ c a w,Q (.panic c) (a.put (some d) v) w->Q (.panic c) a w)(p:YieldsIf P ops S f v a)(k:S w)(h:wpAnyH P md ops Q S e (b.setIfInBounds i true) (a.put (some d) v) w):wpAnyH P md ops Q S (e+1) b a w :=
 wpAnyH_take m o l n (by rw[g];exact j) p k (by rw[g];exact h)
theorem Xz{op:Oper}(j:Region.wanted op (yielded ops a.tmps)=true)(c:TypeId)(x:Operand)(h:op.op=.load c x)(d:TypeDesc)(i:P.underlying c=some d)(l:d.isRow=false)(p:Addr)(k:a.eval x=.pointer (some p))(v:Value)(f:∀ w,S w->w.cell? p=some v):YieldsIf P ops S op v a :=
 .inl ⟨j,λw e=>by
  have b:(isAgg c).run P w=.ok false w:=by
   unfold isAgg;rw[Sem.run_bind,run_underlying i w];cases d<;>simp_all[TypeDesc.isRow]
  have g:(loadVar c p).run P w=.ok v w:=by simp[loadVar,b,f w e,go_sem]
  unfold execOp;simp only[h,k,Instr.loadAt,Instr.sureAddr,Sem.run_bind,Sem.run_pure,Result.andThen_ok,g]⟩
end
end
section
variable{K:Act->World->Prop}{P:Program}{Q:Exit->Act->World->Prop}{a:Act}{b base e g i id k8 n:Nat}{fr:Nat × Nat}{o op:Oper}{ops:Array Oper}{t:TypeId}{v:Value}{w w':World}{xs:List Value}
theorem Fd{l:List Oper}(h:wpList P ops Q l a w):wpList P ops Q l a w:=h
theorem De{B:Nat}{a:World}(h:Below B a w){g:Nat}(c:B<=g)(b:Array Value):Below B a (w.setRow g b) :=
 h.trans ⟨rfl,rfl,rfl,by simp,λk d=>setRow_other w g k b (by omega)⟩
theorem FW{a:Nat}(h:w.ownsRow b e k8 v n xs)(c:a<=b):w.ownsRow a e k8 v n xs:=by
 refine⟨h.1,?_⟩;rcases h.2 with h2|⟨g,cap,cur,hv,hbg,hr⟩
 .exact .inl h2
 .exact .inr ⟨g,cap,cur,hv,mB c hbg,hr⟩
theorem D8(h:w.ownsRow base e k8 v n xs)(a:∀ k,v.ownBlock=some k->w'.heap[k]?=w.heap[k]?):w'.ownsRow base e k8 v n xs:=by
 refine⟨h.1,?_⟩;rcases h.2 with h2|⟨g,cap,cur,hv,hb,hg,hr⟩
 .exact .inl h2
 .exact .inr ⟨g,cap,cur,hv,hb,(a g (by rw[hv];rfl)).trans hg,hr⟩
theorem bv{P:Program}{f:Func}{p:Tmp}{c:TypeId}(h:f.results=#[.cell p c])(a:Array Value)(w:World)(g:Nat)(t:TypeId)(b:Array Value)(fr:Nat × Nat)(d:TypeDesc)(l:a.getD p undef=.pointer (some ⟨g,0,none⟩))(j:w.heap[g]?=some (.cells b t fr))(m:P.underlying c=some d)(i:(match d with|.struct _|.array _ _=>true|_=>false)=true)(k:(P.info? c).map (·.size)=some b.size) :
  (results f a).run P w=.ok (.agg b) w:=by
 have e:a[p]?.getD undef=.pointer (some ⟨g,0,none⟩):=by simpa using l
 simp[results,h,e,asAddr,run_loadVar_row w g t c b fr d j m i k]
theorem Vc{P:Program}{f:Func}{p u:Tmp}{c:TypeId}(h:f.results=#[.cell p c,.tmp u])(a:Array Value)(w:World)(g:Nat)(t:TypeId)(b:Array Value)(fr:Nat × Nat)(d:TypeDesc)(l:a.getD p undef=.pointer (some ⟨g,0,none⟩))(j:w.heap[g]?=some (.cells b t fr))(m:P.underlying c=some d)(i:(match d with|.struct _|.array _ _=>true|_=>false)=true)(k:(P.info? c).map (·.size)=some b.size) :
  (results f a).run P w=.ok (.tuple #[.agg b,a.getD u undef]) w:=by
 have e:a[p]?.getD undef=.pointer (some ⟨g,0,none⟩):=by simpa using l
 simp[results,h,e,asAddr,run_loadVar_row w g t c b fr d j m i k]
theorem Sl.rI{l:List Int}(h:Sl w v l):∃ a cap,v=.slice a l.length cap:=by
 obtain⟨⟨a,cap,e,_⟩,_,_⟩:=h;exact⟨a,cap,e⟩
theorem Sl.sQ{ad:Addr}{g:Nat}{m:List Int}(h:Sl w (.slice (some ad) n g) m):∀ j u,(m.map (Value.int .u8))[j]?=some u->w.cell? (ad.add j)=some u:=by
 intro j u f;obtain⟨⟨a,k,e,l,o,i⟩,_⟩:=h;simp only[Value.slice.injEq]at e;obtain⟨rfl,rfl,rfl⟩:=e;rcases i with rfl|⟨b,off,hab,_,hcell⟩
 .simp at f
 .obtain rfl:ad=⟨b,off,none⟩:=by simpa using hab
  have c:j<m.length:=by
   have:=(V'.1 f).1;simpa using this
  have d:(⟨b,off,none⟩:Addr).add j=⟨b,off+j,none⟩:=by unfold Addr.add;split<;>simp_all
  rw[d,hcell j c];simp[List.getElem?_eq_getElem c]at f
  rw[AX c,f]
theorem Ru(w:World)(c x F G e:Nat)(y:P.underlying x=some (.slice e))(q:(P.info? e).map (·.size)=some 1)(g n:Nat)(H:List Value)(h:w.ownsRow c e 1 (.slice (some ⟨g,0,none⟩) n n) n H)(u:Value)(m:List Int)(D:n<=m.length)(z:Sl w u m) :
  ∃ w',(Builtin.copy_ #[x,F] G #[.slice (some ⟨g,0,none⟩) n n,u]).run P w=.ok (goInt n) w'/\w'.ownsRow c e 1 (.slice (some ⟨g,0,none⟩) n n) n ((m.take n).map (Value.int .u8))/\Below g w w':=by
 obtain⟨i,l,B⟩:∃ i,P.info? e=some i/\i.size=1:=by
  cases l:P.info? e with
  | none=>rw[l]at q;cases q
  | some i=>rw[l]at q;exact⟨i,rfl,by simpa using q⟩
 rcases h.2 with⟨h0,_⟩|⟨g',cap,cur,hvv,hbg,hg,hnc,hcm,hcs,ht⟩
 .cases h0
 .simp only[Value.slice.injEq,X',Addr.mk.injEq]at hvv;obtain⟨⟨rfl,_⟩,_,rfl⟩:=hvv;have t:=z;obtain⟨⟨a,A,rfl,J,E,I⟩,_⟩:=z;have f:Nat.min m.length n=n:=Nat.min_eq_right D;cases a with
  | none =>
   have r:=E rfl;subst r;have s:n=0:=by omega
   subst s;refine⟨w,?_,⟨by simp,.inr ⟨g,0,cur,rfl,hbg,hg,hnc,hcm,hcs,by simp⟩⟩,Below.refl _ _⟩;simp[Builtin.copy_,run_underlying y,Builtin.lenOf,Builtin.firstCells,sizeOf,typeInfo,l,storeCells]
  | some ad =>
   have b:((m.take n).map (Value.int .u8)).length=n:=by simp;omega
   have C:=run_firstCells_some (P:=P) w 1 n ad m.length A ((m.take n).map (Value.int .u8)) (by rw[b];omega) (λj v p=>t.sQ j v (by
    rw[qg,nJ]at p
    split at p
    .exact p
    .cases p))
   have o:=run_storeCells_at P g 0 e ((m.take n).map (Value.int .u8)) 0 cur w hg (by rw[b];omega) (Fl (m.take n));have d:(cur.toList.take (0+0)++(m.take n).map (Value.int .u8)++cur.toList.drop (0+0+((m.take n).map (Value.int .u8)).length))=(m.take n).map (Value.int .u8):=by
    rw[b,nA (by rw[nW];omega)];simp
   rw[d]at o
   refine⟨w.setRow g ((m.take n).map (Value.int .u8)).toArray,?_,⟨by rw[b];omega,.inr ⟨g,n,((m.take n).map (Value.int .u8)).toArray,rfl,hbg,setRow_heap w g cur _ e _ hg,A' _,hcm,by rw[oK,b];omega,?_⟩⟩,?_⟩
   .simp[-List.map_take,Builtin.copy_,run_underlying y,Builtin.lenOf,sizeOf,typeInfo,l,B,f,C,o]
   .rw[mN (by show((m.take n).map (Value.int .u8)).length<=_;rw[b];omega)]
   .exact⟨rfl,rfl,rfl,by simp,λk K=>setRow_other w g k _ (by omega)⟩
theorem Nj(w:World){j:Array Oper}{c:List Oper}{o:Oper}{a:Act}{Q:Exit->Act->World->Prop}(l:o.guard=none)(d s:Operand)(k r:TypeId)(A:o.op=.call { callee:=.builtin .copy,args:=#[d,s],argTypes:=#[k,r] })(b e:Nat)(C:P.underlying k=some (.slice e))(B:(P.info? e).map (·.size)=some 1)(g n:Nat)(v:List Value)(y:a.eval d=.slice (some ⟨g,0,none⟩) n n)(f:w.ownsRow b e 1 (.slice (some ⟨g,0,none⟩) n n) n v)(u:Value)(q:a.eval s=u)(m:List Int)(z:n<=m.length)(D:Sl w u m)(t:List Int)(p:t=m.take n)(h:∀ w',w'.ownsRow b e 1 (.slice (some ⟨g,0,none⟩) n n) n (t.map (Value.int .u8))->Below g w w'->wpList P j Q c (a.put o.dst (goInt n)) w'):wpList P j Q (o::c) a w:=by
 subst p;refine wpList_plain l λK x=>?_;obtain⟨w',i,E,F⟩:=Ru (P:=P) w b k r o.type e C B g n v f u m z D;unfold Oper.wp execOp;simp only[A,resolve,invoke,builtin,Sem.run_bind,Sem.run_pure,Result.andThen_ok,pq,nc,nY,y,q,i];exact x _ _ (h w' E F)
theorem Nl(w:World){g:Array Oper}{d:List Oper}{o:Oper}{a:Act}{Q:Exit->Act->World->Prop}(v:o.guard=none)(l c:Operand)(t:TypeId)(h:o.op=Op.makeSlice t l c)(b:Nat)(e:TypeId)(r:P.underlying t=some (.slice e))(f:(P.info? e).map (λi=>(i.zero,i.size,i.bytes))=some (some (.int .u8 0),1,1))(n:Nat)(y:a.eval l=.int .i64 (n:Int))(u:a.eval c=.int .i64 (n:Int))(B:n<=140737488351232)(p:b<=w.heap.size)(s:∀ w',Hid (∃ xs,w'.ownsRow b e 1 (.slice (some ⟨w.heap.size,0,none⟩) n n) n xs)->w.grownBy w' none->wpList P g Q d (a.put o.dst (.slice (some ⟨w.heap.size,0,none⟩) n n)) w'):wpList P g Q (o::d) a w:=by
 obtain⟨z,x,j,k,m⟩:=info_parts f;refine wpList_make_full w v l c t h b e z (.int .u8 0) 1 r x j k _ _ _ _ n y u rfl rfl (by rw[m];omega) (by unfold maxLen;omega) p (λw' A q=>s w' ⟨_,A⟩ q)
theorem E4(w:World)(a:Obj):(w.alloc a).heap[w.heap.size]?=some a:=heap_alloc_new w a
theorem Cr(w:World)(a:Obj):Bw w (w.alloc a):=(Below.refl _ _).alloc (A' _) _
theorem TZ(w:World)(a b:Obj):((w.alloc a).alloc b).heap[w.heap.size]?=some a:=heap_alloc2_old w a b
theorem Ua(w:World)(b a:Obj):((w.alloc b).alloc a).heap[w.heap.size+1]?=some a:=heap_alloc2_new w b a
theorem Xc(w:World)(a b:Obj):Bw w ((w.alloc a).alloc b):=((Below.refl _ _).alloc (A' _) _).alloc (by simp) _
theorem EO(h:w.ownsRow base e k8 v n xs):∃ g c,v=.slice g n c:=by
 rcases h.2 with⟨rfl,h0⟩|⟨g,cap,cur,hv,_⟩
 .exact⟨none,0,by rw[h0]⟩
 .exact⟨_,_,hv⟩
theorem bz(R:World->Prop){A:Act}(c:∀ K':Act->World->Prop,Hid (∀ W2,R W2->K' A W2)->(Code.region id ops true).wp P (Exit.then K' Q) a w)(b:∀ W2,R W2->K A W2):(Code.region id ops true).wp P (Exit.then K Q) a w:=c K b
theorem bB(R:Option Addr->Nat->World->Prop){A:Option Addr->Nat->Act}(d:∀ K':Act->World->Prop,Hid (∀ g c W2,R g c W2->K' (A g c) W2)->(Code.region id ops true).wp P (Exit.then K' Q) a w)(b:∀ g c W2,R g c W2->K (A g c) W2):(Code.region id ops true).wp P (Exit.then K Q) a w:=d K b
theorem ML{cs:List Value}(h:w.heap[g]?=some (.cells cs.toArray t fr)):w.rangeAt g 0 cs:=λj u a=>by
 rw[cell_of_row _ _ (0+j) _ _ _ h];simpa using a
theorem MM(h:w.ownsRow base 5 k8 v n xs){g:Nat}{c:Array Value}{t:TypeId}{fr:Nat × Nat}(d:w.heap[g]?=some (.cells c t fr))(f:t≠5):∀ k,v.ownBlock=some k->k≠g:=by
 intro k a e;rcases h.2 with⟨h1,_⟩|⟨q,cap,cur,h1,_,h2,_⟩
 .rw[h1]at a;cases a
 .rw[h1]at a
  have b:q=k:=by simpa[Value.ownBlock]using a
  rw[b,e,d]at h2
  simp only[X',Obj.cells.injEq]at h2;exact f h2.2.1
theorem Xb(h:w.ownsRow base 5 k8 v n xs){g:Nat}{b:Array Value}{t:TypeId}{fr:Nat × Nat}(c:w.heap[g]?=some (.cells b t fr))(e:t≠5)(a:Array Value):(w.setRow g a).ownsRow base 5 k8 v n xs :=
 D8 h (λk d=>setRow_other _ _ _ _ (MM h c e k d))
theorem jP:(prog.info? 5).map (·.size)=some 1:=by kernel_rfl
theorem P9(w:World)(b o:Nat)(f:TypeId)(v e:Value)(j:w.cell? ⟨b,o,none⟩=some e)(k:w.frozen? ⟨b,o,none⟩=false)(c:(P.info? f).map (·.size)=some 1)(g:v.oneCell'=true) :
  (storeVar f ⟨b,o,none⟩ v).run P w=.ok () (w.setCell ⟨b,o,none⟩ v):=by
 cases h:P.info? f with
 | none=>rw[h]at c;cases c
 | some i =>
  rw[h]at c
  simp at c;have a:(⟨b,o,none⟩:Addr).add 0=⟨b,o,none⟩:=by unfold Addr.add;split<;>simp_all
  have l:(Go.store ⟨b,o,none⟩ v .plain).run P w=.ok () (w.setCell ⟨b,o,none⟩ v):=by
   rw[run_store P w _ v .plain g,j];simp[k]
  have d:v.cells=#[v]:=by cases v<;>first|rfl|cases g
  unfold storeVar;rw[d];simp[sizeOf,typeInfo,h,c,storeCells,a,l,Result.andThen]
theorem PS{Q:Exit->Act->World->Prop}(d:TypeId)(x y:Operand)(i:op.op=.store d x y)(b o:Nat)(v c:Value)(k:a.eval x=.pointer (some ⟨b,o,none⟩))(l:a.eval y=v)(e:w.cell? ⟨b,o,none⟩=some c)(f:w.frozen? ⟨b,o,none⟩=false)(g:(P.info? d).map (·.size)=some 1)(j:v.oneCell'=true)(h:K (a.put op.dst undef) (w.setCell ⟨b,o,none⟩ v)):op.wp P a w K Q:=by
 unfold Oper.wp execOp;simp only[i,k,l,Instr.storeAt,Instr.sureAddr,Sem.run_bind,Sem.run_pure,Result.andThen_ok,P9 w b o d v c e f g j];exact h
theorem To(n:ops[i]?=some o)(q:Region.wanted o (yielded ops a.tmps)=true)(j:o.dst=none)(e:TypeId)(x y:Operand)(d:o.op=.store e x y)(b k:Nat)(v c:Value)(r:a.eval x=.pointer (some ⟨b,k,none⟩))(s:a.eval y=v)(g:w.cell? ⟨b,k,none⟩=some c)(l:w.frozen? ⟨b,k,none⟩=false)(m:(P.info? e).map (·.size)=some 1)(p:v.oneCell'=true)(h:K a (w.setCell ⟨b,k,none⟩ v)):wpOp P ops Q i K a w :=
 wpOp_step n λt f=>by
  rw[if_pos q];exact PS e x y d b k v c r s g l m p (f _ _ (by rw[j];exact h))
structure Only(b:Nat)(w w':World):Prop where
 os:w'.os=w.os
 tape:w'.tape=w.tape
 output:w'.output=w.output
 size:w'.heap.size=w.heap.size
 other:∀ k,k≠b->w'.heap[k]?=w.heap[k]?
theorem Only.refl(b:Nat)(w:World):Only b w w:=⟨rfl,rfl,rfl,rfl,λ_ _=>rfl⟩
theorem Only.trans{a:World}(h:Only b w w')(k:Only b w' a):Only b w a :=
 ⟨k.os.trans h.os,k.tape.trans h.tape,k.output.trans h.output,k.size.trans h.size,λi c=>(k.other i c).trans (h.other i c)⟩
theorem Only.one(w:World)(b o:Nat)(v:Value):Only b w (w.setCell ⟨b,o,none⟩ v):=⟨rfl,rfl,rfl,by simp[World.setCell],λk a=>heap_setCell_other _ _ _ _ a⟩
theorem Only.store(w:World)(b o:Nat)(a:List Value):Only b w (w.setCells b o a):=by
 induction a generalizing w o with
 | nil=>exact Only.refl _ _
 | cons v r ih=>exact(Only.one w b o v).trans (ih _ _)
theorem lL{P:Program}{b:Array Oper}{S:World->Prop}{op:Oper}{a:Act}(m:Region.wanted op (yielded b a.tmps)=true)(e:TypeId)(x:Operand)(k:op.op=.load e x)(g:Nat)(n:a.eval x=.pointer (some ⟨g,0,none⟩))(c:Array Value)(t:TypeId)(fr:Nat × Nat)(d:TypeDesc)(h:∀ w,S w->w.heap[g]?=some (.cells c t fr))(l:P.underlying e=some d)(i:(match d with|.struct _|.array _ _=>true|_=>false)=true)(j:(P.info? e).map (·.size)=some c.size):YieldsIf P b S op (.agg c) a :=
 .inl ⟨m,λw f=>by
  unfold execOp;simp only[k,n,Instr.loadAt,Instr.sureAddr,Sem.run_bind,Sem.run_pure,Result.andThen_ok,run_loadVar_row w g t e c fr d (h w f) l i j]⟩
theorem jQ{P:Program}{u:Func}{p s:Tmp}{j c:TypeId}(h:u.results=#[.cell p j,.cell s c])(a:Array Value)(w:World)(g i:Nat)(t v:TypeId)(f b:Array Value)(fr e:Nat × Nat)(d k:TypeDesc)(A:a.getD p undef=.pointer (some ⟨g,0,none⟩))(y:w.heap[g]?=some (.cells f t fr))(C:P.underlying j=some d)(x:(match d with|.struct _|.array _ _=>true|_=>false)=true)(z:(P.info? j).map (·.size)=some f.size)(o:a.getD s undef=.pointer (some ⟨i,0,none⟩))(m:w.heap[i]?=some (.cells b v e))(r:P.underlying c=some k)(l:(match k with|.struct _|.array _ _=>true|_=>false)=true)(n:(P.info? c).map (·.size)=some b.size) :
  (results u a).run P w=.ok (.tuple #[.agg f,.agg b]) w:=by
 have B:a[p]?.getD undef=.pointer (some ⟨g,0,none⟩):=by simpa using A
 have q:a[s]?.getD undef=.pointer (some ⟨i,0,none⟩):=by simpa using o
 simp[results,h,B,q,asAddr,run_loadVar_row w g t j f fr d y C x z,run_loadVar_row w i v c b e k m r l n]
theorem jR{P:Program}{v:Func}{p s u:Tmp}{j c:TypeId}(h:v.results=#[.cell p j,.cell s c,.tmp u])(a:Array Value)(w:World)(g i:Nat)(t x:TypeId)(f b:Array Value)(fr e:Nat × Nat)(d k:TypeDesc)(B:a.getD p undef=.pointer (some ⟨g,0,none⟩))(z:w.heap[g]?=some (.cells f t fr))(D:P.underlying j=some d)(y:(match d with|.struct _|.array _ _=>true|_=>false)=true)(A:(P.info? j).map (·.size)=some f.size)(o:a.getD s undef=.pointer (some ⟨i,0,none⟩))(m:w.heap[i]?=some (.cells b x e))(r:P.underlying c=some k)(l:(match k with|.struct _|.array _ _=>true|_=>false)=true)(n:(P.info? c).map (·.size)=some b.size) :
  (results v a).run P w=.ok (.tuple #[.agg f,.agg b,a.getD u undef]) w:=by
 have C:a[p]?.getD undef=.pointer (some ⟨g,0,none⟩):=by simpa using B
 have q:a[s]?.getD undef=.pointer (some ⟨i,0,none⟩):=by simpa using o
 simp[results,h,C,q,asAddr,run_loadVar_row w g t j f fr d z D y A,run_loadVar_row w i x c b e k m r l n]
theorem Rt(t e:TypeId)(N k:Nat)(d:prog.underlying t=some (.array N e))(a:(prog.info? e).map (·.size)=some k)(b o i:Nat)(f:i<N)(w:World):(Instr.indexAt t (.pointer (some ⟨b,o,none⟩)) (.int .i64 (i:Int))).run prog w=.ok (.pointer (some ⟨b,o+k*i,none⟩)) w:=by
 have c:(Go.sizeOf e).run prog w=.ok k w:=by
  cases hq:prog.info? e with
  | none=>rw[hq]at a;cases a
  | some x =>
   rw[hq]at a
   simp at a;simp[sizeOf,typeInfo,hq,a]
 simp only[Instr.indexAt,Sem.run_bind,run_underlying d w,Result.andThen_ok,Instr.sureAddr,Sem.run_pure,asIntOf];rw[if_pos ⟨by omega,by omega⟩];simp[c,Result.andThen,Addr.add_mid,Nat.mul_comm]
theorem Tn(l:ops[i]?=some o)(n:Region.wanted o (yielded ops a.tmps)=true)(g:o.dst=none)(d:TypeId)(x y:Operand)(c:o.op=.store d x y)(b k:Nat)(cells:Array Value)(p:a.eval x=.pointer (some ⟨b,k,none⟩))(q:a.eval y=.agg cells)(m:w.there b k cells.size)(j:(P.info? d).map (·.size)=some cells.size)(e:cells.all (·.oneCell')=true)(h:K a (w.setCells b k cells.toList)):wpOp P ops Q i K a w :=
 wpOp_step l λr f=>by
  rw[if_pos n];exact wp_store_mid d x y c b k cells p q m j e (f _ _ (by rw[g];exact h))
def Na(j:Nat)(k:Int):Bool:=if j=0 then Gi k else if j=1 then I3 k else I4 k
def cJ(j:Nat):Int:=if j=0 then 4 else if j=1 then 1048576 else 100000
structure LWTab(w:World):Prop where
 lt:0<w.heap.size
 text:∀ k:Nat,k<10->w.cell? ⟨0,4*k,none⟩=some (.string (strOfNums (Vu (k:Int))))
 has:∀ k j:Nat,k<10->j<3->w.cell? ⟨0,4*k+1+j,none⟩=some (.bool (Na j (k:Int)))
theorem LWTab.af(h:LWTab w)(a:Bw w w'):LWTab w' :=
 ⟨j' h.lt a.size,λk b=>(a.cell (p:=⟨0,4*k,none⟩) h.lt).trans (h.text k b),λk j b c=>(a.cell (p:=⟨0,4*k+1+j,none⟩) h.lt).trans (h.has k j b c)⟩
structure LBTab(w:World):Prop where
 lt:1<w.heap.size
 tH:∀ j:Nat,j<3->w.cell? ⟨1,j,none⟩=some (.int .i64 (cJ j))
theorem LBTab.af(h:LBTab w)(a:Bw w w'):LBTab w' :=
 ⟨j' h.lt a.size,λj b=>(a.cell (p:=⟨1,j,none⟩) h.lt).trans (h.tH j b)⟩
theorem j9:(prog.info? 119).map (·.size)=some 4:=by kernel_rfl
theorem WM(k:Nat)(a:k<10)(w:World):(Instr.indexAt 120 (.pointer (some ⟨0,0,none⟩)) (.int .i64 (k:Int))).run prog w=.ok (.pointer (some ⟨0,4*k,none⟩)) w:=by
 have h:=Rt 120 119 10 4 underlying120 j9 0 0 k a w
 rwa [nt]at h
end
end
section
open Go.ChangeShapes Go.WideShapes Go.ChangeAt Go.RowKit
section
theorem own:ownKnob prog.godebug=none:=by kernel_rfl
theorem dN:laidOutB prog=true:=by kernel_rfl
theorem dJ:prog.cellsOf 3=1:=by kernel_rfl
theorem dK:prog.cellsOf 4=1:=by kernel_rfl
theorem dL:prog.cellsOf 9=1:=by kernel_rfl
theorem UF:prog.cellsOf 119=4:=by kernel_rfl
theorem UE:prog.cellsOf 117=3:=by kernel_rfl
theorem YB : prog.globalNamed "conclave/lines.words" = some 0 := by kernel_rfl
theorem SI:(prog.globals[0]?).map (·.type)=some 120:=by kernel_rfl
theorem UB : prog.globalNamed "conclave/lines.bounds" = some 1 := by kernel_rfl
theorem Q4:(prog.globals[1]?).map (·.type)=some 121:=by kernel_rfl
variable{H:Type}{W:World}{a b c held:Bool}{base fuel:Nat}{cs:List Value}{p:List MemPlace}{sp:Nat->Bool}
theorem Ls{name:String}{g:Nat}{a:Array Value}(b:prog.globalNamed name=some g)(h:W.var? prog name=some a):∃ t fr,W.heap[g]?=some (.cells a t fr):=by
 unfold World.var? at h;rw[b]at h
 simp only[Option.bind_some]at h;split at h
 .rename_i c t fr hh
  simp only[X']at h;subst h;exact⟨t,fr,hh⟩
 .cases h
theorem Tb{e:TypeId × Value->H}(h:DataW.trod e prog W base sp held fuel 117 cs=some (.agg [.lit (.bool a),.lit (.bool b),.lit (.bool c)],p)) :
  cs=[.bool a,.bool b,.bool c]:=by
 obtain⟨u,m,_,q,o,f,d⟩:=DataW.trod_array underlying117 h;rw[UE]at o
 rw[dK]at d
 match u,f,cs,o with
 | [x0,x1,x2],_,[c0,c1,c2],_ =>
  simp only[nc,nY,nF,DataW.agg.injEq,pg,and_true]at q;obtain⟨⟨k,l,n⟩,_⟩:=q;obtain⟨a0,g,r⟩:=DataW.trod_bool underlying4 (d 0 (by omega));obtain⟨v,i,s⟩:=DataW.trod_bool underlying4 (d 1 (by omega));obtain⟨w,j,t⟩:=DataW.trod_bool underlying4 (d 2 (by omega));simp at g i j r s t;subst g i j r s t;simp at k l n;subst k l n;rfl
theorem Xy{e:TypeId × Value->H}{s:List UInt8}(h:DataW.trod e prog W base sp held fuel 119 cs=some (.agg [.lit (.string s),.agg [.lit (.bool a),.lit (.bool b),.lit (.bool c)]],p)) :
  cs=[.string ⟨s.toArray⟩,.bool a,.bool b,.bool c]:=by
 obtain⟨⟨d,m⟩,⟨o,p1⟩,n,k,j,g,i⟩:=trod_struct2 underlying119 h;rw[UF]at j
 simp only[dL,UE]at g i;simp only[nF,DataW.agg.injEq,pg,and_true]at k;obtain⟨⟨rfl,rfl⟩,_⟩:=k;have l:=Tb i;obtain⟨z,f,d,_⟩:=DataW.trod_string underlying9 g
 match cs,j with
 | [c0,c1,c2,c3],_ =>
  simp at f l d;obtain⟨d,_⟩:=d;subst f d;obtain⟨rfl,rfl,rfl⟩:=l;rfl
theorem U9{l:List Value}{a:Nat}{b c d e:Value}(h:(l.drop a).take 4=[b,c,d,e]):l[a]?=some b/\l[a+1]?=some c/\l[a+2]?=some d/\l[a+3]?=some e:=by
 have g:∀ i,i<4->l[a+i]?=[b,c,d,e][i]?:=λi f=>by rw[<- h,List.getElem?_take_of_lt f,nC]
 exact⟨g 0 (by omega),g 1 (by omega),g 2 (by omega),g 3 (by omega)⟩
theorem Za(k:Nat)(a:k<10){l:List (DataW H)}(h:(Rows.laid_conclave_lines_words:DataW H)=.agg l) :
  l[k]?=some (.agg [.lit (.string ((Vu (k:Int)).map λn=>UInt8.ofNat n.toNat)),.agg [.lit (.bool (Na 0 (k:Int))),.lit (.bool (Na 1 (k:Int))),.lit (.bool (Na 2 (k:Int)))]]):=by
 simp only[Rows.laid_conclave_lines_words,DataW.agg.injEq]at h;subst h
 match k,a with
 | 0,_=>rfl
 | 1,_=>rfl
 | 2,_=>rfl
 | 3,_=>rfl
 | 4,_=>rfl
 | 5,_=>rfl
 | 6,_=>rfl
 | 7,_=>rfl
 | 8,_=>rfl
 | 9,_=>rfl
theorem YZ(k:Nat)(a:k<3){l:List (DataW H)}(h:(Rows.laid_conclave_lines_bounds:DataW H)=.agg l):l[k]?=some (.lit (.int .i64 (cJ k))):=by
 simp only[Rows.laid_conclave_lines_bounds,DataW.agg.injEq]at h;subst h
 match k,a with
 | 0,_=>rfl
 | 1,_=>rfl
 | 2,_=>rfl
theorem fs{r : List (String × DataW Unit)}{M : List MemPlace}(h : DataW.LaidVars prog W (("conclave/lines.bounds", Rows.laid_conclave_lines_bounds) :: ("conclave/lines.words", Rows.laid_conclave_lines_words) :: r) M) : LWTab W ∧ LBTab W := by
 obtain⟨N,S,w,x,P,Q,B,D,b,z,⟨O,T,f,y,p1,R,C,E,c,A,_,_⟩,_⟩:=h;obtain rfl:=nh (UB.symm.trans B);obtain rfl:=nh (Q4.symm.trans D);obtain rfl:=nh (YB.symm.trans C);obtain rfl:=nh (SI.symm.trans E);constructor
 .obtain⟨xs,m,_,hx,hl,hxl,hb⟩:=DataW.trod_array underlying120 A;rw[UF]at hb
  simp only[nF]at hx;obtain⟨t,fr,q⟩:=Ls YB c;have o:∀ k:Nat,k<10->(f.toList.drop (k*4)).take 4=[.string (strOfNums (Vu (k:Int))),.bool (Na 0 (k:Int)),.bool (Na 1 (k:Int)),.bool (Na 2 (k:Int))]:=λk o=>by
   have g:=Za k o hx.1;rw[nm]at g
   obtain⟨⟨d,p⟩,e,a⟩:=nZ.1 g;have l:=hb k o;rw[e]at l
   simp only at a;subst a;exact Xy l
  have s:∀ (i:Nat) (v:Value),f.toList[i]?=some v->W.cell? ⟨0,i,none⟩=some v:=λi v L=>by
   refine(cell_of_row _ _ i _ _ _ q).trans ?_
   rwa [Array.getElem?_toList]at L
  refine⟨(Q'.1 q).1,λk h=>?_,λk j h u=>?_⟩
  .rw[pB];exact s _ _ (U9 (o k h)).1
  .rw[pB];obtain⟨_,I,J,K⟩:=U9 (o k h)
   match j,u with
   | 0,_=>exact s _ _ I
   | 1,_=>exact s _ _ J
   | 2,_=>exact s _ _ K
 .obtain⟨xs,m,_,hx,hl,hxl,hb⟩:=DataW.trod_array underlying121 z;rw[dJ]at hb
  simp only[nF]at hx;obtain⟨t,fr,q⟩:=Ls UB b;refine⟨(Q'.1 q).1,λj u=>(cell_of_row _ _ j _ _ _ q).trans ?_⟩;have g:=YZ j u hx.1;rw[nm]at g
  obtain⟨⟨d,p⟩,e,a⟩:=nZ.1 g;have l:=hb j u;rw[e]at l
  obtain⟨n,H,G,_⟩:=DataW.trod_int underlying3 l;simp only[nF]at G;obtain⟨rfl,_⟩:=G;simp at a;subst a;have F:((w.toList.drop (j*1)).take 1)[0]?=some (.int .i64 (cJ j)):=by rw[H];rfl
  rw[List.getElem?_take_of_lt (by omega),nC,Array.getElem?_toList,Nat.mul_one,oQ]at F
  exact F
def RY:Array Value:=((List.range 10).flatMap λk=>[.string (strOfNums (Vu (k:Int))),.bool (Na 0 (k:Int)),.bool (Na 1 (k:Int)),.bool (Na 2 (k:Int))]).toArray
def Qd:Array Value:=((List.range 3).map λk=>.int .i64 (cJ k)).toArray
def YY(cs:Array Value):Obj->Obj
 | .cells _ t frozen=>.cells cs t frozen
 | o=>o
end
end
section
open Go.RowKit
section
def cmA(k c s n v:Int):Array Value:=#[.int .i64 k,.int .i64 c,.int .i64 s,.int .i64 n,.int .i64 v]
def tkA(c r u:Int):Array Value:=#[.int .i64 c,.int .i64 r,.int .i64 u]
def InC(c s n v:Int):Prop:=0<=c/\c<=7/\0<=s/\s<=1048576/\0<=n/\n<=7/\0<=v/\v<=1073741824
instance (c s n v:Int):Decidable (InC c s n v):=by unfold InC;exact inferInstance
def Bo(k c s n v:Int):Int :=
 if ¬ (0<=k/\k<=3)then 4
 else if k=0 then(if c=0/\s=0/\n=0/\v=0 then 0 else 3)
 else if ¬ InC c s n v then 2
 else if 1<k/\v≠0 then 3
 else 0
variable{c k n now r s tc tr tu u v:Int}{g:Nat}{w w':World}
theorem VB(h:¬ (0<=k/\k<=3)):Bo k c s n v=4:=if_pos h
theorem VC(h:c=0/\s=0/\n=0/\v=0):Bo 0 c s n v=0:=by
 unfold Bo;rw[if_neg (by omega),if_pos rfl,if_pos h]
theorem Sj(h:¬ (c=0/\s=0/\n=0/\v=0)):Bo 0 c s n v=3:=by
 unfold Bo;rw[if_neg (by omega),if_pos rfl,if_neg h]
theorem Sm(h:1<=k/\k<=3)(a:¬ InC c s n v):Bo k c s n v=2:=by
 unfold Bo;rw[if_neg (by omega),if_neg (by omega),if_pos a]
theorem VA(h:2<=k/\k<=3)(a:InC c s n v)(b:v≠0):Bo k c s n v=3:=by
 unfold Bo;rw[if_neg (by omega),if_neg (by omega),if_neg (λg=>g a),if_pos ⟨by omega,b⟩]
theorem Uv(h:1<=k/\k<=3)(a:InC c s n v)(b:k=1\/v=0):Bo k c s n v=0:=by
 unfold Bo;rw[if_neg (by omega),if_neg (by omega),if_neg (λg=>g a),if_neg (by omega)]
theorem Fi(h:Bo k c s n v=0):(0<=k/\k<=3)/\InC c s n v:=by
 unfold Bo at h;split at h
 .omega
 .rename_i h1
  split at h
  .split at h
   .rename_i h3
    exact⟨by omega,by unfold InC;omega⟩
   .omega
  .split at h
   .omega
   .rename_i h3
    exact⟨by omega,Classical.not_not.1 h3⟩
def DV(k c s n v:Int):List Int:=Ad k++Ad c++Ad s++Ad n++Ad v
theorem EB(k c s n v:Int):(DV k c s n v).length=20:=rfl
theorem Oa(k c s n v:Int):∀ x∈DV k c s n v,0<=x/\x<256:=by
 intro x hx;rcases U'.1 hx with hx|hx
 .rcases U'.1 hx with hx|hx
  .rcases U'.1 hx with hx|hx
   .rcases U'.1 hx with hx|hx
    .exact Bb _ x hx
    .exact Bb _ x hx
   .exact Bb _ x hx
  .exact Bb _ x hx
 .exact Bb _ x hx
def Ac(l:List Int)(i:Nat):Int:=16777216*l.getD i 0+65536*l.getD (i+1) 0+256*l.getD (i+2) 0+l.getD (i+3) 0
theorem BP(n:Int)(a:0<=n)(b:n<4294967296)(l m:List Int):Ac (l++(Ad n++m)) l.length=n:=by
 have e:∀ j,(l++(Ad n++m)).getD (l.length+j) 0=(Ad n++m).getD j 0:=by
  intro j;simp[List.getD,List.getElem?_append_right]
 unfold Ac;rw[show l.length=l.length+0 from rfl,nH,nH,nH,e,e,e,e];show 16777216*(n/16777216%256)+65536*(n/65536%256)+256*(n/256%256)+n%256=n;omega
theorem Wq(k c s n v:Int)(a:0<=k)(b:k<4294967296):Ac (DV k c s n v) 0=k:=by
 have h:=BP k a b [] (Ad c++Ad s++Ad n++Ad v);exact h
theorem Wr(k c s n v:Int)(a:0<=c)(b:c<4294967296):Ac (DV k c s n v) 4=c:=by
 have h:=BP c a b (Ad k) (Ad s++Ad n++Ad v);exact h
theorem Ws(k c s n v:Int)(a:0<=s)(b:s<4294967296):Ac (DV k c s n v) 8=s:=by
 have h:=BP s a b (Ad k++Ad c) (Ad n++Ad v);exact h
theorem Th(k c s n v:Int)(a:0<=n)(b:n<4294967296):Ac (DV k c s n v) 12=n:=by
 have h:=BP n a b (Ad k++Ad c++Ad s) (Ad v);exact h
theorem Ti(k c s n v:Int)(a:0<=v)(b:v<4294967296):Ac (DV k c s n v) 16=v:=by
 have h:=BP v a b (Ad k++Ad c++Ad s++Ad n) [];exact h
def Cy(l:List Int):Int:=if l.length≠20 then 1 else Bo (Ac l 0) (Ac l 4) (Ac l 8) (Ac l 12) (Ac l 16)
def KH(l:List Int):Array Value:=if Cy l=0 then cmA (Ac l 0) (Ac l 4) (Ac l 8) (Ac l 12) (Ac l 16)else cmA 0 0 0 0 0
def D0(c r u:Int):Prop:=(0<=c/\c<=7)/\(0<=r/\r<=7)/\0<=u/\u<=1048576
instance (c r u:Int):Decidable (D0 c r u):=by unfold D0;exact inferInstance
def NO(c r u:Int):Int:=if D0 c r u then 0 else 2
theorem Lq(h:D0 c r u):NO c r u=0:=if_pos h
theorem Vh(h:¬ D0 c r u):NO c r u=2:=if_neg h
def OR(k r:Int):Prop:=(k=1/\r/2%2=1)\/(k=2/\r%2=1)\/(k=3/\r/4=1)
instance (k r:Int):Decidable (OR k r):=by unfold OR;exact inferInstance
def Ff(tc tr tu k c s n v now:Int):Int :=
 if ¬ D0 tc tr tu then 2
 else if Bo k c s n v≠0 then Bo k c s n v
 else if ¬ (OR k tr/\c=tc)then 11
 else if ¬ (0<=now/\now<=tu)then 10
 else 0
theorem XA(h:¬ D0 tc tr tu):Ff tc tr tu k c s n v now=2:=if_pos h
theorem X9(h:D0 tc tr tu)(a:Bo k c s n v≠0):Ff tc tr tu k c s n v now=Bo k c s n v:=by
 unfold Ff;rw[if_neg (λg=>g h),if_pos a]
theorem Lw(h:D0 tc tr tu)(a:Bo k c s n v=0)(b:¬ (OR k tr/\c=tc)):Ff tc tr tu k c s n v now=11:=by
 unfold Ff;rw[if_neg (λg=>g h),if_neg (λg=>g a),if_pos b]
theorem Vz(h:D0 tc tr tu)(a:Bo k c s n v=0)(b:OR k tr/\c=tc)(d:¬ (0<=now/\now<=tu)):Ff tc tr tu k c s n v now=10:=by
 unfold Ff;rw[if_neg (λg=>g h),if_neg (λg=>g a),if_neg (λg=>g b),if_pos d]
theorem cC(h:D0 tc tr tu)(a:Bo k c s n v=0)(b:OR k tr/\c=tc)(d:0<=now/\now<=tu):Ff tc tr tu k c s n v now=0:=by
 unfold Ff;rw[if_neg (λg=>g h),if_neg (λg=>g a),if_neg (λg=>g b),if_neg (λg=>g d)]
def KX(c r u:Int):List Int:=c::r::Ad u
theorem EQ(c r u:Int):(KX c r u).length=6:=rfl
theorem OJ(h:D0 c r u):∀ x∈KX c r u,0<=x/\x<256:=by
 obtain⟨a,b,d⟩:=h;intro x hx;rcases mJ.1 hx with rfl|hx
 .omega
 rcases mJ.1 hx with rfl|hx
 .omega
 exact Bb _ x hx
theorem U6(a b c d e f g h i j:Int):∀ w,(binOp .eql 53 (.agg #[.int .i64 a,.int .i64 b,.int .i64 c,.int .i64 d,.int .i64 e]) (.agg #[.int .i64 f,.int .i64 g,.int .i64 h,.int .i64 i,.int .i64 j])).run prog w=.ok (.bool (decide (a=f/\b=g/\c=h/\d=i/\e=j))) w:=by
 intro w;rw[run_eql_struct,run_equalIn_agg w 9999 _ _ _ (by kernel_rfl) (by kernel_rfl)];unfold Program.fieldsOf;rw[underlying53];have k:=underlying3;simp[Op.eqFields,go_sem,k]
 repeat' split
 all_goals simp_all
theorem dZ(a b c d e f g h i j:Int):∀ w,(binOp .neq 53 (.agg #[.int .i64 a,.int .i64 b,.int .i64 c,.int .i64 d,.int .i64 e]) (.agg #[.int .i64 f,.int .i64 g,.int .i64 h,.int .i64 i,.int .i64 j])).run prog w=.ok (.bool (!decide (a=f/\b=g/\c=h/\d=i/\e=j))) w:=by
 intro w;rw[run_neq_struct,run_equalIn_agg w 9999 _ _ _ (by kernel_rfl) (by kernel_rfl)];unfold Program.fieldsOf;rw[underlying53];have k:=underlying3;simp[Op.eqFields,go_sem,k]
 repeat' split
 all_goals simp_all
theorem Fh{a:TypeId}{fr:Nat × Nat}(h:w.heap[g]?=some (.cells (cmA k c s n v) a fr)) :
  w.cell? ⟨g,0,none⟩=some (.int .i64 k)/\w.cell? ⟨g,1,none⟩=some (.int .i64 c)/\w.cell? ⟨g,2,none⟩=some (.int .i64 s)/\w.cell? ⟨g,3,none⟩=some (.int .i64 n)/\w.cell? ⟨g,4,none⟩=some (.int .i64 v) :=
 ⟨cell_of_row _ _ 0 _ _ _ h,cell_of_row _ _ 1 _ _ _ h,cell_of_row _ _ 2 _ _ _ h,cell_of_row _ _ 3 _ _ _ h,cell_of_row _ _ 4 _ _ _ h⟩
theorem dD(c s n v:Int):InC c s n v↔(((0<=c/\c<=7)/\(0<=s/\s<=1048576))/\(0<=n/\n<=7))/\(0<=v/\v<=1073741824):=by unfold InC;omega
structure Bc(w:World)(g:Nat)(k c s n v:Int):Prop where
 lt:g<w.heap.size
 row:w.heap[g]?=some (.cells (cmA k c s n v) 53)
theorem Bc.made(w:World)(k c s n v:Int):Bc (w.alloc (.cells (cmA k c s n v) 53)) w.heap.size k c s n v:=⟨by simp,heap_alloc_new _ _⟩
theorem Bc.af(h:Bc w g k c s n v)(a:Bw w w'):Bc w' g k c s n v :=
 ⟨j' h.lt a.size,(a.block g h.lt).trans h.row⟩
theorem GX(k c s n v:Int):(prog.info? 53).map (·.size)=some (cmA k c s n v).size:=by show _=some 5;kernel_rfl
def O2:List Int:=[0,0,0,2,7,1073741824,1,7,0,4,7,0]
structure NTab(w:World):Prop where
 lt:2<w.heap.size
 cell:∀ i,i<12->w.cell? ⟨2,i,none⟩=some (.int .i64 (O2.getD i 0))
theorem NTab.af(h:NTab w)(a:Bw w w'):NTab w' :=
 ⟨j' h.lt a.size,λi b=>(a.cell (p:=⟨2,i,none⟩) h.lt).trans (h.cell i b)⟩
theorem Fx(n g:Int)(w:World) :
  Calls prog 109 #[.int .i64 n,.int .i64 g] w λe w'=>e=.returned (.bool (decide (0<=n/\n<=g)))/\w'=w:=by
 by_cases a:0<=n
 .by_cases h1:n<=g
  .rw[O' ⟨a,h1⟩];go_enter func109,ntmps109
   go_wp2
   go_ret;exact⟨Am (by simp),rfl⟩
  .rw[E' (by omega)];go_enter func109,ntmps109
   go_wp2
   go_ret;exact⟨Am (by simp),rfl⟩
 .rw[E' (by omega)];go_enter func109,ntmps109
  go_wp2
  go_ret;exact⟨Am (by simp),rfl⟩
theorem Jr{g:Int}{b:Bool}(h:Hid (decide (0<=n/\n<=g)=b))(w:World) :
  Calls prog 109 #[.int .i64 n,.int .i64 g] w λe w'=>e=.returned (.bool b)/\w'=w:=by
 rw[<- h.out];exact Fx n g w
theorem SQ(k:Int)(w:World) :
  Calls prog 113 #[.int .i64 k] w λe w'=>e=.returned (.bool (decide (0<=k/\k<=3)))/\w'=w:=by
 go_enter func113,ntmps113
 go_wp2_with fail
 refine(Fx k 3 _).mono ?_;rintro e a ⟨rfl,rfl⟩;go_wp2
 go_ret;exact⟨Am (by simp),rfl⟩
theorem Zv(c s n v:Int)(w:World) :
  Calls prog 114 #[.agg (cmA 0 c s n v)] w λe w'=>e=.returned (.int .i64 (Bo 0 c s n v))/\Bw w w':=by
 have a:Bw w (w.alloc (.cells (cmA 0 c s n v) 53)):=(Below.refl _ _).alloc (A' _) _;simp only[cmA]at a ⊢;have b:=dZ 0 c s n v 0 0 0 0 0;by_cases h:c=0/\s=0/\n=0/\v=0
 .have HE:Hid (0=Bo 0 c s n v):=(VC h).symm;rw[O' ⟨rfl,h⟩]at b
  clear h;go_enter func114,ntmps114
  go_wp2
  go_ret;exact⟨BM HE.out,a⟩
 .have HE:Hid (3=Bo 0 c s n v):=(Sj h).symm;rw[E' (λg=>h g.2)]at b
  clear h;go_enter func114,ntmps114
  go_wp2
  go_ret;exact⟨BM HE.out,a⟩
theorem NTab.name(h:NTab w)(k:Nat)(a:1<=k)(b:k<=3):w.cell? ⟨2,k*3+1,none⟩=some (.int .i64 7):=by
 rcases(by omega:k=1\/k=2\/k=3)with rfl|rfl|rfl
 .exact h.cell 4 (by omega)
 .exact h.cell 7 (by omega)
 .exact h.cell 10 (by omega)
theorem Pi(k c s n v:Int)(w:World)(r:1<=k/\k<=3)(p:NTab w) :
  Calls prog 115 #[.agg (cmA k c s n v)] w λe w'=>e=.returned (.bool (decide (InC c s n v)))/\Bw w w':=by
 have f:Bw w (w.alloc (.cells (cmA k c s n v) 53)):=(Below.refl _ _).alloc (A' _) _;have l:=(p.af f).name;have o:=heap_alloc_new w (.cells (cmA k c s n v) 53);simp only[cmA]at f l o ⊢;obtain⟨m,rfl⟩:=nf (show 0<=k by omega);replace l:=l m (by omega) (by omega);have y:(0:Int)<=(m:Int):=by omega
 have z:(m:Int)<4:=by omega
 have A:m<4:=by omega
 clear r p;have a:Hid (InC c s n v↔_):=dD c s n v;generalize q:w.alloc (.cells #[.int .i64 (m:Int),.int .i64 c,.int .i64 s,.int .i64 n,.int .i64 v] 53)=W at f l o;go_enter func115,ntmps115
 go_wp2_with fail
 clear q;obtain⟨c0,c1,t,u,x⟩:=Fh o;clear o;by_cases d:0<=c/\c<=7
 .have U1:Hid (decide _=true):=O' d;by_cases h:0<=s/\s<=1048576
  .have U2:Hid (decide _=true):=O' h;by_cases i:0<=n/\n<=7
   .have U3:Hid (decide _=true):=O' i;by_cases j:0<=v/\v<=1073741824
    .have U4:Hid (decide _=true):=O' j;have b:Hid (true=decide (InC c s n v)):=(O' (a.out.2 ⟨⟨⟨d,h⟩,i⟩,j⟩)).symm;clear d h i j a;go_quiet ((go_at_call 109;exact Calls.quiet_of_same (Jr (by assumption) _)))
     go_wp2
     go_ret;exact⟨Am b.out,Ap f nq⟩
    .have U4:Hid (decide _=false):=E' j;have b:Hid (false=decide (InC c s n v)):=(E' (λG=>j ((λg=>g.2) (a.out.1 G)))).symm;clear d h i j a;go_quiet ((go_at_call 109;exact Calls.quiet_of_same (Jr (by assumption) _)))
     go_wp2
     go_ret;exact⟨Am b.out,Ap f nq⟩
   .have U3:Hid (decide _=false):=E' i;have b:Hid (false=decide (InC c s n v)):=(E' (λG=>i ((λg=>g.1.2) (a.out.1 G)))).symm;clear d h i a;go_quiet ((go_at_call 109;exact Calls.quiet_of_same (Jr (by assumption) _)))
    go_wp2
    go_ret;exact⟨Am b.out,Ap f nq⟩
  .have U2:Hid (decide _=false):=E' h;have b:Hid (false=decide (InC c s n v)):=(E' (λG=>h ((λg=>g.1.1.2) (a.out.1 G)))).symm;clear d h a;go_quiet ((go_at_call 109;exact Calls.quiet_of_same (Jr (by assumption) _)))
   go_wp2
   go_ret;exact⟨Am b.out,Ap f nq⟩
 .have U1:Hid (decide _=false):=E' d;have b:Hid (false=decide (InC c s n v)):=(E' (λG=>d ((λg=>g.1.1.1) (a.out.1 G)))).symm;clear d a;go_quiet ((go_at_call 109;exact Calls.quiet_of_same (Jr (by assumption) _)))
  go_wp2
  go_ret;exact⟨Am b.out,Ap f nq⟩
end
end
end Go.Proofs.YtgbabbapcibnlaaGreatDoor
