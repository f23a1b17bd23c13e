/- Part 1 of the walk. -/
import Derived.Test.YtngmpodijpelnaaGreatDoorZ0
import Derived.WalkKit
import Derived.ProofKit
import Derived.Laws.AppendOwnNone
import Derived.Laws.BytesArg
import Derived.BigQuiet
import Derived.OpenShut
import Derived.StillTail
import Derived.Test.YtngmpodijpelnaaGreatDoorProg
import Derived.Deep.QuietTactic
import Derived.BigRegion
import Derived.Laws.ResultCell
import Derived.Laws.CopyOwn
import Derived.Deep.RegionWith
import Derived.Deep.RegionHeld3
import Derived.Laws.CopyRow
import Derived.Deep.Cut
import Derived.Deep.MidRow
import Derived.Laws.Strings2
import Derived.Test.YtngmpodijpelnaaGreatDoorCards
import Derived.Test.YtngmpodijpelnaaGreatDoorTie
import Derived.SizedLaws
import Derived.ChangeOld
import Derived.ChangeSame
import Derived.ChangeMaps5
import Derived.Deep.DeepHandedRow
import Derived.Lib.LaidTab
import Derived.Deep.Strs
set_option maxRecDepth 100000
set_option maxHeartbeats 4000000
open Go.Proofs.Tryz
set_option linter.unusedVariables false
namespace Go.Proofs.YtngmpodijpelnaaGreatDoor
section
open Go.RowKit Go.ChangeShapes Go.WideShapes Go.ChangeAt
section
abbrev Bw(w w':World):Prop:=Below w.heap.size w w'
abbrev zV5:Array Value:=#[.int .i64 0,.int .i64 0,.int .i64 0,.int .i64 0,.int .i64 0]
abbrev zV8:Array Value:=#[.int .i64 0,.int .i64 0,.int .i64 0,.int .i64 0,.int .i64 0,.int .i64 0,.int .i64 0,.int .i64 0]
structure Sl(w:World)(v:Value)(l:List Int):Prop where
 ex:∃ a cap,v=.slice a l.length cap/\l.length<=cap/\(a=none->cap=0)/\(l=[]\/∃ b off,a=some ⟨b,off,none⟩/\b<w.heap.size/\∀ i,i<l.length->w.cell? ⟨b,off+i,none⟩=some (.int .u8 (l.getD i 0)))
 len:l.length<=140737488351232
 byte:∀ x∈l,0<=x/\x<256
variable{P:Program}{base cap e i n:Nat}{l:List Int}{v:Value}{w:World}
theorem Sl.af{f:World}(h:Sl w v l)(e:Below w.heap.size w f):Sl f v l:=by
 obtain⟨⟨a,c,rfl,k,n,d⟩,g,j⟩:=h;refine⟨⟨a,c,rfl,k,n,?_⟩,g,j⟩;rcases d with d|⟨b,off,ha,hbs,hcell⟩
 .exact .inl d
 .exact .inr ⟨b,off,ha,X' hbs e.size,λi m=>(e.cell (p:=⟨b,off+i,none⟩) hbs).trans (hcell i m)⟩
theorem Sl.nil(w:World)(a:Option Addr):Sl w (.slice a 0 0) []:=⟨⟨a,0,rfl,by simp,by simp,.inl rfl⟩,by simp,by simp⟩
theorem Sl.mv(h:w.ownsRow base e 1 v l.length (l.map (Value.int .u8)))(f:l.length<=140737488351232)(c:∀ x∈l,0<=x/\x<256):Sl w v l:=by
 refine⟨?_,f,c⟩;rcases h.2 with⟨rfl,h0⟩|⟨g,cap,cur,rfl,_,hg,hn,_,hcs,ht⟩
 .exact⟨none,0,by rw[h0],by omega,λ_=>rfl,.inl (Y' h0)⟩
 .refine⟨_,cap,rfl,hn,by simp,.inr ⟨g,0,rfl,(U'.1 hg).1,λi d=>?_⟩⟩;have b:=h.cells (g:=g) rfl i (.int .u8 (l.getD i 0)) (by simp[List.getElem?_eq_getElem d,List.getD]);have a:(⟨g,0,none⟩:Addr).add i=⟨g,i,none⟩:=by unfold Addr.add;split<;>simp_all
  rw[a]at b
  simpa using b
theorem AQ(a:i<l.length):l.getD i 0=l[i]:=by simp[List.getD,List.getElem?_eq_getElem a]
theorem Hf(a:l.length<=i):l.getD i 0=0:=by simp[List.getD,List.getElem?_eq_none a]
theorem Am(h:∀ x∈l,0<=x/\x<256)(i:Nat):0<=l.getD i 0/\l.getD i 0<256:=by
 rcases oc i l.length with hi|hi
 .rw[AQ hi];exact h _ (nU hi)
 .rw[Hf hi];omega
theorem Fs(l:List Int):∀ u∈l.map (Value.int .u8),u.oneCell'=true:=by
 intro u a;obtain⟨x,_,rfl⟩:=nF.1 a;rfl
theorem H6(w:World)(c t x e:Nat)(A:P.underlying t=some (.slice e))(h:(P.info? e).map (λi=>(i.zero,i.size,i.bytes))=some (some (.int .u8 0),1,1))(v:Value)(l:List Int)(d:w.ownsRow c e 1 v l.length (l.map (Value.int .u8)))(u:Value)(m:List Int)(H:Sl w u m)(z:l.length+m.length<=140737488355328)(g:c<=w.heap.size) :
  ∃ v' w',(Builtin.append_ #[t,t] x #[v,u]).run P w=.ok v' w'/\w'.ownsRow c e 1 v' (l++m).length ((l++m).map (Value.int .u8))/\w.grownBy w' v.ownBlock:=by
 obtain⟨i,y,I,s,q⟩:=info_parts h;obtain⟨⟨a,p,rfl,J,E,B⟩,_,_⟩:=H;cases a with
 | none =>
  have r:=E rfl;subst r;have D:m=[]:=Y' (by omega);subst D;refine⟨v,w,?_,by simpa using d,⟨rfl,rfl,rfl,A' _,λ_ _ _=>rfl⟩⟩;exact run_append_owned_none (P:=P) (w:=w) c t x e i 1 A y v l.length _ d
 | some ad =>
  have f:∀ j u,(m.map (Value.int .u8))[j]?=some u->w.cell? (ad.add j)=some u:=by
   intro j u o;rcases B with rfl|⟨b,off,hab,_,hcell⟩
   .simp at o
   .obtain rfl:ad=⟨b,off,none⟩:=by simpa using hab
    have k:j<m.length:=by
     have:=(V'.1 o).1;simpa using this
    have n:(⟨b,off,none⟩:Addr).add j=⟨b,off+j,none⟩:=by unfold Addr.add;split<;>simp_all
    rw[n,hcell j k];simp[List.getElem?_eq_getElem k]at o
    rw[AQ k,o]
  obtain⟨v',w',G,F,C,_⟩:=run_append_own (P:=P) w c t x e i (.int .u8 0) 1 1 A y I s q rfl (by decide) v l.length _ d ad m.length p (m.map (Value.int .u8)) (by simp) f (Fs m)
   (by unfold maxLen;omega) (by omega) g
  exact⟨v',w',G,by simpa using F,C⟩
theorem Aa(w:World){n:Array Oper}{c:List Oper}{o:Oper}{a:Act}{Q:Exit->Act->World->Prop}(p:o.guard=none)(s x:Operand)(t:TypeId)(r:o.op=.call { callee:=.builtin .append,args:=#[s,x],argTypes:=#[t,t] })(b e:Nat)(z:P.underlying t=some (.slice e))(f:(P.info? e).map (λi=>(i.zero,i.size,i.bytes))=some (some (.int .u8 0),1,1))(v u:Value)(y:a.eval s=v)(B:a.eval x=u)(l m:List Int)(j:w.ownsRow b e 1 v l.length (l.map (Value.int .u8)))(A:Sl w u m)(g:l.length+m.length<=140737488355328)(d:b<=w.heap.size)(h:∀ v' w',w'.ownsRow b e 1 v' (l++m).length ((l++m).map (Value.int .u8))->w.grownBy w' v.ownBlock->wpList P n Q c (a.put o.dst v') w'):wpList P n Q (o::c) a w:=by
 refine wpList_plain p λK q=>?_;obtain⟨v',w',k,C,D⟩:=H6 (P:=P) w b t o.type e z f v l j u m A g d;unfold Oper.wp execOp;simp only[r,resolve,invoke,builtin,Sem.run_bind,Sem.run_pure,Result.andThen_ok,qb,nW,oV,y,B,k];exact q _ _ (h v' w' C D)
theorem Sl.take{a:Option Addr}(h:Sl w (.slice a n cap) l)(m:Nat)(s:m<=l.length):Sl w (.slice a m cap) (l.take m):=by
 obtain⟨⟨q,d,e,r,o,f⟩,k,c⟩:=h;simp only[Value.slice.injEq]at e;obtain⟨rfl,rfl,rfl⟩:=e;have j:(l.take m).length=m:=by rw[j'];omega
 refine⟨⟨a,cap,by rw[j],by omega,o,?_⟩,by omega,λx p=>c x (nB p)⟩;rcases f with rfl|⟨b,off,rfl,hb,hcell⟩
 .exact .inl (by simp)
 .refine .inr ⟨b,off,rfl,hb,λi g=>?_⟩;rw[hcell i (by omega),AQ (by omega),AQ g];simp
theorem Sl.drop{b off:Nat}(h:Sl w (.slice (some ⟨b,off,none⟩) n cap) l)(k:Nat)(s:k<=l.length)(a:Nat)(g:l.length<=a+k):Sl w (.slice (some ⟨b,off+k,none⟩) (l.length-k) a) (l.drop k):=by
 obtain⟨⟨q,d,e,r,t,f⟩,o,c⟩:=h;simp only[Value.slice.injEq]at e;obtain⟨rfl,rfl,rfl⟩:=e;have m:(l.drop k).length=l.length-k:=by rw[nu]
 refine⟨⟨_,a,by rw[m],by omega,by simp,?_⟩,by omega,λx p=>c x (pm p)⟩;rcases f with rfl|⟨b,off,e,hb,hcell⟩
 .exact .inl (by simp)
 .simp only[Z',Addr.mk.injEq,and_true]at e;obtain⟨rfl,rfl⟩:=e;refine .inr ⟨_,_,rfl,hb,λi j=>?_⟩;rw[oB,hcell (k+i) (by omega),AQ (by omega),AQ j];simp
theorem EE(h:w.ownsRow base e 1 v l.length (l.map (Value.int .u8)))(c:l≠[]) :
  ∃ g cap,v=.slice (some ⟨g,0,none⟩) l.length cap/\base<=g/\g<w.heap.size/\l.length<=cap/\(∀ i,i<l.length->w.cell? ⟨g,i,none⟩=some (.int .u8 (l.getD i 0)))/\(∀ i,w.frozen? ⟨g,i,none⟩=false):=by
 rcases h.2 with⟨rfl,h0⟩|⟨g,cap,cur,rfl,hb,hg,hn,_,hcs,ht⟩
 .exact absurd (Y' h0) c
 .refine⟨g,cap,rfl,hb,(U'.1 hg).1,hn,λi b=>?_,λi=>?_⟩
  .have hc:=h.cells (g:=g) rfl i (.int .u8 (l.getD i 0)) (by simp[List.getElem?_eq_getElem b,List.getD]);have a:(⟨g,0,none⟩:Addr).add i=⟨g,i,none⟩:=by unfold Addr.add;split<;>simp_all
   rwa [a]at hc
  .simp[World.frozen?,hg]
theorem Sl.built(w:World)(l:List Int)(e:TypeId){g:Nat}(b:g=w.heap.size)(d:l.length<=140737488351232)(a:∀ x∈l,0<=x/\x<256):Sl (w.alloc (.cells (l.map (Value.int .u8)).toArray e)) (.slice (some ⟨g,0,none⟩) l.length l.length) l:=by
 subst b;refine⟨⟨_,l.length,rfl,by simp,by simp,.inr ⟨w.heap.size,0,rfl,by simp,λi c=>?_⟩⟩,d,a⟩;rw[cell_of_row _ _ (0+i) _ _ _ (heap_alloc_new w _)];simp[List.getElem?_eq_getElem c,List.getD]
theorem Sl.one(w:World)(b:Int)(e:TypeId){g:Nat}(c:g=w.heap.size)(a:0<=b/\b<256):Sl (w.alloc (.cells #[.int .u8 b] e)) (.slice (some ⟨g,0,none⟩) 1 1) [b]:=by
 subst c;refine⟨⟨_,1,rfl,by simp,by simp,.inr ⟨w.heap.size,0,rfl,by simp,λi d=>?_⟩⟩,by simp,by simpa using a⟩;obtain rfl:i=0:=by simpa using d
 simp
theorem Az{a b:Bool}(h:a=b):Ending.returned (.bool a)=.returned (.bool b):=by rw[h]
theorem Ar{B:Nat}{a:World}(h:Below B a w)(n:Nat):Below B a (w.drewN n):=h.trans ⟨rfl,rfl,rfl,A' _,λ_ _=>rfl⟩
end
end
section
open Go.RowKit
section
def Zn:Value->Nat
 | .slice _ n _=>n
 | _=>0
variable{P:Program}{base n:Nat}{l:List Int}{v:Value}{w:World}{x y:Int}{xs:List Value}
theorem EW{e:Nat}(h:w.ownsRow base e 1 v n xs):∃ a cap,v=.slice a n cap:=by
 rcases h.2 with⟨rfl,rfl⟩|⟨g,cap,cur,rfl,_⟩
 .exact⟨none,0,rfl⟩
 .exact⟨_,cap,rfl⟩
theorem BN{a:Nat}{e:TypeId}{b:Nat}(h:w.ownsRow base e b v n xs)(c:a<=base):w.ownsRow a e b v n xs:=by
 refine⟨h.1,?_⟩;rcases h.2 with h2|⟨g,cap,cur,hv,hg,hr⟩
 .exact .inl h2
 .exact .inr ⟨g,cap,cur,hv,na c hg,hr⟩
theorem MD(l:List Int)(j:Nat):l++List.replicate j 0++[0]=l++List.replicate (j+1) 0:=by
 rw[nm,<- List.replicate_succ']
theorem Sl.shape(h:Sl w v l):∃ a cap,v=.slice a l.length cap:=by
 obtain⟨⟨a,cap,e,_⟩,_⟩:=h;exact⟨a,cap,e⟩
def AZ(l:List Int):Array Value:=(l.map (Value.int .u8)).toArray
theorem AI(l:List Int):(AZ l).size=l.length:=by simp[AZ]
theorem Ls(l:List Int):(AZ l).all (·.oneCell')=true:=by simp[AZ,Value.oneCell']
theorem E7(l:List Int)(i:Nat)(h:i<l.length):(AZ l)[i]?=some (.int .u8 (l.getD i 0)):=by
 simp[AZ,List.getD,List.getElem?_eq_getElem h]
theorem XK(l:List Int)(i:Nat)(x:Int):(AZ l).setIfInBounds i (.int .u8 x)=AZ (l.set i x):=by
 apply rP;simp[AZ,List.map_set]
def uw(x:BitVec 32):Int:=(x.toNat:Int)
theorem Ep(x:BitVec 32):0<=uw x:=Int.natCast_nonneg _
theorem bW(x:BitVec 32):uw x<4294967296:=by unfold uw;have:=x.isLt;omega
theorem Uo{x y:BitVec 32}:uw x=uw y↔x=y:=by
 unfold uw;constructor
 .intro h;exact BitVec.eq_of_toNat_eq (by omega)
 .rintro rfl;rfl
theorem Nj(x y:BitVec 32):bits .and .u32 (uw x) (uw y)=uw (x &&& y):=by
 unfold uw;rw[u32_and_nat _ _ x.isLt y.isLt,BitVec.toNat_and]
theorem KB(x y:BitVec 32):bits .or .u32 (uw x) (uw y)=uw (x ||| y):=by
 unfold uw;rw[u32_or_nat _ _ x.isLt y.isLt,sa]
theorem DO(x y:BitVec 32):bits .xor .u32 (uw x) (uw y)=uw (x ^^^ y):=by
 unfold uw;rw[u32_xor_nat _ _ x.isLt y.isLt,BitVec.toNat_xor]
theorem mX(x y:BitVec 32):IntKind.u32.wrap (uw x+uw y)=uw (x+y):=by
 unfold uw;rw[IntKind.wrap_u32',rW];omega
theorem D6(a b:BitVec 32):(uw a+uw b)%(4294967296:Int)=uw (a+b):=by
 unfold uw;rw[rW];omega
theorem fQ(a b c:BitVec 32):(uw a+uw b+uw c)%(4294967296:Int)=uw (a+b+c):=by
 rw[<- D6,<- D6];omega
theorem Vw(a b c d:BitVec 32):(uw a+uw b+uw c+uw d)%(4294967296:Int)=uw (a+b+c+d):=by
 rw[<- D6,<- fQ];omega
theorem GS(x:BitVec 32)(k:Nat):uw x*(2:Int)^k%(4294967296:Int)=uw (x <<< k):=by
 unfold uw;rw[BitVec.toNat_shiftLeft,Nat.shiftLeft_eq,rX,rA,pV];rfl
theorem Qa(x:BitVec 32)(k:Nat):uw x/(2:Int)^k=uw (x >>> k):=by
 unfold uw;rw[BitVec.toNat_ushiftRight,Nat.shiftRight_eq_div_pow,Int.natCast_ediv,pV];rfl
theorem fP(x:BitVec 32):uw x/(8:Int)=uw (x >>> 3):=Qa x 3
theorem bY(x:BitVec 32):uw x/(1024:Int)=uw (x >>> 10):=Qa x 10
theorem jM(x:BitVec 32)(n:Nat)(a:1<=n)(b:n<=31):bits .or .u32 (uw x*2^(32-n)%4294967296) (uw x/2^(32-(32-n)))=uw (x.rotateRight n):=by
 rw[GS,Qa,KB,Uo];rw[show 32-(32-n)=n by omega,BitVec.rotateRight_def,q' (by omega:n<32),BitVec.or_comm]
def F6(n:Nat):Nat:=(119-n%64)%64
def CW(n:Nat):List Int:=[((n*8/2^56%256:Nat):Int),((n*8/2^48%256:Nat):Int),((n*8/2^40%256:Nat):Int),((n*8/2^32%256:Nat):Int),
 ((n*8/2^24%256:Nat):Int),((n*8/2^16%256:Nat):Int),((n*8/2^8%256:Nat):Int),((n*8/2^0%256:Nat):Int)]
def CX(l:List Int)(j:Nat):List Int:=l++[128]++List.replicate j 0
def pad(l:List Int):List Int:=CX l (F6 l.length)++CW l.length
theorem D1(l:List Int)(j:Nat):(CX l j).length=l.length+1+j:=by simp[CX];omega
theorem TC(l:List Int)(j:Nat):CX l j++[0]=CX l (j+1):=by
 simp only[CX,nm];rw[<- List.replicate_succ']
theorem KM(n:Nat):(CW n).length=8:=rfl
theorem TD(l:List Int):(pad l).length%64=0/\l.length<(pad l).length/\(pad l).length<=l.length+72:=by
 unfold pad;rw[E',D1,KM];unfold F6;omega
theorem TB(h:∀ x∈l,0<=x/\x<256)(j:Nat):∀ x∈CX l j,0<=x/\x<256:=by
 intro x a;simp only[CX,O',D',ql]at a;rcases a with(a|rfl)|⟨_,rfl⟩
 .exact h x a
 .omega
 .omega
theorem NG(n:Nat):∀ x∈CW n,0<=x/\x<256:=by
 intro x a;simp only[CW,nr,Q',or_false]at a;rcases a with rfl|rfl|rfl|rfl|rfl|rfl|rfl|rfl<;>omega
theorem ZX(h:∀ x∈l,0<=x/\x<256):∀ x∈pad l,0<=x/\x<256:=by
 intro x a;rcases O'.1 a with h1|h1
 .exact TB h _ x h1
 .exact NG _ x h1
theorem P5(n s:Nat):((n*8/2^s%256:Nat):Int)=(n:Int)*8/2^s%256:=by
 rw[rX,Int.natCast_ediv,rA,pV];rfl
theorem NH(n k:Nat)(a:k<8):(CW n).take (k+1)=(CW n).take k++[(n:Int)*8/2^(56-8*k)%256]:=by
 rw[<- P5];obtain rfl|rfl|rfl|rfl|rfl|rfl|rfl|rfl:k=0\/k=1\/k=2\/k=3\/k=4\/k=5\/k=6\/k=7:=by omega
 all_goals rfl
def AC(ws:List (BitVec 32)):Array Value:=(ws.map λx=>Value.int .u32 (uw x)).toArray
theorem Bo(a:List (BitVec 32)):(AC a).size=a.length:=by simp[AC]
theorem Ca(a:List (BitVec 32))(i:Nat)(h:i<a.length):(AC a)[i]?=some (.int .u32 (uw (a.getD i 0#32))):=by
 simp[AC,List.getD,List.getElem?_eq_getElem h]
theorem Nl(a:List (BitVec 32))(i:Nat)(x:BitVec 32):(AC a).setIfInBounds i (.int .u32 (uw x))=AC (a.set i x):=by
 apply rP;simp[AC,List.map_set]
def CL(n:Int):BitVec 32:=BitVec.ofNat 32 n.toNat
def Us(l:List Int)(i:Nat):BitVec 32:=CL (l.getD (4*i) 0) <<< 24 ||| CL (l.getD (4*i+1) 0) <<< 16 ||| CL (l.getD (4*i+2) 0) <<< 8 ||| CL (l.getD (4*i+3) 0)
def j5(x:BitVec 32):BitVec 32:=x.rotateRight 7 ^^^ x.rotateRight 18 ^^^ x >>> 3
def j6(x:BitVec 32):BitVec 32:=x.rotateRight 17 ^^^ x.rotateRight 19 ^^^ x >>> 10
def KS(l:List Int):Nat->List (BitVec 32)
 | 0=>List.replicate 64 0#32
 | k+1=>(KS l k).set k (Us l k)
def ZG(ws:List (BitVec 32))(i:Nat):BitVec 32:=ws.getD (i-16) 0#32+j5 (ws.getD (i-15) 0#32)+ws.getD (i-7) 0#32+j6 (ws.getD (i-2) 0#32)
def Gm(l:List Int):Nat->List (BitVec 32)
 | 0=>KS l 16
 | k+1=>(Gm l k).set (16+k) (ZG (Gm l k) (16+k))
def ON(l:List Int):List (BitVec 32):=Gm l 48
theorem GJ(l:List Int)(k:Nat):(KS l k).length=64:=by
 induction k with
 | zero=>simp[KS]
 | succ k ih=>simp[KS,ih]
theorem EY(l:List Int)(k:Nat):(Gm l k).length=64:=by
 induction k with
 | zero=>exact GJ l 16
 | succ k ih=>simp[Gm,ih]
theorem PN(l:List Int):(ON l).length=64:=EY l 48
theorem Lj(n:Int)(h:0<=n/\n<256):uw (CL n)=n:=by
 unfold uw CL;rw[rH];omega
def Te:List Int:=[1116352408,1899447441,3049323471,3921009573,961987163,1508970993,2453635748,2870763221,3624381080,310598401,607225278,1426881987,1925078388,2162078206,2614888103,3248222580,3835390401,4022224774,264347078,604807628,770255983,1249150122,1555081692,1996064986,2554220882,2821834349,2952996808,3210313671,3336571891,3584528711,113926993,338241895,666307205,773529912,1294757372,1396182291,1695183700,1986661051,2177026350,2456956037,2730485921,2820302411,3259730800,3345764771,3516065817,3600352804,4094571909,275423344,430227734,506948616,659060556,883997877,958139571,1322822218,1537002063,1747873779,1955562222,2024104815,2227730452,2361852424,2428436474,2756734187,3204031479,3329325298]
def kAt(i:Nat):BitVec 32:=BitVec.ofNat 32 (Te.getD i 0).toNat
structure St where
 a:BitVec 32
 b:BitVec 32
 c:BitVec 32
 d:BitVec 32
 e:BitVec 32
 f:BitVec 32
 g:BitVec 32
 h:BitVec 32
def St.cells(s:St):Array Value:=#[.int .u32 (uw s.a),.int .u32 (uw s.b),.int .u32 (uw s.c),.int .u32 (uw s.d),.int .u32 (uw s.e),.int .u32 (uw s.f),.int .u32 (uw s.g),.int .u32 (uw s.h)]
def St.list(s:St):List (BitVec 32):=[s.a,s.b,s.c,s.d,s.e,s.f,s.g,s.h]
def Sp(e f g:BitVec 32):BitVec 32:=(e &&& f) ^^^ (~~~e &&& g)
def iY(a b c:BitVec 32):BitVec 32:=(a &&& b) ^^^ (a &&& c) ^^^ (b &&& c)
def kq(e:BitVec 32):BitVec 32:=e.rotateRight 6 ^^^ e.rotateRight 11 ^^^ e.rotateRight 25
def ko(a:BitVec 32):BitVec 32:=a.rotateRight 2 ^^^ a.rotateRight 13 ^^^ a.rotateRight 22
def upS(s:St)(k w:BitVec 32):BitVec 32:=s.h+kq s.e+Sp s.e s.f s.g+k+w
def gi(s:St):BitVec 32:=ko s.a+iY s.a s.b s.c
def bg(s:St)(k w:BitVec 32):St:={ a:=upS s k w+gi s,b:=s.a,c:=s.b,d:=s.c,e:=s.d+upS s k w,f:=s.e,g:=s.f,h:=s.g }
def BQ(ws:List (BitVec 32))(s:St):Nat->St
 | 0=>s
 | k+1=>bg (BQ ws s k) (kAt k) (ws.getD k 0#32)
def m7(s t:St):St:={ a:=s.a+t.a,b:=s.b+t.b,c:=s.c+t.c,d:=s.d+t.d,e:=s.e+t.e,f:=s.f+t.f,g:=s.g+t.g,h:=s.h+t.h }
def E6(s t:St):Nat->List (BitVec 32)
 | 0=>s.list
 | i+1=>(E6 s t i).set i ((E6 s t i).getD i 0#32+t.list.getD i 0#32)
theorem F9(s t:St)(i:Nat):(E6 s t i).length=8:=by
 induction i with
 | zero=>rfl
 | succ i ih=>simp[E6,ih]
def ZA(s:St)(ws:List (BitVec 32)):St:=m7 s (BQ ws s 64)
def start:St:={ a:=1779033703#32,b:=3144134277#32,c:=1013904242#32,d:=2773480762#32,e:=1359893119#32,f:=2600822924#32,g:=528734635#32,h:=1541459225#32 }
def FA(x:BitVec 32):List Int:=[uw x/16777216%256,uw x/65536%256,uw x/256%256,uw x%256]
def CP:List (BitVec 32)->List Int
 | []=>[]
 | x::r=>FA x++CP r
def Pi(s:St):List Int:=CP s.list
theorem Kh(x:BitVec 32):∀ n∈FA x,0<=n/\n<256:=by
 intro n a;simp only[FA,nr,Q',or_false]at a;rcases a with rfl|rfl|rfl|rfl<;>omega
theorem Qm(l:List (BitVec 32)):∀ n∈CP l,0<=n/\n<256:=by
 induction l with
 | nil=>intro n a;cases a
 | cons x r ih =>
  intro n a;rcases O'.1 a with h|h
  .exact Kh x n h
  .exact ih n h
theorem Qn(l:List (BitVec 32))(x:BitVec 32):CP (l++[x])=CP l++FA x:=by
 induction l with
 | nil=>simp[CP]
 | cons y r ih=>simp[CP,ih]
theorem Hx(l:List (BitVec 32)):(CP l).length=4*l.length:=by
 induction l with
 | nil=>rfl
 | cons x r ih=>simp[CP,FA,ih];omega
def Po(l:List Int):Nat->St
 | 0=>start
 | k+1=>ZA (Po l k) (ON ((l.drop (64*k)).take 64))
def dig(l:List Int):List Int:=Pi (Po (pad l) ((pad l).length/64))
theorem Au(l:List Int):(dig l).length=32:=rfl
theorem Dx(l:List Int):∀ n∈dig l,0<=n/\n<256:=Qm _
def NF(s:List (BitVec 32))(a b:Nat):List (BitVec 32):=s.set a (s.getD a 0#32+s.getD b 0#32)
def iI(s:List (BitVec 32))(a t n:Nat):List (BitVec 32):=s.set t ((s.getD t 0#32 ^^^ s.getD a 0#32).rotateLeft n)
def Km(s:List (BitVec 32))(a b t n:Nat):List (BitVec 32):=iI (NF s a b) a t n
def My(s:List (BitVec 32))(a b c d:Nat):List (BitVec 32):=Km (Km (Km (Km s a b d 16) c d b 12) a b d 8) c d b 7
theorem Kl(s:List (BitVec 32))(a b:Nat):(NF s a b).length=s.length:=by simp[NF]
theorem QM(s:List (BitVec 32))(a t n:Nat):(iI s a t n).length=s.length:=by simp[iI]
theorem Cj(s:List (BitVec 32))(a b t n:Nat):(Km s a b t n).length=s.length:=by rw[Km,QM,Kl]
theorem NJ(s:List (BitVec 32))(a b c d:Nat):(My s a b c d).length=s.length:=by simp only[My,Cj]
def Fx:List Nat:=[0,4,8,12,1,5,9,13,2,6,10,14,3,7,11,15,0,5,10,15,1,6,11,12,2,7,8,13,3,4,9,14]
def H8(s:List (BitVec 32)):Nat->List (BitVec 32)
 | 0=>s
 | k+1=>My (H8 s k) (Fx.getD (4*k) 0) (Fx.getD (4*k+1) 0) (Fx.getD (4*k+2) 0) (Fx.getD (4*k+3) 0)
def Ei(s:List (BitVec 32)):Nat->List (BitVec 32)
 | 0=>s
 | k+1=>H8 (Ei s k) 8
theorem Jt(s:List (BitVec 32))(k:Nat):(H8 s k).length=s.length:=by
 induction k with
 | zero=>rfl
 | succ k ih=>rw[H8,NJ,ih]
theorem H9(s:List (BitVec 32))(k:Nat):(Ei s k).length=s.length:=by
 induction k with
 | zero=>rfl
 | succ k ih=>rw[Ei,Jt,ih]
theorem Lg(i:Nat):Fx.getD i 0<16:=by
 have all:∀ j:Fin 32,Fx.getD j.val 0<16:=by decide
 rcases oc i 32 with h|h
 .exact all ⟨i,h⟩
 .rw[List.getD,pf (by simpa[Fx]using h)];decide
def Lw(x:BitVec 32):List Int:=[uw x%256,uw x/256%256,uw x/65536%256,uw x/16777216%256]
def gZ(s t:List (BitVec 32))(i:Nat):BitVec 32:=s.getD i 0#32+t.getD i 0#32
def T4(s t:List (BitVec 32)):Nat->List Int
 | 0=>[]
 | k+1=>T4 s t k++Lw (gZ s t k)
theorem G9(s t:List (BitVec 32))(k:Nat):(T4 s t k).length=4*k:=by
 induction k with
 | zero=>rfl
 | succ k ih=>simp[T4,Lw,ih];omega
theorem Qo(x:BitVec 32):∀ n∈Lw x,0<=n/\n<256:=by
 intro n a;simp only[Lw,nr,Q',or_false]at a;rcases a with rfl|rfl|rfl|rfl<;>omega
theorem WJ(s t:List (BitVec 32))(k:Nat):∀ n∈T4 s t k,0<=n/\n<256:=by
 induction k with
 | zero=>intro n a;cases a
 | succ k ih =>
  intro n a;rcases O'.1 a with h|h
  .exact ih n h
  .exact Qo _ n h
def CO(s:List (BitVec 32)):List Int:=T4 (Ei s 10) s 16
theorem Fc(s:List (BitVec 32)):(CO s).length=64:=G9 _ _ _
theorem Gr(s:List (BitVec 32)):∀ n∈CO s,0<=n/\n<256:=WJ _ _ _
def cE(l:List Int)(i:Nat):BitVec 32:=CL (l.getD (4*i) 0) ||| CL (l.getD (4*i+1) 0) <<< 8 ||| CL (l.getD (4*i+2) 0) <<< 16 ||| CL (l.getD (4*i+3) 0) <<< 24
def Em(s:List (BitVec 32))(off:Nat)(l:List Int):Nat->List (BitVec 32)
 | 0=>s
 | k+1=>(Em s off l k).set (off+k) (cE l k)
theorem Ew(s:List (BitVec 32))(a:Nat)(l:List Int)(k:Nat):(Em s a l k).length=s.length:=by
 induction k with
 | zero=>rfl
 | succ k ih=>simp[Em,ih]
def Il:List (BitVec 32):=[1634760805#32,857760878#32,2036477234#32,1797285236#32,0#32,0#32,0#32,0#32,0#32,0#32,0#32,0#32,0#32,0#32,0#32,0#32]
def Cf(key:List Int)(c:BitVec 32)(nonce:List Int):List (BitVec 32):=Em ((Em Il 4 key 8).set 12 c) 13 nonce 3
theorem Hw(key:List Int)(c:BitVec 32)(a:List Int):(Cf key c a).length=16:=by
 simp[Cf,Ew,Il]
def bx(x y:Int):Int:=((x.toNat ^^^ y.toNat:Nat):Int)
theorem Ph(a:0<=x/\x<256)(b:0<=y/\y<256):0<=bx x y/\bx x y<256:=by
 unfold bx;have:x.toNat ^^^ y.toNat<2^8:=qm (by omega) (by omega);omega
theorem kr(a:0<=y):bx x (bx x y)=y:=by
 unfold bx;rw[nS,<- Nat.xor_assoc,Nat.xor_self,Nat.zero_xor];omega
def MQ(s:List (BitVec 32))(i:Nat):Int:=(CO (s.set 12 (s.getD 12 0#32+BitVec.ofNat 32 (i/64)))).getD (i%64) 0
theorem Ug(s:List (BitVec 32))(i:Nat):0<=MQ s i/\MQ s i<256:=Am (Gr _) _
def CM(s:List (BitVec 32))(d:List Int):Nat->List Int
 | 0=>[]
 | k+1=>CM s d k++[bx (MQ s k) (d.getD k 0)]
def KN(s:List (BitVec 32))(d:List Int):List Int:=CM s d d.length
theorem Dz(s:List (BitVec 32))(d:List Int)(k:Nat):(CM s d k).length=k:=by
 induction k with
 | zero=>rfl
 | succ k ih=>simp[CM,ih]
theorem Dm(s:List (BitVec 32))(d:List Int):(KN s d).length=d.length:=Dz _ _ _
theorem Tp(s:List (BitVec 32)){d:List Int}(b:∀ x∈d,0<=x/\x<256)(k:Nat):∀ n∈CM s d k,0<=n/\n<256:=by
 induction k with
 | zero=>intro n a;cases a
 | succ k ih =>
  intro n a;rcases O'.1 a with h|h
  .exact ih n h
  .obtain rfl:n=_:=by simpa using h
   exact Ph (Ug _ _) (Am b k)
theorem JG(s:List (BitVec 32)){d:List Int}(a:∀ x∈d,0<=x/\x<256):∀ n∈KN s d,0<=n/\n<256:=Tp s a _
theorem QW(s:List (BitVec 32))(d:List Int)(k i:Nat)(a:i<k):(CM s d k).getD i 0=bx (MQ s i) (d.getD i 0):=by
 induction k with
 | zero=>omega
 | succ k ih =>
  rw[CM];rcases oc i k with h|h
  .rw[<- ih h];simp[List.getD,List.getElem?_append_left (show i<(CM s d k).length by rw[Dz];exact h)]
  .obtain rfl:i=k:=by omega
   simp[List.getD,Dz]
theorem Zr{m:List Int}(c:l.length=m.length)(h:∀ i,i<l.length->l.getD i 0=m.getD i 0):l=m:=by
 refine pz c λi a b=>?_;have:=h i a
 rwa [AQ a,AQ b]at this
theorem W6(s:List (BitVec 32)){d:List Int}(b:∀ x∈d,0<=x/\x<256):KN s (KN s d)=d:=by
 refine Zr (by rw[Dm,Dm]) λi a=>?_;rw[Dm,Dm]at a
 rw[KN,QW _ _ _ _ (by rw[Dm];exact a),KN,QW _ _ _ _ a,kr (Am b i).1]
theorem CD{c:Array Oper}{Q:Act->Prop}:∀ (l:List Oper) (a:Act),wpQuiet P c (λw'=>w'=w) Q l a->wpStill P c w Q l a
 | [],_,h=>h
 | o::rest,a,h=>by
  unfold wpQuiet at h;unfold wpStill;split
  .rename_i hw
   rw[if_pos hw]at h
   obtain⟨v,h1,h2⟩:=h;have b:=h1 w rfl;unfold Oper.quietAt at b;unfold Oper.still;generalize (execOp a.eval o).run P w=r at b ⊢;cases r with
   | ok n w' =>
    cases n<;>simp only[Oper.quietUpon]at b<;>simp only[Oper.stillUpon]
    case value u =>
     obtain⟨d,e⟩:=b;rw[e];exact⟨d,CD rest _ h2⟩
    case skip =>
     obtain⟨d,e⟩:=b;rw[<- e];exact⟨d,CD rest _ h2⟩
    case enter f args=>exact⟨b.1,v,b.2,CD rest _ h2⟩
   | halt x w'=>simp only[Oper.quietUpon]at b
  .rename_i hw
   rw[if_neg hw]at h
   exact CD rest _ h
theorem Aw{d:Nat}{Q:Exit->Act->World->Prop}{a:Act}{l:List Oper}(n:Nat)(c:P.follows .mixedOrders=true)(b:Region.lexTailB .any l.toArray n=true)(h:wpQuiet P l.toArray (λw'=>w'=w.drew) (λa'=>wpList P l.toArray Q (l.drop n) a' w.drew) (l.take n) a):(Code.region d l.toArray true).wp P Q a w :=
 wp_region_still_tail n c b (CD _ _ h)
theorem aD{a b:Int}(h:a=b):Ending.returned (.int .u32 a)=.returned (.int .u32 b):=by rw[h]
theorem ij(n:Nat)(a:n<=31):bits .and .u64 (n:Int) 31=(n:Int):=by
 rw[show(31:Int)=((31:Nat):Int)from rfl,u64_and_nat _ _ (by omega) (by omega),nat_mask5];omega
theorem fO(x:BitVec 32)(n:Nat)(a:1<=n)(b:n<=31):bits .or .u32 (uw x*2^n%4294967296) (uw x/2^(32-n))=uw (x.rotateLeft n):=by
 rw[GS,Qa,KB,Uo];rw[BitVec.rotateLeft_def,q' (by omega:n<32)]
theorem aK(x:BitVec 32)(n:Nat)(w:World)(b:1<=n)(a:n<=31) :
  Calls prog 175 #[.int .u32 (uw x),.int .i64 (n:Int)] w λe w'=>e=.returned (.int .u32 (uw (x.rotateLeft n)))/\w'=w:=by
 have c:=Ep x;have d:=bW x;have f:=ij n a;go_enter func175,ntmps175
 go_wp2
 go_ret;exact⟨aD (fO x n b a),rfl⟩
theorem fc(v:Int)(x:BitVec 32)(c:v=uw x)(n:Nat)(w:World)(a:1<=n)(b:n<=31) :
  Calls prog 175 #[.int .u32 v,.int .i64 (n:Int)] w λe w'=>e=.returned (.int .u32 (uw (x.rotateLeft n)))/\w'=w:=by
 subst c;exact aK x n w a b
theorem Fy{g:Nat}{a:List (BitVec 32)}(h:w.heap[g]?=some (.cells (AC a) 203 (0,0)))(k:Nat)(x:BitVec 32) :
  (w.setCell ⟨g,k,none⟩ (.int .u32 (uw x))).heap[g]?=some (.cells (AC (a.set k x)) 203 (0,0)):=by
 rw[heap_setCell_same _ _ _ _ _ _ h,Nl]
theorem IA(g:Nat)(c:List (BitVec 32))(w:World)(i:w.heap[g]?=some (.cells (AC c) 203 (0,0)))(r:c.length=16)(a b t n:Nat)(D:a<16)(E:b<16)(F:t<16)(A:1<=n)(B:n<=31) :
  Calls prog 199 #[.pointer (some ⟨g,0,none⟩),.int .i64 a,.int .i64 b,.int .i64 t,.int .i64 n] w λe w'=>e=.returned (.tuple #[])/\w'.heap[g]?=some (.cells (AC (Km c a b t n)) 203 (0,0))/\Below g w w':=by
 have l:=(cell_of_row w _ a _ _ _ i).trans (Ca c a (by omega));have q:=(cell_of_row w _ b _ _ _ i).trans (Ca c b (by omega));have z:=frozen_of_row w _ a _ _ i;have k:Hid (NF c a b=c.set a (c.getD a 0#32+c.getD b 0#32)):=rfl;have o:Hid _:=i;have m:Hid (c.length=16):=r;clear i r;generalize c.getD a 0#32=x at l k;generalize c.getD b 0#32=y at q k;go_enter func199,ntmps199
 go_wp2_with fail
 refine Aw 13 (by kernel_rfl) (by kernel_rfl) ?_;simp only[oI,oP,oT,pE]
 repeat (go_big_quiet_step (fail))
 refine wpQuiet_nil ?_;go_wp2_with fail
 rw[D6];generalize d:(w.setCell _ _).drew=W1;have f:W1.heap[g]?=some (.cells (AC (NF c a b)) 203 (0,0)):=by rw[<- d,k.out];exact Fy o.out a _
 have u:Below g w W1:=by rw[<- d];exact((Below.refl g w).setCell (p:=⟨g,a,none⟩) (A' _) _).drew
 have h:(NF c a b).length=16:=by rw[Kl];exact m.out
 have j:Hid (Km c a b t n=(NF c a b).set t (((NF c a b).getD t 0#32 ^^^ (NF c a b).getD a 0#32).rotateLeft n)):=rfl;clear d k o m l q z;generalize NF c a b=vs at f h j;have l:=(cell_of_row W1 _ a _ _ _ f).trans (Ca vs a (by omega));have v:=(cell_of_row W1 _ t _ _ _ f).trans (Ca vs t (by omega));have C:=frozen_of_row W1 _ t _ _ f;generalize vs.getD a 0#32=x2 at l j;generalize vs.getD t 0#32=y2 at v j;have s:Hid _:=f;clear f h;refine Aw 17 (by kernel_rfl) (by kernel_rfl) ?_;simp only[oI,oP,oT,pE]
 repeat (go_big_quiet_step (fail))
 go_big_quiet_want
 go_big_quiet_op
 refine⟨_,fc _ (y2 ^^^ x2) (DO y2 x2) n _ A B,?_⟩
 go_big_quiet_on
 repeat (go_big_quiet_step (fail))
 refine wpQuiet_nil ?_;go_wp2
 go_end0
 refine⟨rfl,?_,u.trans (((Below.refl g W1).setCell (p:=⟨g,t,none⟩) (A' _) _).drew)⟩;rw[j.out];exact Fy (w:=W1.drew) s.out t _
theorem Ry(g:Nat)(j:List (BitVec 32))(w:World)(q:w.heap[g]?=some (.cells (AC j) 203 (0,0)))(i:j.length=16)(a b c d:Nat)(k:a<16)(f:b<16)(l:c<16)(h:d<16) :
  Calls prog 176 #[.pointer (some ⟨g,0,none⟩),.int .i64 a,.int .i64 b,.int .i64 c,.int .i64 d] w λe w'=>e=.returned (.tuple #[])/\w'.heap[g]?=some (.cells (AC (My j a b c d)) 203 (0,0))/\Below g w w':=by
 go_enter func176,ntmps176
 go_wp2_with fail
 refine(IA g j w q i a b d 16 k f h (by omega) (by omega)).mono ?_;rintro e v ⟨rfl,r,m⟩;go_wp2_with fail
 refine(IA g _ v r (by rw[Cj];exact i) c d b 12 l h f (by omega) (by omega)).mono ?_;rintro e x ⟨rfl,s,n⟩;go_wp2_with fail
 refine(IA g _ x s (by rw[Cj,Cj];exact i) a b d 8 k f h (by omega) (by omega)).mono ?_;rintro e y ⟨rfl,t,o⟩;go_wp2_with fail
 refine(IA g _ y t (by rw[Cj,Cj,Cj];exact i) c d b 7 l h f (by omega) (by omega)).mono ?_;rintro e z ⟨rfl,u,p⟩;go_wp2
 go_end0
 exact⟨rfl,u,((m.trans n).trans o).trans p⟩
end
end
section
theorem Ay:(prog.info? 5).map (λi=>(i.zero,i.size,i.bytes))=some (some (.int .u8 0),1,1):=by kernel_rfl
end
section
open Go.RowKit
section
theorem JS(x:BitVec 32)(h:uw x<256):uw x*16777216=uw (x <<< 24)/\uw x*65536=uw (x <<< 16)/\uw x*256=uw (x <<< 8):=by
 have d:=Ep x;have b:=GS x 24;have a:=GS x 16;have c:=GS x 8;rw[<- b,<- a,<- c];refine⟨?_,?_,?_⟩
 .rw[show(2:Int)^24=16777216 from rfl];omega
 .rw[show(2:Int)^16=65536 from rfl];omega
 .rw[show(2:Int)^8=256 from rfl];omega
theorem H5(g d n B:Nat)(r:List (BitVec 32))(v:Value)(l:List Int)(w:World)(J:w.heap[g]?=some (.cells (AC r) 203 (0,0)))(a0:r.length=16)(I:d+n<=16)(Z:0<n)(h:Sl w v l)(C:l.length=4*n)(t:∀ b o m c,v=.slice (some ⟨b,o,none⟩) m c->b<g) :
  Calls prog 149 #[.slice (some ⟨g,d,none⟩) n B,v] w λe w'=>e=.returned (.tuple #[])/\w'.heap[g]?=some (.cells (AC (Em r d l n)) 203 (0,0))/\Below g w w':=by
 obtain⟨⟨a,E,rfl,U,Y,T⟩,D,j⟩:=h;rcases T with rfl|⟨b,o,rfl,hb,hcell⟩
 .simp at C;omega
 have q:=t _ _ _ _ rfl;clear t;rw[C]at U D hcell ⊢
 have x:Hid (∀ i,i<4*n->w.cell? ⟨b,o+i,none⟩=some (.int .u8 (uw (CL (l.getD i 0))))):=λi W=>by rw[Lj _ (Am j i)];exact hcell i W
 have u:Hid (∀ i,uw (CL (l.getD i 0))<256):=λi=>by rw[Lj _ (Am j i)];exact(Am j i).2
 clear C Y hcell j;go_enter func149,ntmps149
 go_wp2_with fail
 go_loopw [7] (λi wr=>∃ k:Nat,k<=n/\i=.int .i64 k/\wr.heap[g]?=some (.cells (AC (Em r d l k)) 203 (0,0))/\Below g w wr) (λi _=>n-(intOf i).toNat)
 case atStart=>exact⟨0,by omega,rfl,J,Below.refl _ _⟩
 case round =>
  clear J;obtain⟨k,hk,rfl,z,f⟩:=hrel;by_cases X:k<n
  .have hfw:wr.frozen? ⟨g,d+k,none⟩=false:=frozen_of_row wr _ (d+k) _ _ z;have K:=Ca (Em r d l k) (d+k) (by rw[Ew];omega);have V:wr.cell? ⟨g,d+k,none⟩=some (.int .u32 (uw ((Em r d l k).getD (d+k) 0#32))):=(cell_of_row wr _ (d+k) _ _ _ z).trans K;have P:=(f.cell (p:=⟨b,o+(4*k),none⟩) q).trans (x.out (4*k) (by omega));have Q:=(f.cell (p:=⟨b,o+(4*k+1),none⟩) q).trans (x.out (4*k+1) (by omega));have R:=(f.cell (p:=⟨b,o+(4*k+2),none⟩) q).trans (x.out (4*k+2) (by omega));have S:=(f.cell (p:=⟨b,o+(4*k+3),none⟩) q).trans (x.out (4*k+3) (by omega));have l0:=u.out (4*k);have L:=u.out (4*k+1);have M:=u.out (4*k+2);have N:=u.out (4*k+3);obtain⟨A,s,O⟩:∃ A,Hid (A=cE l k)/\Hid (Em r d l (k+1)=(Em r d l k).set (d+k) A):=⟨_,rfl,rfl⟩;unfold cE at s;generalize CL (l.getD (4*k) 0)=x0 at P l0 s;generalize CL (l.getD (4*k+1) 0)=x1 at Q L s;generalize CL (l.getD (4*k+2) 0)=x2 at R M s;generalize CL (l.getD (4*k+3) 0)=x3 at S N s;obtain⟨y1,s1,F⟩:∃ y,uw x1*256=uw y/\x1 <<< 8=y:=⟨_,(JS x1 L).2.2,rfl⟩;obtain⟨y2,s2,G⟩:∃ y,uw x2*65536=uw y/\x2 <<< 16=y:=⟨_,(JS x2 M).2.1,rfl⟩;obtain⟨y3,s3,H⟩:∃ y,uw x3*16777216=uw y/\x3 <<< 24=y:=⟨_,(JS x3 N).1,rfl⟩;rw[F,G,H]at s
   clear F G H;have z0:=Ep x0;have z1:=Ep x1;have z2:=Ep x2;have z3:=Ep x3;clear K;go_wp2_with fail
   refine Aw 36 (by kernel_rfl) (by kernel_rfl) ?_;simp only[oI,oP,oT,pE]
   repeat (go_big_quiet_step (fail))
   refine wpQuiet_nil ?_;go_wp2
   rw[KB,KB,KB,<- s.out];go_roundw
   case rel=>exact⟨k+1,by omega,by go_num,by rw[O.out];exact Fy z (d+k) A,(f.setCell (p:=⟨g,d+k,none⟩) (A' _) _).drew⟩
   case measure=>simp[intOf];omega
  .have HK:Hid (k=n):=by unfold Hid;omega
   go_wp2
   go_end0
   exact⟨rfl,by rw[<- HK.out];exact z,f⟩
variable{B base cap e g i j k n:Nat}{P:Program}{Q:Exit->Act->World->Prop}{a:Act}{c o x y:Int}{fr:Nat × Nat}{key l m nonce r:List Int}{ops:Array Oper}{t:TypeId}{v:Value}{w w':World}{xs:List Value}
theorem CZ{a:World}(h:Below B a w){g:Nat}(c:B<=g)(b:Array Value):Below B a (w.setRow g b) :=
 h.trans ⟨rfl,rfl,rfl,by simp,λk d=>setRow_other w g k b (by omega)⟩
theorem Oc(G H:Value)(key d:List Int)(c:Nat)(w:World)(U:Sl w G key)(V:Sl w H d)(lk:key.length=32)(W:d.length=12)(Y:c<=2000000000) :
  Calls prog 116 #[G,.int .i64 c,H] w λe w'=>e=.returned (.agg (AC (Cf key (BitVec.ofNat 32 c) d)))/\Bw w w':=by
 have S:∀ b o m c,G=.slice (some ⟨b,o,none⟩) m c->b<w.heap.size:=by
  intro b o m c e;obtain⟨⟨a,N,rfl,_,_,O⟩,_,_⟩:=U;rcases O with rfl|⟨b',off',e',hb,_⟩
  .simp at lk
  .rw[e']at e
   simp only[Value.slice.injEq,Z',Addr.mk.injEq,and_true]at e;omega
 have T:∀ b o m c,H=.slice (some ⟨b,o,none⟩) m c->b<w.heap.size:=by
  intro b o m c e;obtain⟨⟨a,N,rfl,_,_,O⟩,_,_⟩:=V;rcases O with rfl|⟨b',off',e',hb,_⟩
  .simp at W
  .rw[e']at e
   simp only[Value.slice.injEq,Z',Addr.mk.injEq,and_true]at e;omega
 go_enter func116,ntmps116
 go_wp2_with fail
 generalize g:(w.alloc _).alloc _=W0;have D:W0.heap[w.heap.size+1]?=some (.cells (AC Il) 203 (0,0)):=by rw[<- g];exact heap_alloc2_new _ _ _
 have z:W0.heap[w.heap.size]?=some (.cells (AC (List.replicate 16 0#32)) 203 (0,0)):=by rw[<- g];exact heap_alloc2_old _ _ _
 have l:Bw w W0:=by rw[<- g];exact((Below.refl _ _).alloc (A' _) _).alloc (by simp) _
 clear g;refine(H5 (w.heap.size+1) 4 8 12 Il G key W0 D rfl (by omega) (by omega) (U.af l) lk (λb o m c e=>rQ (S b o m c e))).mono ?_;rintro e I ⟨rfl,f,n⟩;have A:=(n.block w.heap.size (by omega)).trans z;have u:Bw w I:=l.trans (n.mono (by omega));have r:(Em Il 4 key 8).length=16:=by rw[Ew];rfl
 have L:Hid (Cf key (BitVec.ofNat 32 c) d=Em ((Em Il 4 key 8).set 12 (BitVec.ofNat 32 c)) 13 d 3):=rfl;have x:(c:Int)=uw (BitVec.ofNat 32 c):=by unfold uw;rw[rH,q' (by omega)]
 have J:Hid ((c:Int)=uw (BitVec.ofNat 32 c)):=x;clear D z l n x;generalize Em Il 4 key 8=vs at f r L;have Q:=(cell_of_row I _ 12 _ _ _ f).trans (Ca vs 12 (by omega));have R:=frozen_of_row I _ 12 _ _ f;go_wp2_with fail
 rw[J.out];generalize j:BitVec.ofNat 32 c=cw at L ⊢;have K:Hid (BitVec.ofNat 32 c=cw):=j;clear j;generalize h:I.setCell _ _=W2;have E:W2.heap[w.heap.size+1]?=some (.cells (AC (vs.set 12 cw)) 203 (0,0)):=by rw[<- h];exact Fy f 12 cw
 have B:W2.heap[w.heap.size]?=some (.cells (AC (List.replicate 16 0#32)) 203 (0,0)):=by rw[<- h];exact(heap_setCell_other _ _ _ _ (by simp)).trans A
 have k:Bw w W2:=by rw[<- h];exact u.setCell (p:=⟨w.heap.size+1,12,none⟩) (by simp) _
 clear h f A u Q R;refine(H5 (w.heap.size+1) 13 3 3 (vs.set 12 cw) H d W2 E (by simpa using r) (by omega) (by omega) (V.af k) W (λb o m c e=>rQ (T b o m c e))).mono ?_;rintro e X ⟨rfl,s,q⟩;have C:=(q.block w.heap.size (by omega)).trans B;have P:Bw w X:=k.trans (q.mono (by omega));have i:(Em (vs.set 12 cw) 13 d 3).length=16:=by rw[Ew];simpa using r
 clear E B k q;rw[<- L.out]at s i
 generalize F:Cf key cw d=us at s i;have M:Hid (Cf key cw d=us):=F;clear F;have t:(prog.info? 203).map (·.size)=some (AC us).size:=by rw[Bo,i];kernel_rfl
 have y:(AC us).all (·.oneCell')=true:=by simp[AC,Value.oneCell']
 go_wp2_with (first|(refine wpList_load_row rfl 203 _ rfl (w.heap.size+1) rfl 203 _ (0,0) _ s underlying203 rfl t ?_)|(refine wpList_store_row rfl 203 _ _ rfl w.heap.size _ rfl rfl 203 _ C t (by rw[Bo,Bo,i];rfl) y ?_))
 refine bodyPost_ret (v:=.agg (AC us)) (results_cell_row rfl _ _ w.heap.size 203 _ (0,0) _ rfl (setRow_heap X w.heap.size _ _ 203 _ C) underlying203 rfl t) rfl ⟨by rw[K.out,M.out],CZ P (A' _) _⟩
def WS:Array Value:=(Fx.map λ(n:Nat)=>Value.int .i64 (n:Int)).toArray
def Dv(w:World):Prop:=∃ t fr,w.heap[4]?=some (.cells WS t fr)
theorem Dv.af(h:Dv w){B:Nat}(b:4<B)(c:Below B w w'):Dv w':=by
 obtain⟨t,a,h⟩:=h;exact⟨t,a,(c.block _ b).trans h⟩
theorem Dv.pos(h:Dv w):4<w.heap.size:=by
 obtain⟨t,a,h⟩:=h;exact(U'.1 h).1
theorem iK(j:Nat)(a:j<8):∀ w,(Instr.index 263 (.agg WS) (.int .i64 (j:Int))).run prog w=.ok (.agg #[.int .i64 ((Fx.getD (4*j) 0:Nat):Int),.int .i64 ((Fx.getD (4*j+1) 0:Nat):Int),.int .i64 ((Fx.getD (4*j+2) 0:Nat):Int),.int .i64 ((Fx.getD (4*j+3) 0:Nat):Int)]) w:=by
 intro w;obtain rfl|rfl|rfl|rfl|rfl|rfl|rfl|rfl:j=0\/j=1\/j=2\/j=3\/j=4\/j=5\/j=6\/j=7:=by omega
 all_goals kernel_rfl
theorem mW(w:World)(a b c:Obj){W:World}(h:((w.alloc a).alloc b).alloc c=W) :
  W.heap[w.heap.size]?=some a/\W.heap[w.heap.size+1]?=some b/\W.heap[w.heap.size+1+1]?=some c/\W.heap.size=w.heap.size+3/\Bw w W:=by
 subst h;refine⟨?_,?_,?_,by simp,(((Below.refl _ _).alloc (A' _) _).alloc (by simp) _).alloc (by simp;omega) _⟩
 .rw[heap_alloc_old _ _ (by simp;omega)];exact heap_alloc2_old w a b
 .rw[heap_alloc_old _ _ (by simp)];exact heap_alloc2_new w a b
 .have:=heap_alloc_new ((w.alloc a).alloc b) c;simpa using this
theorem iQ:∀ (S:List (BitVec 32)),S.length=16->∃ s0 s1 s2 s3 s4 s5 s6 s7 s8 s9 s10 s11 s12 s13 s14 s15,S=[s0,s1,s2,s3,s4,s5,s6,s7,s8,s9,s10,s11,s12,s13,s14,s15]
 | [s0,s1,s2,s3,s4,s5,s6,s7,s8,s9,s10,s11,s12,s13,s14,s15],_=>⟨s0,s1,s2,s3,s4,s5,s6,s7,s8,s9,s10,s11,s12,s13,s14,s15,rfl⟩
theorem dN(S:List (BitVec 32))(a:S.length=16)(j:Nat)(h:j<16):∀ w,(Instr.index 203 (.agg (AC S)) (.int .i64 (j:Int))).run prog w=.ok (.int .u32 (uw (S.getD j 0#32))) w:=by
 intro w;obtain⟨s0,i,k,s3,l,m,n,o,p,q,b,c,d,e,f,g,rfl⟩:=iQ S a;obtain rfl|rfl|rfl|rfl|rfl|rfl|rfl|rfl|rfl|rfl|rfl|rfl|rfl|rfl|rfl|rfl:j=0\/j=1\/j=2\/j=3\/j=4\/j=5\/j=6\/j=7\/j=8\/j=9\/j=10\/j=11\/j=12\/j=13\/j=14\/j=15:=by omega
 all_goals kernel_rfl
theorem Du{l:List Oper}(h:wpList P ops Q l a w):wpList P ops Q l a w:=h
theorem Gg(w:World)(b c a:Obj):(((w.alloc b).alloc c).alloc a).heap[w.heap.size+1+1]?=some a:=by
 have:=heap_alloc_new ((w.alloc b).alloc c) a;simpa using this
theorem RA(w:World)(a b e:Obj)(d c:Array Value)(t:TypeId)(f:e=.cells c t (0,0)){W:World}(h:(((w.alloc a).alloc b).alloc e).setRow (w.heap.size+1+1) d=W) :
  W.heap[w.heap.size]?=some a/\W.heap[w.heap.size+1]?=some b/\W.heap[w.heap.size+1+1]?=some (.cells d t (0,0))/\W.heap.size=w.heap.size+3/\Bw w W:=by
 subst h;subst f;have g:=Gg w a b (.cells c t (0,0));refine⟨?_,?_,setRow_heap _ _ _ _ t _ g,by simp,CZ ((((Below.refl _ _).alloc (A' _) _).alloc (by simp) _).alloc (by simp;omega) _) (by omega) _⟩
 .rw[setRow_other _ _ _ _ (by omega),heap_alloc_old _ _ (by simp;omega)];exact heap_alloc2_old w a b
 .rw[setRow_other _ _ _ _ (by omega),heap_alloc_old _ _ (by simp)];exact heap_alloc2_new w a b
theorem mP(A:List Int)(n:Nat)(f g h i a b c d:Int)(R:List Int)(e:A.length=n):((((A++f::g::h::i::R).set n a).set (n+1) b).set (n+2) c).set (n+3) d=A++[a,b,c,d]++R:=by
 subst e;rw[pC _ _ (A' _),pC _ _ (by omega),pC _ _ (by omega),pC _ _ (by omega)];simp
theorem La(h:w.heap[g]?=some (.cells (AZ l) t (0,0)))(k:Nat)(x:Int) :
  (w.setCell ⟨g,k,none⟩ (.int .u8 x)).heap[g]?=some (.cells (AZ (l.set k x)) t (0,0)):=by
 rw[heap_setCell_same _ _ _ _ _ _ h,XK]
theorem LV(w:World)(G k:Nat)(h:k≠G)(a b c d:Nat)(x y z u:Value):((((w.setCell ⟨G,a,none⟩ x).setCell ⟨G,b,none⟩ y).setCell ⟨G,c,none⟩ z).setCell ⟨G,d,none⟩ u).heap[k]?=w.heap[k]?:=by
 rw[heap_setCell_other _ _ _ _ (by simpa using h),heap_setCell_other _ _ _ _ (by simpa using h),heap_setCell_other _ _ _ _ (by simpa using h),heap_setCell_other _ _ _ _ (by simpa using h)]
def EF(s t:List (BitVec 32))(j:Nat):List Int:=T4 s t j++List.replicate (64-4*j) 0
theorem IR(s t:List (BitVec 32))(j:Nat)(a:j<=16):(EF s t j).length=64:=by
 rw[EF,E',G9,oW];omega
theorem TF(s t:List (BitVec 32))(j:Nat)(b:j<16)(x:BitVec 32)(a:gZ s t j=x):((((EF s t j).set (4*j) (uw x%256)).set (4*j+1) (uw x/256%256)).set (4*j+2) (uw x/65536%256)).set (4*j+3) (uw x/16777216%256)=EF s t (j+1):=by
 have e:List.replicate (64-4*j) (0:Int)=0::0::0::0::List.replicate (64-4*(j+1)) 0:=by
  rw[show 64-4*j=64-4*(j+1)+1+1+1+1 by omega];rfl
 rw[EF,e,mP _ _ _ _ _ _ _ _ _ _ _ (G9 s t j),EF,T4,Lw,a]
theorem H7(b:List (BitVec 32))(w:World)(s:b.length=16)(ht:Dv w) :
  Calls prog 148 #[.agg (AC b)] w λe w'=>e=.returned (.agg (AZ (CO b)))/\Bw w w':=by
 have P:=ht.pos;have f:(prog.info? 203).map (·.size)=some (AC b).size:=by rw[Bo,s];kernel_rfl
 have h:(AC b).all (·.oneCell')=true:=by simp[AC,Value.oneCell']
 go_enter func148,ntmps148
 go_wp2_with ((with_reducible (refine Du ?_));first
  | (refine wpList_load_row rfl 203 _ rfl w.heap.size rfl 203 _ (0,0) _ (heap_alloc2_old _ _ _) underlying203 rfl f ?_)
  | (refine wpList_store_row rfl 203 _ _ rfl (w.heap.size+1+1) _ rfl rfl 203 (AC (List.replicate 16 0#32)) (Gg _ _ _ _) f (by rw[Bo,Bo,s];rfl) h ?_))
 generalize L:World.setRow _ _ _=W0;obtain⟨E,q,g,a1,A⟩:=RA w _ _ _ _ (AC (List.replicate 16 0#32)) 203 rfl L;clear L;have q:W0.heap[w.heap.size+1]?=some (.cells (AZ (List.replicate 64 0)) 150 (0,0)):=q;have Q:Dv W0:=ht.af P A
 go_loopw [10] (λi wr=>∃ k:Nat,k<=10/\i=.int .i64 k/\wr.heap[w.heap.size+1+1]?=some (.cells (AC (Ei b k)) 203 (0,0))/\Below (w.heap.size+1+1) W0 wr) (λi _=>10-(intOf i).toNat)
 case atStart=>exact⟨0,by omega,rfl,g,Below.refl _ _⟩
 case round =>
  clear g;obtain⟨k,hk,rfl,g,a⟩:=hrel;by_cases a0:k<10
  .obtain⟨tq,frq,hq⟩:=Q.af (by omega) a;have o:(k:Int)<10:=by omega
   have n:=iK;have y:(prog.info? 263).map (·.size)=some WS.size:=by kernel_rfl
   generalize WS=qa at hq y n;have HT:Hid (Ei b (k+1)=H8 (Ei b k) 8):=rfl;have l:(Ei b k).length=16:=by rw[H9];exact s
   generalize Ei b k=S at HT g l;go_wp2_with ((with_reducible (refine Du ?_));refine wpList_load_row rfl 263 (.global 4) rfl 4 rfl tq _ frq _ hq underlying263 rfl y ?_)
   clear hq
   go_loopw [13] (λi wr=>∃ j:Nat,j<=8/\i=.int .i64 j/\wr.heap[w.heap.size+1+1]?=some (.cells (AC (H8 S j)) 203 (0,0))/\Below (w.heap.size+1+1) W0 wr) (λi _=>8-(intOf i).toNat)
   case atStart=>exact⟨0,by omega,rfl,g,a⟩
   case round =>
    clear g a;obtain⟨j,Y,rfl,g,a⟩:=hrel;have B:=a.size;by_cases Z:j<8
    .have d:=n j Z;have N:(j:Int)<8:=by omega
     have D:Hid (H8 S (j+1)=My (H8 S j) (Fx.getD (4*j) 0) (Fx.getD (4*j+1) 0) (Fx.getD (4*j+2) 0) (Fx.getD (4*j+3) 0)):=rfl;have l0:=Lg (4*j);have l1:=Lg (4*j+1);have l2:=Lg (4*j+2);have l3:=Lg (4*j+3);have O:(H8 S j).length=16:=by rw[Jt];exact l
     generalize Fx.getD (4*j) 0=q0 at d D l0;generalize Fx.getD (4*j+1) 0=q1 at d D l1;generalize Fx.getD (4*j+2) 0=q2 at d D l2;generalize Fx.getD (4*j+3) 0=q3 at d D l3;generalize H8 S j=X at D g O;clear n;go_wp2_with fail
     refine(Ry (w.heap.size+1+1) X _ ((heap_alloc_old _ _ (by omega)).trans g) O q0 q1 q2 q3 l0 l1 l2 l3).mono ?_;rintro e w1 ⟨rfl,V,M⟩;have W:Below (w.heap.size+1+1) W0 w1:=(a.alloc (by omega) _).trans M;clear g a M B d;go_wp2
     go_roundw
     case rel=>exact⟨j+1,by omega,by go_num,by rw[D.out];exact V,W⟩
     case measure=>simp[intOf];omega
    .have HJ:Hid (j=8):=by unfold Hid;omega
     have N:¬ (j:Int)<8:=by omega
     go_wp2
     go_roundw
     case rel=>exact⟨k+1,by omega,by go_num,by rw[HT.out,<- HJ.out];exact g,a⟩
     case measure=>simp[intOf];omega
  .have HK:Hid (k=10):=by unfold Hid;omega
   have o:¬ (k:Int)<10:=by omega
   have HB:Hid (k=10->CO b=EF (Ei b k) b 16):=by rintro rfl;simp[CO,EF]
   have l:(Ei b k).length=16:=by rw[H9];exact s
   generalize Ei b k=S at HB g l;have B:=a.size;have H:=(a.block w.heap.size (by omega)).trans E;have J:=(a.block (w.heap.size+1) (by omega)).trans q;have z:Bw w wr:=A.trans (a.mono (by omega));have u:(prog.info? 203).map (·.size)=some (AC S).size:=by rw[Bo,l];kernel_rfl
   clear E q A a Q;go_wp2_with ((with_reducible (refine Du ?_));refine wpList_load_row rfl 203 _ rfl (w.heap.size+1+1) rfl 203 _ (0,0) _ ((heap_alloc_old _ _ (by omega)).trans g) underlying203 rfl u ?_)
   have U:w.heap.size+1<wr.heap.size:=by omega
   generalize m:wr.alloc _=W1;have c:W1.heap[wr.heap.size]?=some (.cells (AZ (EF S b 0)) 150 (0,0)):=by rw[<- m];exact heap_alloc_new _ _
   have I:W1.heap[w.heap.size]?=some (.cells (AC b) 203 (0,0)):=by rw[<- m];exact(heap_alloc_old _ _ (by omega)).trans H
   have K:W1.heap[w.heap.size+1]?=some (.cells (AZ (List.replicate 64 0)) 150 (0,0)):=by rw[<- m];exact(heap_alloc_old _ _ (by omega)).trans J
   have F:Bw w W1:=by rw[<- m];exact z.alloc z.size _
   clear m H J z B g ht f u h o;generalize wr.heap.size=G at c U ⊢
   go_loopw [28] (λi wr=>∃ j:Nat,j<=16/\i=.int .i64 j/\wr.heap[G]?=some (.cells (AZ (EF S b j)) 150 (0,0))/\wr.heap[w.heap.size]?=some (.cells (AC b) 203 (0,0))/\wr.heap[w.heap.size+1]?=some (.cells (AZ (List.replicate 64 0)) 150 (0,0))/\Bw w wr) (λi _=>16-(intOf i).toNat)
   case atStart=>exact⟨0,by omega,rfl,c,I,K,F⟩
   case round =>
    clear c I K F;obtain⟨j,Y,rfl,c,E,q,a⟩:=hrel;by_cases t:j<16
    .have C:(j:Int)<16:=by omega
     have d:=dN S l j t;have cf:=(cell_of_row wr _ j _ _ _ E).trans (Ca b j (by omega));have r:=IR S b j Y;have c0:=(cell_of_row wr _ (4*j) _ _ _ c).trans (E7 _ (4*j) (by omega));have c1:=(cell_of_row wr _ (4*j+1) _ _ _ c).trans (E7 _ (4*j+1) (by omega));have c2:=(cell_of_row wr _ (4*j+2) _ _ _ c).trans (E7 _ (4*j+2) (by omega));have c3:=(cell_of_row wr _ (4*j+3) _ _ _ c).trans (E7 _ (4*j+3) (by omega));have f0:=frozen_of_row wr _ (4*j) _ _ c;have f1:=frozen_of_row wr _ (4*j+1) _ _ c;have f2:=frozen_of_row wr _ (4*j+2) _ _ c;have f3:=frozen_of_row wr _ (4*j+3) _ _ c;obtain⟨x,hx,HX⟩:∃ x,(uw (S.getD j 0#32)+uw (b.getD j 0#32))%(4294967296:Int)=uw x/\Hid (gZ S b j=x):=⟨_,D6 _ _,rfl⟩;generalize S.getD j 0#32=xa at d hx;generalize b.getD j 0#32=xb at cf hx;have nx:=Ep x;have HN:Hid _:=c;have HF:Hid _:=E;have HR:Hid _:=q;have R:Hid _:=a;have T:Hid (((((EF S b j).set (4*j) (uw x%256)).set (4*j+1) (uw x/256%256)).set (4*j+2) (uw x/65536%256)).set (4*j+3) (uw x/16777216)=EF S b (j+1)):=by
      have h1:=TF S b j t x HX.out;rw[show uw x/16777216%256=uw x/16777216 by have:=bW x;omega]at h1
      exact h1
     clear c E q a r;go_wp2
     go_roundw
     case rel=>exact⟨j+1,by omega,by go_num,by rw[<- T.out];exact La (La (La (La HN.out _ _) _ _) _ _) _ _,(LV wr G _ (by omega) _ _ _ _ _ _ _ _).trans HF.out,(LV wr G _ (by omega) _ _ _ _ _ _ _ _).trans HR.out,
       (((R.out.setCell (p:=⟨G,_,none⟩) (by simp;omega) _).setCell (p:=⟨G,_,none⟩) (by simp;omega) _).setCell (p:=⟨G,_,none⟩) (by simp;omega) _).setCell (p:=⟨G,_,none⟩) (by simp;omega) _⟩
     case measure=>simp[intOf];omega
    .have HJ:Hid (j=16):=by unfold Hid;omega
     have C:¬ (j:Int)<16:=by omega
     have r:=IR S b j Y;have f:(prog.info? 150).map (·.size)=some (AZ (EF S b j)).size:=by rw[AI,r];kernel_rfl
     have h:(AZ (EF S b j)).all (·.oneCell')=true:=by simp[AZ,Value.oneCell']
     go_wp2_with ((with_reducible (refine Du ?_));first|(refine wpList_load_row rfl 150 _ rfl G rfl 150 _ (0,0) _ c underlying150 rfl f ?_)|(refine wpList_store_row rfl 150 _ _ rfl (w.heap.size+1) _ rfl rfl 150 _ q f (by rw[AI,AI,r];rfl) h ?_))
     refine bodyPost_ret (v:=.agg (AZ (EF S b j))) (results_cell_row rfl _ _ (w.heap.size+1) 150 _ (0,0) _ rfl (setRow_heap wr _ _ _ 150 _ q) underlying150 rfl f) rfl ⟨?_,CZ a (by omega) _⟩;rw[HB.out HK.out,HJ.out]
def E9(key nonce:List Int)(c:Int):Int:=if key.length≠32\/nonce.length≠12 then 1 else if c<0\/1073741824<c then 2 else 0
theorem Qr(h:key.length≠32\/nonce.length≠12):E9 key nonce c=1:=by unfold E9;rw[if_pos h]
theorem Pj(a:key.length=32)(b:nonce.length=12)(h:c<0\/1073741824<c):E9 key nonce c=2:=by unfold E9;rw[if_neg (by omega),if_pos h]
theorem J5(a:key.length=32)(b:nonce.length=12)(h:0<=c/\c<=1073741824):E9 key nonce c=0:=by unfold E9;rw[if_neg (by omega),if_neg (by omega)]
theorem K6(g h:Value)(key a:List Int)(c:Int)(w:World)(i:Sl w g key)(j:Sl w h a) :
  Calls prog 114 #[g,.int .i64 c,h] w λe w'=>e=.returned (.int .i64 (E9 key a c))/\w'=w:=by
 obtain⟨⟨k,o,rfl,_,_,_⟩,lk,_⟩:=i;obtain⟨⟨l,p,rfl,_,_,_⟩,r,_⟩:=j;have b:Hid (key.length≠32\/a.length≠12->E9 key a c=1):=Qr;have d:Hid (key.length=32->a.length=12->(c<0\/1073741824<c)->E9 key a c=2):=Pj;have f:Hid (key.length=32->a.length=12->(0<=c/\c<=1073741824)->E9 key a c=0):=J5;generalize E9 key a c=E at b d f ⊢;generalize key.length=n at *;generalize a.length=m at *;go_enter func114,ntmps114
 by_cases q:(n:Int)=32
 .by_cases h2:(m:Int)=12
  .by_cases h3:c<0
   .go_wp2
    go_ret;exact⟨by rw[d.out (by omega) (by omega) (by omega)];rfl,rfl⟩
   .by_cases h4:1073741824<c
    .go_wp2
     go_ret;exact⟨by rw[d.out (by omega) (by omega) (by omega)];rfl,rfl⟩
    .go_wp2
     go_ret;exact⟨by rw[f.out (by omega) (by omega) (by omega)];rfl,rfl⟩
  .go_wp2
   go_ret;exact⟨by rw[b.out (by omega)];rfl,rfl⟩
 .go_wp2
  go_ret;exact⟨by rw[b.out (by omega)];rfl,rfl⟩
theorem J1(w:World)(l:List Int)(o:Obj)(t:TypeId)(a:Array Value)(c:o=.cells a t (0,0)){W:World}(b:(w.alloc o).setRow w.heap.size (AZ l)=W) :
  W.heap[w.heap.size]?=some (.cells (AZ l) t (0,0))/\Bw w W/\W.heap.size=w.heap.size+1:=by
 subst b;subst c;exact⟨setRow_heap _ _ _ _ t _ (heap_alloc_new _ _),CZ ((Below.refl _ _).alloc (A' _) _) (A' _) _,by simp⟩
theorem Sl.ofRow(h:w.heap[g]?=some (.cells (AZ l) t fr))(c:l.length<=140737488351232)(a:∀ x∈l,0<=x/\x<256):Sl w (.slice (some ⟨g,0,none⟩) l.length l.length) l:=by
 refine⟨⟨_,l.length,rfl,by simp,by simp,.inr ⟨g,0,rfl,(U'.1 h).1,λi b=>?_⟩⟩,c,a⟩;rw[nV];exact(cell_of_row w _ i _ _ _ h).trans (E7 l i b)
structure Got(w w':World)(v:Value)(l:List Int):Prop where
 sl:Sl w' v l
 tU:Bw w w'
 new:∀ b o n c,v=.slice (some ⟨b,o,none⟩) n c->w.heap.size<=b
theorem XP(k l:Value)(key a:List Int)(c:Nat)(w:World)(t:Sl w k key)(v:Sl w l a)(lk:key.length=32)(y:a.length=12)(E:c<=1073741824)(x:Dv w) :
  Calls prog 117 #[k,.int .i64 c,l] w λe w'=>∃ v',e=.returned (.tuple #[v',.int .i64 0])/\Got w w' v' (CO (Cf key (BitVec.ofNat 32 c) a)):=by
 go_enter func117,ntmps117
 go_wp2_with fail
 refine(K6 k l key a c w t v).mono ?_;rintro e C ⟨rfl,rfl⟩;rw[J5 lk y (by omega)];go_wp2_with fail
 refine(Oc k l key a c C t v lk y (by omega)).mono ?_;rintro e D ⟨rfl,f⟩;have u:=Hw key (BitVec.ofNat 32 c) a;generalize j:Cf key (BitVec.ofNat 32 c) a=us at u;have p:Hid (Cf key (BitVec.ofNat 32 c) a=us):=j;clear j;go_wp2_with fail
 refine(H7 us D u (x.af x.pos f)).mono ?_;rintro e z ⟨rfl,q⟩;have d:=Fc us;have g:=Gr us;generalize h:CO us=bs at d g;have m:Hid (CO us=bs):=h;clear h;have s:(prog.info? 150).map (·.size)=some (AZ bs).size:=by rw[AI,d];kernel_rfl
 have i:(AZ bs).all (·.oneCell')=true:=by simp[AZ,Value.oneCell']
 go_wp2_with ((with_reducible (refine Du ?_));refine wpList_store_row rfl 150 _ _ rfl z.heap.size _ rfl rfl 150 (AZ (List.replicate 64 0)) (heap_alloc_new _ _) s (by rw[AI,AI,d];rfl) i ?_)
 generalize r:World.setRow _ _ _=W4;obtain⟨B,A,_⟩:=J1 z bs _ 150 (AZ (List.replicate 64 0)) rfl r
 go_ret2
 refine⟨_,rfl,?_,(f.trans (q.mono f.size)).trans (A.mono (na f.size q.size)),λb o n c e=>?_⟩
 .rw[p.out,m.out];have:=Sl.ofRow B (by omega) g;rw[d]at this
  exact this
 .have:=na f.size q.size;injection e with e1
  injection e1 with e2
  injection e2 with e3
  omega
theorem Uz(c:0<=x/\x<256)(d:0<=y/\y<256):bits .xor .u8 x y=bx x y:=by
 obtain⟨a,rfl⟩:∃ a:Nat,x=a:=⟨x.toNat,by omega⟩;obtain⟨b,rfl⟩:∃ b:Nat,y=b:=⟨y.toNat,by omega⟩;rw[u8_xor_nat _ _ (by omega) (by omega)];rfl
theorem JL(h:w.ownsRow base e 1 v n xs){g:Nat}{c:Array Value}{t:TypeId}{d:Nat × Nat}(a:w.heap[g]?=some (.cells c t d))(f:t≠e):v.ownBlock≠some g:=by
 intro b;rcases h.2 with⟨rfl,_⟩|⟨g',cap,cur,rfl,_,hg',_⟩
 .simp[Value.ownBlock]at b
 .simp only[Value.ownBlock,Z']at b;subst b;rw[hg']at a
  simp only[Z',Obj.cells.injEq]at a;exact f a.2.1.symm
theorem Fv(h:w.ownsRow base e 1 v n xs)(a:∀ k,v.ownBlock=some k->w'.heap[k]?=w.heap[k]?):w'.ownsRow base e 1 v n xs:=by
 refine⟨h.1,?_⟩;rcases h.2 with h2|⟨g,cap,cur,hv,hb,hg,hr⟩
 .exact .inl h2
 .exact .inr ⟨g,cap,cur,hv,hb,(a g (by rw[hv];rfl)).trans hg,hr⟩
theorem Sl.um(w:World)(b a:Int)(e:TypeId){g:Nat}(f:g=w.heap.size)(c:0<=b/\b<256)(d:a=b):Sl (w.alloc (.cells #[.int .u8 a] e)) (.slice (some ⟨g,0,none⟩) 1 1) [b]:=by
 subst d;exact Sl.one w a e f c
theorem bX(x:BitVec 32):(uw x+1)%(4294967296:Int)=uw (x+1#32):=D6 x 1#32
theorem S6(c:BitVec 32)(q:Nat):c+BitVec.ofNat 32 q+1#32=c+BitVec.ofNat 32 (q+1):=by
 rw[BitVec.add_assoc]
 congr 1
 apply BitVec.eq_of_toNat_eq;simp[BitVec.toNat_add,BitVec.toNat_ofNat]
def Fd(ws:List (BitVec 32))(q:Nat):List (BitVec 32):=ws.set 12 (ws.getD 12 0#32+BitVec.ofNat 32 q)
theorem Qu(a:List (BitVec 32))(q:Nat):(Fd a q).length=a.length:=by simp[Fd]
theorem VM(a:List (BitVec 32))(h:a.length=16):Fd a 0=a:=by
 unfold Fd;rw[show BitVec.ofNat 32 0=0#32 from rfl,BitVec.add_zero,List.getD,G' (by omega),rh,List.set_getElem_self]
theorem cX(a:List (BitVec 32))(q:Nat)(h:a.length=16):(Fd a q).getD 12 0#32=a.getD 12 0#32+BitVec.ofNat 32 q:=by
 unfold Fd;simp[List.getD,h]
theorem VL(a:List (BitVec 32))(q:Nat)(h:a.length=16):(Fd a q).set 12 ((Fd a q).getD 12 0#32+1#32)=Fd a (q+1):=by
 rw[cX a q h,S6];unfold Fd;rw[List.set_set]
theorem RC(a:List (BitVec 32))(q j:Nat)(b:j<64):MQ a (64*q+j)=(CO (Fd a q)).getD j 0:=by
 unfold MQ Fd;rw[show(64*q+j)/64=q by omega,show(64*q+j)%64=j by omega]
theorem Su(f:List (BitVec 32))(vd:Value)(d:List Int)(w:World)(b9:f.length=16)(hd:Sl w vd d)(hl:d.length<=100000)(ht:Dv w) :
  Calls prog 115 #[.agg (AC f),vd] w λe w'=>∃ v',e=.returned v'/\w'.ownsRow w.heap.size 5 1 v' (KN f d).length ((KN f d).map (Value.int .u8))/\Bw w w':=by
 obtain⟨i0,hi,d1,d2,d3⟩:=info_parts Ay;have c4:=hd;obtain⟨⟨ad,d9,rfl,hc,hn,h1⟩,e3,c2⟩:=hd;have c9:=ht.pos;generalize c7:d.length=n at *;have HN:Hid (d.length=n):=c7;clear c7 h1 hn;go_enter func115,ntmps115
 go_wp2_with (at_make;refine wpList_make_own _ rfl _ _ 26 rfl w.heap.size 5 i0 (.int .u8 0) 1 underlying26 hi d1 d2 _ _ _ n rfl rfl (by omega) (by rw[d3];omega) (by unfold maxLen;omega) (by simp) ?_)
 intro w1 c8 b4;have b:w1.heap[w.heap.size]?=some (.cells (AC (Fd f 0)) 203 (0,0)):=by
  rw[b4.block w.heap.size (by simp) (by simp),VM f b9];exact heap_alloc_new _ _
 have c1:Bw w w1:=((Below.refl _ _).alloc (A' _) _).grown b4 (by simp) (by simp);have a1:w1.ownsRow w.heap.size 5 1 (.slice (some ⟨w.heap.size+1,0,none⟩) 0 n) (CM f d 0).length ((CM f d 0).map (Value.int .u8)):=c8;clear b4 c8 d1 d2 d3 hi;go_wp2_with fail
 go_loopw [5] (λv wr=>∃ (q m:Nat) (a:Option Addr) (z:Nat),m=min (64*q) n/\v=.slice a m z/\wr.ownsRow w.heap.size 5 1 v (CM f d m).length ((CM f d m).map (Value.int .u8))/\wr.heap[w.heap.size]?=some (.cells (AC (Fd f q)) 203 (0,0))/\Bw w wr) (λv _=>n-Zn v)
 case atStart=>exact⟨0,0,_,_,by omega,rfl,a1,b,c1⟩
 case round =>
  clear a1 b c1;obtain⟨q,m,a,z,hm,rfl,c,b,h⟩:=hrel;have HM:Hid (m=min (64*q) n):=hm;have e0:m<=n:=by omega
  clear hm;have H:w.heap.size<wr.heap.size:=(U'.1 b).1;by_cases c6:m<n
  .have hmni:(m:Int)<(n:Int):=by omega
   have M:Hid (m=64*q):=by have:=HM.out;unfold Hid;omega
   have b8:(Fd f q).length=16:=by rw[Qu];exact b9
   have Y:Hid (∀ j,j<64->MQ f (m+j)=(CO (Fd f q)).getD j 0):=λj hj=>by rw[M.out];exact RC f q j hj
   have a0:(prog.info? 203).map (·.size)=some (AC (Fd f q)).size:=by rw[Bo,b8];kernel_rfl
   have a6:Hid ((Fd f q).set 12 ((Fd f q).getD 12 0#32+1#32)=Fd f (q+1)):=VL f q b9;generalize Fd f q=us at b b8 Y a0 a6;go_wp2_with ((with_reducible (refine Du ?_));refine wpList_load_row rfl 203 _ rfl w.heap.size rfl 203 _ (0,0) _ b underlying203 rfl a0 ?_)
   refine(H7 us wr b8 (ht.af c9 h)).mono ?_;rintro e w2 ⟨rfl,b2⟩;have Z:=Fc us;have a9:=Gr us;generalize CO us=bs at Z a9 Y;have J:(prog.info? 150).map (·.size)=some (AZ bs).size:=by rw[AI,Z];kernel_rfl
   have I:(AZ bs).all (·.oneCell')=true:=by simp[AZ,Value.oneCell']
   have C:∀ k,Value.ownBlock (.slice a m z)=some k->k<wr.heap.size:=λk K=>(c.lt k K).2;by_cases e2:(64:Int)<=(n:Int)-(m:Int)
   .have a5:Hid (m+64=min (64*(q+1)) n):=by have:=M.out;unfold Hid;omega
    have d8:m+64<=n:=by omega
    have d0:64<=64:=by omega
    go_wp2_with ((with_reducible (refine Du ?_));refine wpList_store_row rfl 150 _ _ rfl w2.heap.size _ rfl rfl 150 (AZ (List.replicate 64 0)) (heap_alloc_new _ _) J (by rw[AI,AI,Z];rfl) I ?_)
    generalize Q:World.setRow _ _ _=W3;obtain⟨F,b3,b7⟩:=J1 w2 bs _ 150 (AZ (List.replicate 64 0)) rfl Q;clear Q;have u:Bw wr W3:=b2.trans (b3.mono b2.size);have o:=(u.block w.heap.size H).trans b;have l:=Fv c (λk K=>u.block k (C k K));have R:Bw w W3:=h.trans (u.mono h.size);have b5:w.heap.size<w2.heap.size:=X' H b2.size;clear c b h b2 b3 u C b7 a0 J I c6 hmni;generalize w2.heap.size=g at F b5 ⊢
    go_loopw [5,27] (λv i wr=>∃ (j:Nat) (a:Option Addr) (z:Nat),j<=64/\i=.int .i64 j/\v=.slice a (m+j) z/\wr.ownsRow w.heap.size 5 1 v (CM f d (m+j)).length ((CM f d (m+j)).map (Value.int .u8))/\wr.heap[w.heap.size]?=some (.cells (AC us) 203 (0,0))/\wr.heap[g]?=some (.cells (AZ bs) 150 (0,0))/\Bw w wr) (λ_ i _=>64-(intOf i).toNat)
    case atStart=>exact⟨0,a,z,by omega,rfl,rfl,l,o,F,R⟩
    case round =>
     clear l o F R;obtain⟨j,a2,P,hj,rfl,rfl,c,b,U,h⟩:=hrel;by_cases d6:j<64
     .have hjri:(j:Int)<(64:Int):=by omega
      have V:=c.lt;have cb:=(cell_of_row wr _ j _ _ _ U).trans (E7 bs j (by omega));obtain⟨O,od,rfl,b0,S⟩:∃ O od,ad=some ⟨O,od,none⟩/\O<w.heap.size/\w.cell? ⟨O,od+(m+j),none⟩=some (.int .u8 (d.getD (m+j) 0)):=by
       obtain⟨⟨a',c0,e',_,_,A⟩,_,_⟩:=c4;rw[HN.out]at e' A
       simp only[Value.slice.injEq]at e';obtain⟨rfl,_,_⟩:=e';rcases A with A|⟨b',o',rfl,E,hc'⟩
       .have:=HN.out;rw[A]at this;simp at this;omega
       .exact⟨b',o',rfl,E,hc' (m+j) (by omega)⟩
      have cd:=(h.cell (p:=⟨O,od+(m+j),none⟩) b0).trans S;have y1:=Am a9 j;have y2:=Am c2 (m+j);have N:Hid (CM f d (m+(j+1))=CM f d (m+j)++[bx (bs.getD j 0) (d.getD (m+j) 0)]):=by
       unfold Hid;rw[<- Y.out j (by omega)];rfl
      have D:=Dz f d (m+j);have L:=Ph y1 y2;have t:Hid (bits .xor .u8 (bs.getD j 0) (d.getD (m+j) 0)=bx (bs.getD j 0) (d.getD (m+j) 0)):=Uz y1 y2;have s:Hid (0<=bx (bs.getD j 0) (d.getD (m+j) 0)/\bx (bs.getD j 0) (d.getD (m+j) 0)<256):=L;clear L S;generalize bs.getD j 0=x at cb y1 N t s;generalize d.getD (m+j) 0=y at cd y2 N t s;generalize bx x y=xy at N t s;generalize CM f d (m+j)=pre at c D N;go_wp2_with (at_builtin;refine Aa _ rfl _ _ 26 rfl w.heap.size 5 underlying26 Ay _ _ rfl rfl pre [xy] (c.alloc _) (Sl.um _ _ _ _ rfl s.out t.out) (by rw[D];simp;omega) (by have:=h.size;simp;omega) ?_)
      intro v' w' ho B;have W:w'.ownsRow w.heap.size 5 1 v' (pre++[xy]).length ((pre++[xy]).map (Value.int .u8)):=by simpa[D]using ho
      have E:Bw w w':=(h.alloc h.size _).grown B (by have:=h.size;simp;omega) (λk K=>(V k K).1);have n1:=JL c b (by decide);have n2:=JL c U (by decide);have a8:w.heap.size<wr.heap.size:=(U'.1 b).1;have b6:g<wr.heap.size:=(U'.1 U).1;have G:w'.heap[w.heap.size]?=some (.cells (AC us) 203 (0,0)):=((B.block w.heap.size (by simp;omega) n1.symm).trans (heap_alloc_old _ _ a8)).trans b;have b1:w'.heap[g]?=some (.cells (AZ bs) 150 (0,0)):=((B.block g (by simp;omega) n2.symm).trans (heap_alloc_old _ _ b6)).trans U;obtain⟨a3,c3,X⟩:=EW W;rw[E',D,nH]at X
      subst X;clear ho B c V h b U cb cd n1 n2;go_wp2
      go_roundw
      case rel=>exact⟨j+1,a3,c3,by omega,by go_num,rfl,by rw[N.out];exact W,G,b1,E⟩
      case measure=>simp[intOf];omega
     .have hjri:¬ (j:Int)<(64:Int):=by omega
      have HJ:Hid (j=64):=by unfold Hid;omega
      have a7:=(cell_of_row wr _ 12 _ _ _ b).trans (Ca us 12 (by omega));have d5:=frozen_of_row wr _ 12 _ _ b;generalize T:us.getD 12 0#32=cw at a7;have a4:Hid (us.getD 12 0#32=cw):=T;clear T;have c5:=bX cw;have n1:=JL c b (by decide);go_wp2
      go_roundw
      case rel =>
       refine⟨q+1,m+j,a2,P,by rw[HJ.out];exact a5.out,rfl,Fv c (λk K=>heap_setCell_other _ _ _ _ (by simp;intro e;subst e;exact n1 K)),?_,h.setCell (p:=⟨w.heap.size,12,none⟩) (A' _) _⟩;rw[<- a6.out,a4.out];exact Fy b 12 _
      case measure=>simp[Zn];have:=HJ.out;omega
   .obtain⟨r,hrsub⟩:∃ r:Nat,(n:Int)-(m:Int)=(r:Int):=⟨n-m,by omega⟩;have a5:Hid (m+r=min (64*(q+1)) n):=by have:=M.out;unfold Hid;omega
    have d8:m+r<=n:=by omega
    have d0:r<=64:=by omega
    have d7:(r:Int)<=64:=by omega
    have e1:(0:Int)<=(r:Int):=by omega
    have e4:0<r:=by omega
    go_wp2_with ((with_reducible (refine Du ?_));refine wpList_store_row rfl 150 _ _ rfl w2.heap.size _ rfl rfl 150 (AZ (List.replicate 64 0)) (heap_alloc_new _ _) J (by rw[AI,AI,Z];rfl) I ?_)
    generalize Q:World.setRow _ _ _=W3;obtain⟨F,b3,b7⟩:=J1 w2 bs _ 150 (AZ (List.replicate 64 0)) rfl Q;clear Q;have u:Bw wr W3:=b2.trans (b3.mono b2.size);have o:=(u.block w.heap.size H).trans b;have l:=Fv c (λk K=>u.block k (C k K));have R:Bw w W3:=h.trans (u.mono h.size);have b5:w.heap.size<w2.heap.size:=X' H b2.size;clear c b h b2 b3 u C b7 a0 J I c6 hmni;generalize w2.heap.size=g at F b5 ⊢
    go_loopw [5,27] (λv i wr=>∃ (j:Nat) (a:Option Addr) (z:Nat),j<=r/\i=.int .i64 j/\v=.slice a (m+j) z/\wr.ownsRow w.heap.size 5 1 v (CM f d (m+j)).length ((CM f d (m+j)).map (Value.int .u8))/\wr.heap[w.heap.size]?=some (.cells (AC us) 203 (0,0))/\wr.heap[g]?=some (.cells (AZ bs) 150 (0,0))/\Bw w wr) (λ_ i _=>r-(intOf i).toNat)
    case atStart=>exact⟨0,a,z,by omega,rfl,rfl,l,o,F,R⟩
    case round =>
     clear l o F R;obtain⟨j,a2,P,hj,rfl,rfl,c,b,U,h⟩:=hrel;by_cases d6:j<r
     .have hjri:(j:Int)<(r:Int):=by omega
      have V:=c.lt;have cb:=(cell_of_row wr _ j _ _ _ U).trans (E7 bs j (by omega));obtain⟨O,od,rfl,b0,S⟩:∃ O od,ad=some ⟨O,od,none⟩/\O<w.heap.size/\w.cell? ⟨O,od+(m+j),none⟩=some (.int .u8 (d.getD (m+j) 0)):=by
       obtain⟨⟨a',c0,e',_,_,A⟩,_,_⟩:=c4;rw[HN.out]at e' A
       simp only[Value.slice.injEq]at e';obtain⟨rfl,_,_⟩:=e';rcases A with A|⟨b',o',rfl,E,hc'⟩
       .have:=HN.out;rw[A]at this;simp at this;omega
       .exact⟨b',o',rfl,E,hc' (m+j) (by omega)⟩
      have cd:=(h.cell (p:=⟨O,od+(m+j),none⟩) b0).trans S;have y1:=Am a9 j;have y2:=Am c2 (m+j);have N:Hid (CM f d (m+(j+1))=CM f d (m+j)++[bx (bs.getD j 0) (d.getD (m+j) 0)]):=by
       unfold Hid;rw[<- Y.out j (by omega)];rfl
      have D:=Dz f d (m+j);have L:=Ph y1 y2;have t:Hid (bits .xor .u8 (bs.getD j 0) (d.getD (m+j) 0)=bx (bs.getD j 0) (d.getD (m+j) 0)):=Uz y1 y2;have s:Hid (0<=bx (bs.getD j 0) (d.getD (m+j) 0)/\bx (bs.getD j 0) (d.getD (m+j) 0)<256):=L;clear L S;generalize bs.getD j 0=x at cb y1 N t s;generalize d.getD (m+j) 0=y at cd y2 N t s;generalize bx x y=xy at N t s;generalize CM f d (m+j)=pre at c D N;go_wp2_with (at_builtin;refine Aa _ rfl _ _ 26 rfl w.heap.size 5 underlying26 Ay _ _ rfl rfl pre [xy] (c.alloc _) (Sl.um _ _ _ _ rfl s.out t.out) (by rw[D];simp;omega) (by have:=h.size;simp;omega) ?_)
      intro v' w' ho B;have W:w'.ownsRow w.heap.size 5 1 v' (pre++[xy]).length ((pre++[xy]).map (Value.int .u8)):=by simpa[D]using ho
      have E:Bw w w':=(h.alloc h.size _).grown B (by have:=h.size;simp;omega) (λk K=>(V k K).1);have n1:=JL c b (by decide);have n2:=JL c U (by decide);have a8:w.heap.size<wr.heap.size:=(U'.1 b).1;have b6:g<wr.heap.size:=(U'.1 U).1;have G:w'.heap[w.heap.size]?=some (.cells (AC us) 203 (0,0)):=((B.block w.heap.size (by simp;omega) n1.symm).trans (heap_alloc_old _ _ a8)).trans b;have b1:w'.heap[g]?=some (.cells (AZ bs) 150 (0,0)):=((B.block g (by simp;omega) n2.symm).trans (heap_alloc_old _ _ b6)).trans U;obtain⟨a3,c3,X⟩:=EW W;rw[E',D,nH]at X
      subst X;clear ho B c V h b U cb cd n1 n2;go_wp2
      go_roundw
      case rel=>exact⟨j+1,a3,c3,by omega,by go_num,rfl,by rw[N.out];exact W,G,b1,E⟩
      case measure=>simp[intOf];omega
     .have hjri:¬ (j:Int)<(r:Int):=by omega
      have HJ:Hid (j=r):=by unfold Hid;omega
      have a7:=(cell_of_row wr _ 12 _ _ _ b).trans (Ca us 12 (by omega));have d5:=frozen_of_row wr _ 12 _ _ b;generalize T:us.getD 12 0#32=cw at a7;have a4:Hid (us.getD 12 0#32=cw):=T;clear T;have c5:=bX cw;have n1:=JL c b (by decide);go_wp2
      go_roundw
      case rel =>
       refine⟨q+1,m+j,a2,P,by rw[HJ.out];exact a5.out,rfl,Fv c (λk K=>heap_setCell_other _ _ _ _ (by simp;intro e;subst e;exact n1 K)),?_,h.setCell (p:=⟨w.heap.size,12,none⟩) (A' _) _⟩;rw[<- a6.out,a4.out];exact Fy b 12 _
      case measure=>simp[Zn];have:=HJ.out;omega
  .have hmni:¬ (m:Int)<(n:Int):=by omega
   have d4:Hid (n=m):=by unfold Hid;omega
   go_wp2
   go_ret;refine⟨_,rfl,?_,h⟩;unfold KN;rw[HN.out,d4.out];exact c
theorem eg(g h s:Value)(key a d:List Int)(c:Nat)(w:World)(n:Sl w g key)(p:Sl w h a)(m:Sl w s d)(lk:key.length=32)(r:a.length=12)(E:c<=1073741824)(F:d.length<=2000)(q:Dv w) :
  Calls prog 76 #[g,.int .i64 c,h,s] w λe w'=>∃ v',e=.returned (.tuple #[v',.int .i64 0])/\w'.ownsRow w.heap.size 5 1 v' (KN (Cf key (BitVec.ofNat 32 c) a) d).length ((KN (Cf key (BitVec.ofNat 32 c) a) d).map (Value.int .u8))/\Bw w w':=by
 have j:=m;obtain⟨⟨ad,l,rfl,x,z,u⟩,y,v⟩:=m;clear u;have A:(d.length:Int)<=2000:=by omega
 go_enter func76,ntmps76
 go_wp2_with fail
 refine(K6 g h key a c w n p).mono ?_;rintro e C ⟨rfl,rfl⟩;rw[J5 lk r (by omega)];go_wp2_with fail
 refine(Oc g h key a c C n p lk r (by omega)).mono ?_;rintro e D ⟨rfl,b⟩;have o:=Hw key (BitVec.ofNat 32 c) a;generalize f:Cf key (BitVec.ofNat 32 c) a=us at o;have i:Hid (Cf key (BitVec.ofNat 32 c) a=us):=f;clear f;go_wp2_with fail
 refine(Su us _ d D o (j.af b) (by omega) (q.af q.pos b)).mono ?_;rintro e G ⟨B,rfl,k,t⟩;go_wp2
 go_ret2
 refine⟨B,rfl,?_,b.trans (t.mono b.size)⟩;rw[i.out];exact BN k b.size
def Ak(l:List Int):Array Value:=(l.map (Value.int .u64)).toArray
theorem Al(l:List Int):(Ak l).size=l.length:=by simp[Ak]
theorem Av(l:List Int)(i:Nat)(h:i<l.length):(Ak l)[i]?=some (.int .u64 (l.getD i 0)):=by
 simp[Ak,List.getD,List.getElem?_eq_getElem h]
theorem ZE(l:List Int)(i:Nat)(x:Int):(Ak l).setIfInBounds i (.int .u64 x)=Ak (l.set i x):=by
 apply rP;simp[Ak,List.map_set]
theorem EU(h:w.heap[g]?=some (.cells (Ak l) t (0,0)))(k:Nat)(x:Int) :
  (w.setCell ⟨g,k,none⟩ (.int .u64 x)).heap[g]?=some (.cells (Ak (l.set k x)) t (0,0)):=by
 rw[heap_setCell_same _ _ _ _ _ _ h,ZE]
theorem BH(l:List Int):(Ak l).all (·.oneCell')=true:=by simp[Ak,Value.oneCell']
theorem O4:∀ (S:List Int),S.length=5->∃ a b c d e,S=[a,b,c,d,e]
 | [a,b,c,d,e],_=>⟨a,b,c,d,e,rfl⟩
def val:List Int->Int
 | []=>0
 | x::l=>x+67108864*val l
def Lim(B:Int)(l:List Int):Prop:=l.length=5/\∀ j,0<=l.getD j 0/\l.getD j 0<B
theorem Lim.uF{B a b d e:Int}(f:0<=a/\a<B)(g:0<=b/\b<B)(h:0<=c/\c<B)(i:0<=d/\d<B)(k:0<=e/\e<B):Lim B [a,b,c,d,e]:=by
 refine⟨rfl,λj=>?_⟩
 match j with
 | 0=>exact f
 | 1=>exact g
 | 2=>exact h
 | 3=>exact i
 | 4=>exact k
 | j+5=>simp[List.getD];omega
theorem Lim.split{B:Int}(h:Lim B l):∃ a b c d e,l=[a,b,c,d,e]/\(0<=a/\a<B)/\(0<=b/\b<B)/\(0<=c/\c<B)/\(0<=d/\d<B)/\(0<=e/\e<B):=by
 obtain⟨a,b,c,d,e,rfl⟩:=O4 l h.1;exact⟨a,b,c,d,e,rfl,h.2 0,h.2 1,h.2 2,h.2 3,h.2 4⟩
theorem Lim.mono{B C:Int}(h:Lim B l)(a:B<=C):Lim C l:=⟨h.1,λj=>⟨(h.2 j).1,by have:=(h.2 j).2;omega⟩⟩
theorem D7(a b c d e:Int):val [a,b,c,d,e]=a+67108864*b+4503599627370496*c+302231454903657293676544*d+20282409603651670423947251286016*e:=by
 simp only[val];omega
structure Carr(l m:List Int)(k:Nat)(o:Int):Prop where
 len:m.length=5
 sum:val m+o*67108864^k=val l
 done:∀ j,j<k->0<=m.getD j 0/\m.getD j 0<67108864
 rest:∀ j,k<=j->m.getD j 0=l.getD j 0
 lo:0<=o
 hi:o<274877906944
theorem Carr.zero(h:l.length=5):Carr l l 0 0:=⟨h,by omega,λ_ h=>by omega,λ_ _=>rfl,by omega,by omega⟩
theorem Carr.succ(h:Carr l m k o)(z:Lim 9223372036854775808 l)(K:k<5) :
  Carr l (m.set k ((m.getD k 0+o)%67108864)) (k+1) ((m.getD k 0+o)/67108864):=by
 obtain⟨A,t,u,v,w,rfl,b0,B,C,D,E⟩:=z.split;obtain⟨d,e,g,q,x,rfl⟩:=O4 m h.len;have s:=h.sum;have b:=h.done;have a:=h.rest;have I:=h.lo;have J:=h.hi;rw[D7]at s
 rw[D7]at s
 obtain rfl|rfl|rfl|rfl|rfl:k=0\/k=1\/k=2\/k=3\/k=4:=by omega
 .have e0:d=A:=a 0 (by omega);have p:e=t:=a 1 (by omega);have F:g=u:=a 2 (by omega);have G:q=v:=a 3 (by omega);have H:x=w:=a 4 (by omega);simp only[nv,nJ];refine⟨rfl,?_,λj c=>?_,λj c=>?_,by omega,by omega⟩
  .rw[D7,D7];omega
  .obtain rfl:j=0:=by omega
   simp only[nJ];omega
  .obtain⟨j,rfl⟩:∃ i,j=i+1:=⟨j-1,by omega⟩;have:=a (j+1) (by omega);simpa using this
 .have p:e=t:=a 1 (by omega);have f:0<=d/\d<67108864:=b 0 (by omega);simp only[nv,nz,nJ,nZ];refine⟨rfl,?_,λj c=>?_,λj c=>?_,by omega,by omega⟩
  .rw[D7,D7];omega
  .obtain rfl|rfl:j=0\/j=1:=by omega
   .exact f
   .simp only[nJ,nZ];omega
  .obtain⟨j,rfl⟩:∃ i,j=i+2:=⟨j-2,by omega⟩;have:=a (j+2) (by omega);simpa using this
 .have p:g=u:=a 2 (by omega);have f:0<=d/\d<67108864:=b 0 (by omega);have n:0<=e/\e<67108864:=b 1 (by omega);simp only[nv,nz,nJ,nZ];refine⟨rfl,?_,λj c=>?_,λj c=>?_,by omega,by omega⟩
  .rw[D7,D7];omega
  .obtain rfl|rfl|rfl:j=0\/j=1\/j=2:=by omega
   .exact f
   .exact n
   .simp only[nJ,nZ];omega
  .obtain⟨j,rfl⟩:∃ i,j=i+3:=⟨j-3,by omega⟩;have:=a (j+3) (by omega);simpa using this
 .have p:q=v:=a 3 (by omega);have f:0<=d/\d<67108864:=b 0 (by omega);have n:0<=e/\e<67108864:=b 1 (by omega);have r:0<=g/\g<67108864:=b 2 (by omega);simp only[nv,nz,nJ,nZ];refine⟨rfl,?_,λj c=>?_,λj c=>?_,by omega,by omega⟩
  .rw[D7,D7];omega
  .obtain rfl|rfl|rfl|rfl:j=0\/j=1\/j=2\/j=3:=by omega
   .exact f
   .exact n
   .exact r
   .simp only[nJ,nZ];omega
  .obtain⟨j,rfl⟩:∃ i,j=i+4:=⟨j-4,by omega⟩;have:=a (j+4) (by omega);simpa using this
 .have p:x=w:=a 4 (by omega);have f:0<=d/\d<67108864:=b 0 (by omega);have n:0<=e/\e<67108864:=b 1 (by omega);have r:0<=g/\g<67108864:=b 2 (by omega);have y:0<=q/\q<67108864:=b 3 (by omega);simp only[nv,nz,nJ,nZ];refine⟨rfl,?_,λj c=>?_,λj c=>?_,by omega,by omega⟩
  .rw[D7,D7];omega
  .obtain rfl|rfl|rfl|rfl|rfl:j=0\/j=1\/j=2\/j=3\/j=4:=by omega
   .exact f
   .exact n
   .exact r
   .exact y
   .simp only[nJ,nZ];omega
  .obtain⟨j,rfl⟩:∃ i,j=i+5:=⟨j-5,by omega⟩;simp[List.getD]
theorem Carr.sc(h:Carr l m 5 o):Lim 67108864 m/\val m+1361129467683753853853498429727072845824*o=val l:=by
 refine⟨⟨h.len,λj=>?_⟩,?_⟩
 .by_cases hj:j<5
  .exact h.done j hj
  .rw[Hf (by have:=h.len;omega)];omega
 .have:=h.sum;omega
def pp:Int:=1361129467683753853853498429727072845819
theorem Qb(h:l.length=5)(t:Nat)(f:t<5)(y:Int):val (l.set t y)=val l+(y-l.getD t 0)*67108864^t:=by
 obtain⟨a,b,c,d,e,rfl⟩:=O4 l h;obtain rfl|rfl|rfl|rfl|rfl:t=0\/t=1\/t=2\/t=3\/t=4:=by omega
 all_goals
  simp only[nv,nz,nJ,nZ,D7];omega
def pv(n:List Int):Nat->Int
 | 0=>0
 | k+1=>pv n k+n.getD k 0*67108864^k
theorem Vd{n:List Int}(h:n.length=5):pv n 5=val n:=by
 obtain⟨a,b,c,d,e,rfl⟩:=O4 n h;simp only[pv,nJ,nZ,D7];omega
structure Adds(l m r:List Int)(k:Nat):Prop where
 len:r.length=5
 done:∀ j,j<k->r.getD j 0=l.getD j 0+m.getD j 0
 rest:∀ j,k<=j->r.getD j 0=l.getD j 0
theorem Adds.zero(h:l.length=5):Adds l m l 0:=⟨h,λ_ h=>by omega,λ_ _=>rfl⟩
theorem AT(h:k<l.length)(x:Int):(l.set k x).getD k 0=x:=by
 simp[List.getD,h]
theorem AE(h:k≠j)(x:Int):(l.set k x).getD j 0=l.getD j 0:=by
 simp[List.getD,List.getElem?_set_ne h]
theorem Adds.succ(h:Adds l m r k)(b:k<5):Adds l m (r.set k (r.getD k 0+m.getD k 0)) (k+1):=by
 refine⟨by simpa using h.len,λj a=>?_,λj a=>?_⟩
 .by_cases e:k=j
  .subst e;rw[AT (by rw[h.len];omega),h.rest k (by omega)]
  .rw[AE e];exact h.done j (by omega)
 .rw[AE (by omega)];exact h.rest j (by omega)
theorem Adds.sc(h:Adds l m r 5)(a:Lim 67108864 l)(b:Lim 67108864 m):Lim 134217728 r/\val r=val l+val m:=by
 obtain⟨c,d,e,f,g,rfl,b0,v,w,x,y⟩:=a.split;obtain⟨i,j,k,n,o,rfl,z,A,B,C,D⟩:=b.split;obtain⟨p,q,s,t,u,rfl⟩:=O4 r h.len;have E:p=c+i:=h.done 0 (by omega);have F:q=d+j:=h.done 1 (by omega);have G:s=e+k:=h.done 2 (by omega);have H:t=f+n:=h.done 3 (by omega);have I:u=g+o:=h.done 4 (by omega);exact⟨Lim.uF (by omega) (by omega) (by omega) (by omega) (by omega),by rw[D7,D7,D7];omega⟩
structure Prods(n m r:List Int)(i j:Nat):Prop where
 len:r.length=5
 sum:val r%pp=(pv n i*val m+n.getD i 0*67108864^i*pv m j)%pp
 low:∀ t,0<=r.getD t 0
 high:∀ t,r.getD t 0<=(5*(i:Int)+(j:Int))*45035996273704960
theorem Prods.zero(n m:List Int):Prods n m [0,0,0,0,0] 0 0:=by
 refine⟨rfl,?_,λt=>?_,λt=>?_⟩
 .simp[pv,val]
 .match t with
  | 0|1|2|3|4=>simp
  | t+5=>simp[List.getD]
 .match t with
  | 0|1|2|3|4=>simp
  | t+5=>simp[List.getD]
theorem Ik(b:0<=x/\x<134217728)(a:0<=y/\y<67108864):0<=x*y/\x*y<=9007199254740992:=by
 refine⟨ss b.1 a.1,?_⟩;have c:=sw (qP b.2) (qP a.2) a.1 (by omega);omega
theorem Prods.tP{n:List Int}(h:Prods n m r i j)(c:Lim 134217728 n)(b:Lim 67108864 m)(a:i+j<5) :
  Prods n m (r.set (i+j) (r.getD (i+j) 0+n.getD i 0*m.getD j 0)) i (j+1):=by
 have g:=Ik (c.2 i) (b.2 j);have d:=h.low (i+j);have f:=h.high (i+j);refine⟨by simpa using h.len,?_,λt=>?_,λt=>?_⟩
 .rw[Qb h.len _ a,qQ,h.sum,<- qQ]
  congr 1
  rw[qf];simp only[pv]
  grind
 .by_cases e:i+j=t
  .subst e;rw[AT (by rw[h.len];omega)];omega
  .rw[AE e];exact h.low t
 .by_cases e:i+j=t
  .subst e;rw[AT (by rw[h.len];omega)];omega
  .rw[AE e];have:=h.high t;omega
theorem Prods.tJ{n:List Int}(h:Prods n m r i j)(d:Lim 134217728 n)(c:Lim 67108864 m)(b:5<=i+j)(l:i<5)(o:j<5) :
  Prods n m (r.set (i+j-5) (r.getD (i+j-5) 0+n.getD i 0*m.getD j 0*5)) i (j+1):=by
 have k:=Ik (d.2 i) (c.2 j);have f:=h.low (i+j-5);have g:=h.high (i+j-5);refine⟨by simpa using h.len,?_,λt=>?_,λt=>?_⟩
 .rw[Qb h.len _ (by omega),qQ,h.sum,<- qQ];have e:(67108864:Int)^i*67108864^j=67108864^(i+j-5)*(pp+5):=by
   rw[<- qf,show pp+5=(67108864:Int)^5 by unfold pp;rfl,<- qf];congr 1;omega
  have a:pv n i*val m+n.getD i 0*67108864^i*pv m (j+1)=pv n i*val m+n.getD i 0*67108864^i*pv m j+(r.getD (i+j-5) 0+n.getD i 0*m.getD j 0*5-r.getD (i+j-5) 0)*67108864^(i+j-5)+pp*(n.getD i 0*m.getD j 0*67108864^(i+j-5)):=by
   simp only[pv]
   grind
  rw[a,rF]
 .by_cases e:i+j-5=t
  .subst e;rw[AT (by rw[h.len];omega)];omega
  .rw[AE e];exact h.low t
 .by_cases e:i+j-5=t
  .subst e;rw[AT (by rw[h.len];omega)];omega
  .rw[AE e];have:=h.high t;omega
theorem Prods.row{n:List Int}(h:Prods n m r i 5)(a:m.length=5):Prods n m r (i+1) 0:=by
 refine⟨h.len,?_,h.low,λt=>?_⟩
 .rw[h.sum,Vd a]
  congr 1
  simp only[pv]
  grind
 .have:=h.high t;omega
theorem Prods.sc{n:List Int}(h:Prods n m r 5 0)(a:n.length=5):Lim 1152921504606846976 r/\val r%pp=(val n*val m)%pp:=by
 refine⟨⟨h.len,λt=>⟨h.low t,?_⟩⟩,?_⟩
 .have:=h.high t;omega
 .rw[h.sum,Vd a];congr 1;simp only[pv];grind
theorem Tl{n:List Int}(q:Lim 67108864 n)(p:Carr (n.set 0 (n.getD 0 0+5)) m 5 o):Lim 67108864 m/\(0<o->val m=val n%pp)/\(¬ 0<o->val n=val n%pp):=by
 obtain⟨k,l⟩:=p.sc;refine⟨k,?_⟩;have B:=p.lo;obtain⟨a,b,c,d,e,rfl,b0,s,t,u,v⟩:=q.split;obtain⟨f,g,h,i,j,rfl,w,x,y,z,A⟩:=k.split;simp only[nv,nJ]at l;have r:val [a+5,b,c,d,e]=val [a,b,c,d,e]+5:=by rw[D7,D7];omega
 have C:0<=val [a,b,c,d,e]/\val [a,b,c,d,e]<1361129467683753853853498429727072845824:=by rw[D7];omega
 have D:0<=val [f,g,h,i,j]/\val [f,g,h,i,j]<1361129467683753853853498429727072845824:=by rw[D7];omega
 rw[r]at l
 generalize val [a,b,c,d,e]=V at *;generalize val [f,g,h,i,j]=M at *;unfold pp;constructor
 .intro ho;obtain rfl:o=1:=by omega
  omega
 .intro ho;obtain rfl:o=0:=by omega
  omega
def leP(l:List Int):Nat->Int
 | 0=>0
 | k+1=>leP l k+l.getD k 0*256^k
def leN(l:List Int):Int:=leP l l.length
theorem Zk(k:Nat)(h:l.length<=k):leP l k=leN l:=by
 obtain⟨d,rfl⟩:∃ d,k=l.length+d:=⟨k-l.length,by omega⟩;clear h;induction d with
 | zero=>rfl
 | succ d ih=>rw[<- oB,leP,ih,Hf (by omega)];omega
theorem Ws(k:Nat)(h:∀ j,j<k->l.getD j 0=m.getD j 0):leP l k=leP m k:=by
 induction k with
 | zero=>rfl
 | succ k ih=>rw[leP,leP,ih (λj a=>h j (by omega)),h k (by omega)]
theorem Tj(k:Nat):leP (l++m) (l.length+k)=leN l+256^l.length*leP m k:=by
 induction k with
 | zero =>
  simp only[pD,leP,Int.mul_zero,Int.add_zero];unfold leN;exact Ws _ (λj a=>by simp[List.getD,List.getElem?_append_left a])
 | succ k ih =>
  rw[<- oB,leP,ih,leP,Int.mul_add,qf];have:(l++m).getD (l.length+k) 0=m.getD k 0:=by simp[List.getD,List.getElem?_append_right]
  rw[this]
  grind
theorem Ti(l m:List Int):leN (l++m)=leN l+256^l.length*leN m:=by
 have h:=Tj (l:=l) (m:=m) m.length;rw[<- E']at h
 exact h
theorem Wr(n:Nat):leN (List.replicate n 0)=0:=by
 unfold leN;generalize (List.replicate n (0:Int)).length=k;induction k with
 | zero=>rfl
 | succ k ih =>
  rw[leP,ih];have:(List.replicate n (0:Int)).getD k 0=0:=by
   rcases oc k n with h|h
   .simp[List.getD,h]
   .exact Hf (by simpa using h)
  rw[this];omega
structure Reads(b r:List Int)(k:Nat):Prop where
 len:r.length=5
 sum:val r=leP b k
 low:∀ t,0<=r.getD t 0
 high:∀ t,r.getD t 0<=(k:Int)*17179869184
theorem Reads.zero(b:List Int):Reads b [0,0,0,0,0] 0:=by
 refine⟨rfl,rfl,λt=>?_,λt=>?_⟩
 .match t with
  | 0|1|2|3|4=>simp
  | t+5=>simp[List.getD]
 .match t with
  | 0|1|2|3|4=>simp
  | t+5=>simp[List.getD]
theorem Reads.succ{b:List Int}(h:Reads b r k)(c:0<=b.getD k 0/\b.getD k 0<256)(q:Nat)(m:Int)(f:q<5)(a:0<=m/\m<=33554432)(d:m*67108864^q=256^k):Reads b (r.set q (r.getD q 0+b.getD k 0*m)) (k+1):=by
 have g:0<=b.getD k 0*m:=ss c.1 a.1;have i:b.getD k 0*m<=256*33554432:=sw (by omega) a.2 a.1 (by omega);refine⟨by simpa using h.len,?_,λt=>?_,λt=>?_⟩
 .rw[Qb h.len q f,h.sum,leP,<- d]
  grind
 .have:=h.low q;by_cases e:q=t
  .subst e;rw[AT (by rw[h.len];omega)];omega
  .rw[AE e];exact h.low t
 .have:=h.high q;by_cases e:q=t
  .subst e;rw[AT (by rw[h.len];omega)];omega
  .rw[AE e];have:=h.high t;omega
def piece(l:List Int)(k:Nat):List Int:=(l.drop (16*k)).take 16
def KC(R:Int)(l:List Int):Nat->Int
 | 0=>0
 | k+1=>(KC R l k+leN (piece l k++[1]))*R%pp
def PD(l:List Int):Nat:=(l.length+15)/16
def gT(R:Int)(l:List Int):Int:=KC R l (PD l)
theorem TP:0<pp:=by unfold pp;omega
theorem RZ(R:Int)(l:List Int)(k:Nat):0<=KC R l k/\KC R l k<pp:=by
 cases k with
 | zero=>exact⟨by simp[KC],TP⟩
 | succ k=>exact⟨se _ (by have:=TP;omega),rI _ TP⟩
theorem X8{n s t:List Int}{R:Int}(b:val n%pp=KC R l k%pp)(a:val m%pp=leN (piece l k++[1])%pp)(d:val s=val n+val m)(c:val r%pp=R%pp)(e:val t%pp=(val s*val r)%pp) :
  val t%pp=KC R l (k+1)%pp:=by
 rw[e,KC,Int.emod_emod_of_dvd _ (Int.dvd_refl _),Int.mul_emod,d,qQ,b,a,c,<- qQ,<- Int.mul_emod]
theorem Dy(l:List Int)(n i:Nat):(l.drop n).getD i 0=l.getD (n+i) 0:=by simp[List.getD]
theorem B9(l:List Int)(n i:Nat)(h:i<n):(l.take n).getD i 0=l.getD i 0:=by simp[List.getD,h]
theorem Sl.sK{a:Option Addr}(h:Sl w (.slice a n cap) l)(d c:Nat)(m:d<=c)(g:c<=l.length):Sl w (sliced a d c cap 1) ((l.take c).drop d):=by
 have B:=(h.take c g).len;have r:=h.byte;obtain⟨⟨y,o,e,A,u,q⟩,t,s⟩:=h;simp only[Value.slice.injEq]at e;obtain⟨rfl,rfl,rfl⟩:=e;have k:((l.take c).drop d).length=c-d:=by rw[nu,j'];omega
 have f:∀ x∈(l.take c).drop d,0<=x/\x<256:=λx v=>r x (nB (pm v));cases a with
 | none =>
  have p:=u rfl;subst p;have z:l.length=0:=by omega
  refine⟨⟨_,_,by rw[k];rfl,by omega,λ_=>by omega,.inl (Y' (by omega))⟩,by omega,f⟩
 | some ad =>
  refine⟨⟨_,_,by rw[k];rfl,by omega,(by intro h;split at h<;>simp at h),?_⟩,by omega,f⟩;rcases Nat.eq_or_lt_of_le m with he|hlt
  .exact .inl (Y' (by omega))
  .rcases q with rfl|⟨b,off,e2,hbs,hcell⟩
   .simp at g;omega
   .simp only[Z']at e2;subst e2;refine .inr ⟨b,off+d,?_,hbs,λi j=>?_⟩
    .rw[if_neg (by omega)];simp[Addr.add]
    .rw[k]at j
     rw[oB,hcell (d+i) (by omega),Dy,B9 _ _ _ (by omega)]
theorem GL(w:World):(Go.sizeOf 5).run prog w=.ok 1 w:=by
 obtain⟨i,b,_,a,_⟩:=info_parts Ay;simp[sizeOf,typeInfo,b,a]
theorem Sl.qv{a:Option Addr}(h:Sl w (.slice a n cap) l)(b:Nat)(c:b<=l.length) :
  ∃ a' c',(∀ W,(Instr.slice 26 (.slice a n cap) none (some (.int .i64 (b:Int))) none).run prog W=.ok (.slice a' b c') W)/\Sl w (.slice a' b c') (l.take b):=by
 have i:=h.sK 0 b (by omega) c;obtain⟨⟨a',d,e,k,m,j⟩,g,f⟩:=h;simp only[Value.slice.injEq]at e;obtain⟨rfl,rfl,rfl⟩:=e;refine⟨_,_,λW=>?_,by simpa[sliced]using i⟩;rw[run_slice_h (P:=prog) W 26 a _ cap underlying26 .i64 _ (by omega) (by omega)];have e:prog.elem 26=5:=by kernel_rfl
 rw[e,GL];simp[Result.andThen,sliced]
theorem Sl.from{a:Option Addr}(h:Sl w (.slice a n cap) l)(b:Nat)(c:b<=l.length) :
  ∃ a' c',(∀ W,(Instr.slice 26 (.slice a n cap) (some (.int .i64 (b:Int))) none none).run prog W=.ok (.slice a' (n-b) c') W)/\Sl w (.slice a' (n-b) c') (l.drop b):=by
 have i:=h.sK b l.length c (A' _);obtain⟨⟨a',d,e,k,m,j⟩,g,f⟩:=h;simp only[Value.slice.injEq]at e;obtain⟨rfl,rfl,rfl⟩:=e;refine⟨_,_,λW=>?_,by simpa[sliced]using i⟩;rw[run_slice_l (P:=prog) W 26 a _ cap underlying26 .i64 _ (by omega) (by omega)];have e:prog.elem 26=5:=by kernel_rfl
 rw[e,GL];simp[Result.andThen,sliced]
theorem kl(x:Int)(a:0<=x)(b:x<18446744073709551616):bits .and .u64 x 67108863=x%67108864:=by
 obtain⟨n,rfl⟩:=nR a;rw[show(67108863:Int)=((67108863:Nat):Int)from rfl,u64_and_nat _ _ (by omega) (by omega),show(67108863:Nat)=2^26-1 from rfl,qW];omega
theorem Dn(h:l.length=5):(prog.info? 236).map (·.size)=some (Ak l).size:=by rw[Al,h];kernel_rfl
theorem Bm{a:World}(h:Below B a w){g:Nat}(c:B<=g)(b:Array Value):Below B a (w.setRow g b) :=
 h.trans ⟨rfl,rfl,rfl,by simp,λk d=>setRow_other w g k b (by omega)⟩
theorem GE{P:Program}{f:Func}{p u:Tmp}{c:TypeId}(h:f.results=#[.cell p c,.tmp u])(a:Array Value)(w:World)(g:Nat)(t:TypeId)(b:Array Value)(i:Nat × Nat)(d:TypeDesc)(m:a.getD p undef=.pointer (some ⟨g,0,none⟩))(k:w.heap[g]?=some (.cells b t i))(n:P.underlying c=some d)(j:(match d with|.struct _|.array _ _=>true|_=>false)=true)(l:(P.info? c).map (·.size)=some b.size){v:Value}(o:a.getD u undef=v) :
  (results f a).run P w=.ok (.tuple #[.agg b,v]) w:=by
 have e:a[p]?.getD undef=.pointer (some ⟨g,0,none⟩):=by simpa using m
 rw[results_cell_tmp h,o];simp[e,asAddr,run_loadVar_row w g t c b i d k n j l]
theorem As{l:List Oper}(h:wpList P ops Q l a w):wpList P ops Q l a w:=h
theorem Rh(l:List Int)(w:World)(j:Lim 9223372036854775808 l) :
  Calls prog 201 #[.agg (Ak l)] w λe w'=>∃ m o,e=.returned (.tuple #[.agg (Ak m),.int .u64 o])/\Carr l m 5 o/\Bw w w':=by
 have s:=j.1;have z:=Dn s;go_enter func201,ntmps201
 go_wp2_with fail
 go_loopw [4,6] (λo i wr=>∃ (k:Nat) (m:List Int) (b:Int),k<=5/\i=.int .i64 k/\o=.int .u64 b/\Carr l m k b/\wr.heap[w.heap.size]?=some (.cells (Ak m) 236 (0,0))/\wr.heap[w.heap.size+1]?=some (.cells (Ak [0,0,0,0,0]) 236 (0,0))/\Bw w wr) (λ_ i _=>5-(intOf i).toNat)
 case atStart=>
  refine⟨0,l,0,by omega,rfl,rfl,Carr.zero s,?_,?_,?_⟩
  .exact heap_alloc2_old _ _ _
  .exact heap_alloc2_new _ _ _
  .exact((Below.refl _ _).alloc (A' _) _).alloc (by simp) _
 case round =>
  obtain⟨k,m,b,D,rfl,rfl,c,f,n,t⟩:=hrel;by_cases g:k<5
  .have h:(k:Int)<5:=by omega
   have y:=(cell_of_row wr _ k _ _ _ f).trans (Av m k (by rw[c.len];omega));have B:=frozen_of_row wr _ k _ _ f;have u:=c.succ j g;have E:=c.lo;have F:=c.hi;have r:m.getD k 0=l.getD k 0:=c.rest k (by omega);have d:=j.2 k;rw[<- r]at d
   have q:Hid (Carr l (m.set k ((m.getD k 0+b)%67108864)) (k+1) ((m.getD k 0+b)/67108864)):=u;clear u c r;generalize m.getD k 0=x at y q d;obtain⟨d,A⟩:=d;have C:=kl (x+b) (by omega) (by omega);go_wp2
   go_roundw
   case rel =>
    refine⟨k+1,_,_,by omega,by go_num,rfl,q.out,?_,?_,?_⟩
    .have h1:=EU (EU f k (x+b)) k ((x+b)%67108864);rw[List.set_set]at h1
     exact h1
    .rw[heap_setCell_other _ _ _ _ (by simp),heap_setCell_other _ _ _ _ (by simp)];exact n
    .exact(t.setCell (p:=⟨w.heap.size,k,none⟩) (A' _) _).setCell (p:=⟨w.heap.size,k,none⟩) (A' _) _
   case measure=>simp[intOf];omega
  .have HK:Hid (k=5):=by unfold Hid;omega
   have h:¬ (k:Int)<5:=by omega
   have a:=Dn c.len;go_wp2_with ((with_reducible (refine As ?_));first
    | (refine wpList_load_row rfl 236 _ rfl w.heap.size rfl 236 _ (0,0) _ f underlying236 rfl a ?_)
    | (refine wpList_store_row rfl 236 _ _ rfl (w.heap.size+1) _ rfl rfl 236 _ n a (by rw[Al,Al,c.len];rfl) (BH m) ?_))
   refine bodyPost_ret (v:=.tuple #[.agg (Ak m),.int .u64 b]) (GE rfl _ _ (w.heap.size+1) 236 _ (0,0) _ rfl (setRow_heap wr (w.heap.size+1) _ _ 236 _ n) underlying236 rfl a rfl) rfl ⟨m,b,rfl,by have:=HK.out;subst this;exact c,Bm t (by omega) _⟩
def RW:Nat->List Int->Prop
 | 0,m=>Lim 1152921504606846976 m
 | 1,m=>Lim 274877906944 m/\val m<1361129467683753853853498429727072845824+274877906944
 | 2,m=>Lim 274877906944 m/\val m<1361129467683753853853498429727072845824
 | _,m=>Lim 67108864 m
theorem RW.uU:∀ {k:Nat} {m:List Int},RW k m->Lim 9223372036854775808 m
 | 0,_,h=>Lim.mono h (by omega)
 | 1,_,h=>Lim.mono h.1 (by omega)
 | 2,_,h=>Lim.mono h.1 (by omega)
 | _+3,_,h=>Lim.mono (B:=67108864) h (by omega)
theorem iX(a b o:Int)(h:a+1361129467683753853853498429727072845824*o=b):(a+5*o)%pp=b%pp:=by
 rw[<- h,show a+1361129467683753853853498429727072845824*o=a+5*o+pp*o by unfold pp;omega,rF]
theorem RW.succ(h:RW k l)(G:k<3)(b:Carr l m 5 o):RW (k+1) (m.set 0 (m.getD 0 0+o*5))/\val (m.set 0 (m.getD 0 0+o*5))%pp=val l%pp/\0<=m.getD 0 0/\m.getD 0 0<67108864/\0<=o/\o<274877906944:=by
 obtain⟨t,a⟩:=b.sc;obtain⟨d,f,g,i,j,rfl,b0,C,D,E,F⟩:=t.split;have A:=b.lo;have B:=b.hi;simp only[nv,nJ];have c:=iX _ _ _ a;rw[D7]at a
 have e:val [d+o*5,f,g,i,j]=val [d,f,g,i,j]+5*o:=by rw[D7,D7];omega
 rw[<- e]at c
 refine⟨?_,c,b0.1,b0.2,A,B⟩;obtain rfl|rfl|rfl:k=0\/k=1\/k=2:=by omega
 .obtain⟨v,w,x,y,z,rfl,n,p,q,r,s⟩:=Lim.split h;rw[D7]at a
  refine⟨Lim.uF (by omega) (by omega) (by omega) (by omega) (by omega),?_⟩;rw[D7];omega
 .obtain⟨h3,h4⟩:=h;obtain⟨v,w,x,y,z,rfl,n,p,q,r,s⟩:=Lim.split h3;rw[D7]at a h4
  refine⟨Lim.uF (by omega) (by omega) (by omega) (by omega) (by omega),?_⟩;rw[D7];omega
 .obtain⟨h3,h4⟩:=h;have u:o=0:=by omega
  subst u;show Lim 67108864 _;exact Lim.uF (by omega) (by omega) (by omega) (by omega) (by omega)
theorem Ki(l:List Int)(w:World)(I:Lim 1152921504606846976 l) :
  Calls prog 200 #[.agg (Ak l)] w λe w'=>∃ m,e=.returned (.agg (Ak m))/\Lim 67108864 m/\val m%pp=val l%pp/\Bw w w':=by
 have M:=I.1;have N:=Dn M;go_enter func200,ntmps200
 go_wp2_with fail
 go_loopw [4] (λi wr=>∃ (k:Nat) (m:List Int),k<=3/\i=.int .i64 k/\RW k m/\val m%pp=val l%pp/\wr.heap[w.heap.size]?=some (.cells (Ak m) 236 (0,0))/\wr.heap[w.heap.size+1]?=some (.cells (Ak [0,0,0,0,0]) 236 (0,0))/\w.heap.size+2<=wr.heap.size/\Bw w wr) (λi _=>3-(intOf i).toNat)
 case atStart=>
  refine⟨0,l,by omega,rfl,I,rfl,?_,?_,by simp,?_⟩
  .exact heap_alloc2_old _ _ _
  .exact heap_alloc2_new _ _ _
  .exact((Below.refl _ _).alloc (A' _) _).alloc (by simp) _
 case round =>
  obtain⟨k,m,T,rfl,n,K,B,C,U,E⟩:=hrel;have f:=n.uU.1;have b:=Dn f;by_cases G:k<3
  .have hki:(k:Int)<3:=by omega
   go_wp2_with ((with_reducible (refine As ?_));refine wpList_load_row rfl 236 _ rfl w.heap.size rfl 236 _ (0,0) _ B underlying236 rfl b ?_)
   refine(Rh m wr n.uU).mono ?_;rintro e h ⟨a,o,rfl,d,c⟩;obtain⟨J,A,Q,R,V,W⟩:=n.succ G d;have q:=d.len;have y:=Dn q;have r:=(c.block w.heap.size (by omega)).trans B;have s:=(c.block (w.heap.size+1) (by omega)).trans C;have O:=c.size;have j:Bw w h:=E.trans (c.mono (by omega));have g:=setRow_heap h w.heap.size (Ak m) (Ak a) 236 (0,0) r;have H:(h.setRow w.heap.size (Ak a)).heap[w.heap.size+1]?=some (.cells (Ak [0,0,0,0,0]) 236 (0,0)):=(setRow_other _ _ _ _ (by omega)).trans s;have D:Bw w (h.setRow w.heap.size (Ak a)):=Bm j (A' _) _;have P:(h.setRow w.heap.size (Ak a)).heap.size=h.heap.size:=by simp
   have L:=(cell_of_row _ _ 0 _ _ _ g).trans (Av a 0 (by omega));have S:=frozen_of_row _ _ 0 _ _ g;have t:Hid (RW (k+1) (a.set 0 (a.getD 0 0+o*5))):=J;have z:Hid (val (a.set 0 (a.getD 0 0+o*5))%pp=val m%pp):=A;have u:Hid (((h.setRow w.heap.size (Ak a)).setCell ⟨w.heap.size,0,none⟩ (.int .u64 (a.getD 0 0+o*5))).heap[w.heap.size]?=some (.cells (Ak (a.set 0 (a.getD 0 0+o*5))) 236 (0,0))):=EU g 0 _;clear E B C c s j n d J A;generalize a.getD 0 0=x at L t z u Q R;go_wp2_with ((with_reducible (refine As ?_));refine wpList_store_row rfl 236 _ _ rfl w.heap.size _ rfl rfl 236 _ r y (by rw[Al,Al,q,f]) (BH a) ?_)
   go_roundw
   case rel =>
    refine⟨k+1,_,by omega,by go_num,t.out,z.out.trans K,u.out,?_,?_,?_⟩
    .rw[heap_setCell_other _ _ _ _ (by simp)];exact H
    .simp;omega
    .exact D.setCell (p:=⟨w.heap.size,0,none⟩) (A' _) _
   case measure=>simp[intOf];omega
  .have hki:¬ (k:Int)<3:=by omega
   have F:Lim 67108864 m:=by
    obtain rfl:k=3:=by omega
    exact n
   go_wp2_with ((with_reducible (refine As ?_));first
    | (refine wpList_load_row rfl 236 _ rfl w.heap.size rfl 236 _ (0,0) _ B underlying236 rfl b ?_)
    | (refine wpList_store_row rfl 236 _ _ rfl (w.heap.size+1) _ rfl rfl 236 _ C b (by rw[Al,Al,f];rfl) (BH m) ?_))
   refine bodyPost_ret (v:=.agg (Ak m)) (results_cell_row rfl _ _ (w.heap.size+1) 236 _ (0,0) _ rfl (setRow_heap wr (w.heap.size+1) _ _ 236 _ C) underlying236 rfl b) rfl ⟨m,rfl,F,K,Bm E (by omega) _⟩
theorem Nt(n:Int):IntKind.u64.wrap n=n%18446744073709551616:=by simp[IntKind.wrap,IntKind.bits,IntKind.signed]
theorem SY(S:List Int)(f:S.length=5)(j:Nat)(g:j<5):∀ w,(Instr.index 236 (.agg (Ak S)) (.int .i64 (j:Int))).run prog w=.ok (.int .u64 (S.getD j 0)) w:=by
 intro w;obtain⟨a,b,c,d,e,rfl⟩:=O4 S f;obtain rfl|rfl|rfl|rfl|rfl:j=0\/j=1\/j=2\/j=3\/j=4:=by omega
 all_goals kernel_rfl
theorem Gq(w:World)(a b c:Obj):(((w.alloc a).alloc b).alloc c).heap[w.heap.size]?=some a/\(((w.alloc a).alloc b).alloc c).heap[w.heap.size+1]?=some b/\(((w.alloc a).alloc b).alloc c).heap[w.heap.size+1+1]?=some c/\Bw w (((w.alloc a).alloc b).alloc c):=by
 refine⟨?_,?_,?_,(((Below.refl _ _).alloc (A' _) _).alloc (by simp) _).alloc (by simp;omega) _⟩
 .rw[heap_alloc_old _ _ (by simp;omega)];exact heap_alloc2_old w a b
 .rw[heap_alloc_old _ _ (by simp)];exact heap_alloc2_new w a b
 .have:=heap_alloc_new ((w.alloc a).alloc b) c;simpa using this
theorem Lq(w:World)(a b c d:Obj):((((w.alloc a).alloc b).alloc c).alloc d).heap[w.heap.size]?=some a/\((((w.alloc a).alloc b).alloc c).alloc d).heap[w.heap.size+1]?=some b/\((((w.alloc a).alloc b).alloc c).alloc d).heap[w.heap.size+1+1]?=some c/\((((w.alloc a).alloc b).alloc c).alloc d).heap[w.heap.size+1+1+1]?=some d/\Bw w ((((w.alloc a).alloc b).alloc c).alloc d):=by
 obtain⟨e,f,g,h⟩:=Gq w a b c;refine⟨?_,?_,?_,?_,h.alloc (by simp;omega) _⟩
 .rw[heap_alloc_old _ _ (by simp;omega)];exact e
 .rw[heap_alloc_old _ _ (by simp)];exact f
 .rw[heap_alloc_old _ _ (by simp)];exact g
 .have:=heap_alloc_new (((w.alloc a).alloc b).alloc c) d;simpa using this
theorem al(l m:List Int)(w:World)(n:Lim 67108864 l)(d:Lim 67108864 m) :
  Calls prog 178 #[.agg (Ak l),.agg (Ak m)] w λe w'=>∃ r,e=.returned (.agg (Ak r))/\Lim 134217728 r/\val r=val l+val m/\Bw w w':=by
 have C:=n.1;have g:=Dn d.1;go_enter func178,ntmps178
 go_wp2_with ((with_reducible (refine As ?_));(refine wpList_load_row rfl 236 _ rfl (w.heap.size+1) rfl 236 _ (0,0) _ (Gq w _ _ _).2.1 underlying236 rfl g ?_))
 go_loopw [8] (λi wr=>∃ (k:Nat) (r:List Int),k<=5/\i=.int .i64 k/\Adds l m r k/\wr.heap[w.heap.size]?=some (.cells (Ak r) 236 (0,0))/\wr.heap[w.heap.size+1+1]?=some (.cells (Ak [0,0,0,0,0]) 236 (0,0))/\Bw w wr) (λi _=>5-(intOf i).toNat)
 case atStart=>exact⟨0,l,by omega,rfl,Adds.zero C,(Gq w _ _ _).1,(Gq w _ _ _).2.2.1,(Gq w _ _ _).2.2.2⟩
 case round =>
  obtain⟨k,r,G,rfl,j,o,z,A⟩:=hrel;have f:=j.len;by_cases c:k<5
  .have u:(k:Int)<5:=by omega
   have t:=SY m d.1 k c;have B:=(cell_of_row wr _ k _ _ _ o).trans (Av r k (by omega));have F:=frozen_of_row wr _ k _ _ o;have q:Hid (Adds l m (r.set k (r.getD k 0+m.getD k 0)) (k+1)):=j.succ c;have h:=n.2 k;rw[<- j.rest k (by omega)]at h
   have s:=d.2 k;generalize r.getD k 0=x at B q h;generalize m.getD k 0=y at t q s;obtain⟨h,D⟩:=h;obtain⟨s,E⟩:=s;go_wp2
   go_roundw
   case rel =>
    refine⟨k+1,_,by omega,by go_num,q.out,EU o k _,?_,?_⟩
    .rw[heap_setCell_other _ _ _ _ (by simp;omega)];exact z
    .exact A.setCell (p:=⟨w.heap.size,k,none⟩) (A' _) _
   case measure=>simp[intOf];omega
  .have HK:Hid (k=5):=by unfold Hid;omega
   have u:¬ (k:Int)<5:=by omega
   have a:=Dn f;go_wp2_with ((with_reducible (refine As ?_));first
    | (refine wpList_load_row rfl 236 _ rfl (w.heap.size) rfl 236 _ (0,0) _ o underlying236 rfl a ?_)
    | (refine wpList_store_row rfl 236 _ _ rfl (w.heap.size+1+1) _ rfl rfl 236 _ z a (by rw[Al,Al,f];rfl) (BH r) ?_))
   have b:Adds l m r 5:=by have:=HK.out;subst this;exact j
   refine bodyPost_ret (v:=.agg (Ak r)) (results_cell_row rfl _ _ (w.heap.size+1+1) 236 _ (0,0) _ rfl (setRow_heap wr (w.heap.size+1+1) _ _ 236 _ z) underlying236 rfl a) rfl ⟨r,rfl,(b.sc n d).1,(b.sc n d).2,Bm A (by omega) _⟩
theorem Xy(n m:List Int)(w:World)(u:Lim 134217728 n)(s:Lim 67108864 m) :
  Calls prog 180 #[.agg (Ak n),.agg (Ak m)] w λe w'=>∃ r,e=.returned (.agg (Ak r))/\Lim 67108864 r/\val r%pp=(val n*val m)%pp/\Bw w w':=by
 have G:=Dn u.1;have F:=Dn s.1;go_enter func180,ntmps180
 go_wp2_with ((with_reducible (refine As ?_));(refine wpList_load_row rfl 236 _ rfl (w.heap.size) rfl 236 _ (0,0) _ (Lq w _ _ _ _).1 underlying236 rfl G ?_))
 go_loopw [11] (λi wr=>∃ (k:Nat) (r:List Int),k<=5/\i=.int .i64 k/\Prods n m r k 0/\wr.heap[w.heap.size+1]?=some (.cells (Ak m) 236 (0,0))/\wr.heap[w.heap.size+1+1]?=some (.cells (Ak [0,0,0,0,0]) 236 (0,0))/\wr.heap[w.heap.size+1+1+1]?=some (.cells (Ak r) 236 (0,0))/\Bw w wr) (λi _=>5-(intOf i).toNat)
 case atStart=>exact⟨0,_,by omega,rfl,Prods.zero n m,(Lq w _ _ _ _).2.1,(Lq w _ _ _ _).2.2.1,(Lq w _ _ _ _).2.2.2.1,(Lq w _ _ _ _).2.2.2.2⟩
 case round =>
  obtain⟨k,r,hk,rfl,b,a,o,d,h⟩:=hrel;have q:=b.len;by_cases D:k<5
  .have O:(k:Int)<5:=by omega
   have c:=SY n u.1 k D;obtain⟨x,Q⟩:∃ x,n.getD k 0=x:=⟨_,rfl⟩;rw[Q]at c
   have J:Hid (n.getD k 0=x):=Q;clear Q;go_wp2_with ((with_reducible (refine As ?_));(refine wpList_load_row rfl 236 _ rfl (w.heap.size+1) rfl 236 _ (0,0) _ a underlying236 rfl F ?_))
   go_loopw [16] (λi wr=>∃ (j:Nat) (r:List Int),j<=5/\i=.int .i64 j/\Prods n m r k j/\wr.heap[w.heap.size+1]?=some (.cells (Ak m) 236 (0,0))/\wr.heap[w.heap.size+1+1]?=some (.cells (Ak [0,0,0,0,0]) 236 (0,0))/\wr.heap[w.heap.size+1+1+1]?=some (.cells (Ak r) 236 (0,0))/\Bw w wr) (λi _=>5-(intOf i).toNat)
   case atStart=>exact⟨0,r,by omega,rfl,b,a,o,d,h⟩
   case round =>
    clear c;clear b a o d h q;obtain⟨j,r,hj,rfl,b,a,o,d,h⟩:=hrel;have q:=b.len;by_cases C:j<5
    .have N:(j:Int)<5:=by omega
     have c:=SY m s.1 j C;have f:=Ik (u.2 k) (s.2 j);rw[J.out]at f
     by_cases hs:k+j<5
     .have hsi:(k:Int)+(j:Int)<5:=by omega
      have I:=(cell_of_row _ _ (k+j) _ _ _ d).trans (Av r (k+j) (by omega));have W:=frozen_of_row _ _ (k+j) _ _ d;have g:Hid (Prods n m (r.set (k+j) (r.getD (k+j) 0+x*m.getD j 0)) k (j+1)):=by rw[<- J.out];exact b.tP u s hs
      have K:=b.low (k+j);have L:r.getD (k+j) 0<=1152921504606846976:=by have:=b.high (k+j);omega
      generalize r.getD (k+j) 0=z at I g K L;generalize m.getD j 0=y at c g f;obtain⟨U,V⟩:=f;have Y:IntKind.u64.wrap (x*y)=x*y:=by rw[Nt];omega
      have Z:IntKind.u64.wrap (z+x*y)=z+x*y:=by rw[Nt];omega
      clear b;go_wp2
      go_roundw
      case rel =>
       refine⟨j+1,_,by omega,by go_num,g.out,?_,?_,EU d (k+j) _,?_⟩
       .rw[heap_setCell_other _ _ _ _ (by simp)];exact a
       .rw[heap_setCell_other _ _ _ _ (by simp)];exact o
       .exact h.setCell (p:=⟨w.heap.size+1+1+1,k+j,none⟩) (by simp;omega) _
      case measure=>simp[intOf];omega
     .have hsi:¬ (k:Int)+(j:Int)<5:=by omega
      have I:=(cell_of_row _ _ (k+j-5) _ _ _ d).trans (Av r (k+j-5) (by omega));have W:=frozen_of_row _ _ (k+j-5) _ _ d;have g:Hid (Prods n m (r.set (k+j-5) (r.getD (k+j-5) 0+x*m.getD j 0*5)) k (j+1)):=by rw[<- J.out];exact b.tJ u s (by omega) D C
      have K:=b.low (k+j-5);have L:r.getD (k+j-5) 0<=1152921504606846976:=by have:=b.high (k+j-5);omega
      generalize r.getD (k+j-5) 0=z at I g K L;generalize m.getD j 0=y at c g f;obtain⟨U,V⟩:=f;have Y:IntKind.u64.wrap (x*y)=x*y:=by rw[Nt];omega
      have e3:IntKind.u64.wrap (x*y*5)=x*y*5:=by rw[Nt];omega
      have Z:IntKind.u64.wrap (z+x*y*5)=z+x*y*5:=by rw[Nt];omega
      clear b;obtain⟨t,ht⟩:∃ t:Nat,k+j=t+5:=⟨k+j-5,by omega⟩;have e4:(k:Int)+(j:Int)-5=(t:Int):=by omega
      have P:k+j-5=t:=by omega
      rw[P]at I W g
      go_wp2
      go_roundw
      case rel =>
       refine⟨j+1,_,by omega,by go_num,g.out,?_,?_,EU d t _,?_⟩
       .rw[heap_setCell_other _ _ _ _ (by simp)];exact a
       .rw[heap_setCell_other _ _ _ _ (by simp)];exact o
       .exact h.setCell (p:=⟨w.heap.size+1+1+1,t,none⟩) (by simp;omega) _
      case measure=>simp[intOf];omega
    .have HJ:Hid (j=5):=by unfold Hid;omega
     have N:¬ (j:Int)<5:=by omega
     go_wp2
     go_roundw
     case rel=>exact⟨k+1,r,by omega,by go_num,by have:=HJ.out;subst this;exact b.row s.1,a,o,d,h⟩
     case measure=>simp[intOf];omega
  .have HK:Hid (k=5):=by unfold Hid;omega
   have O:¬ (k:Int)<5:=by omega
   have E:=Dn q;have B:Prods n m r 5 0:=by have:=HK.out;subst this;exact b
   obtain⟨l5,v5⟩:=B.sc u.1;have R:w.heap.size+1+1<wr.heap.size:=(U'.1 o).1;clear b B a;go_wp2_with ((with_reducible (refine As ?_));(refine wpList_load_row rfl 236 _ rfl (w.heap.size+1+1+1) rfl 236 _ (0,0) _ d underlying236 rfl E ?_))
   refine(Ki r wr l5).mono ?_;rintro e X ⟨T,rfl,S,v1,A⟩;have H:=(A.block (w.heap.size+1+1) R).trans o;have M:Bw w X:=h.trans (A.mono h.size);have l:=Dn S.1;go_wp2_with ((with_reducible (refine As ?_));(refine wpList_store_row rfl 236 _ _ rfl (w.heap.size+1+1) _ rfl rfl 236 _ H l (by rw[Al,Al,S.1];rfl) (BH T) ?_))
   refine bodyPost_ret (v:=.agg (Ak T)) (results_cell_row rfl _ _ (w.heap.size+1+1) 236 _ (0,0) _ rfl (setRow_heap X (w.heap.size+1+1) _ _ 236 _ H) underlying236 rfl l) rfl ⟨T,rfl,S,v1.trans v5,Bm M (by omega) _⟩
theorem QS(w:World)(n:List Int)(_hn:n.length=5){A W:World}(e:A=((w.alloc (.cells (Ak n) 236 (0,0))).alloc (.cells (Ak [0,0,0,0,0]) 236 (0,0))).alloc (.cells (Ak [0,0,0,0,0]) 236 (0,0)))(f:A.setRow (w.heap.size+1+1) (Ak n)=W) :
  W.heap[w.heap.size]?=some (.cells (Ak n) 236 (0,0))/\W.heap[w.heap.size+1]?=some (.cells (Ak [0,0,0,0,0]) 236 (0,0))/\W.heap[w.heap.size+1+1]?=some (.cells (Ak n) 236 (0,0))/\Bw w W:=by
 obtain⟨a,b,c,d⟩:=Gq w (.cells (Ak n) 236 (0,0)) (.cells (Ak [0,0,0,0,0]) 236 (0,0)) (.cells (Ak [0,0,0,0,0]) 236 (0,0));rw[<- e]at a b c d
 subst f;refine⟨?_,?_,setRow_heap _ _ _ _ 236 _ c,Bm d (by omega) _⟩
 .rw[setRow_other _ _ _ _ (by omega)];exact a
 .rw[setRow_other _ _ _ _ (by omega)];exact b
theorem Wt(n:List Int)(w:World)(u:Lim 67108864 n) :
  Calls prog 181 #[.agg (Ak n)] w λe w'=>∃ r,e=.returned (.agg (Ak r))/\Lim 67108864 r/\val r=val n%pp/\Bw w w':=by
 have t:=u.1;have c:=Dn t;have T:=u.2 0;have a:(n.set 0 (n.getD 0 0+5)).length=5:=by simpa using t
 have q:Lim 9223372036854775808 (n.set 0 (n.getD 0 0+5)):=by
  refine⟨a,λj=>?_⟩;by_cases e:0=j
  .subst e;rw[AT (by omega)];omega
  .rw[AE e];have:=u.2 j;omega
 have s:=Dn a;have B:Hid (∀ m o,Carr (n.set 0 (n.getD 0 0+5)) m 5 o->Lim 67108864 m/\(0<o->val m=val n%pp)/\(¬ 0<o->val n=val n%pp)):=λm o h=>Tl u h;have g:Hid (∀ W:World,W.heap[w.heap.size+1+1]?=some (.cells (Ak n) 236 (0,0))->(W.setCell ⟨w.heap.size+1+1,0,none⟩ (.int .u64 (n.getD 0 0+5))).heap[w.heap.size+1+1]?=some (.cells (Ak (n.set 0 (n.getD 0 0+5))) 236 (0,0))):=λW h=>EU h 0 _;have E:Hid (∀ W:World,W.heap[w.heap.size+1+1]?=some (.cells (Ak n) 236 (0,0))->W.cell? ⟨w.heap.size+1+1,0,none⟩=some (.int .u64 (n.getD 0 0))):=λW h=>(cell_of_row W _ 0 _ _ _ h).trans (Av n 0 (by omega));generalize n.set 0 (n.getD 0 0+5)=m0 at q B s g a;generalize n.getD 0 0=x at T g E;obtain⟨x1,x2⟩:=T;obtain⟨A,I⟩:∃ A,A=((w.alloc (.cells (Ak n) 236 (0,0))).alloc (.cells (Ak [0,0,0,0,0]) 236 (0,0))).alloc (.cells (Ak [0,0,0,0,0]) 236 (0,0)):=⟨_,rfl⟩;obtain⟨l,i⟩:∃ W,A.setRow (w.heap.size+1+1) (Ak n)=W:=⟨_,rfl⟩;obtain⟨N,O,s3,P⟩:=QS w n t I i;rw[I]at i
 clear I;have L:=E.out l s3;have M:=frozen_of_row l _ 0 _ _ s3;have C:=g.out l s3;have Q:(l.setCell ⟨w.heap.size+1+1,0,none⟩ (.int .u64 (x+5))).heap[w.heap.size]?=some (.cells (Ak n) 236 (0,0)):=by rw[heap_setCell_other _ _ _ _ (by simp;omega)];exact N
 have R:(l.setCell ⟨w.heap.size+1+1,0,none⟩ (.int .u64 (x+5))).heap[w.heap.size+1]?=some (.cells (Ak [0,0,0,0,0]) 236 (0,0)):=by rw[heap_setCell_other _ _ _ _ (by simp)];exact O
 have J:Bw w (l.setCell ⟨w.heap.size+1+1,0,none⟩ (.int .u64 (x+5))):=P.setCell (p:=⟨w.heap.size+1+1,0,none⟩) (by simp;omega) _;have V:w.heap.size+1+1<(l.setCell ⟨w.heap.size+1+1,0,none⟩ (.int .u64 (x+5))).heap.size:=(U'.1 C).1;have F:Hid _:=i;clear i N O s3 P g E;go_enter func181,ntmps181
 go_wp2_with ((with_reducible (refine As ?_));first
  | (refine wpList_load_row rfl 236 _ rfl (w.heap.size) rfl 236 _ (0,0) _ (heap_alloc2_old _ _ _) underlying236 rfl c ?_)
  | (refine wpList_store_row rfl 236 _ _ rfl (w.heap.size+1+1) _ rfl rfl 236 (Ak [0,0,0,0,0]) (Gq w _ _ _).2.2.1 c (by rw[Al,Al,t];rfl) (BH n) ?_;refine(congrArg (wpList _ _ _ _ _) F.out).mpr ?_)
  | (refine wpList_load_row rfl 236 _ rfl (w.heap.size+1+1) rfl 236 _ (0,0) _ C underlying236 rfl s ?_))
 refine(Rh m0 _ q).mono ?_;rintro e z ⟨f,o,rfl,k,d⟩;obtain⟨y,G,H⟩:=B.out f o k;have o1:=k.lo;generalize l.setCell _ _=W2 at d Q R C J V;have X:=(d.block w.heap.size (by omega)).trans Q;have Y:=(d.block (w.heap.size+1) (by omega)).trans R;have K:=(d.block (w.heap.size+1+1) (by omega)).trans C;have Z:Bw w z:=J.trans (d.mono J.size);have v1:(z.setRow (w.heap.size+1+1) (Ak f)).heap[w.heap.size]?=some (.cells (Ak n) 236 (0,0)):=(setRow_other _ _ _ _ (by omega)).trans X;have D:(z.setRow (w.heap.size+1+1) (Ak f)).heap[w.heap.size+1]?=some (.cells (Ak [0,0,0,0,0]) 236 (0,0)):=(setRow_other _ _ _ _ (by omega)).trans Y;have v3:=setRow_heap z (w.heap.size+1+1) _ (Ak f) 236 _ K;have S:Bw w (z.setRow (w.heap.size+1+1) (Ak f)):=Bm Z (by omega) _;have b:=Dn y.1;by_cases U:0<o
 .have g1':=G U;clear G H k B L M F;go_wp2_with ((with_reducible (refine As ?_));first
   | (refine wpList_store_row rfl 236 _ _ rfl (w.heap.size+1+1) _ rfl rfl 236 _ K b (by rw[Al,Al,y.1,a]) (BH f) ?_)
   | (refine wpList_load_row rfl 236 _ rfl (w.heap.size+1+1) rfl 236 _ (0,0) _ v3 underlying236 rfl b ?_)
   | (refine wpList_store_row rfl 236 _ _ rfl (w.heap.size+1) _ rfl rfl 236 _ D b (by rw[Al,Al,y.1];rfl) (BH f) ?_))
  exact bodyPost_ret (v:=.agg (Ak f)) (results_cell_row rfl _ _ (w.heap.size+1) 236 _ (0,0) _ rfl (setRow_heap _ (w.heap.size+1) _ _ 236 _ D) underlying236 rfl b) rfl ⟨f,rfl,y,g1',Bm S (by omega) _⟩
 .have g2':=H (by omega);clear G H k B L M F;go_wp2_with ((with_reducible (refine As ?_));first
   | (refine wpList_store_row rfl 236 _ _ rfl (w.heap.size+1+1) _ rfl rfl 236 _ K b (by rw[Al,Al,y.1,a]) (BH f) ?_)
   | (refine wpList_load_row rfl 236 _ rfl (w.heap.size) rfl 236 _ (0,0) _ v1 underlying236 rfl c ?_)
   | (refine wpList_store_row rfl 236 _ _ rfl (w.heap.size+1) _ rfl rfl 236 _ D c (by rw[Al,Al,t];rfl) (BH n) ?_))
  exact bodyPost_ret (v:=.agg (Ak n)) (results_cell_row rfl _ _ (w.heap.size+1) 236 _ (0,0) _ rfl (setRow_heap _ (w.heap.size+1) _ _ 236 _ D) underlying236 rfl c) rfl ⟨n,rfl,u,g2',Bm S (by omega) _⟩
theorem WM(k q a:Nat)(h:a+26*q=8*k)(c:a<26):(0:Int)<=2^a/\(2:Int)^a<=33554432/\(2:Int)^a*67108864^q=256^k:=by
 refine⟨qP (Int.pow_pos (by omega)),?_,?_⟩
 .have h1:(2:Nat)^a<=2^25:=Nat.pow_le_pow_right (by omega) (by omega);have b:(((2:Nat)^a:Nat):Int)<=((2^25:Nat):Int):=Int.ofNat_le.2 h1;rw[pV]at b
  exact b
 .rw[show(67108864:Int)=2^26 from rfl,show(256:Int)=2^8 from rfl,<- Int.pow_mul,<- Int.pow_mul,<- qf,h]
theorem R1(v:Value)(b:List Int)(w:World)(h:Sl w v b)(hl:b.length<=17) :
  Calls prog 182 #[v] w λe w'=>∃ r,e=.returned (.agg (Ak r))/\Lim 67108864 r/\val r%pp=leN b%pp/\Bw w w':=by
 obtain⟨⟨a,a0,rfl,hc,hn,L⟩,W,C⟩:=h;have f:∃ B c,(b≠[]->a=some ⟨B,c,none⟩)/\(b≠[]->B<w.heap.size)/\∀ i,i<b.length->w.cell? ⟨B,c+i,none⟩=some (.int .u8 (b.getD i 0)):=by
  rcases L with rfl|⟨B,c,rfl,s,f⟩
  .exact⟨0,0,λh=>absurd rfl h,λh=>absurd rfl h,λi hi=>by simp at hi⟩
  .exact⟨B,c,λ_=>rfl,λ_=>s,f⟩
 clear L;obtain⟨B,c,ha,hB,u⟩:=f;have HC:Hid (∀ i,i<b.length->w.cell? ⟨B,c+i,none⟩=some (.int .u8 (b.getD i 0))):=u;have HA:Hid (b≠[]->a=some ⟨B,c,none⟩):=ha;have HB:Hid (b≠[]->B<w.heap.size):=hB;have N:Hid (∀ x∈b,0<=x/\x<256):=C;obtain⟨n,K⟩:∃ n,Hid (b.length=n):=⟨_,rfl⟩;rw[K.out]at hl hc W ⊢
 clear u ha hB C hn;go_enter func182,ntmps182
 go_wp2_with fail
 go_loopw [8] (λi wr=>∃ (k:Nat) (r:List Int),k<=n/\i=.int .i64 k/\Reads b r k/\wr.heap[w.heap.size]?=some (.cells (Ak [0,0,0,0,0]) 236 (0,0))/\wr.heap[w.heap.size+1]?=some (.cells (Ak r) 236 (0,0))/\Bw w wr) (λi _=>n-(intOf i).toNat)
 case atStart=>exact⟨0,_,by omega,rfl,Reads.zero b,heap_alloc2_old _ _ _,heap_alloc2_new _ _ _,((Below.refl _ _).alloc (A' _) _).alloc (by simp) _⟩
 case round =>
  obtain⟨k,r,hk,rfl,g,X,M,s⟩:=hrel;have G:=g.len;by_cases V:k<n
  .have U:(k:Int)<(n:Int):=by omega
   have E:b≠[]:=by intro e;have:=K.out;rw[e]at this;simp at this;omega
   have hA:=HA.out E;subst hA;have T:=HB.out E;have ck:=(s.cell (p:=⟨B,c+k,none⟩) T).trans (HC.out k (by rw[K.out];exact V));have l:=Am N.out k;have O:Hid (∀ (q:Nat) (m:Int),q<5->0<=m/\m<=33554432->m*67108864^q=256^k->Reads b (r.set q (r.getD q 0+b.getD k 0*m)) (k+1)):=λq m L Q R=>g.succ l q m L Q R;have HR:Hid (∀ t,0<=r.getD t 0/\r.getD t 0<=300000000000):=λt=>⟨g.low t,by have:=g.high t;omega⟩;have J:Hid (∀ t,t<5->wr.cell? ⟨w.heap.size+1,t,none⟩=some (.int .u64 (r.getD t 0))):=λt ht=>(cell_of_row _ _ t _ _ _ M).trans (Av r t (by omega));have HF:Hid (∀ t,wr.frozen? ⟨w.heap.size+1,t,none⟩=false):=λt=>frozen_of_row _ _ t _ _ M;have P:Hid (∀ t x,(wr.setCell ⟨w.heap.size+1,t,none⟩ (.int .u64 x)).heap[w.heap.size+1]?=some (.cells (Ak (r.set t x)) 236 (0,0))):=λt x=>EU M t x;generalize b.getD k 0=x at ck O l;obtain⟨x1,x2⟩:=l;clear g;obtain⟨q,hq⟩:∃ q,8*k/26=q:=⟨_,rfl⟩;have F:q<5:=by omega
   have cq:=J.out q F;have fq:=HF.out q;have rq:=HR.out q;have z:Hid (∀ (m:Int),0<=m/\m<=33554432->m*67108864^q=256^k->Reads b (r.set q (r.getD q 0+x*m)) (k+1)):=λm Q R=>O.out q m F Q R;generalize r.getD q 0=y at cq rq z;obtain⟨y1,y2⟩:=rq;obtain⟨d,a1⟩:∃ d,8*k%26=d:=⟨_,rfl⟩;have o:d<26:=by omega
   have i1:(8*(k:Int))/26=(q:Int):=by omega
   have i2:(8*(k:Int))%26=(d:Int):=by omega
   have i3:Int.tdiv (8*(k:Int)) 26=(q:Int):=by rw[rG (by omega)];exact i1
   have i4:Int.tmod (8*(k:Int)) 26=(d:Int):=by rw[Int.tmod_eq_emod_of_nonneg (by omega)];exact i2
   have HP:Hid ((0:Int)<=2^d/\(2:Int)^d<=33554432/\(2:Int)^d*67108864^q=256^k):=WM k q d (by omega) o;clear hq J HF HR O;go_wp2_with fail
   refine Aw 13 (by kernel_rfl) (by kernel_rfl) ?_;simp only[oI,oP,oT,pE]
   repeat (go_big_quiet_step (fail))
   refine wpQuiet_nil ?_;go_wp2
   obtain⟨p1,p2,p3⟩:=HP.out;have q1:0<=x*2^d:=ss x1 p1;have q2:x*2^d<=256*33554432:=sw (by omega) p2 p1 (by omega);rw[show IntKind.u64.wrap (x*2^d)=x*2^d by rw[Nt];omega,show IntKind.u64.wrap (y+x*2^d)=y+x*2^d by rw[Nt];omega];go_roundw
   case rel =>
    refine⟨k+1,_,by omega,by go_num,z.out (2^d) ⟨p1,p2⟩ p3,?_,P.out q _,?_⟩
    .exact(heap_setCell_other _ _ _ _ (by simp)).trans X
    .exact(s.setCell (p:=⟨w.heap.size+1,q,none⟩) (by simp) _).drew
   case measure=>simp[intOf];omega
  .have J:Hid (k=n):=by unfold Hid;omega
   have U:¬ (k:Int)<(n:Int):=by omega
   have H:=Dn G;have D:Lim 1152921504606846976 r:=⟨G,λt=>⟨g.low t,by have:=g.high t;omega⟩⟩;have HV:Hid (val r=leN b):=by
    unfold Hid;rw[g.sum,J.out,<- K.out];rfl
   have Y:w.heap.size<wr.heap.size:=(U'.1 X).1;clear g;go_wp2_with ((with_reducible (refine As ?_));(refine wpList_load_row rfl 236 _ rfl (w.heap.size+1) rfl 236 _ (0,0) _ M underlying236 rfl H ?_))
   refine(Ki r wr D).mono ?_;rintro e w1 ⟨r1,rfl,Z,v1,A⟩;have I:=(A.block w.heap.size Y).trans X;have S:Bw w w1:=s.trans (A.mono s.size);have j:=Dn Z.1;go_wp2_with ((with_reducible (refine As ?_));(refine wpList_store_row rfl 236 _ _ rfl (w.heap.size) _ rfl rfl 236 _ I j (by rw[Al,Al,Z.1];rfl) (BH r1) ?_))
   exact bodyPost_ret (v:=.agg (Ak r1)) (results_cell_row rfl _ _ (w.heap.size) 236 _ (0,0) _ rfl (setRow_heap w1 (w.heap.size) _ _ 236 _ I) underlying236 rfl j) rfl ⟨r1,rfl,Z,by rw[v1,HV.out],Bm S (A' _) _⟩
def byA(l:List Int):Array Value:=(l.map (Value.int .u8)).toArray
theorem cS(l:List Int)(i:Nat)(x:Int):(byA l).setIfInBounds i (.int .u8 x)=byA (l.set i x):=by
 apply rP;simp[byA,List.map_set]
theorem GZ(h:w.heap[g]?=some (.cells (byA l) t (0,0)))(k:Nat)(x:Int) :
  (w.setCell ⟨g,k,none⟩ (.int .u8 x)).heap[g]?=some (.cells (byA (l.set k x)) t (0,0)):=by
 rw[heap_setCell_same _ _ _ _ _ _ h,cS]
theorem I0(l:List Int)(i:Nat)(h:i<l.length):(byA l)[i]?=some (.int .u8 (l.getD i 0)):=by
 simp[byA,List.getD,List.getElem?_eq_getElem h]
theorem YU:(prog.info? 5).map (·.size)=some 1:=by kernel_rfl
theorem Jj(l:List Int)(n:Nat):splice ((List.replicate n (0:Int)).map (Value.int .u8)) 0 (l.map (Value.int .u8))=(l++List.replicate (n-l.length) 0).map (Value.int .u8):=by
 have e:(List.replicate n (0:Int)).map (Value.int .u8)=List.replicate n (Value.int .u8 0):=qo;rw[e];simp only[splice,oP,oQ,nK,nV,List.drop_replicate,nL,qo]
theorem Sl.src{i:Option Addr}{c:Nat}(h:Sl w (.slice i n c) l)(q:0<l.length):∃ ad,i=some ad/\∀ (j:Nat) (v:Value),(l.map (Value.int .u8))[j]?=some v->w.cell? (ad.add j)=some v:=by
 obtain⟨⟨a,k,e,r,s,m⟩,p,o⟩:=h;simp only[Value.slice.injEq]at e;obtain⟨rfl,rfl,rfl⟩:=e;rcases m with rfl|⟨b,off,rfl,_,hcell⟩
 .simp at q
 .refine⟨_,rfl,λj v g=>?_⟩;have d:j<l.length:=by
   have:=(V'.1 g).1;simpa using this
  have f:(⟨b,off,none⟩:Addr).add j=⟨b,off+j,none⟩:=by unfold Addr.add;split<;>simp_all
  rw[f,hcell j d];simp[List.getElem?_eq_getElem d]at g
  rw[AQ d,g]
theorem Sl.uG(h:w.heap[g]?=some (.cells (byA l) t fr))(c:l.length<=140737488351232)(a:∀ x∈l,0<=x/\x<256):Sl w (.slice (some ⟨g,0,none⟩) l.length l.length) l:=by
 refine⟨⟨_,l.length,rfl,by simp,by simp,.inr ⟨g,0,rfl,(U'.1 h).1,λi b=>?_⟩⟩,c,a⟩;rw[cell_of_row _ _ (0+i) _ _ _ h,nV,I0 l i b]
theorem Sl.rowOf(h:w.heap[g]?=some (.cells (byA l) t fr))(c:l.length=n)(b:l.length<=140737488351232)(a:∀ x∈l,0<=x/\x<256):Sl w (.slice (some ⟨g,0,none⟩) n n) l:=by
 subst c;exact Sl.uG h b a
theorem Zw(l:List Int)(h:l.length<=16):(l++List.replicate (17-l.length) 0).set l.length 1=l++[1]++List.replicate (16-l.length) 0:=by
 rw[pC _ _ (A' _),show 17-l.length=16-l.length+1 by omega,List.replicate_succ];simp
theorem Zv(l:List Int)(n:Nat):leN (l++[1]++List.replicate n 0)=leN (l++[1]):=by
 rw[Ti,Wr];omega
theorem Ro(v:Value)(l:List Int)(w:World)(h:Sl w v l)(N:l.length<=16) :
  Calls prog 179 #[v] w λe w'=>∃ r,e=.returned (.agg (Ak r))/\Lim 67108864 r/\val r%pp=leN (l++[1])%pp/\Bw w w':=by
 have H:=h;obtain⟨⟨a,J,rfl,T,P,M⟩,O,q⟩:=h;have u:Hid (∀ x∈l,0<=x/\x<256):=q;have E:=Zw l N;have k:=Zv l (16-l.length);clear M q P;go_enter func179,ntmps179
 go_wp2_with (refine wpList_copy_splice rfl _ _ 26 26 rfl 5 underlying26 YU _ _ _ _ _ _ rfl rfl (w.heap.size+1) 0 ((List.replicate 17 (0:Int)).map (Value.int .u8)) 283 (heap_alloc2_new _ _ _) (l.map (Value.int .u8)) (by rw[nK];exact(oJ (show l.length<=17 by omega)).symm) (λQ=>⟨rfl,(H.af (((Below.refl _ _).alloc (A' _) _).alloc (by simp) _)).src (by simpa using Q)⟩) (by rw[nK,nK,oW];omega) (Fs _) (w.heap.size+1) _ (Below.refl _ _) (A' _) ?_)
 intro f D g;have c:f.heap[w.heap.size+1]?=some (.cells (byA (l++List.replicate (17-l.length) 0)) 283 (0,0)):=by
  have F:f.heap[w.heap.size+1]?=some (.cells (splice ((List.replicate 17 (0:Int)).map (Value.int .u8)) 0 (l.map (Value.int .u8))).toArray 283 (0,0)):=D.out;rw[Jj]at F
  exact F
 have y:Bw w f:=(((Below.refl _ _).alloc (A' _) _).alloc (by simp) _).trans (g.mono (by omega));have A:f.heap[w.heap.size]?=some (.cells (Ak [0,0,0,0,0]) 236 (0,0)):=by
  rw[g.block _ (by omega)];exact heap_alloc2_old _ _ _
 clear D g;have G:(l++List.replicate (17-l.length) (0:Int)).length=17:=by simp;omega
 have K:=(cell_of_row _ _ l.length _ _ _ c).trans (I0 _ l.length (by omega));have fl:=frozen_of_row _ _ l.length _ _ c;have i:=GZ c l.length 1;rw[E]at i
 have s:(f.setCell ⟨w.heap.size+1,l.length,none⟩ (.int .u8 1)).heap[w.heap.size]?=some (.cells (Ak [0,0,0,0,0]) 236 (0,0)):=(heap_setCell_other _ _ _ _ (by simp)).trans A;have n:Bw w (f.setCell ⟨w.heap.size+1,l.length,none⟩ (.int .u8 1)):=y.setCell (p:=⟨w.heap.size+1,l.length,none⟩) (by simp) _;have B:w.heap.size<(f.setCell ⟨w.heap.size+1,l.length,none⟩ (.int .u8 1)).heap.size:=(U'.1 s).1;have s3:Sl (f.setCell ⟨w.heap.size+1,l.length,none⟩ (.int .u8 1)) (.slice (some ⟨w.heap.size+1,0,none⟩) 17 17) (l++[1]++List.replicate (16-l.length) 0):=by
  refine Sl.rowOf i (by simp;omega) (by simp;omega) ?_;intro x R;rcases O'.1 R with h|h
  .rcases O'.1 h with h|h
   .exact u.out x h
   .simp at h;omega
  .rw[(ql.1 h).2];omega
 have b:(l++[1]++List.replicate (16-l.length) (0:Int)).length<=17:=by simp;omega
 have m:Hid _:=s3;have j:Hid (leN (l++[1]++List.replicate (16-l.length) 0)=leN (l++[1])):=k;clear i c E k s3 H;generalize l++[1]++List.replicate (16-l.length) 0=L at m b j;generalize (l++List.replicate (17-l.length) (0:Int)).getD l.length 0=c0 at K;go_wp2_with fail
 refine(R1 _ L _ m.out b).mono ?_;rintro e I ⟨r,rfl,C,S,o⟩;have t:=(o.block w.heap.size B).trans s;have z:Bw w I:=n.trans (o.mono n.size);have d:=Dn C.1;go_wp2_with ((with_reducible (refine As ?_));(refine wpList_store_row rfl 236 _ _ rfl (w.heap.size) _ rfl rfl 236 _ t d (by rw[Al,Al,C.1];rfl) (BH r) ?_))
 exact bodyPost_ret (v:=.agg (Ak r)) (results_cell_row rfl _ _ (w.heap.size) 236 _ (0,0) _ rfl (setRow_heap I (w.heap.size) _ _ 236 _ t) underlying236 rfl d) rfl ⟨r,rfl,C,by rw[S,j.out],Bm z (A' _) _⟩
def kW:Value->Nat
 | .slice _ n _=>n
 | _=>0
theorem j9{a:Array Value}(t:List Int)(c:w.heap[g]?=some (.cells a 236 (0,0)))(d:a.size=5)(e:t.length=5):(storeCells ⟨g,0,none⟩ (Ak t).toList).run prog w=.ok () (w.setRow g (Ak t)):=by
 have:=run_storeCells_from (P:=prog) g 236 (Ak t).toList 0 a w c (by simp[Al];omega) (λv b=>by simp[Ak]at b;obtain⟨x,_,rfl⟩:=b;rfl);rw[this];simp[Ak]
theorem NO{d:Nat}{K:Act->World->Prop}(R:List Int->List Int->List Int->World->Prop){A:List Int->List Int->List Int->Act}(c:∀ K':Act->World->Prop,Hid (∀ x y z W2,R x y z W2->K' (A x y z) W2)->(Code.region d ops true).wp P (Exit.then K' Q) a w)(b:∀ x y z W2,R x y z W2->K (A x y z) W2):(Code.region d ops true).wp P (Exit.then K Q) a w:=c K b
theorem Py(rl:List Int)(R:Int)(v:Value)(l:List Int)(w:World)(h:Sl w v l)(hl:l.length<=4000)(hr:Lim 67108864 rl)(hR:val rl%pp=R%pp) :
  Calls prog 151 #[.agg (Ak rl),v] w λe w'=>∃ r,e=.returned (.agg (Ak r))/\Lim 67108864 r/\val r=gT R l/\Bw w w':=by
 obtain⟨a0,c0,rfl⟩:∃ a c,v=.slice a l.length c:=by
  obtain⟨⟨a,c,e,_⟩,_⟩:=h;exact⟨a,c,e⟩
 have HR:Hid (val rl%pp=R%pp):=hR;clear hR;go_enter func151,ntmps151
 go_wp2_with fail
 go_loopw [1] (λY wr=>∃ (k:Nat) (P:List Int) (a:Option Addr) (c:Nat),16*k<=l.length+15/\Y=.slice a (l.length-16*k) c/\Sl w Y (l.drop (16*k))/\Lim 67108864 P/\val P%pp=KC R l k%pp/\wr.heap[w.heap.size]?=some (.cells (Ak rl) 236 (0,0))/\wr.heap[w.heap.size+1]?=some (.cells (Ak [0,0,0,0,0]) 236 (0,0))/\wr.heap[w.heap.size+1+1]?=some (.cells (Ak P) 236 (0,0))/\Bw w wr) (λY _=>kW Y)
 case atStart =>
  obtain⟨S,s2,s3,s4⟩:=Gq w (.cells (Ak rl) 236 (0,0)) (.cells (Ak [0,0,0,0,0]) 236 (0,0)) (.cells (Ak [0,0,0,0,0]) 236 (0,0));exact⟨0,[0,0,0,0,0],a0,c0,by omega,rfl,h,Lim.uF (by omega) (by omega) (by omega) (by omega) (by omega),rfl,S,s2,s3,s4⟩
 case round =>
  clear h;obtain⟨k,P,a,c,hk,rfl,hs,x,z,m,hz,y,Z⟩:=hrel;by_cases b8:16*k<l.length
  .obtain⟨n,hne⟩:∃ n,l.length-16*k=n:=⟨_,rfl⟩;have a3:Hid (l.length-16*k=n):=hne;have c6:0<n:=by omega
   have c4:(0:Int)<(n:Int):=by omega
   rw[hne]at hs ⊢
   have b9:(l.drop (16*k)).length=n:=by rw[nu];exact hne
   obtain⟨n0,n1,n2,n3,n4,rfl,_⟩:=x.split;obtain⟨r0,Q,r2,r3,r4,rfl,_⟩:=hr.split;have E:=(cell_of_row _ _ 0 _ _ _ y).trans (Av _ 0 (by simp));have F:=(cell_of_row _ _ 1 _ _ _ y).trans (Av _ 1 (by simp));have G:=(cell_of_row _ _ 2 _ _ _ y).trans (Av _ 2 (by simp));have H:=(cell_of_row _ _ 3 _ _ _ y).trans (Av _ 3 (by simp));have I:=(cell_of_row _ _ 4 _ _ _ y).trans (Av _ 4 (by simp));have J:=(cell_of_row _ _ 0 _ _ _ m).trans (Av _ 0 (by simp));have K:=(cell_of_row _ _ 1 _ _ _ m).trans (Av _ 1 (by simp));have L:=(cell_of_row _ _ 2 _ _ _ m).trans (Av _ 2 (by simp));have M:=(cell_of_row _ _ 3 _ _ _ m).trans (Av _ 3 (by simp));have N:=(cell_of_row _ _ 4 _ _ _ m).trans (Av _ 4 (by simp));simp only[nJ,nZ]at E F G H I J K L M N;have i:w.heap.size+1+1<wr.heap.size:=(U'.1 y).1;have j:w.heap.size<wr.heap.size:=by omega
   have HN:Hid _:=y;have a4:Hid _:=m;have HZ:Hid _:=hz;have HB:Hid _:=Z;have a6:Hid (val [n0,n1,n2,n3,n4]%pp=KC R l k%pp):=z;clear y m hz Z z hne;obtain⟨o,c3,B,f⟩:∃ o:Nat,(if(n:Int)<16 then(n:Int)else 16)=(o:Int)/\o<=n/\((o=16)\/(o=n/\n<16)):=by
    by_cases u:(n:Int)<16
    .exact⟨n,by rw[if_pos u],by omega,.inr ⟨rfl,by omega⟩⟩
    .exact⟨16,by rw[if_neg u];rfl,by omega,.inl rfl⟩
   obtain⟨a1,c1,a8,st⟩:=hs.qv o (by omega);obtain⟨a2,c2,c5,sd⟩:=hs.from o (by omega);have U:((l.drop (16*k)).take o).length<=16:=by rw[j'];omega
   have HP:Hid ((l.drop (16*k)).take o=piece l k):=by
    unfold Hid piece;rcases f with rfl|⟨rfl,u⟩
    .rfl
    .rw[nw (by omega),nw (by omega)]
   have HD:Hid ((l.drop (16*k)).drop o=l.drop (16*(k+1))/\n-o=l.length-16*(k+1)):=by
    unfold Hid;have:=a3.out;rw[pS];rcases f with rfl|⟨rfl,u⟩
    .exact⟨by congr 1,by omega⟩
    .refine⟨?_,by omega⟩;rw[oA (by omega),oA (by omega)]
   have a5:Hid (1<=o):=by unfold Hid;omega
   clear f;go_wp2_with fail
   apply NO (λm1 S A W=>Lim 67108864 A/\val A%pp=KC R l (k+1)%pp/\W.heap[w.heap.size]?=some (.cells (Ak [r0,Q,r2,r3,r4]) 236 (0,0))/\W.heap[w.heap.size+1]?=some (.cells (Ak [0,0,0,0,0]) 236 (0,0))/\W.heap[w.heap.size+1+1]?=some (.cells (Ak A) 236 (0,0))/\Bw w W)
   .intro K2 HK2
    go_region_with (first
     | (go_at_call 179;refine(Ro _ _ _ (st.af HB.out.drew) U).mono ?_;rintro e w2 ⟨m1,rfl,b0,X,b⟩;have s:w.heap.size+1+1<w2.heap.size:=X' i b.size;have g:w.heap.size<w2.heap.size:=X' j b.size;have c9:=(b.cell (p:=⟨w.heap.size+1+1,0,none⟩) i).trans E;have d0:=(b.cell (p:=⟨w.heap.size+1+1,1,none⟩) i).trans F;have d3:=(b.cell (p:=⟨w.heap.size+1+1,2,none⟩) i).trans G;have d4:=(b.cell (p:=⟨w.heap.size+1+1,3,none⟩) i).trans H;have d5:=(b.cell (p:=⟨w.heap.size+1+1,4,none⟩) i).trans I;have b1:=(b.cell (p:=⟨w.heap.size,0,none⟩) j).trans J;have b2:=(b.cell (p:=⟨w.heap.size,1,none⟩) j).trans K;have b3:=(b.cell (p:=⟨w.heap.size,2,none⟩) j).trans L;have b4:=(b.cell (p:=⟨w.heap.size,3,none⟩) j).trans M;have b5:=(b.cell (p:=⟨w.heap.size,4,none⟩) j).trans N)
     | (go_at_call 178;refine(al [n0,n1,n2,n3,n4] m1 _ x b0).mono ?_;rintro e w3 ⟨S,rfl,b6,b7,d⟩;have C:w.heap.size+1+1<w3.heap.size:=X' s d.size;have d6:=(d.cell (p:=⟨w.heap.size,0,none⟩) g).trans b1;have d7:=(d.cell (p:=⟨w.heap.size,1,none⟩) g).trans b2;have d8:=(d.cell (p:=⟨w.heap.size,2,none⟩) g).trans b3;have d9:=(d.cell (p:=⟨w.heap.size,3,none⟩) g).trans b4;have e0:=(d.cell (p:=⟨w.heap.size,4,none⟩) g).trans b5)
     | (go_at_call 180;refine(Xy S [r0,Q,r2,r3,r4] _ b6 hr).mono ?_;rintro e w4 ⟨A,rfl,t,O,q⟩;have c8:=j9 A ((q.block _ C).trans ((d.block _ s).trans ((b.block _ i).trans HN.out))) rfl t.1;have c7:(Ak A).size=5:=by rw[Al];exact t.1))
    all_goals
     refine HK2.out m1 S A _ ⟨t,?_,?_,?_,?_,?_⟩
     .rw[HP.out]at X
      exact X8 a6.out X b7 HR.out O
     .exact(setRow_other _ _ _ _ (by omega)).trans ((q.block _ (by omega)).trans ((d.block _ (by omega)).trans ((b.block _ j).trans a4.out)))
     .exact(setRow_other _ _ _ _ (by omega)).trans ((q.block _ (by omega)).trans ((d.block _ (by omega)).trans ((b.block _ (Nat.lt_of_succ_lt i)).trans HZ.out)))
     .exact setRow_heap _ _ _ _ 236 _ ((q.block _ C).trans ((d.block _ s).trans ((b.block _ i).trans HN.out)))
     .exact Bm (((HB.out.drew.trans (b.mono (pN j))).trans (d.mono (pN g))).trans (q.mono (by omega))) (by omega) _
   intro m1 S A W hW;obtain⟨t,O,q1,q2,q3,q4⟩:=hW;clear E F G H I J K L M N st a8 U;go_wp2
   go_roundw
   case rel =>
    obtain⟨d1,d2⟩:=HD.out;rw[d1]at sd
    exact⟨k+1,A,a2,c2,by omega,by rw[d2],sd,t,O,q1,q2,q3,q4⟩
   case measure=>have:=a5.out;simp[kW];omega
  .have HK:Hid (k=PD l):=by unfold Hid PD;omega
   have D:l.length-16*k=0:=by omega
   rw[D];have B:=Dn x.1;have a9:w.heap.size+1<wr.heap.size:=(U'.1 hz).1;have HV:Hid (val P%pp=KC R l k%pp):=z;clear z hs;go_wp2_with ((with_reducible (refine As ?_));(refine wpList_load_row rfl 236 _ rfl (w.heap.size+1+1) rfl 236 _ (0,0) _ y underlying236 rfl B ?_))
   refine(Wt P wr x).mono ?_;rintro e w1 ⟨Q,rfl,l1,v1,T⟩;have V:=(T.block (w.heap.size+1) a9).trans hz;have a7:Bw w w1:=Z.trans (T.mono Z.size);have f:=Dn l1.1;go_wp2_with ((with_reducible (refine As ?_));(refine wpList_store_row rfl 236 _ _ rfl (w.heap.size+1) _ rfl rfl 236 _ V f (by rw[Al,Al,l1.1];rfl) (BH Q) ?_))
   refine bodyPost_ret (v:=.agg (Ak Q)) (results_cell_row rfl _ _ (w.heap.size+1) 236 _ (0,0) _ rfl (setRow_heap w1 (w.heap.size+1) _ _ 236 _ V) underlying236 rfl f) rfl ⟨Q,rfl,l1,?_,Bm a7 (by omega) _⟩;have hK:=HK.out;subst hK;rw[v1,HV.out];have:=RZ R l (PD l);exact Int.emod_eq_of_lt this.1 this.2
end
end
section
structure Lac where
 k:Int
 n:Int
 a:Int
 p:Int
 d:List Int
def Gn(k:Int):Bool:=decide (k=1\/k=2\/k=3\/k=9\/k=8)
def It(k:Int):Bool:=decide (4<=k/\k<=6)
def Iu(k:Int):Bool:=decide (k=8)
def dX(x:Lac):Int :=
 if ¬ (1<=x.k/\x.k<=9)then 4
 else if(Gn x.k=true/\¬ (0<=x.n/\x.n<=4))\/(It x.k=true/\¬ (0<=x.a/\x.a<=1048576))\/(Iu x.k=true/\¬ (0<=x.p/\x.p<=100000))then 2
 else if 2000<x.d.length then 1
 else if(Gn x.k=false/\x.n≠0)\/(It x.k=false/\x.a≠0)\/(Iu x.k=false/\x.p≠0)\/(x.k≠1/\x.d≠[])then 3
 else 0
structure LacOk(x:Lac):Prop where
 k:1<=x.k/\x.k<=9
 n:Gn x.k=true->0<=x.n/\x.n<=4
 a:It x.k=true->0<=x.a/\x.a<=1048576
 p:Iu x.k=true->0<=x.p/\x.p<=100000
 d:x.d.length<=2000
 n0:Gn x.k=false->x.n=0
 a0:It x.k=false->x.a=0
 p0:Iu x.k=false->x.p=0
 d0:x.k≠1->x.d=[]
theorem DR{x:Lac}:dX x=0↔LacOk x:=by
 unfold dX;constructor
 .intro h;by_cases c:1<=x.k/\x.k<=9
  .rw[if_neg (λe=>e c)]at h
   by_cases b:(Gn x.k=true/\¬ (0<=x.n/\x.n<=4))\/(It x.k=true/\¬ (0<=x.a/\x.a<=1048576))\/(Iu x.k=true/\¬ (0<=x.p/\x.p<=100000))
   .rw[if_pos b]at h;omega
   .rw[if_neg b]at h
    by_cases g:2000<x.d.length
    .rw[if_pos g]at h;omega
    .rw[if_neg g]at h
     by_cases f:(Gn x.k=false/\x.n≠0)\/(It x.k=false/\x.a≠0)\/(Iu x.k=false/\x.p≠0)\/(x.k≠1/\x.d≠[])
     .rw[if_pos f]at h;omega
     .simp only[not_or,not_and,nk]at b f;exact⟨c,λe=>by have:=b.1 e;omega,λe=>by have:=b.2.1 e;omega,λe=>by have:=b.2.2 e;omega,by omega,f.1,f.2.1,f.2.2.1,f.2.2.2⟩
  .rw[if_pos c]at h;omega
 .intro h;rw[if_neg (λe=>e h.k),if_neg,if_neg (by have:=h.d;omega),if_neg]
  .rintro(⟨c,b⟩|⟨c,b⟩|⟨c,b⟩|⟨c,b⟩)
   .exact b (h.n0 c)
   .exact b (h.a0 c)
   .exact b (h.p0 c)
   .exact b (h.d0 c)
  .rintro(⟨c,b⟩|⟨c,b⟩|⟨c,b⟩)
   .exact b (h.n c)
   .exact b (h.a c)
   .exact b (h.p c)
def V4(k:Int):List Int :=
 if k=1 then[115,117,98,109,105,116]else if k=2 then[108,101,97,100]else if k=3 then[115,116,101,112]else if k=4 then[99,97,114,114,121]else if k=5 then[108,111,115,101]
 else if k=6 then[100,111,117,98,108,101]else if k=7 then[97,108,108]else if k=8 then[99,114,97,115,104]else if k=9 then[115,116,97,114,116]else[]
end
section
open Go.RowKit
section
variable{P:Program}{md:Region.Mode}{ops:Array Oper}{Q:Exit->Act->World->Prop}{S:World->Prop}
section
variable{K:Act->World->Prop}{L:Array Bool}{a:Act}{d fuel i:Nat}{o:Oper}{v:Value}{w:World}
theorem ZP{c:World}(g:ops[i]?=some o)(j:Region.wanted o (yielded ops a.tmps)=true)(f:o.dst=some d)(b:(execOp a.eval o).run P w=.ok (.value v) c)(h:K (a.put (some d) v) c):wpOp P ops Q i K a w :=
 wpOp_step g λk e=>by
  rw[if_pos j];unfold Oper.wp;rw[b,Oper.upon_value];exact e _ _ (by rw[f];exact h)
theorem P9{f:FuncId}{args:Array Value}(k:ops[i]?=some o)(m:Region.wanted o (yielded ops a.tmps)=true)(g:o.dst=some d)(b:(execOp a.eval o).run P w=.ok (.enter f args) w)(h:Calls P f args w λe w'=>∃ v,e=.returned v/\K (a.put (some d) v) w'):wpOp P ops Q i K a w :=
 wpOp_step k λn c=>by
  rw[if_pos m];unfold Oper.wp;rw[b,Oper.upon_enter];refine h.mono λe w' j=>?_;obtain⟨v,rfl,l⟩:=j;exact c _ _ (by rw[g];exact l)
theorem UZ(n:ops[i]?=some o)(p:Region.wanted o (yielded ops a.tmps)=true)(k:o.dst=none)(e:TypeId)(x y:Operand)(d:o.op=.store e x y)(g:Nat)(cells:Array Value)(q:a.eval x=.pointer (some ⟨g,0,none⟩))(r:a.eval y=.agg cells)(t:TypeId)(b:Array Value)(l:w.heap[g]?=some (.cells b t (0,0)))(m:(P.info? e).map (·.size)=some cells.size)(c:b.size=cells.size)(f:cells.all (·.oneCell')=true)(h:K a (w.setRow g cells)):wpOp P ops Q i K a w :=
 wpOp_step n λs j=>by
  rw[if_pos p];exact wp_store_row e x y d g cells q r t b l m c f (j _ _ (by rw[k];exact h))
theorem Er(c:Region.ready md ops L=[i])(h:wpOp P ops Q i (λa' w'=>S w'/\wpAnyH P md ops Q S fuel (L.setIfInBounds i true) a' w') a w):wpAnyH P md ops Q S (fuel+1) L a w :=
 wpAnyH_all c (by simp) (λj b=>by
  obtain rfl:j=i:=by simpa using b
  exact h)
theorem dJ{i':Nat}(d:Region.ready md ops L=[i,i'])(h:wpOp P ops Q i (λa' w'=>S w'/\wpAnyH P md ops Q S fuel (L.setIfInBounds i true) a' w') a w)(b:wpOp P ops Q i' (λa' w'=>S w'/\wpAnyH P md ops Q S fuel (L.setIfInBounds i' true) a' w') a w):wpAnyH P md ops Q S (fuel+1) L a w :=
 wpAnyH_all d (by simp) (λj c=>by
  rcases(show j=i\/j=i' by simpa using c)with rfl|rfl
  .exact h
  .exact b)
theorem Be(d:Nat){f:Oper}{v:Value}{e:Nat}{b:Array Bool}{a:Act}{w:World}(m:ops[i]?=some f)(g:f.dst=some d)(o:Region.noSelect ops=true)(l:Region.free md ops b i=true)(n:(Region.ready md ops b).contains i=true)(j:∀ c a w,Q (.panic c) (a.put (some d) v) w->Q (.panic c) a w)(p:YieldsIf P ops S f v a)(k:S w)(h:wpAnyH P md ops Q S e (b.setIfInBounds i true) (a.put (some d) v) w):wpAnyH P md ops Q S (e+1) b a w :=
 wpAnyH_take m o l n (by rw[g];exact j) p k (by rw[g];exact h)
theorem X6{op:Oper}(j:Region.wanted op (yielded ops a.tmps)=true)(c:TypeId)(x:Operand)(h:op.op=.load c x)(d:TypeDesc)(i:P.underlying c=some d)(l:d.isRow=false)(p:Addr)(k:a.eval x=.pointer (some p))(v:Value)(f:∀ w,S w->w.cell? p=some v):YieldsIf P ops S op v a :=
 .inl ⟨j,λw e=>by
  have b:(isAgg c).run P w=.ok false w:=by
   unfold isAgg;rw[Sem.run_bind,run_underlying i w];cases d<;>simp_all[TypeDesc.isRow]
  have g:(loadVar c p).run P w=.ok v w:=by simp[loadVar,b,f w e,go_sem]
  unfold execOp;simp only[h,k,Instr.loadAt,Instr.sureAddr,Sem.run_bind,Sem.run_pure,Result.andThen_ok,g]⟩
end
end
section
variable{K:Act->World->Prop}{P:Program}{Q:Exit->Act->World->Prop}{a:Act}{b base e g i id k8 n:Nat}{fr:Nat × Nat}{o op:Oper}{ops:Array Oper}{t:TypeId}{v:Value}{w w':World}{xs:List Value}
theorem Eh{l:List Oper}(h:wpList P ops Q l a w):wpList P ops Q l a w:=h
theorem Dg{B:Nat}{a:World}(h:Below B a w){g:Nat}(c:B<=g)(b:Array Value):Below B a (w.setRow g b) :=
 h.trans ⟨rfl,rfl,rfl,by simp,λk d=>setRow_other w g k b (by omega)⟩
theorem Gb{a:Nat}(h:w.ownsRow b e k8 v n xs)(c:a<=b):w.ownsRow a e k8 v n xs:=by
 refine⟨h.1,?_⟩;rcases h.2 with h2|⟨g,cap,cur,hv,hbg,hr⟩
 .exact .inl h2
 .exact .inr ⟨g,cap,cur,hv,na c hbg,hr⟩
theorem DN(h:w.ownsRow base e k8 v n xs)(a:∀ k,v.ownBlock=some k->w'.heap[k]?=w.heap[k]?):w'.ownsRow base e k8 v n xs:=by
 refine⟨h.1,?_⟩;rcases h.2 with h2|⟨g,cap,cur,hv,hb,hg,hr⟩
 .exact .inl h2
 .exact .inr ⟨g,cap,cur,hv,hb,(a g (by rw[hv];rfl)).trans hg,hr⟩
theorem bB{P:Program}{f:Func}{p:Tmp}{c:TypeId}(h:f.results=#[.cell p c])(a:Array Value)(w:World)(g:Nat)(t:TypeId)(b:Array Value)(i:Nat × Nat)(d:TypeDesc)(m:a.getD p undef=.pointer (some ⟨g,0,none⟩))(k:w.heap[g]?=some (.cells b t i))(n:P.underlying c=some d)(j:(match d with|.struct _|.array _ _=>true|_=>false)=true)(l:(P.info? c).map (·.size)=some b.size) :
  (results f a).run P w=.ok (.agg b) w:=by
 have e:a[p]?.getD undef=.pointer (some ⟨g,0,none⟩):=by simpa using m
 simp[results,h,e,asAddr,run_loadVar_row w g t c b i d k n j l]
theorem Vm{P:Program}{f:Func}{p u:Tmp}{c:TypeId}(h:f.results=#[.cell p c,.tmp u])(a:Array Value)(w:World)(g:Nat)(t:TypeId)(b:Array Value)(i:Nat × Nat)(d:TypeDesc)(m:a.getD p undef=.pointer (some ⟨g,0,none⟩))(k:w.heap[g]?=some (.cells b t i))(n:P.underlying c=some d)(j:(match d with|.struct _|.array _ _=>true|_=>false)=true)(l:(P.info? c).map (·.size)=some b.size) :
  (results f a).run P w=.ok (.tuple #[.agg b,a.getD u undef]) w:=by
 have e:a[p]?.getD undef=.pointer (some ⟨g,0,none⟩):=by simpa using m
 simp[results,h,e,asAddr,run_loadVar_row w g t c b i d k n j l]
theorem Sl.sH{l:List Int}(h:Sl w v l):∃ a cap,v=.slice a l.length cap:=by
 obtain⟨⟨a,cap,e,_⟩,_,_⟩:=h;exact⟨a,cap,e⟩
theorem Sl.ui{ad:Addr}{g:Nat}{m:List Int}(h:Sl w (.slice (some ad) n g) m):∀ j u,(m.map (Value.int .u8))[j]?=some u->w.cell? (ad.add j)=some u:=by
 intro j u f;obtain⟨⟨a,k,e,l,o,i⟩,_⟩:=h;simp only[Value.slice.injEq]at e;obtain⟨rfl,rfl,rfl⟩:=e;rcases i with rfl|⟨b,off,hab,_,hcell⟩
 .simp at f
 .obtain rfl:ad=⟨b,off,none⟩:=by simpa using hab
  have c:j<m.length:=by
   have:=(V'.1 f).1;simpa using this
  have d:(⟨b,off,none⟩:Addr).add j=⟨b,off+j,none⟩:=by unfold Addr.add;split<;>simp_all
  rw[d,hcell j c];simp[List.getElem?_eq_getElem c]at f
  rw[AQ c,f]
theorem R6(w:World)(c x F G e:Nat)(y:P.underlying x=some (.slice e))(q:(P.info? e).map (·.size)=some 1)(g n:Nat)(H:List Value)(h:w.ownsRow c e 1 (.slice (some ⟨g,0,none⟩) n n) n H)(u:Value)(m:List Int)(D:n<=m.length)(z:Sl w u m) :
  ∃ w',(Builtin.copy_ #[x,F] G #[.slice (some ⟨g,0,none⟩) n n,u]).run P w=.ok (goInt n) w'/\w'.ownsRow c e 1 (.slice (some ⟨g,0,none⟩) n n) n ((m.take n).map (Value.int .u8))/\Below g w w':=by
 obtain⟨i,l,B⟩:∃ i,P.info? e=some i/\i.size=1:=by
  cases l:P.info? e with
  | none=>rw[l]at q;cases q
  | some i=>rw[l]at q;exact⟨i,rfl,by simpa using q⟩
 rcases h.2 with⟨h0,_⟩|⟨g',cap,cur,hvv,hbg,hg,hnc,hcm,hcs,ht⟩
 .cases h0
 .simp only[Value.slice.injEq,Z',Addr.mk.injEq]at hvv;obtain⟨⟨rfl,_⟩,_,rfl⟩:=hvv;have t:=z;obtain⟨⟨a,A,rfl,J,E,I⟩,_⟩:=z;have f:Nat.min m.length n=n:=Nat.min_eq_right D;cases a with
  | none =>
   have r:=E rfl;subst r;have s:n=0:=by omega
   subst s;refine⟨w,?_,⟨by simp,.inr ⟨g,0,cur,rfl,hbg,hg,hnc,hcm,hcs,by simp⟩⟩,Below.refl _ _⟩;simp[Builtin.copy_,run_underlying y,Builtin.lenOf,Builtin.firstCells,sizeOf,typeInfo,l,storeCells]
  | some ad =>
   have b:((m.take n).map (Value.int .u8)).length=n:=by simp;omega
   have C:=run_firstCells_some (P:=P) w 1 n ad m.length A ((m.take n).map (Value.int .u8)) (by rw[b];omega) (λj v p=>t.ui j v (by
    rw[rx,oD]at p
    split at p
    .exact p
    .cases p))
   have o:=run_storeCells_at P g 0 e ((m.take n).map (Value.int .u8)) 0 cur w hg (by rw[b];omega) (Fs (m.take n));have d:(cur.toList.take (0+0)++(m.take n).map (Value.int .u8)++cur.toList.drop (0+0+((m.take n).map (Value.int .u8)).length))=(m.take n).map (Value.int .u8):=by
    rw[b,oA (by rw[oU];omega)];simp
   rw[d]at o
   refine⟨w.setRow g ((m.take n).map (Value.int .u8)).toArray,?_,⟨by rw[b];omega,.inr ⟨g,n,((m.take n).map (Value.int .u8)).toArray,rfl,hbg,setRow_heap w g cur _ e _ hg,A' _,hcm,by rw[pI,b];omega,?_⟩⟩,?_⟩
   .simp[-List.map_take,Builtin.copy_,run_underlying y,Builtin.lenOf,sizeOf,typeInfo,l,B,f,C,o]
   .rw[nw (by show((m.take n).map (Value.int .u8)).length<=_;rw[b];omega)]
   .exact⟨rfl,rfl,rfl,by simp,λk K=>setRow_other w g k _ (by omega)⟩
theorem Np(w:World){j:Array Oper}{c:List Oper}{o:Oper}{a:Act}{Q:Exit->Act->World->Prop}(l:o.guard=none)(d s:Operand)(k r:TypeId)(A:o.op=.call { callee:=.builtin .copy,args:=#[d,s],argTypes:=#[k,r] })(b e:Nat)(C:P.underlying k=some (.slice e))(B:(P.info? e).map (·.size)=some 1)(g n:Nat)(v:List Value)(y:a.eval d=.slice (some ⟨g,0,none⟩) n n)(f:w.ownsRow b e 1 (.slice (some ⟨g,0,none⟩) n n) n v)(u:Value)(q:a.eval s=u)(m:List Int)(z:n<=m.length)(D:Sl w u m)(t:List Int)(p:t=m.take n)(h:∀ w',w'.ownsRow b e 1 (.slice (some ⟨g,0,none⟩) n n) n (t.map (Value.int .u8))->Below g w w'->wpList P j Q c (a.put o.dst (goInt n)) w'):wpList P j Q (o::c) a w:=by
 subst p;refine wpList_plain l λK x=>?_;obtain⟨w',i,E,F⟩:=R6 (P:=P) w b k r o.type e C B g n v f u m z D;unfold Oper.wp execOp;simp only[A,resolve,invoke,builtin,Sem.run_bind,Sem.run_pure,Result.andThen_ok,qb,nW,oV,y,q,i];exact x _ _ (h w' E F)
theorem Nr(w:World){g:Array Oper}{d:List Oper}{o:Oper}{a:Act}{Q:Exit->Act->World->Prop}(v:o.guard=none)(l c:Operand)(t:TypeId)(h:o.op=Op.makeSlice t l c)(b:Nat)(e:TypeId)(r:P.underlying t=some (.slice e))(f:(P.info? e).map (λi=>(i.zero,i.size,i.bytes))=some (some (.int .u8 0),1,1))(n:Nat)(y:a.eval l=.int .i64 (n:Int))(u:a.eval c=.int .i64 (n:Int))(B:n<=140737488351232)(p:b<=w.heap.size)(s:∀ w',Hid (∃ xs,w'.ownsRow b e 1 (.slice (some ⟨w.heap.size,0,none⟩) n n) n xs)->w.grownBy w' none->wpList P g Q d (a.put o.dst (.slice (some ⟨w.heap.size,0,none⟩) n n)) w'):wpList P g Q (o::d) a w:=by
 obtain⟨z,x,j,k,m⟩:=info_parts f;refine wpList_make_full w v l c t h b e z (.int .u8 0) 1 r x j k _ _ _ _ n y u rfl rfl (by rw[m];omega) (by unfold maxLen;omega) p (λw' A q=>s w' ⟨_,A⟩ q)
theorem EM(w:World)(a:Obj):(w.alloc a).heap[w.heap.size]?=some a:=heap_alloc_new w a
theorem Cr(w:World)(a:Obj):Bw w (w.alloc a):=(Below.refl _ _).alloc (A' _) _
theorem MU(w:World)(a b:Obj):((w.alloc a).alloc b).heap[w.heap.size]?=some a:=heap_alloc2_old w a b
theorem MV(w:World)(b a:Obj):((w.alloc b).alloc a).heap[w.heap.size+1]?=some a:=heap_alloc2_new w b a
theorem OT(w:World)(a b:Obj):Bw w ((w.alloc a).alloc b):=((Below.refl _ _).alloc (A' _) _).alloc (by simp) _
theorem CE(h:w.ownsRow base e k8 v n xs):∃ g c,v=.slice g n c:=by
 rcases h.2 with⟨rfl,h0⟩|⟨g,cap,cur,hv,_⟩
 .exact⟨none,0,by rw[h0]⟩
 .exact⟨_,_,hv⟩
theorem bC(R:World->Prop){A:Act}(c:∀ K':Act->World->Prop,Hid (∀ W2,R W2->K' A W2)->(Code.region id ops true).wp P (Exit.then K' Q) a w)(b:∀ W2,R W2->K A W2):(Code.region id ops true).wp P (Exit.then K Q) a w:=c K b
theorem bD(R:Option Addr->Nat->World->Prop){A:Option Addr->Nat->Act}(d:∀ K':Act->World->Prop,Hid (∀ g c W2,R g c W2->K' (A g c) W2)->(Code.region id ops true).wp P (Exit.then K' Q) a w)(b:∀ g c W2,R g c W2->K (A g c) W2):(Code.region id ops true).wp P (Exit.then K Q) a w:=d K b
theorem MR{cs:List Value}(h:w.heap[g]?=some (.cells cs.toArray t fr)):w.rangeAt g 0 cs:=λj u a=>by
 rw[cell_of_row _ _ (0+j) _ _ _ h];simpa using a
theorem MT(h:w.ownsRow base 5 k8 v n xs){g:Nat}{c:Array Value}{t:TypeId}{d:Nat × Nat}(f:w.heap[g]?=some (.cells c t d))(i:t≠5):∀ k,v.ownBlock=some k->k≠g:=by
 intro k a e;rcases h.2 with⟨h1,_⟩|⟨q,cap,cur,h1,_,h2,_⟩
 .rw[h1]at a;cases a
 .rw[h1]at a
  have b:q=k:=by simpa[Value.ownBlock]using a
  rw[b,e,f]at h2
  simp only[Z',Obj.cells.injEq]at h2;exact i h2.2.1
theorem Xm(h:w.ownsRow base 5 k8 v n xs){g:Nat}{b:Array Value}{t:TypeId}{c:Nat × Nat}(d:w.heap[g]?=some (.cells b t c))(f:t≠5)(a:Array Value):(w.setRow g a).ownsRow base 5 k8 v n xs :=
 DN h (λk e=>setRow_other _ _ _ _ (MT h d f k e))
theorem kt:(prog.info? 5).map (·.size)=some 1:=by kernel_rfl
theorem PM(w:World)(b o:Nat)(f:TypeId)(v e:Value)(j:w.cell? ⟨b,o,none⟩=some e)(k:w.frozen? ⟨b,o,none⟩=false)(c:(P.info? f).map (·.size)=some 1)(g:v.oneCell'=true) :
  (storeVar f ⟨b,o,none⟩ v).run P w=.ok () (w.setCell ⟨b,o,none⟩ v):=by
 cases h:P.info? f with
 | none=>rw[h]at c;cases c
 | some i =>
  rw[h]at c
  simp at c;have a:(⟨b,o,none⟩:Addr).add 0=⟨b,o,none⟩:=by unfold Addr.add;split<;>simp_all
  have l:(Go.store ⟨b,o,none⟩ v .plain).run P w=.ok () (w.setCell ⟨b,o,none⟩ v):=by
   rw[run_store P w _ v .plain g,j];simp[k]
  have d:v.cells=#[v]:=by cases v<;>first|rfl|cases g
  unfold storeVar;rw[d];simp[sizeOf,typeInfo,h,c,storeCells,a,l,Result.andThen]
theorem Qf{Q:Exit->Act->World->Prop}(d:TypeId)(x y:Operand)(i:op.op=.store d x y)(b o:Nat)(v c:Value)(k:a.eval x=.pointer (some ⟨b,o,none⟩))(l:a.eval y=v)(e:w.cell? ⟨b,o,none⟩=some c)(f:w.frozen? ⟨b,o,none⟩=false)(g:(P.info? d).map (·.size)=some 1)(j:v.oneCell'=true)(h:K (a.put op.dst undef) (w.setCell ⟨b,o,none⟩ v)):op.wp P a w K Q:=by
 unfold Oper.wp execOp;simp only[i,k,l,Instr.storeAt,Instr.sureAddr,Sem.run_bind,Sem.run_pure,Result.andThen_ok,PM w b o d v c e f g j];exact h
theorem Ty(n:ops[i]?=some o)(q:Region.wanted o (yielded ops a.tmps)=true)(j:o.dst=none)(e:TypeId)(x y:Operand)(d:o.op=.store e x y)(b k:Nat)(v c:Value)(r:a.eval x=.pointer (some ⟨b,k,none⟩))(s:a.eval y=v)(g:w.cell? ⟨b,k,none⟩=some c)(l:w.frozen? ⟨b,k,none⟩=false)(m:(P.info? e).map (·.size)=some 1)(p:v.oneCell'=true)(h:K a (w.setCell ⟨b,k,none⟩ v)):wpOp P ops Q i K a w :=
 wpOp_step n λt f=>by
  rw[if_pos q];exact Qf e x y d b k v c r s g l m p (f _ _ (by rw[j];exact h))
structure Only(b:Nat)(w w':World):Prop where
 os:w'.os=w.os
 tape:w'.tape=w.tape
 output:w'.output=w.output
 size:w'.heap.size=w.heap.size
 other:∀ k,k≠b->w'.heap[k]?=w.heap[k]?
theorem Only.refl(b:Nat)(w:World):Only b w w:=⟨rfl,rfl,rfl,rfl,λ_ _=>rfl⟩
theorem Only.trans{a:World}(h:Only b w w')(k:Only b w' a):Only b w a :=
 ⟨k.os.trans h.os,k.tape.trans h.tape,k.output.trans h.output,k.size.trans h.size,λi c=>(k.other i c).trans (h.other i c)⟩
theorem Only.one(w:World)(b o:Nat)(v:Value):Only b w (w.setCell ⟨b,o,none⟩ v):=⟨rfl,rfl,rfl,by simp[World.setCell],λk a=>heap_setCell_other _ _ _ _ a⟩
theorem Only.store(w:World)(b o:Nat)(a:List Value):Only b w (w.setCells b o a):=by
 induction a generalizing w o with
 | nil=>exact Only.refl _ _
 | cons v r ih=>exact(Only.one w b o v).trans (ih _ _)
theorem mq{P:Program}{b:Array Oper}{S:World->Prop}{op:Oper}{a:Act}(n:Region.wanted op (yielded b a.tmps)=true)(e:TypeId)(x:Operand)(l:op.op=.load e x)(g:Nat)(o:a.eval x=.pointer (some ⟨g,0,none⟩))(c:Array Value)(t:TypeId)(h:Nat × Nat)(d:TypeDesc)(i:∀ w,S w->w.heap[g]?=some (.cells c t h))(m:P.underlying e=some d)(j:(match d with|.struct _|.array _ _=>true|_=>false)=true)(k:(P.info? e).map (·.size)=some c.size):YieldsIf P b S op (.agg c) a :=
 .inl ⟨n,λw f=>by
  unfold execOp;simp only[l,o,Instr.loadAt,Instr.sureAddr,Sem.run_bind,Sem.run_pure,Result.andThen_ok,run_loadVar_row w g t e c h d (i w f) m j k]⟩
theorem ku{P:Program}{u:Func}{p s:Tmp}{j c:TypeId}(h:u.results=#[.cell p j,.cell s c])(a:Array Value)(w:World)(g i:Nat)(t x:TypeId)(f b:Array Value)(v e:Nat × Nat)(d k:TypeDesc)(B:a.getD p undef=.pointer (some ⟨g,0,none⟩))(z:w.heap[g]?=some (.cells f t v))(D:P.underlying j=some d)(y:(match d with|.struct _|.array _ _=>true|_=>false)=true)(A:(P.info? j).map (·.size)=some f.size)(o:a.getD s undef=.pointer (some ⟨i,0,none⟩))(m:w.heap[i]?=some (.cells b x e))(r:P.underlying c=some k)(l:(match k with|.struct _|.array _ _=>true|_=>false)=true)(n:(P.info? c).map (·.size)=some b.size) :
  (results u a).run P w=.ok (.tuple #[.agg f,.agg b]) w:=by
 have C:a[p]?.getD undef=.pointer (some ⟨g,0,none⟩):=by simpa using B
 have q:a[s]?.getD undef=.pointer (some ⟨i,0,none⟩):=by simpa using o
 simp[results,h,C,q,asAddr,run_loadVar_row w g t j f v d z D y A,run_loadVar_row w i x c b e k m r l n]
theorem kv{P:Program}{v:Func}{p s u:Tmp}{j c:TypeId}(h:v.results=#[.cell p j,.cell s c,.tmp u])(a:Array Value)(w:World)(g i:Nat)(t y:TypeId)(f b:Array Value)(x e:Nat × Nat)(d k:TypeDesc)(C:a.getD p undef=.pointer (some ⟨g,0,none⟩))(A:w.heap[g]?=some (.cells f t x))(E:P.underlying j=some d)(z:(match d with|.struct _|.array _ _=>true|_=>false)=true)(B:(P.info? j).map (·.size)=some f.size)(o:a.getD s undef=.pointer (some ⟨i,0,none⟩))(m:w.heap[i]?=some (.cells b y e))(r:P.underlying c=some k)(l:(match k with|.struct _|.array _ _=>true|_=>false)=true)(n:(P.info? c).map (·.size)=some b.size) :
  (results v a).run P w=.ok (.tuple #[.agg f,.agg b,a.getD u undef]) w:=by
 have D:a[p]?.getD undef=.pointer (some ⟨g,0,none⟩):=by simpa using C
 have q:a[s]?.getD undef=.pointer (some ⟨i,0,none⟩):=by simpa using o
 simp[results,h,D,q,asAddr,run_loadVar_row w g t j f x d A E z B,run_loadVar_row w i y c b e k m r l n]
theorem R5(t e:TypeId)(N k:Nat)(d:prog.underlying t=some (.array N e))(a:(prog.info? e).map (·.size)=some k)(b o i:Nat)(f:i<N)(w:World):(Instr.indexAt t (.pointer (some ⟨b,o,none⟩)) (.int .i64 (i:Int))).run prog w=.ok (.pointer (some ⟨b,o+k*i,none⟩)) w:=by
 have c:(Go.sizeOf e).run prog w=.ok k w:=by
  cases hq:prog.info? e with
  | none=>rw[hq]at a;cases a
  | some x =>
   rw[hq]at a
   simp at a;simp[sizeOf,typeInfo,hq,a]
 simp only[Instr.indexAt,Sem.run_bind,run_underlying d w,Result.andThen_ok,Instr.sureAddr,Sem.run_pure,asIntOf];rw[if_pos ⟨by omega,by omega⟩];simp[c,Result.andThen,Addr.add_mid,Nat.mul_comm]
theorem Tx(l:ops[i]?=some o)(n:Region.wanted o (yielded ops a.tmps)=true)(g:o.dst=none)(d:TypeId)(x y:Operand)(c:o.op=.store d x y)(b k:Nat)(cells:Array Value)(p:a.eval x=.pointer (some ⟨b,k,none⟩))(q:a.eval y=.agg cells)(m:w.there b k cells.size)(j:(P.info? d).map (·.size)=some cells.size)(e:cells.all (·.oneCell')=true)(h:K a (w.setCells b k cells.toList)):wpOp P ops Q i K a w :=
 wpOp_step l λr f=>by
  rw[if_pos n];exact wp_store_mid d x y c b k cells p q m j e (f _ _ (by rw[g];exact h))
def Ni(j:Nat)(k:Int):Bool:=if j=0 then Gn k else if j=1 then It k else Iu k
def cR(j:Nat):Int:=if j=0 then 4 else if j=1 then 1048576 else 100000
structure LWTab(w:World):Prop where
 lt:1<w.heap.size
 text:∀ k:Nat,k<10->w.cell? ⟨1,4*k,none⟩=some (.string (strOfNums (V4 (k:Int))))
 has:∀ k j:Nat,k<10->j<3->w.cell? ⟨1,4*k+1+j,none⟩=some (.bool (Ni j (k:Int)))
theorem LWTab.af(h:LWTab w)(a:Bw w w'):LWTab w' :=
 ⟨X' h.lt a.size,λk b=>(a.cell (p:=⟨1,4*k,none⟩) h.lt).trans (h.text k b),λk j b c=>(a.cell (p:=⟨1,4*k+1+j,none⟩) h.lt).trans (h.has k j b c)⟩
structure LBTab(w:World):Prop where
 lt:2<w.heap.size
 uL:∀ j:Nat,j<3->w.cell? ⟨2,j,none⟩=some (.int .i64 (cR j))
theorem LBTab.af(h:LBTab w)(a:Bw w w'):LBTab w' :=
 ⟨X' h.lt a.size,λj b=>(a.cell (p:=⟨2,j,none⟩) h.lt).trans (h.uL j b)⟩
theorem jS:(prog.info? 164).map (·.size)=some 4:=by kernel_rfl
theorem Xc(k:Nat)(a:k<10)(w:World):(Instr.indexAt 165 (.pointer (some ⟨1,0,none⟩)) (.int .i64 (k:Int))).run prog w=.ok (.pointer (some ⟨1,4*k,none⟩)) w:=by
 have h:=R5 165 164 10 4 underlying165 jS 1 0 k a w
 rwa [nV]at h
end
end
section
open Go.ChangeShapes Go.WideShapes Go.ChangeAt Go.RowKit
section
theorem own:ownKnob prog.godebug=none:=by kernel_rfl
theorem dY:laidOutB prog=true:=by kernel_rfl
theorem dU:prog.cellsOf 3=1:=by kernel_rfl
theorem dV:prog.cellsOf 4=1:=by kernel_rfl
theorem dW:prog.cellsOf 9=1:=by kernel_rfl
theorem UM:prog.cellsOf 164=4:=by kernel_rfl
theorem UL:prog.cellsOf 162=3:=by kernel_rfl
theorem YJ : prog.globalNamed "conclave/lines.words" = some 1 := by kernel_rfl
theorem SR:(prog.globals[1]?).map (·.type)=some 165:=by kernel_rfl
theorem UI : prog.globalNamed "conclave/lines.bounds" = some 2 := by kernel_rfl
theorem QH:(prog.globals[2]?).map (·.type)=some 166:=by kernel_rfl
variable{H:Type}{W:World}{a b c held:Bool}{base fuel:Nat}{cs:List Value}{p:List MemPlace}{sp:Nat->Bool}
theorem Lk{name:String}{g:Nat}{a:Array Value}(b:prog.globalNamed name=some g)(h:W.var? prog name=some a):∃ t fr,W.heap[g]?=some (.cells a t fr):=by
 unfold World.var? at h;rw[b]at h
 simp only[Option.bind_some]at h;split at h
 .rename_i c t fr hh
  simp only[Z']at h;subst h;exact⟨t,fr,hh⟩
 .cases h
theorem To{e:TypeId × Value->H}(h:DataW.trod e prog W base sp held fuel 162 cs=some (.agg [.lit (.bool a),.lit (.bool b),.lit (.bool c)],p)) :
  cs=[.bool a,.bool b,.bool c]:=by
 obtain⟨u,m,_,q,o,f,d⟩:=DataW.trod_array underlying162 h;rw[UL]at o
 rw[dV]at d
 match u,f,cs,o with
 | [x0,x1,x2],_,[c0,c1,c2],_ =>
  simp only[nW,oV,oq,DataW.agg.injEq,pJ,and_true]at q;obtain⟨⟨k,l,n⟩,_⟩:=q;obtain⟨a0,g,r⟩:=DataW.trod_bool underlying4 (d 0 (by omega));obtain⟨v,i,s⟩:=DataW.trod_bool underlying4 (d 1 (by omega));obtain⟨w,j,t⟩:=DataW.trod_bool underlying4 (d 2 (by omega));simp at g i j r s t;subst g i j r s t;simp at k l n;subst k l n;rfl
theorem X4{e:TypeId × Value->H}{s:List UInt8}(h:DataW.trod e prog W base sp held fuel 164 cs=some (.agg [.lit (.string s),.agg [.lit (.bool a),.lit (.bool b),.lit (.bool c)]],p)) :
  cs=[.string ⟨s.toArray⟩,.bool a,.bool b,.bool c]:=by
 obtain⟨⟨d,m⟩,⟨o,p1⟩,n,k,j,g,i⟩:=trod_struct2 underlying164 h;rw[UM]at j
 simp only[dW,UL]at g i;simp only[oq,DataW.agg.injEq,pJ,and_true]at k;obtain⟨⟨rfl,rfl⟩,_⟩:=k;have l:=To i;obtain⟨z,f,d,_⟩:=DataW.trod_string underlying9 g
 match cs,j with
 | [c0,c1,c2,c3],_ =>
  simp at f l d;obtain⟨d,_⟩:=d;subst f d;obtain⟨rfl,rfl,rfl⟩:=l;rfl
theorem UG{l:List Value}{a:Nat}{b c d e:Value}(h:(l.drop a).take 4=[b,c,d,e]):l[a]?=some b/\l[a+1]?=some c/\l[a+2]?=some d/\l[a+3]?=some e:=by
 have g:∀ i,i<4->l[a+i]?=[b,c,d,e][i]?:=λi f=>by rw[<- h,List.getElem?_take_of_lt f,oE]
 exact⟨g 0 (by omega),g 1 (by omega),g 2 (by omega),g 3 (by omega)⟩
theorem Zf(k:Nat)(a:k<10){l:List (DataW H)}(h:(Rows.laid_conclave_lines_words:DataW H)=.agg l) :
  l[k]?=some (.agg [.lit (.string ((V4 (k:Int)).map λn=>UInt8.ofNat n.toNat)),.agg [.lit (.bool (Ni 0 (k:Int))),.lit (.bool (Ni 1 (k:Int))),.lit (.bool (Ni 2 (k:Int)))]]):=by
 simp only[Rows.laid_conclave_lines_words,DataW.agg.injEq]at h;subst h
 match k,a with
 | 0,_=>rfl
 | 1,_=>rfl
 | 2,_=>rfl
 | 3,_=>rfl
 | 4,_=>rfl
 | 5,_=>rfl
 | 6,_=>rfl
 | 7,_=>rfl
 | 8,_=>rfl
 | 9,_=>rfl
theorem Ze(k:Nat)(a:k<3){l:List (DataW H)}(h:(Rows.laid_conclave_lines_bounds:DataW H)=.agg l):l[k]?=some (.lit (.int .i64 (cR k))):=by
 simp only[Rows.laid_conclave_lines_bounds,DataW.agg.injEq]at h;subst h
 match k,a with
 | 0,_=>rfl
 | 1,_=>rfl
 | 2,_=>rfl
theorem fE{r : List (String × DataW Unit)}{N : List MemPlace}(h : DataW.LaidVars prog W (("conclave/lines.bounds", Rows.laid_conclave_lines_bounds) :: ("conclave/lines.words", Rows.laid_conclave_lines_words) :: r) N) : LWTab W ∧ LBTab W := by
 obtain⟨O,T,w,x,Q,R,B,D,b,z,⟨P,U,f,y,p1,S,C,E,c,A,_,_⟩,_⟩:=h;obtain rfl:=nX (UI.symm.trans B);obtain rfl:=nX (QH.symm.trans D);obtain rfl:=nX (YJ.symm.trans C);obtain rfl:=nX (SR.symm.trans E);constructor
 .obtain⟨xs,m,_,hx,hl,hxl,hb⟩:=DataW.trod_array underlying165 A;rw[UM]at hb
  simp only[oq]at hx;obtain⟨t,L,q⟩:=Lk YJ c;have o:∀ k:Nat,k<10->(f.toList.drop (k*4)).take 4=[.string (strOfNums (V4 (k:Int))),.bool (Ni 0 (k:Int)),.bool (Ni 1 (k:Int)),.bool (Ni 2 (k:Int))]:=λk o=>by
   have g:=Zf k o hx.1;rw[n7]at g
   obtain⟨⟨d,p⟩,e,a⟩:=oY.1 g;have l:=hb k o;rw[e]at l
   simp only at a;subst a;exact X4 l
  have s:∀ (i:Nat) (v:Value),f.toList[i]?=some v->W.cell? ⟨1,i,none⟩=some v:=λi v M=>by
   refine(cell_of_row _ _ i _ _ _ q).trans ?_
   rwa [Array.getElem?_toList]at M
  refine⟨(U'.1 q).1,λk h=>?_,λk j h u=>?_⟩
  .rw[qg];exact s _ _ (UG (o k h)).1
  .rw[qg];obtain⟨_,I,J,K⟩:=UG (o k h)
   match j,u with
   | 0,_=>exact s _ _ I
   | 1,_=>exact s _ _ J
   | 2,_=>exact s _ _ K
 .obtain⟨xs,m,_,hx,hl,hxl,hb⟩:=DataW.trod_array underlying166 z;rw[dU]at hb
  simp only[oq]at hx;obtain⟨t,L,q⟩:=Lk UI b;refine⟨(U'.1 q).1,λj u=>(cell_of_row _ _ j _ _ _ q).trans ?_⟩;have g:=Ze j u hx.1;rw[n7]at g
  obtain⟨⟨d,p⟩,e,a⟩:=oY.1 g;have l:=hb j u;rw[e]at l
  obtain⟨n,H,G,_⟩:=DataW.trod_int underlying3 l;simp only[oq]at G;obtain⟨rfl,_⟩:=G;simp at a;subst a;have F:((w.toList.drop (j*1)).take 1)[0]?=some (.int .i64 (cR j)):=by rw[H];rfl
  rw[List.getElem?_take_of_lt (by omega),oE,Array.getElem?_toList,Nat.mul_one,pD]at F
  exact F
def Sj:Array Value:=((List.range 10).flatMap λk=>[.string (strOfNums (V4 (k:Int))),.bool (Ni 0 (k:Int)),.bool (Ni 1 (k:Int)),.bool (Ni 2 (k:Int))]).toArray
def Qq:Array Value:=((List.range 3).map λk=>.int .i64 (cR k)).toArray
def Zd(cs:Array Value):Obj->Obj
 | .cells _ t frozen=>.cells cs t frozen
 | o=>o
end
end
section
open Go.RowKit
section
variable{a b c k n now r s t tc tr tu u v:Int}{g:Nat}{h:List Int}{l:List Bool}{w w':World}
theorem Db(h:a=b):Ending.returned (.int .i64 a)=.returned (.int .i64 b):=by rw[h]
def iW(t:Int)(l:List Bool)(x:Int):Bool:=decide (t-8<=x)&&decide (x<t)&&l.getD (x-(t-8)).toNat false
theorem my{x:Int}(h:t<=x):iW t l x=false:=by
 unfold iW;rw[H' (show ¬ x<t by omega)];simp
structure OkC(key:List Int)(s t:Int)(l:List Bool):Prop where
 key:key.length=32
 s0:0<=s
 s1:s<=1073741824
 t0:0<=t
 t1:t<=1073741824
 low:∀ i:Nat,i<8->l.getD i false=true->0<=t-8+(i:Int)
 top:t=0\/l.getD 7 false=true
theorem er(key:List Int)(s t:Int)(l:List Bool):OkC key s t l↔(key.length=32/\0<=s/\s<=1073741824/\0<=t/\t<=1073741824/\(∀ i,i<8->l.getD i false=true->0<=t-8+(i:Int))/\(t=0\/l.getD 7 false=true)) :=
 ⟨λh=>⟨h.1,h.2,h.3,h.4,h.5,h.6,h.7⟩,λh=>⟨h.1,h.2.1,h.2.2.1,h.2.2.2.1,h.2.2.2.2.1,h.2.2.2.2.2.1,h.2.2.2.2.2.2⟩⟩
instance (key:List Int) (s t:Int) (l:List Bool):Decidable (OkC key s t l):=decidable_of_iff _ (er key s t l).symm
def ZL(t:Int)(l:List Bool)(n:Int):Bool:=decide (n<t)&&(decide (n<t-8)||iW t l n)
def noB:List Bool:=List.replicate 8 false
theorem jc(k:Nat):noB.getD k false=false:=by
 rw[noB,nP,List.getElem?_replicate];split<;>rfl
theorem OkC.new{key:List Int}(c:key.length=32)(s:Int)(a:0<=s)(b:s<=1073741824):OkC key s 0 noB :=
 ⟨c,a,b,by omega,by omega,(λi _ h=>by rw[jc]at h;exact absurd h (by simp)),.inl rfl⟩
theorem UW(h:t<=n):ZL t l n=false:=by unfold ZL;rw[H' (by omega)];simp
def Ab(n:Int):List Int:=[n/16777216%256,n/65536%256,n/256%256,n%256]
def Ck(h:List Int):List Int:=List.replicate 8 0++h
def IM(h:List Int):Int:=16777216*h.getD 0 0+65536*h.getD 1 0+256*h.getD 2 0+h.getD 3 0
theorem BG(n:Int):(Ab n).length=4:=rfl
theorem Ax(n:Int):∀ x∈Ab n,0<=x/\x<256:=by
 intro x a;simp only[Ab,nr,Q',or_false]at a;rcases a with rfl|rfl|rfl|rfl<;>omega
theorem Fg(a:h.length=4):(Ck h).length=12:=by simp[Ck,a]
theorem Rd(a:∀ x∈h,0<=x/\x<256):∀ x∈Ck h,0<=x/\x<256:=by
 intro x b;rcases O'.1 b with h1|h1
 .rw[(ql.1 h1).2];omega
 .exact a x h1
theorem WC(n:Int)(a:0<=n)(b:n<4294967296):IM (Ab n)=n:=by
 show 16777216*(n/16777216%256)+65536*(n/65536%256)+256*(n/256%256)+n%256=n;omega
theorem mA(h:List Int)(e:h.length=4):∃ a b c d,h=[a,b,c,d]:=by
 match h,e with
 | [a,b,c,d],_=>exact⟨a,b,c,d,rfl⟩
theorem Mm(f:h.length=4)(e:∀ x∈h,0<=x/\x<256):0<=IM h/\IM h<4294967296:=by
 obtain⟨a,b,c,d,rfl⟩:=mA h f;have g:=e a (by simp);have i:=e b (by simp);have j:=e c (by simp);have k:=e d (by simp);show 0<=16777216*a+65536*b+256*c+d/\16777216*a+65536*b+256*c+d<4294967296;omega
def cmA(k c s n v:Int):Array Value:=#[.int .i64 k,.int .i64 c,.int .i64 s,.int .i64 n,.int .i64 v]
def tkA(c r u:Int):Array Value:=#[.int .i64 c,.int .i64 r,.int .i64 u]
def InC(c s n v:Int):Prop:=0<=c/\c<=7/\0<=s/\s<=1048576/\0<=n/\n<=7/\0<=v/\v<=1073741824
instance (c s n v:Int):Decidable (InC c s n v):=by unfold InC;exact inferInstance
def Bh(k c s n v:Int):Int :=
 if ¬ (0<=k/\k<=3)then 4
 else if k=0 then(if c=0/\s=0/\n=0/\v=0 then 0 else 3)
 else if ¬ InC c s n v then 2
 else if 1<k/\v≠0 then 3
 else 0
theorem VP(h:¬ (0<=k/\k<=3)):Bh k c s n v=4:=if_pos h
theorem VQ(h:c=0/\s=0/\n=0/\v=0):Bh 0 c s n v=0:=by
 unfold Bh;rw[if_neg (by omega),if_pos rfl,if_pos h]
theorem Sw(h:¬ (c=0/\s=0/\n=0/\v=0)):Bh 0 c s n v=3:=by
 unfold Bh;rw[if_neg (by omega),if_pos rfl,if_neg h]
theorem Sy(h:1<=k/\k<=3)(a:¬ InC c s n v):Bh k c s n v=2:=by
 unfold Bh;rw[if_neg (by omega),if_neg (by omega),if_pos a]
theorem VO(h:2<=k/\k<=3)(a:InC c s n v)(b:v≠0):Bh k c s n v=3:=by
 unfold Bh;rw[if_neg (by omega),if_neg (by omega),if_neg (λg=>g a),if_pos ⟨by omega,b⟩]
theorem Pn(h:1<=k/\k<=3)(a:InC c s n v)(b:k=1\/v=0):Bh k c s n v=0:=by
 unfold Bh;rw[if_neg (by omega),if_neg (by omega),if_neg (λg=>g a),if_neg (by omega)]
theorem Dk(h:Bh k c s n v=0):(0<=k/\k<=3)/\InC c s n v:=by
 unfold Bh at h;split at h
 .omega
 .rename_i h1
  split at h
  .split at h
   .rename_i h3
    exact⟨by omega,by unfold InC;omega⟩
   .omega
  .split at h
   .omega
   .rename_i h3
    exact⟨by omega,Classical.not_not.1 h3⟩
def CR(k c s n v:Int):List Int:=Ab k++Ab c++Ab s++Ab n++Ab v
theorem BF(k c s n v:Int):(CR k c s n v).length=20:=rfl
theorem Fq(k c s n v:Int):∀ x∈CR k c s n v,0<=x/\x<256:=by
 intro x hx;rcases O'.1 hx with hx|hx
 .rcases O'.1 hx with hx|hx
  .rcases O'.1 hx with hx|hx
   .rcases O'.1 hx with hx|hx
    .exact Ax _ x hx
    .exact Ax _ x hx
   .exact Ax _ x hx
  .exact Ax _ x hx
 .exact Ax _ x hx
def Ad(l:List Int)(i:Nat):Int:=16777216*l.getD i 0+65536*l.getD (i+1) 0+256*l.getD (i+2) 0+l.getD (i+3) 0
theorem BC(n:Int)(a:0<=n)(b:n<4294967296)(l m:List Int):Ad (l++(Ab n++m)) l.length=n:=by
 have e:∀ j,(l++(Ab n++m)).getD (l.length+j) 0=(Ab n++m).getD j 0:=by
  intro j;simp[List.getD,List.getElem?_append_right]
 unfold Ad;rw[show l.length=l.length+0 from rfl,oB,oB,oB,e,e,e,e];show 16777216*(n/16777216%256)+65536*(n/65536%256)+256*(n/256%256)+n%256=n;omega
theorem Hi(k c s n v:Int)(a:0<=k)(b:k<4294967296):Ad (CR k c s n v) 0=k:=by
 have h:=BC k a b [] (Ab c++Ab s++Ab n++Ab v);exact h
theorem Hj(k c s n v:Int)(a:0<=c)(b:c<4294967296):Ad (CR k c s n v) 4=c:=by
 have h:=BC c a b (Ab k) (Ab s++Ab n++Ab v);exact h
theorem Hk(k c s n v:Int)(a:0<=s)(b:s<4294967296):Ad (CR k c s n v) 8=s:=by
 have h:=BC s a b (Ab k++Ab c) (Ab n++Ab v);exact h
theorem FQ(k c s n v:Int)(a:0<=n)(b:n<4294967296):Ad (CR k c s n v) 12=n:=by
 have h:=BC n a b (Ab k++Ab c++Ab s) (Ab v);exact h
theorem FR(k c s n v:Int)(a:0<=v)(b:v<4294967296):Ad (CR k c s n v) 16=v:=by
 have h:=BC v a b (Ab k++Ab c++Ab s++Ab n) [];exact h
def Co(l:List Int):Int:=if l.length≠20 then 1 else Bh (Ad l 0) (Ad l 4) (Ad l 8) (Ad l 12) (Ad l 16)
def I5(l:List Int):Array Value:=if Co l=0 then cmA (Ad l 0) (Ad l 4) (Ad l 8) (Ad l 12) (Ad l 16)else cmA 0 0 0 0 0
def Dc(c r u:Int):Prop:=(0<=c/\c<=7)/\(0<=r/\r<=7)/\0<=u/\u<=1048576
instance (c r u:Int):Decidable (Dc c r u):=by unfold Dc;exact inferInstance
def NW(c r u:Int):Int:=if Dc c r u then 0 else 2
theorem Hp(h:Dc c r u):NW c r u=0:=if_pos h
theorem Vq(h:¬ Dc c r u):NW c r u=2:=if_neg h
def Ll(k r:Int):Prop:=(k=1/\r/2%2=1)\/(k=2/\r%2=1)\/(k=3/\r/4=1)
instance (k r:Int):Decidable (Ll k r):=by unfold Ll;exact inferInstance
def EP(tc tr tu k c s n v now:Int):Int :=
 if ¬ Dc tc tr tu then 2
 else if Bh k c s n v≠0 then Bh k c s n v
 else if ¬ (Ll k tr/\c=tc)then 11
 else if ¬ (0<=now/\now<=tu)then 10
 else 0
theorem XE(h:¬ Dc tc tr tu):EP tc tr tu k c s n v now=2:=if_pos h
theorem XD(h:Dc tc tr tu)(a:Bh k c s n v≠0):EP tc tr tu k c s n v now=Bh k c s n v:=by
 unfold EP;rw[if_neg (λg=>g h),if_pos a]
theorem Lp(h:Dc tc tr tu)(a:Bh k c s n v=0)(b:¬ (Ll k tr/\c=tc)):EP tc tr tu k c s n v now=11:=by
 unfold EP;rw[if_neg (λg=>g h),if_neg (λg=>g a),if_pos b]
theorem VD(h:Dc tc tr tu)(a:Bh k c s n v=0)(b:Ll k tr/\c=tc)(d:¬ (0<=now/\now<=tu)):EP tc tr tu k c s n v now=10:=by
 unfold EP;rw[if_neg (λg=>g h),if_neg (λg=>g a),if_neg (λg=>g b),if_pos d]
theorem Pf(h:Dc tc tr tu)(a:Bh k c s n v=0)(b:Ll k tr/\c=tc)(d:0<=now/\now<=tu):EP tc tr tu k c s n v now=0:=by
 unfold EP;rw[if_neg (λg=>g h),if_neg (λg=>g a),if_neg (λg=>g b),if_neg (λg=>g d)]
def Is(c r u:Int):List Int:=c::r::Ab u
theorem Ce(c r u:Int):(Is c r u).length=6:=rfl
theorem OU(h:Dc c r u):∀ x∈Is c r u,0<=x/\x<256:=by
 obtain⟨a,b,d⟩:=h;intro x hx;rcases nr.1 hx with rfl|hx
 .omega
 rcases nr.1 hx with rfl|hx
 .omega
 exact Ax _ x hx
theorem O9(c r u:Int)(m:List Int)(a:0<=u)(b:u<4294967296):Ad (Is c r u++m) 2=u:=by
 have h:=BC u a b [c,r] m;exact h
theorem UC(a b c d e f g h i j:Int):∀ w,(binOp .eql 24 (.agg #[.int .i64 a,.int .i64 b,.int .i64 c,.int .i64 d,.int .i64 e]) (.agg #[.int .i64 f,.int .i64 g,.int .i64 h,.int .i64 i,.int .i64 j])).run prog w=.ok (.bool (decide (a=f/\b=g/\c=h/\d=i/\e=j))) w:=by
 intro w;rw[run_eql_struct,run_equalIn_agg w 9999 _ _ _ (by kernel_rfl) (by kernel_rfl)];unfold Program.fieldsOf;rw[underlying24];have k:=underlying3;simp[Op.eqFields,go_sem,k]
 repeat' split
 all_goals simp_all
theorem ep(a b c d e f g h i j:Int):∀ w,(binOp .neq 24 (.agg #[.int .i64 a,.int .i64 b,.int .i64 c,.int .i64 d,.int .i64 e]) (.agg #[.int .i64 f,.int .i64 g,.int .i64 h,.int .i64 i,.int .i64 j])).run prog w=.ok (.bool (!decide (a=f/\b=g/\c=h/\d=i/\e=j))) w:=by
 intro w;rw[run_neq_struct,run_equalIn_agg w 9999 _ _ _ (by kernel_rfl) (by kernel_rfl)];unfold Program.fieldsOf;rw[underlying24];have k:=underlying3;simp[Op.eqFields,go_sem,k]
 repeat' split
 all_goals simp_all
theorem Fp{b:TypeId}{a:Nat × Nat}(h:w.heap[g]?=some (.cells (cmA k c s n v) b a)) :
  w.cell? ⟨g,0,none⟩=some (.int .i64 k)/\w.cell? ⟨g,1,none⟩=some (.int .i64 c)/\w.cell? ⟨g,2,none⟩=some (.int .i64 s)/\w.cell? ⟨g,3,none⟩=some (.int .i64 n)/\w.cell? ⟨g,4,none⟩=some (.int .i64 v) :=
 ⟨cell_of_row _ _ 0 _ _ _ h,cell_of_row _ _ 1 _ _ _ h,cell_of_row _ _ 2 _ _ _ h,cell_of_row _ _ 3 _ _ _ h,cell_of_row _ _ 4 _ _ _ h⟩
theorem dM(c s n v:Int):InC c s n v↔(((0<=c/\c<=7)/\(0<=s/\s<=1048576))/\(0<=n/\n<=7))/\(0<=v/\v<=1073741824):=by unfold InC;omega
structure Bc(w:World)(g:Nat)(k c s n v:Int):Prop where
 lt:g<w.heap.size
 row:w.heap[g]?=some (.cells (cmA k c s n v) 24)
theorem Bc.made(w:World)(k c s n v:Int):Bc (w.alloc (.cells (cmA k c s n v) 24)) w.heap.size k c s n v:=⟨by simp,heap_alloc_new _ _⟩
theorem Bc.af(h:Bc w g k c s n v)(a:Bw w w'):Bc w' g k c s n v :=
 ⟨X' h.lt a.size,(a.block g h.lt).trans h.row⟩
theorem Hb(k c s n v:Int):(prog.info? 24).map (·.size)=some (cmA k c s n v).size:=by show _=some 5;kernel_rfl
def O7:List Int:=[0,0,0,2,7,1073741824,1,7,0,4,7,0]
structure NTab(w:World):Prop where
 lt:0<w.heap.size
 cell:∀ i,i<12->w.cell? ⟨0,i,none⟩=some (.int .i64 (O7.getD i 0))
theorem NTab.af(h:NTab w)(a:Bw w w'):NTab w' :=
 ⟨X' h.lt a.size,λi b=>(a.cell (p:=⟨0,i,none⟩) h.lt).trans (h.cell i b)⟩
theorem F4(n g:Int)(w:World) :
  Calls prog 38 #[.int .i64 n,.int .i64 g] w λe w'=>e=.returned (.bool (decide (0<=n/\n<=g)))/\w'=w:=by
 by_cases a:0<=n
 .by_cases h1:n<=g
  .rw[P' ⟨a,h1⟩];go_enter func38,ntmps38
   go_wp2
   go_ret;exact⟨Az (by simp),rfl⟩
  .rw[H' (by omega)];go_enter func38,ntmps38
   go_wp2
   go_ret;exact⟨Az (by simp),rfl⟩
 .rw[H' (by omega)];go_enter func38,ntmps38
  go_wp2
  go_ret;exact⟨Az (by simp),rfl⟩
theorem Jv{g:Int}{b:Bool}(h:Hid (decide (0<=n/\n<=g)=b))(w:World) :
  Calls prog 38 #[.int .i64 n,.int .i64 g] w λe w'=>e=.returned (.bool b)/\w'=w:=by
 rw[<- h.out];exact F4 n g w
theorem Tb(k:Int)(w:World) :
  Calls prog 42 #[.int .i64 k] w λe w'=>e=.returned (.bool (decide (0<=k/\k<=3)))/\w'=w:=by
 go_enter func42,ntmps42
 go_wp2_with fail
 refine(F4 k 3 _).mono ?_;rintro e a ⟨rfl,rfl⟩;go_wp2
 go_ret;exact⟨Az (by simp),rfl⟩
theorem ZH(c s n v:Int)(w:World) :
  Calls prog 43 #[.agg (cmA 0 c s n v)] w λe w'=>e=.returned (.int .i64 (Bh 0 c s n v))/\Bw w w':=by
 have a:Bw w (w.alloc (.cells (cmA 0 c s n v) 24)):=(Below.refl _ _).alloc (A' _) _;simp only[cmA]at a ⊢;have b:=ep 0 c s n v 0 0 0 0 0;by_cases h:c=0/\s=0/\n=0/\v=0
 .have HE:Hid (0=Bh 0 c s n v):=(VQ h).symm;rw[P' ⟨rfl,h⟩]at b
  clear h;go_enter func43,ntmps43
  go_wp2
  go_ret;exact⟨Db HE.out,a⟩
 .have HE:Hid (3=Bh 0 c s n v):=(Sw h).symm;rw[H' (λg=>h g.2)]at b
  clear h;go_enter func43,ntmps43
  go_wp2
  go_ret;exact⟨Db HE.out,a⟩
theorem NTab.name(h:NTab w)(k:Nat)(a:1<=k)(b:k<=3):w.cell? ⟨0,k*3+1,none⟩=some (.int .i64 7):=by
 rcases(by omega:k=1\/k=2\/k=3)with rfl|rfl|rfl
 .exact h.cell 4 (by omega)
 .exact h.cell 7 (by omega)
 .exact h.cell 10 (by omega)
theorem Pz(k c s n v:Int)(w:World)(r:1<=k/\k<=3)(p:NTab w) :
  Calls prog 44 #[.agg (cmA k c s n v)] w λe w'=>e=.returned (.bool (decide (InC c s n v)))/\Bw w w':=by
 have f:Bw w (w.alloc (.cells (cmA k c s n v) 24)):=(Below.refl _ _).alloc (A' _) _;have l:=(p.af f).name;have o:=heap_alloc_new w (.cells (cmA k c s n v) 24);simp only[cmA]at f l o ⊢;obtain⟨m,rfl⟩:=nR (show 0<=k by omega);replace l:=l m (by omega) (by omega);have A:(0:Int)<=(m:Int):=by omega
 have B:(m:Int)<4:=by omega
 have C:m<4:=by omega
 clear r p;have a:Hid (InC c s n v↔_):=dM c s n v;generalize q:w.alloc (.cells #[.int .i64 (m:Int),.int .i64 c,.int .i64 s,.int .i64 n,.int .i64 v] 24)=W at f l o;go_enter func44,ntmps44
 go_wp2_with fail
 clear q;obtain⟨t,u,x,y,z⟩:=Fp o;clear o;by_cases d:0<=c/\c<=7
 .have U1:Hid (decide _=true):=P' d;by_cases h:0<=s/\s<=1048576
  .have U2:Hid (decide _=true):=P' h;by_cases i:0<=n/\n<=7
   .have U3:Hid (decide _=true):=P' i;by_cases j:0<=v/\v<=1073741824
    .have U4:Hid (decide _=true):=P' j;have b:Hid (true=decide (InC c s n v)):=(P' (a.out.2 ⟨⟨⟨d,h⟩,i⟩,j⟩)).symm;clear d h i j a;go_quiet ((go_at_call 38;exact Calls.quiet_of_same (Jv (by assumption) _)))
     go_wp2
     go_ret;exact⟨Az b.out,Ar f nq⟩
    .have U4:Hid (decide _=false):=H' j;have b:Hid (false=decide (InC c s n v)):=(H' (λG=>j ((λg=>g.2) (a.out.1 G)))).symm;clear d h i j a;go_quiet ((go_at_call 38;exact Calls.quiet_of_same (Jv (by assumption) _)))
     go_wp2
     go_ret;exact⟨Az b.out,Ar f nq⟩
   .have U3:Hid (decide _=false):=H' i;have b:Hid (false=decide (InC c s n v)):=(H' (λG=>i ((λg=>g.1.2) (a.out.1 G)))).symm;clear d h i a;go_quiet ((go_at_call 38;exact Calls.quiet_of_same (Jv (by assumption) _)))
    go_wp2
    go_ret;exact⟨Az b.out,Ar f nq⟩
  .have U2:Hid (decide _=false):=H' h;have b:Hid (false=decide (InC c s n v)):=(H' (λG=>h ((λg=>g.1.1.2) (a.out.1 G)))).symm;clear d h a;go_quiet ((go_at_call 38;exact Calls.quiet_of_same (Jv (by assumption) _)))
   go_wp2
   go_ret;exact⟨Az b.out,Ar f nq⟩
 .have U1:Hid (decide _=false):=H' d;have b:Hid (false=decide (InC c s n v)):=(H' (λG=>d ((λg=>g.1.1.1) (a.out.1 G)))).symm;clear d a;go_quiet ((go_at_call 38;exact Calls.quiet_of_same (Jv (by assumption) _)))
  go_wp2
  go_ret;exact⟨Az b.out,Ar f nq⟩
theorem eX(h:a=b):Ending.returned (.int .u32 a)=.returned (.int .u32 b):=by rw[h]
theorem km(n:Nat)(a:1<=n)(b:n<=31):bits .and .u64 (IntKind.u64.wrap (-(n:Int))) 31=32-(n:Int):=by
 have e:IntKind.u64.wrap (-(n:Int))=((18446744073709551616-n:Nat):Int):=by rw[IntKind.wrap_u64];omega
 rw[e,show(31:Int)=((31:Nat):Int)from rfl,u64_and_nat _ _ (by omega) (by omega),nat_mask5];omega
theorem aJ(x:BitVec 32)(n:Nat)(w:World)(a:1<=n)(b:n<=31) :
  Calls prog 175 #[.int .u32 (uw x),.int .i64 (-(n:Int))] w λe w'=>e=.returned (.int .u32 (uw (x.rotateRight n)))/\w'=w:=by
 have c:=Ep x;have d:=bW x;have f:=km n a b;go_enter func175,ntmps175
 go_wp2
 go_ret;exact⟨eX (jM x n a b),rfl⟩
theorem WY(x:BitVec 32)(n:Nat)(w:World)(a:1<=n)(b:n<=31) :
  Calls prog 147 #[.int .u32 (uw x),.int .i64 (n:Int)] w λe w'=>e=.returned (.int .u32 (uw (x.rotateRight n)))/\w'=w:=by
 go_enter func147,ntmps147
 go_wp2_with fail
 refine(aJ x n w a b).mono ?_;rintro e c ⟨rfl,rfl⟩;go_wp2
 go_ret;exact⟨rfl,rfl⟩
theorem ME(x:BitVec 32)(k:Int)(w:World)(a:1<=k)(b:k<=31) :
  Calls prog 147 #[.int .u32 (uw x),.int .i64 k] w λe w'=>e=.returned (.int .u32 (uw (x.rotateRight k.toNat)))/\w'=w:=by
 obtain⟨n,rfl⟩:∃ n:Nat,k=n:=⟨k.toNat,by omega⟩;exact WY x n w (by omega) (by omega)
end
end
end Go.Proofs.YtngmpodijpelnaaGreatDoor
