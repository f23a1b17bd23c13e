/- Part 1 of the walk. -/
import Derived.Test.YthkjeoamjgnpoaaGreatDoorZ0
import Derived.WalkKit
import Derived.ProofKit
import Derived.Laws.AppendOwnNone
import Derived.Laws.BytesArg
import Derived.BigQuiet
import Derived.OpenShut
import Derived.StillTail
import Derived.Test.YthkjeoamjgnpoaaGreatDoorProg
import Derived.Deep.QuietTactic
import Derived.BigRegion
import Derived.Laws.ResultCell
import Derived.Laws.CopyOwn
import Derived.Deep.RegionWith
import Derived.Deep.RegionHeld3
import Derived.Laws.CopyRow
import Derived.Deep.Cut
import Derived.Deep.MidRow
import Derived.Laws.Strings2
import Derived.Test.YthkjeoamjgnpoaaGreatDoorCards
import Derived.Test.YthkjeoamjgnpoaaGreatDoorTie
import Derived.SizedLaws
import Derived.ChangeOld
import Derived.ChangeSame
import Derived.ChangeMaps5
import Derived.Deep.DeepHandedRow
import Derived.Lib.LaidTab
import Derived.Deep.Strs
set_option maxRecDepth 100000
set_option maxHeartbeats 4000000
open Go.Proofs.Tryz
set_option linter.unusedVariables false
namespace Go.Proofs.YthkjeoamjgnpoaaGreatDoor
section
open Go.RowKit Go.ChangeShapes Go.WideShapes Go.ChangeAt
section
abbrev Bw(w w':World):Prop:=Below w.heap.size w w'
abbrev zV5:Array Value:=#[.int .i64 0,.int .i64 0,.int .i64 0,.int .i64 0,.int .i64 0]
abbrev zV8:Array Value:=#[.int .i64 0,.int .i64 0,.int .i64 0,.int .i64 0,.int .i64 0,.int .i64 0,.int .i64 0,.int .i64 0]
structure Sl(w:World)(v:Value)(l:List Int):Prop where
 ex:∃ a cap,v=.slice a l.length cap/\l.length<=cap/\(a=none->cap=0)/\(l=[]\/∃ b off,a=some ⟨b,off,none⟩/\b<w.heap.size/\∀ i,i<l.length->w.cell? ⟨b,off+i,none⟩=some (.int .u8 (l.getD i 0)))
 len:l.length<=140737488351232
 byte:∀ x∈l,0<=x/\x<256
variable{P:Program}{base cap e i n:Nat}{l:List Int}{v:Value}{w:World}
theorem Sl.af{f:World}(h:Sl w v l)(e:Below w.heap.size w f):Sl f v l:=by
 obtain⟨⟨a,c,rfl,k,n,d⟩,g,j⟩:=h;refine⟨⟨a,c,rfl,k,n,?_⟩,g,j⟩;rcases d with d|⟨b,off,ha,hbs,hcell⟩
 .exact .inl d
 .exact .inr ⟨b,off,ha,X' hbs e.size,λi m=>(e.cell (p:=⟨b,off+i,none⟩) hbs).trans (hcell i m)⟩
theorem Sl.nil(w:World)(a:Option Addr):Sl w (.slice a 0 0) []:=⟨⟨a,0,rfl,by simp,by simp,.inl rfl⟩,by simp,by simp⟩
theorem Sl.ov(h:w.ownsRow base e 1 v l.length (l.map (Value.int .u8)))(f:l.length<=140737488351232)(c:∀ x∈l,0<=x/\x<256):Sl w v l:=by
 refine⟨?_,f,c⟩;rcases h.2 with⟨rfl,h0⟩|⟨g,cap,cur,rfl,_,hg,hn,_,hcs,ht⟩
 .exact⟨none,0,by rw[h0],by omega,λ_=>rfl,.inl (Y' h0)⟩
 .refine⟨_,cap,rfl,hn,by simp,.inr ⟨g,0,rfl,(U'.1 hg).1,λi d=>?_⟩⟩;have b:=h.cells (g:=g) rfl i (.int .u8 (l.getD i 0)) (by simp[List.getElem?_eq_getElem d,List.getD]);have a:(⟨g,0,none⟩:Addr).add i=⟨g,i,none⟩:=by unfold Addr.add;split<;>simp_all
  rw[a]at b
  simpa using b
theorem AQ(a:i<l.length):l.getD i 0=l[i]:=by simp[List.getD,List.getElem?_eq_getElem a]
theorem Hd(a:l.length<=i):l.getD i 0=0:=by simp[List.getD,List.getElem?_eq_none a]
theorem Ak(h:∀ x∈l,0<=x/\x<256)(i:Nat):0<=l.getD i 0/\l.getD i 0<256:=by
 rcases nU i l.length with hi|hi
 .rw[AQ hi];exact h _ (nJ hi)
 .rw[Hd hi];omega
theorem Fl(l:List Int):∀ u∈l.map (Value.int .u8),u.oneCell'=true:=by
 intro u a;obtain⟨x,_,rfl⟩:=nw.1 a;rfl
theorem H4(w:World)(c t x e:Nat)(A:P.underlying t=some (.slice e))(h:(P.info? e).map (λi=>(i.zero,i.size,i.bytes))=some (some (.int .u8 0),1,1))(v:Value)(l:List Int)(d:w.ownsRow c e 1 v l.length (l.map (Value.int .u8)))(u:Value)(m:List Int)(H:Sl w u m)(z:l.length+m.length<=140737488355328)(g:c<=w.heap.size) :
  ∃ v' w',(Builtin.append_ #[t,t] x #[v,u]).run P w=.ok v' w'/\w'.ownsRow c e 1 v' (l++m).length ((l++m).map (Value.int .u8))/\w.grownBy w' v.ownBlock:=by
 obtain⟨i,y,I,s,q⟩:=info_parts h;obtain⟨⟨a,p,rfl,J,E,B⟩,_,_⟩:=H;cases a with
 | none =>
  have r:=E rfl;subst r;have D:m=[]:=Y' (by omega);subst D;refine⟨v,w,?_,by simpa using d,⟨rfl,rfl,rfl,A' _,λ_ _ _=>rfl⟩⟩;exact run_append_owned_none (P:=P) (w:=w) c t x e i 1 A y v l.length _ d
 | some ad =>
  have f:∀ j u,(m.map (Value.int .u8))[j]?=some u->w.cell? (ad.add j)=some u:=by
   intro j u o;rcases B with rfl|⟨b,off,hab,_,hcell⟩
   .simp at o
   .obtain rfl:ad=⟨b,off,none⟩:=by simpa using hab
    have k:j<m.length:=by
     have:=(V'.1 o).1;simpa using this
    have n:(⟨b,off,none⟩:Addr).add j=⟨b,off+j,none⟩:=by unfold Addr.add;split<;>simp_all
    rw[n,hcell j k];simp[List.getElem?_eq_getElem k]at o
    rw[AQ k,o]
  obtain⟨v',w',G,F,C,_⟩:=run_append_own (P:=P) w c t x e i (.int .u8 0) 1 1 A y I s q rfl (by decide) v l.length _ d ad m.length p (m.map (Value.int .u8)) (by simp) f (Fl m)
   (by unfold maxLen;omega) (by omega) g
  exact⟨v',w',G,by simpa using F,C⟩
theorem Aa(w:World){n:Array Oper}{c:List Oper}{o:Oper}{a:Act}{Q:Exit->Act->World->Prop}(p:o.guard=none)(s x:Operand)(t:TypeId)(r:o.op=.call { callee:=.builtin .append,args:=#[s,x],argTypes:=#[t,t] })(b e:Nat)(z:P.underlying t=some (.slice e))(f:(P.info? e).map (λi=>(i.zero,i.size,i.bytes))=some (some (.int .u8 0),1,1))(v u:Value)(y:a.eval s=v)(B:a.eval x=u)(l m:List Int)(j:w.ownsRow b e 1 v l.length (l.map (Value.int .u8)))(A:Sl w u m)(g:l.length+m.length<=140737488355328)(d:b<=w.heap.size)(h:∀ v' w',w'.ownsRow b e 1 v' (l++m).length ((l++m).map (Value.int .u8))->w.grownBy w' v.ownBlock->wpList P n Q c (a.put o.dst v') w'):wpList P n Q (o::c) a w:=by
 refine wpList_plain p λK q=>?_;obtain⟨v',w',k,C,D⟩:=H4 (P:=P) w b t o.type e z f v l j u m A g d;unfold Oper.wp execOp;simp only[r,resolve,invoke,builtin,Sem.run_bind,Sem.run_pure,Result.andThen_ok,pV,nO,oN,y,B,k];exact q _ _ (h v' w' C D)
theorem Sl.take{a:Option Addr}(h:Sl w (.slice a n cap) l)(m:Nat)(s:m<=l.length):Sl w (.slice a m cap) (l.take m):=by
 obtain⟨⟨q,d,e,r,o,f⟩,k,c⟩:=h;simp only[Value.slice.injEq]at e;obtain⟨rfl,rfl,rfl⟩:=e;have j:(l.take m).length=m:=by rw[j'];omega
 refine⟨⟨a,cap,by rw[j],by omega,o,?_⟩,by omega,λx p=>c x (nm p)⟩;rcases f with rfl|⟨b,off,rfl,hb,hcell⟩
 .exact .inl (by simp)
 .refine .inr ⟨b,off,rfl,hb,λi g=>?_⟩;rw[hcell i (by omega),AQ (by omega),AQ g];simp
theorem Sl.drop{b off:Nat}(h:Sl w (.slice (some ⟨b,off,none⟩) n cap) l)(k:Nat)(s:k<=l.length)(a:Nat)(g:l.length<=a+k):Sl w (.slice (some ⟨b,off+k,none⟩) (l.length-k) a) (l.drop k):=by
 obtain⟨⟨q,d,e,r,t,f⟩,o,c⟩:=h;simp only[Value.slice.injEq]at e;obtain⟨rfl,rfl,rfl⟩:=e;have m:(l.drop k).length=l.length-k:=by rw[nc]
 refine⟨⟨_,a,by rw[m],by omega,by simp,?_⟩,by omega,λx p=>c x (oP p)⟩;rcases f with rfl|⟨b,off,e,hb,hcell⟩
 .exact .inl (by simp)
 .simp only[Z',Addr.mk.injEq,and_true]at e;obtain⟨rfl,rfl⟩:=e;refine .inr ⟨_,_,rfl,hb,λi j=>?_⟩;rw[oh,hcell (k+i) (by omega),AQ (by omega),AQ j];simp
theorem EC(h:w.ownsRow base e 1 v l.length (l.map (Value.int .u8)))(c:l≠[]) :
  ∃ g cap,v=.slice (some ⟨g,0,none⟩) l.length cap/\base<=g/\g<w.heap.size/\l.length<=cap/\(∀ i,i<l.length->w.cell? ⟨g,i,none⟩=some (.int .u8 (l.getD i 0)))/\(∀ i,w.frozen? ⟨g,i,none⟩=false):=by
 rcases h.2 with⟨rfl,h0⟩|⟨g,cap,cur,rfl,hb,hg,hn,_,hcs,ht⟩
 .exact absurd (Y' h0) c
 .refine⟨g,cap,rfl,hb,(U'.1 hg).1,hn,λi b=>?_,λi=>?_⟩
  .have hc:=h.cells (g:=g) rfl i (.int .u8 (l.getD i 0)) (by simp[List.getElem?_eq_getElem b,List.getD]);have a:(⟨g,0,none⟩:Addr).add i=⟨g,i,none⟩:=by unfold Addr.add;split<;>simp_all
   rwa [a]at hc
  .simp[World.frozen?,hg]
theorem Sl.built(w:World)(l:List Int)(e:TypeId){g:Nat}(b:g=w.heap.size)(d:l.length<=140737488351232)(a:∀ x∈l,0<=x/\x<256):Sl (w.alloc (.cells (l.map (Value.int .u8)).toArray e)) (.slice (some ⟨g,0,none⟩) l.length l.length) l:=by
 subst b;refine⟨⟨_,l.length,rfl,by simp,by simp,.inr ⟨w.heap.size,0,rfl,by simp,λi c=>?_⟩⟩,d,a⟩;rw[cell_of_row _ _ (0+i) _ _ _ (heap_alloc_new w _)];simp[List.getElem?_eq_getElem c,List.getD]
theorem Sl.one(w:World)(b:Int)(e:TypeId){g:Nat}(c:g=w.heap.size)(a:0<=b/\b<256):Sl (w.alloc (.cells #[.int .u8 b] e)) (.slice (some ⟨g,0,none⟩) 1 1) [b]:=by
 subst c;refine⟨⟨_,1,rfl,by simp,by simp,.inr ⟨w.heap.size,0,rfl,by simp,λi d=>?_⟩⟩,by simp,by simpa using a⟩;obtain rfl:i=0:=by simpa using d
 simp
theorem Ay{a b:Bool}(h:a=b):Ending.returned (.bool a)=.returned (.bool b):=by rw[h]
theorem Ar{B:Nat}{a:World}(h:Below B a w)(n:Nat):Below B a (w.drewN n):=h.trans ⟨rfl,rfl,rfl,A' _,λ_ _=>rfl⟩
end
end
section
open Go.RowKit
section
def Zk:Value->Nat
 | .slice _ n _=>n
 | _=>0
variable{P:Program}{base n:Nat}{l:List Int}{v:Value}{w:World}{x y:Int}{xs:List Value}
theorem ES{e:Nat}(h:w.ownsRow base e 1 v n xs):∃ a cap,v=.slice a n cap:=by
 rcases h.2 with⟨rfl,rfl⟩|⟨g,cap,cur,rfl,_⟩
 .exact⟨none,0,rfl⟩
 .exact⟨_,cap,rfl⟩
theorem BL{a:Nat}{e:TypeId}{b:Nat}(h:w.ownsRow base e b v n xs)(c:a<=base):w.ownsRow a e b v n xs:=by
 refine⟨h.1,?_⟩;rcases h.2 with h2|⟨g,cap,cur,hv,hg,hr⟩
 .exact .inl h2
 .exact .inr ⟨g,cap,cur,hv,mS c hg,hr⟩
theorem Mx(l:List Int)(j:Nat):l++List.replicate j 0++[0]=l++List.replicate (j+1) 0:=by
 rw[mY,<- List.replicate_succ']
theorem Sl.shape(h:Sl w v l):∃ a cap,v=.slice a l.length cap:=by
 obtain⟨⟨a,cap,e,_⟩,_⟩:=h;exact⟨a,cap,e⟩
def Ba(l:List Int):Array Value:=(l.map (Value.int .u8)).toArray
theorem AI(l:List Int):(Ba l).size=l.length:=by simp[Ba]
theorem Lq(l:List Int):(Ba l).all (·.oneCell')=true:=by simp[Ba,Value.oneCell']
theorem E5(l:List Int)(i:Nat)(h:i<l.length):(Ba l)[i]?=some (.int .u8 (l.getD i 0)):=by
 simp[Ba,List.getD,List.getElem?_eq_getElem h]
theorem XG(l:List Int)(i:Nat)(x:Int):(Ba l).setIfInBounds i (.int .u8 x)=Ba (l.set i x):=by
 apply rG;simp[Ba,List.map_set]
def uw(x:BitVec 32):Int:=(x.toNat:Int)
theorem El(x:BitVec 32):0<=uw x:=Int.natCast_nonneg _
theorem bO(x:BitVec 32):uw x<4294967296:=by unfold uw;have:=x.isLt;omega
theorem Uh{x y:BitVec 32}:uw x=uw y↔x=y:=by
 unfold uw;constructor
 .intro h;exact BitVec.eq_of_toNat_eq (by omega)
 .rintro rfl;rfl
theorem Na(x y:BitVec 32):bits .and .u32 (uw x) (uw y)=uw (x &&& y):=by
 unfold uw;rw[u32_and_nat _ _ x.isLt y.isLt,BitVec.toNat_and]
theorem K5(x y:BitVec 32):bits .or .u32 (uw x) (uw y)=uw (x ||| y):=by
 unfold uw;rw[u32_or_nat _ _ x.isLt y.isLt,rT]
theorem DJ(x y:BitVec 32):bits .xor .u32 (uw x) (uw y)=uw (x ^^^ y):=by
 unfold uw;rw[u32_xor_nat _ _ x.isLt y.isLt,BitVec.toNat_xor]
theorem mP(x y:BitVec 32):IntKind.u32.wrap (uw x+uw y)=uw (x+y):=by
 unfold uw;rw[IntKind.wrap_u32',rK];omega
theorem D3(a b:BitVec 32):(uw a+uw b)%(4294967296:Int)=uw (a+b):=by
 unfold uw;rw[rK];omega
theorem fJ(a b c:BitVec 32):(uw a+uw b+uw c)%(4294967296:Int)=uw (a+b+c):=by
 rw[<- D3,<- D3];omega
theorem Vs(a b c d:BitVec 32):(uw a+uw b+uw c+uw d)%(4294967296:Int)=uw (a+b+c+d):=by
 rw[<- D3,<- fJ];omega
theorem GQ(x:BitVec 32)(k:Nat):uw x*(2:Int)^k%(4294967296:Int)=uw (x <<< k):=by
 unfold uw;rw[BitVec.toNat_shiftLeft,Nat.shiftLeft_eq,rL,ri,pN];rfl
theorem PP(x:BitVec 32)(k:Nat):uw x/(2:Int)^k=uw (x >>> k):=by
 unfold uw;rw[BitVec.toNat_ushiftRight,Nat.shiftRight_eq_div_pow,Int.natCast_ediv,pN];rfl
theorem fI(x:BitVec 32):uw x/(8:Int)=uw (x >>> 3):=PP x 3
theorem bQ(x:BitVec 32):uw x/(1024:Int)=uw (x >>> 10):=PP x 10
theorem jC(x:BitVec 32)(n:Nat)(a:1<=n)(b:n<=31):bits .or .u32 (uw x*2^(32-n)%4294967296) (uw x/2^(32-(32-n)))=uw (x.rotateRight n):=by
 rw[GQ,PP,K5,Uh];rw[show 32-(32-n)=n by omega,BitVec.rotateRight_def,qP (by omega:n<32),BitVec.or_comm]
def F1(n:Nat):Nat:=(119-n%64)%64
def CR(n:Nat):List Int:=[((n*8/2^56%256:Nat):Int),((n*8/2^48%256:Nat):Int),((n*8/2^40%256:Nat):Int),((n*8/2^32%256:Nat):Int),
 ((n*8/2^24%256:Nat):Int),((n*8/2^16%256:Nat):Int),((n*8/2^8%256:Nat):Int),((n*8/2^0%256:Nat):Int)]
def CS(l:List Int)(j:Nat):List Int:=l++[128]++List.replicate j 0
def pad(l:List Int):List Int:=CS l (F1 l.length)++CR l.length
theorem D0(l:List Int)(j:Nat):(CS l j).length=l.length+1+j:=by simp[CS];omega
theorem T4(l:List Int)(j:Nat):CS l j++[0]=CS l (j+1):=by
 simp only[CS,mY];rw[<- List.replicate_succ']
theorem KG(n:Nat):(CR n).length=8:=rfl
theorem T5(l:List Int):(pad l).length%64=0/\l.length<(pad l).length/\(pad l).length<=l.length+72:=by
 unfold pad;rw[G',D0,KG];unfold F1;omega
theorem T3(h:∀ x∈l,0<=x/\x<256)(j:Nat):∀ x∈CS l j,0<=x/\x<256:=by
 intro x a;simp only[CS,P',D',qd]at a;rcases a with(a|rfl)|⟨_,rfl⟩
 .exact h x a
 .omega
 .omega
theorem Ny(n:Nat):∀ x∈CR n,0<=x/\x<256:=by
 intro x a;simp only[CR,mZ,Q',or_false]at a;rcases a with rfl|rfl|rfl|rfl|rfl|rfl|rfl|rfl<;>omega
theorem ZS(h:∀ x∈l,0<=x/\x<256):∀ x∈pad l,0<=x/\x<256:=by
 intro x a;rcases P'.1 a with h1|h1
 .exact T3 h _ x h1
 .exact Ny _ x h1
theorem Ps(n s:Nat):((n*8/2^s%256:Nat):Int)=(n:Int)*8/2^s%256:=by
 rw[rL,Int.natCast_ediv,ri,pN];rfl
theorem NA(n k:Nat)(a:k<8):(CR n).take (k+1)=(CR n).take k++[(n:Int)*8/2^(56-8*k)%256]:=by
 rw[<- Ps];obtain rfl|rfl|rfl|rfl|rfl|rfl|rfl|rfl:k=0\/k=1\/k=2\/k=3\/k=4\/k=5\/k=6\/k=7:=by omega
 all_goals rfl
def AB(ws:List (BitVec 32)):Array Value:=(ws.map λx=>Value.int .u32 (uw x)).toArray
theorem Bm(a:List (BitVec 32)):(AB a).size=a.length:=by simp[AB]
theorem BY(a:List (BitVec 32))(i:Nat)(h:i<a.length):(AB a)[i]?=some (.int .u32 (uw (a.getD i 0#32))):=by
 simp[AB,List.getD,List.getElem?_eq_getElem h]
theorem Nd(a:List (BitVec 32))(i:Nat)(x:BitVec 32):(AB a).setIfInBounds i (.int .u32 (uw x))=AB (a.set i x):=by
 apply rG;simp[AB,List.map_set]
def CI(n:Int):BitVec 32:=BitVec.ofNat 32 n.toNat
def Ul(l:List Int)(i:Nat):BitVec 32:=CI (l.getD (4*i) 0) <<< 24 ||| CI (l.getD (4*i+1) 0) <<< 16 ||| CI (l.getD (4*i+2) 0) <<< 8 ||| CI (l.getD (4*i+3) 0)
def jw(x:BitVec 32):BitVec 32:=x.rotateRight 7 ^^^ x.rotateRight 18 ^^^ x >>> 3
def jx(x:BitVec 32):BitVec 32:=x.rotateRight 17 ^^^ x.rotateRight 19 ^^^ x >>> 10
def KN(l:List Int):Nat->List (BitVec 32)
 | 0=>List.replicate 64 0#32
 | k+1=>(KN l k).set k (Ul l k)
def ZD(ws:List (BitVec 32))(i:Nat):BitVec 32:=ws.getD (i-16) 0#32+jw (ws.getD (i-15) 0#32)+ws.getD (i-7) 0#32+jx (ws.getD (i-2) 0#32)
def Gi(l:List Int):Nat->List (BitVec 32)
 | 0=>KN l 16
 | k+1=>(Gi l k).set (16+k) (ZD (Gi l k) (16+k))
def OF(l:List Int):List (BitVec 32):=Gi l 48
theorem GH(l:List Int)(k:Nat):(KN l k).length=64:=by
 induction k with
 | zero=>simp[KN]
 | succ k ih=>simp[KN,ih]
theorem EV(l:List Int)(k:Nat):(Gi l k).length=64:=by
 induction k with
 | zero=>exact GH l 16
 | succ k ih=>simp[Gi,ih]
theorem PE(l:List Int):(OF l).length=64:=EV l 48
theorem Lh(n:Int)(h:0<=n/\n<256):uw (CI n)=n:=by
 unfold uw CI;rw[rz];omega
def SW:List Int:=[1116352408,1899447441,3049323471,3921009573,961987163,1508970993,2453635748,2870763221,3624381080,310598401,607225278,1426881987,1925078388,2162078206,2614888103,3248222580,3835390401,4022224774,264347078,604807628,770255983,1249150122,1555081692,1996064986,2554220882,2821834349,2952996808,3210313671,3336571891,3584528711,113926993,338241895,666307205,773529912,1294757372,1396182291,1695183700,1986661051,2177026350,2456956037,2730485921,2820302411,3259730800,3345764771,3516065817,3600352804,4094571909,275423344,430227734,506948616,659060556,883997877,958139571,1322822218,1537002063,1747873779,1955562222,2024104815,2227730452,2361852424,2428436474,2756734187,3204031479,3329325298]
def kAt(i:Nat):BitVec 32:=BitVec.ofNat 32 (SW.getD i 0).toNat
structure St where
 a:BitVec 32
 b:BitVec 32
 c:BitVec 32
 d:BitVec 32
 e:BitVec 32
 f:BitVec 32
 g:BitVec 32
 h:BitVec 32
def St.cells(s:St):Array Value:=#[.int .u32 (uw s.a),.int .u32 (uw s.b),.int .u32 (uw s.c),.int .u32 (uw s.d),.int .u32 (uw s.e),.int .u32 (uw s.f),.int .u32 (uw s.g),.int .u32 (uw s.h)]
def St.list(s:St):List (BitVec 32):=[s.a,s.b,s.c,s.d,s.e,s.f,s.g,s.h]
def Sb(e f g:BitVec 32):BitVec 32:=(e &&& f) ^^^ (~~~e &&& g)
def iM(a b c:BitVec 32):BitVec 32:=(a &&& b) ^^^ (a &&& c) ^^^ (b &&& c)
def jY(e:BitVec 32):BitVec 32:=e.rotateRight 6 ^^^ e.rotateRight 11 ^^^ e.rotateRight 25
def jX(a:BitVec 32):BitVec 32:=a.rotateRight 2 ^^^ a.rotateRight 13 ^^^ a.rotateRight 22
def upS(s:St)(k w:BitVec 32):BitVec 32:=s.h+jY s.e+Sb s.e s.f s.g+k+w
def gb(s:St):BitVec 32:=jX s.a+iM s.a s.b s.c
def aV(s:St)(k w:BitVec 32):St:={ a:=upS s k w+gb s,b:=s.a,c:=s.b,d:=s.c,e:=s.d+upS s k w,f:=s.e,g:=s.f,h:=s.g }
def BO(ws:List (BitVec 32))(s:St):Nat->St
 | 0=>s
 | k+1=>aV (BO ws s k) (kAt k) (ws.getD k 0#32)
def mt(s t:St):St:={ a:=s.a+t.a,b:=s.b+t.b,c:=s.c+t.c,d:=s.d+t.d,e:=s.e+t.e,f:=s.f+t.f,g:=s.g+t.g,h:=s.h+t.h }
def E4(s t:St):Nat->List (BitVec 32)
 | 0=>s.list
 | i+1=>(E4 s t i).set i ((E4 s t i).getD i 0#32+t.list.getD i 0#32)
theorem F6(s t:St)(i:Nat):(E4 s t i).length=8:=by
 induction i with
 | zero=>rfl
 | succ i ih=>simp[E4,ih]
def Zw(s:St)(ws:List (BitVec 32)):St:=mt s (BO ws s 64)
def start:St:={ a:=1779033703#32,b:=3144134277#32,c:=1013904242#32,d:=2773480762#32,e:=1359893119#32,f:=2600822924#32,g:=528734635#32,h:=1541459225#32 }
def F7(x:BitVec 32):List Int:=[uw x/16777216%256,uw x/65536%256,uw x/256%256,uw x%256]
def CM:List (BitVec 32)->List Int
 | []=>[]
 | x::r=>F7 x++CM r
def Pa(s:St):List Int:=CM s.list
theorem Kb(x:BitVec 32):∀ n∈F7 x,0<=n/\n<256:=by
 intro n a;simp only[F7,mZ,Q',or_false]at a;rcases a with rfl|rfl|rfl|rfl<;>omega
theorem Qa(l:List (BitVec 32)):∀ n∈CM l,0<=n/\n<256:=by
 induction l with
 | nil=>intro n a;cases a
 | cons x r ih =>
  intro n a;rcases P'.1 a with h|h
  .exact Kb x n h
  .exact ih n h
theorem Qb(l:List (BitVec 32))(x:BitVec 32):CM (l++[x])=CM l++F7 x:=by
 induction l with
 | nil=>simp[CM]
 | cons y r ih=>simp[CM,ih]
theorem Hv(l:List (BitVec 32)):(CM l).length=4*l.length:=by
 induction l with
 | nil=>rfl
 | cons x r ih=>simp[CM,F7,ih];omega
def Pf(l:List Int):Nat->St
 | 0=>start
 | k+1=>Zw (Pf l k) (OF ((l.drop (64*k)).take 64))
def dig(l:List Int):List Int:=Pa (Pf (pad l) ((pad l).length/64))
theorem At(l:List Int):(dig l).length=32:=rfl
theorem Dv(l:List Int):∀ n∈dig l,0<=n/\n<256:=Qa _
def Nx(s:List (BitVec 32))(a b:Nat):List (BitVec 32):=s.set a (s.getD a 0#32+s.getD b 0#32)
def i6(s:List (BitVec 32))(a t n:Nat):List (BitVec 32):=s.set t ((s.getD t 0#32 ^^^ s.getD a 0#32).rotateLeft n)
def Kg(s:List (BitVec 32))(a b t n:Nat):List (BitVec 32):=i6 (Nx s a b) a t n
def Mr(s:List (BitVec 32))(a b c d:Nat):List (BitVec 32):=Kg (Kg (Kg (Kg s a b d 16) c d b 12) a b d 8) c d b 7
theorem Kf(s:List (BitVec 32))(a b:Nat):(Nx s a b).length=s.length:=by simp[Nx]
theorem Q9(s:List (BitVec 32))(a t n:Nat):(i6 s a t n).length=s.length:=by simp[i6]
theorem Ce(s:List (BitVec 32))(a b t n:Nat):(Kg s a b t n).length=s.length:=by rw[Kg,Q9,Kf]
theorem ND(s:List (BitVec 32))(a b c d:Nat):(Mr s a b c d).length=s.length:=by simp only[Mr,Ce]
def Ft:List Nat:=[0,4,8,12,1,5,9,13,2,6,10,14,3,7,11,15,0,5,10,15,1,6,11,12,2,7,8,13,3,4,9,14]
def H6(s:List (BitVec 32)):Nat->List (BitVec 32)
 | 0=>s
 | k+1=>Mr (H6 s k) (Ft.getD (4*k) 0) (Ft.getD (4*k+1) 0) (Ft.getD (4*k+2) 0) (Ft.getD (4*k+3) 0)
def Ee(s:List (BitVec 32)):Nat->List (BitVec 32)
 | 0=>s
 | k+1=>H6 (Ee s k) 8
theorem Jo(s:List (BitVec 32))(k:Nat):(H6 s k).length=s.length:=by
 induction k with
 | zero=>rfl
 | succ k ih=>rw[H6,ND,ih]
theorem H7(s:List (BitVec 32))(k:Nat):(Ee s k).length=s.length:=by
 induction k with
 | zero=>rfl
 | succ k ih=>rw[Ee,Jo,ih]
theorem Lc(i:Nat):Ft.getD i 0<16:=by
 have all:∀ j:Fin 32,Ft.getD j.val 0<16:=by decide
 rcases nU i 32 with h|h
 .exact all ⟨i,h⟩
 .rw[List.getD,oW (by simpa[Ft]using h)];decide
def Lu(x:BitVec 32):List Int:=[uw x%256,uw x/256%256,uw x/65536%256,uw x/16777216%256]
def gN(s t:List (BitVec 32))(i:Nat):BitVec 32:=s.getD i 0#32+t.getD i 0#32
def Tu(s t:List (BitVec 32)):Nat->List Int
 | 0=>[]
 | k+1=>Tu s t k++Lu (gN s t k)
theorem G4(s t:List (BitVec 32))(k:Nat):(Tu s t k).length=4*k:=by
 induction k with
 | zero=>rfl
 | succ k ih=>simp[Tu,Lu,ih];omega
theorem Qc(x:BitVec 32):∀ n∈Lu x,0<=n/\n<256:=by
 intro n a;simp only[Lu,mZ,Q',or_false]at a;rcases a with rfl|rfl|rfl|rfl<;>omega
theorem WF(s t:List (BitVec 32))(k:Nat):∀ n∈Tu s t k,0<=n/\n<256:=by
 induction k with
 | zero=>intro n a;cases a
 | succ k ih =>
  intro n a;rcases P'.1 a with h|h
  .exact ih n h
  .exact Qc _ n h
def CL(s:List (BitVec 32)):List Int:=Tu (Ee s 10) s 16
theorem EY(s:List (BitVec 32)):(CL s).length=64:=G4 _ _ _
theorem Gn(s:List (BitVec 32)):∀ n∈CL s,0<=n/\n<256:=WF _ _ _
def ce(l:List Int)(i:Nat):BitVec 32:=CI (l.getD (4*i) 0) ||| CI (l.getD (4*i+1) 0) <<< 8 ||| CI (l.getD (4*i+2) 0) <<< 16 ||| CI (l.getD (4*i+3) 0) <<< 24
def Ei(s:List (BitVec 32))(off:Nat)(l:List Int):Nat->List (BitVec 32)
 | 0=>s
 | k+1=>(Ei s off l k).set (off+k) (ce l k)
theorem Et(s:List (BitVec 32))(a:Nat)(l:List Int)(k:Nat):(Ei s a l k).length=s.length:=by
 induction k with
 | zero=>rfl
 | succ k ih=>simp[Ei,ih]
def Ik:List (BitVec 32):=[1634760805#32,857760878#32,2036477234#32,1797285236#32,0#32,0#32,0#32,0#32,0#32,0#32,0#32,0#32,0#32,0#32,0#32,0#32]
def Cc(key:List Int)(c:BitVec 32)(nonce:List Int):List (BitVec 32):=Ei ((Ei Ik 4 key 8).set 12 c) 13 nonce 3
theorem Hu(key:List Int)(c:BitVec 32)(a:List Int):(Cc key c a).length=16:=by
 simp[Cc,Et,Ik]
def bx(x y:Int):Int:=((x.toNat ^^^ y.toNat:Nat):Int)
theorem OZ(a:0<=x/\x<256)(b:0<=y/\y<256):0<=bx x y/\bx x y<256:=by
 unfold bx;have:x.toNat ^^^ y.toNat<2^8:=qe (by omega) (by omega);omega
theorem jZ(a:0<=y):bx x (bx x y)=y:=by
 unfold bx;rw[nE,<- Nat.xor_assoc,Nat.xor_self,Nat.zero_xor];omega
def MI(s:List (BitVec 32))(i:Nat):Int:=(CL (s.set 12 (s.getD 12 0#32+BitVec.ofNat 32 (i/64)))).getD (i%64) 0
theorem Ua(s:List (BitVec 32))(i:Nat):0<=MI s i/\MI s i<256:=Ak (Gn _) _
def CJ(s:List (BitVec 32))(d:List Int):Nat->List Int
 | 0=>[]
 | k+1=>CJ s d k++[bx (MI s k) (d.getD k 0)]
def KH(s:List (BitVec 32))(d:List Int):List Int:=CJ s d d.length
theorem Dx(s:List (BitVec 32))(d:List Int)(k:Nat):(CJ s d k).length=k:=by
 induction k with
 | zero=>rfl
 | succ k ih=>simp[CJ,ih]
theorem Di(s:List (BitVec 32))(d:List Int):(KH s d).length=d.length:=Dx _ _ _
theorem Th(s:List (BitVec 32)){d:List Int}(b:∀ x∈d,0<=x/\x<256)(k:Nat):∀ n∈CJ s d k,0<=n/\n<256:=by
 induction k with
 | zero=>intro n a;cases a
 | succ k ih =>
  intro n a;rcases P'.1 a with h|h
  .exact ih n h
  .obtain rfl:n=_:=by simpa using h
   exact OZ (Ua _ _) (Ak b k)
theorem J9(s:List (BitVec 32)){d:List Int}(a:∀ x∈d,0<=x/\x<256):∀ n∈KH s d,0<=n/\n<256:=Th s a _
theorem QK(s:List (BitVec 32))(d:List Int)(k i:Nat)(a:i<k):(CJ s d k).getD i 0=bx (MI s i) (d.getD i 0):=by
 induction k with
 | zero=>omega
 | succ k ih =>
  rw[CJ];rcases nU i k with h|h
  .rw[<- ih h];simp[List.getD,List.getElem?_append_left (show i<(CJ s d k).length by rw[Dx];exact h)]
  .obtain rfl:i=k:=by omega
   simp[List.getD,Dx]
theorem Zo{m:List Int}(c:l.length=m.length)(h:∀ i,i<l.length->l.getD i 0=m.getD i 0):l=m:=by
 refine pI c λi a b=>?_;have:=h i a
 rwa [AQ a,AQ b]at this
theorem Wv(s:List (BitVec 32)){d:List Int}(b:∀ x∈d,0<=x/\x<256):KH s (KH s d)=d:=by
 refine Zo (by rw[Di,Di]) λi a=>?_;rw[Di,Di]at a
 rw[KH,QK _ _ _ _ (by rw[Di];exact a),KH,QK _ _ _ _ a,jZ (Ak b i).1]
theorem C6{c:Array Oper}{Q:Act->Prop}:∀ (l:List Oper) (a:Act),wpQuiet P c (λw'=>w'=w) Q l a->wpStill P c w Q l a
 | [],_,h=>h
 | o::rest,a,h=>by
  unfold wpQuiet at h;unfold wpStill;split
  .rename_i hw
   rw[if_pos hw]at h
   obtain⟨v,h1,h2⟩:=h;have b:=h1 w rfl;unfold Oper.quietAt at b;unfold Oper.still;generalize (execOp a.eval o).run P w=r at b ⊢;cases r with
   | ok n w' =>
    cases n<;>simp only[Oper.quietUpon]at b<;>simp only[Oper.stillUpon]
    case value u =>
     obtain⟨d,e⟩:=b;rw[e];exact⟨d,C6 rest _ h2⟩
    case skip =>
     obtain⟨d,e⟩:=b;rw[<- e];exact⟨d,C6 rest _ h2⟩
    case enter f args=>exact⟨b.1,v,b.2,C6 rest _ h2⟩
   | halt x w'=>simp only[Oper.quietUpon]at b
  .rename_i hw
   rw[if_neg hw]at h
   exact C6 rest _ h
theorem Av{d:Nat}{Q:Exit->Act->World->Prop}{a:Act}{l:List Oper}(n:Nat)(c:P.follows .mixedOrders=true)(b:Region.lexTailB .any l.toArray n=true)(h:wpQuiet P l.toArray (λw'=>w'=w.drew) (λa'=>wpList P l.toArray Q (l.drop n) a' w.drew) (l.take n) a):(Code.region d l.toArray true).wp P Q a w :=
 wp_region_still_tail n c b (C6 _ _ h)
theorem ar{a b:Int}(h:a=b):Ending.returned (.int .u32 a)=.returned (.int .u32 b):=by rw[h]
theorem gR(n:Nat)(a:n<=31):bits .and .u64 (n:Int) 31=(n:Int):=by
 rw[show(31:Int)=((31:Nat):Int)from rfl,u64_and_nat _ _ (by omega) (by omega),nat_mask5];omega
theorem fH(x:BitVec 32)(n:Nat)(a:1<=n)(b:n<=31):bits .or .u32 (uw x*2^n%4294967296) (uw x/2^(32-n))=uw (x.rotateLeft n):=by
 rw[GQ,PP,K5,Uh];rw[BitVec.rotateLeft_def,qP (by omega:n<32)]
theorem aE(x:BitVec 32)(n:Nat)(w:World)(b:1<=n)(a:n<=31) :
  Calls prog 176 #[.int .u32 (uw x),.int .i64 (n:Int)] w λe w'=>e=.returned (.int .u32 (uw (x.rotateLeft n)))/\w'=w:=by
 have c:=El x;have d:=bO x;have f:=gR n a;go_enter func176,ntmps176
 go_wp2
 go_ret;exact⟨ar (fH x n b a),rfl⟩
theorem eT(v:Int)(x:BitVec 32)(c:v=uw x)(n:Nat)(w:World)(a:1<=n)(b:n<=31) :
  Calls prog 176 #[.int .u32 v,.int .i64 (n:Int)] w λe w'=>e=.returned (.int .u32 (uw (x.rotateLeft n)))/\w'=w:=by
 subst c;exact aE x n w a b
theorem Fu{g:Nat}{a:List (BitVec 32)}(h:w.heap[g]?=some (.cells (AB a) 203 (0,0)))(k:Nat)(x:BitVec 32) :
  (w.setCell ⟨g,k,none⟩ (.int .u32 (uw x))).heap[g]?=some (.cells (AB (a.set k x)) 203 (0,0)):=by
 rw[heap_setCell_same _ _ _ _ _ _ h,Nd]
theorem I9(g:Nat)(c:List (BitVec 32))(w:World)(i:w.heap[g]?=some (.cells (AB c) 203 (0,0)))(r:c.length=16)(a b t n:Nat)(D:a<16)(E:b<16)(F:t<16)(A:1<=n)(B:n<=31) :
  Calls prog 200 #[.pointer (some ⟨g,0,none⟩),.int .i64 a,.int .i64 b,.int .i64 t,.int .i64 n] w λe w'=>e=.returned (.tuple #[])/\w'.heap[g]?=some (.cells (AB (Kg c a b t n)) 203 (0,0))/\Below g w w':=by
 have l:=(cell_of_row w _ a _ _ _ i).trans (BY c a (by omega));have q:=(cell_of_row w _ b _ _ _ i).trans (BY c b (by omega));have z:=frozen_of_row w _ a _ _ i;have k:Hid (Nx c a b=c.set a (c.getD a 0#32+c.getD b 0#32)):=rfl;have o:Hid _:=i;have m:Hid (c.length=16):=r;clear i r;generalize c.getD a 0#32=x at l k;generalize c.getD b 0#32=y at q k;go_enter func200,ntmps200
 go_wp2_with fail
 refine Av 13 (by kernel_rfl) (by kernel_rfl) ?_;simp only[oB,oI,oL,pm]
 repeat (go_big_quiet_step (fail))
 refine wpQuiet_nil ?_;go_wp2_with fail
 rw[D3];generalize d:(w.setCell _ _).drew=W1;have f:W1.heap[g]?=some (.cells (AB (Nx c a b)) 203 (0,0)):=by rw[<- d,k.out];exact Fu o.out a _
 have u:Below g w W1:=by rw[<- d];exact((Below.refl g w).setCell (p:=⟨g,a,none⟩) (A' _) _).drew
 have h:(Nx c a b).length=16:=by rw[Kf];exact m.out
 have j:Hid (Kg c a b t n=(Nx c a b).set t (((Nx c a b).getD t 0#32 ^^^ (Nx c a b).getD a 0#32).rotateLeft n)):=rfl;clear d k o m l q z;generalize Nx c a b=vs at f h j;have l:=(cell_of_row W1 _ a _ _ _ f).trans (BY vs a (by omega));have v:=(cell_of_row W1 _ t _ _ _ f).trans (BY vs t (by omega));have C:=frozen_of_row W1 _ t _ _ f;generalize vs.getD a 0#32=x2 at l j;generalize vs.getD t 0#32=y2 at v j;have s:Hid _:=f;clear f h;refine Av 17 (by kernel_rfl) (by kernel_rfl) ?_;simp only[oB,oI,oL,pm]
 repeat (go_big_quiet_step (fail))
 go_big_quiet_want
 go_big_quiet_op
 refine⟨_,eT _ (y2 ^^^ x2) (DJ y2 x2) n _ A B,?_⟩
 go_big_quiet_on
 repeat (go_big_quiet_step (fail))
 refine wpQuiet_nil ?_;go_wp2
 go_end0
 refine⟨rfl,?_,u.trans (((Below.refl g W1).setCell (p:=⟨g,t,none⟩) (A' _) _).drew)⟩;rw[j.out];exact Fu (w:=W1.drew) s.out t _
theorem Rl(g:Nat)(j:List (BitVec 32))(w:World)(q:w.heap[g]?=some (.cells (AB j) 203 (0,0)))(i:j.length=16)(a b c d:Nat)(k:a<16)(f:b<16)(l:c<16)(h:d<16) :
  Calls prog 177 #[.pointer (some ⟨g,0,none⟩),.int .i64 a,.int .i64 b,.int .i64 c,.int .i64 d] w λe w'=>e=.returned (.tuple #[])/\w'.heap[g]?=some (.cells (AB (Mr j a b c d)) 203 (0,0))/\Below g w w':=by
 go_enter func177,ntmps177
 go_wp2_with fail
 refine(I9 g j w q i a b d 16 k f h (by omega) (by omega)).mono ?_;rintro e v ⟨rfl,r,m⟩;go_wp2_with fail
 refine(I9 g _ v r (by rw[Ce];exact i) c d b 12 l h f (by omega) (by omega)).mono ?_;rintro e x ⟨rfl,s,n⟩;go_wp2_with fail
 refine(I9 g _ x s (by rw[Ce,Ce];exact i) a b d 8 k f h (by omega) (by omega)).mono ?_;rintro e y ⟨rfl,t,o⟩;go_wp2_with fail
 refine(I9 g _ y t (by rw[Ce,Ce,Ce];exact i) c d b 7 l h f (by omega) (by omega)).mono ?_;rintro e z ⟨rfl,u,p⟩;go_wp2
 go_end0
 exact⟨rfl,u,((m.trans n).trans o).trans p⟩
end
end
section
theorem Ax:(prog.info? 5).map (λi=>(i.zero,i.size,i.bytes))=some (some (.int .u8 0),1,1):=by kernel_rfl
end
section
open Go.RowKit
section
theorem JN(x:BitVec 32)(h:uw x<256):uw x*16777216=uw (x <<< 24)/\uw x*65536=uw (x <<< 16)/\uw x*256=uw (x <<< 8):=by
 have d:=El x;have b:=GQ x 24;have a:=GQ x 16;have c:=GQ x 8;rw[<- b,<- a,<- c];refine⟨?_,?_,?_⟩
 .rw[show(2:Int)^24=16777216 from rfl];omega
 .rw[show(2:Int)^16=65536 from rfl];omega
 .rw[show(2:Int)^8=256 from rfl];omega
theorem Hz(g d n B:Nat)(r:List (BitVec 32))(v:Value)(l:List Int)(w:World)(J:w.heap[g]?=some (.cells (AB r) 203 (0,0)))(a0:r.length=16)(I:d+n<=16)(Z:0<n)(h:Sl w v l)(C:l.length=4*n)(t:∀ b o m c,v=.slice (some ⟨b,o,none⟩) m c->b<g) :
  Calls prog 150 #[.slice (some ⟨g,d,none⟩) n B,v] w λe w'=>e=.returned (.tuple #[])/\w'.heap[g]?=some (.cells (AB (Ei r d l n)) 203 (0,0))/\Below g w w':=by
 obtain⟨⟨a,E,rfl,U,Y,T⟩,D,j⟩:=h;rcases T with rfl|⟨b,o,rfl,hb,hcell⟩
 .simp at C;omega
 have q:=t _ _ _ _ rfl;clear t;rw[C]at U D hcell ⊢
 have x:Hid (∀ i,i<4*n->w.cell? ⟨b,o+i,none⟩=some (.int .u8 (uw (CI (l.getD i 0))))):=λi W=>by rw[Lh _ (Ak j i)];exact hcell i W
 have u:Hid (∀ i,uw (CI (l.getD i 0))<256):=λi=>by rw[Lh _ (Ak j i)];exact(Ak j i).2
 clear C Y hcell j;go_enter func150,ntmps150
 go_wp2_with fail
 go_loopw [7] (λi wr=>∃ k:Nat,k<=n/\i=.int .i64 k/\wr.heap[g]?=some (.cells (AB (Ei r d l k)) 203 (0,0))/\Below g w wr) (λi _=>n-(intOf i).toNat)
 case atStart=>exact⟨0,by omega,rfl,J,Below.refl _ _⟩
 case round =>
  clear J;obtain⟨k,hk,rfl,z,f⟩:=hrel;by_cases X:k<n
  .have hfw:wr.frozen? ⟨g,d+k,none⟩=false:=frozen_of_row wr _ (d+k) _ _ z;have K:=BY (Ei r d l k) (d+k) (by rw[Et];omega);have V:wr.cell? ⟨g,d+k,none⟩=some (.int .u32 (uw ((Ei r d l k).getD (d+k) 0#32))):=(cell_of_row wr _ (d+k) _ _ _ z).trans K;have P:=(f.cell (p:=⟨b,o+(4*k),none⟩) q).trans (x.out (4*k) (by omega));have Q:=(f.cell (p:=⟨b,o+(4*k+1),none⟩) q).trans (x.out (4*k+1) (by omega));have R:=(f.cell (p:=⟨b,o+(4*k+2),none⟩) q).trans (x.out (4*k+2) (by omega));have S:=(f.cell (p:=⟨b,o+(4*k+3),none⟩) q).trans (x.out (4*k+3) (by omega));have l0:=u.out (4*k);have L:=u.out (4*k+1);have M:=u.out (4*k+2);have N:=u.out (4*k+3);obtain⟨A,s,O⟩:∃ A,Hid (A=ce l k)/\Hid (Ei r d l (k+1)=(Ei r d l k).set (d+k) A):=⟨_,rfl,rfl⟩;unfold ce at s;generalize CI (l.getD (4*k) 0)=x0 at P l0 s;generalize CI (l.getD (4*k+1) 0)=x1 at Q L s;generalize CI (l.getD (4*k+2) 0)=x2 at R M s;generalize CI (l.getD (4*k+3) 0)=x3 at S N s;obtain⟨y1,s1,F⟩:∃ y,uw x1*256=uw y/\x1 <<< 8=y:=⟨_,(JN x1 L).2.2,rfl⟩;obtain⟨y2,s2,G⟩:∃ y,uw x2*65536=uw y/\x2 <<< 16=y:=⟨_,(JN x2 M).2.1,rfl⟩;obtain⟨y3,s3,H⟩:∃ y,uw x3*16777216=uw y/\x3 <<< 24=y:=⟨_,(JN x3 N).1,rfl⟩;rw[F,G,H]at s
   clear F G H;have z0:=El x0;have z1:=El x1;have z2:=El x2;have z3:=El x3;clear K;go_wp2_with fail
   refine Av 36 (by kernel_rfl) (by kernel_rfl) ?_;simp only[oB,oI,oL,pm]
   repeat (go_big_quiet_step (fail))
   refine wpQuiet_nil ?_;go_wp2
   rw[K5,K5,K5,<- s.out];go_roundw
   case rel=>exact⟨k+1,by omega,by go_num,by rw[O.out];exact Fu z (d+k) A,(f.setCell (p:=⟨g,d+k,none⟩) (A' _) _).drew⟩
   case measure=>simp[intOf];omega
  .have HK:Hid (k=n):=by unfold Hid;omega
   go_wp2
   go_end0
   exact⟨rfl,by rw[<- HK.out];exact z,f⟩
variable{B base cap e g i j k n:Nat}{P:Program}{Q:Exit->Act->World->Prop}{a:Act}{c o x y:Int}{fr:Nat × Nat}{key l m nonce r:List Int}{ops:Array Oper}{t:TypeId}{v:Value}{w w':World}{xs:List Value}
theorem CU{a:World}(h:Below B a w){g:Nat}(c:B<=g)(b:Array Value):Below B a (w.setRow g b) :=
 h.trans ⟨rfl,rfl,rfl,by simp,λk d=>setRow_other w g k b (by omega)⟩
theorem NT(G H:Value)(key d:List Int)(c:Nat)(w:World)(U:Sl w G key)(V:Sl w H d)(lk:key.length=32)(W:d.length=12)(Y:c<=2000000000) :
  Calls prog 117 #[G,.int .i64 c,H] w λe w'=>e=.returned (.agg (AB (Cc key (BitVec.ofNat 32 c) d)))/\Bw w w':=by
 have S:∀ b o m c,G=.slice (some ⟨b,o,none⟩) m c->b<w.heap.size:=by
  intro b o m c e;obtain⟨⟨a,N,rfl,_,_,O⟩,_,_⟩:=U;rcases O with rfl|⟨b',off',e',hb,_⟩
  .simp at lk
  .rw[e']at e
   simp only[Value.slice.injEq,Z',Addr.mk.injEq,and_true]at e;omega
 have T:∀ b o m c,H=.slice (some ⟨b,o,none⟩) m c->b<w.heap.size:=by
  intro b o m c e;obtain⟨⟨a,N,rfl,_,_,O⟩,_,_⟩:=V;rcases O with rfl|⟨b',off',e',hb,_⟩
  .simp at W
  .rw[e']at e
   simp only[Value.slice.injEq,Z',Addr.mk.injEq,and_true]at e;omega
 go_enter func117,ntmps117
 go_wp2_with fail
 generalize g:(w.alloc _).alloc _=W0;have D:W0.heap[w.heap.size+1]?=some (.cells (AB Ik) 203 (0,0)):=by rw[<- g];exact heap_alloc2_new _ _ _
 have z:W0.heap[w.heap.size]?=some (.cells (AB (List.replicate 16 0#32)) 203 (0,0)):=by rw[<- g];exact heap_alloc2_old _ _ _
 have l:Bw w W0:=by rw[<- g];exact((Below.refl _ _).alloc (A' _) _).alloc (by simp) _
 clear g;refine(Hz (w.heap.size+1) 4 8 12 Ik G key W0 D rfl (by omega) (by omega) (U.af l) lk (λb o m c e=>Nat.lt_succ_of_lt (S b o m c e))).mono ?_;rintro e I ⟨rfl,f,n⟩;have A:=(n.block w.heap.size (by omega)).trans z;have u:Bw w I:=l.trans (n.mono (by omega));have r:(Ei Ik 4 key 8).length=16:=by rw[Et];rfl
 have L:Hid (Cc key (BitVec.ofNat 32 c) d=Ei ((Ei Ik 4 key 8).set 12 (BitVec.ofNat 32 c)) 13 d 3):=rfl;have x:(c:Int)=uw (BitVec.ofNat 32 c):=by unfold uw;rw[rz,qP (by omega)]
 have J:Hid ((c:Int)=uw (BitVec.ofNat 32 c)):=x;clear D z l n x;generalize Ei Ik 4 key 8=vs at f r L;have Q:=(cell_of_row I _ 12 _ _ _ f).trans (BY vs 12 (by omega));have R:=frozen_of_row I _ 12 _ _ f;go_wp2_with fail
 rw[J.out];generalize j:BitVec.ofNat 32 c=cw at L ⊢;have K:Hid (BitVec.ofNat 32 c=cw):=j;clear j;generalize h:I.setCell _ _=W2;have E:W2.heap[w.heap.size+1]?=some (.cells (AB (vs.set 12 cw)) 203 (0,0)):=by rw[<- h];exact Fu f 12 cw
 have B:W2.heap[w.heap.size]?=some (.cells (AB (List.replicate 16 0#32)) 203 (0,0)):=by rw[<- h];exact(heap_setCell_other _ _ _ _ (by simp)).trans A
 have k:Bw w W2:=by rw[<- h];exact u.setCell (p:=⟨w.heap.size+1,12,none⟩) (by simp) _
 clear h f A u Q R;refine(Hz (w.heap.size+1) 13 3 3 (vs.set 12 cw) H d W2 E (by simpa using r) (by omega) (by omega) (V.af k) W (λb o m c e=>Nat.lt_succ_of_lt (T b o m c e))).mono ?_;rintro e X ⟨rfl,s,q⟩;have C:=(q.block w.heap.size (by omega)).trans B;have P:Bw w X:=k.trans (q.mono (by omega));have i:(Ei (vs.set 12 cw) 13 d 3).length=16:=by rw[Et];simpa using r
 clear E B k q;rw[<- L.out]at s i
 generalize F:Cc key cw d=us at s i;have M:Hid (Cc key cw d=us):=F;clear F;have t:(prog.info? 203).map (·.size)=some (AB us).size:=by rw[Bm,i];kernel_rfl
 have y:(AB us).all (·.oneCell')=true:=by simp[AB,Value.oneCell']
 go_wp2_with (first|(refine wpList_load_row rfl 203 _ rfl (w.heap.size+1) rfl 203 _ (0,0) _ s underlying203 rfl t ?_)|(refine wpList_store_row rfl 203 _ _ rfl w.heap.size _ rfl rfl 203 _ C t (by rw[Bm,Bm,i];rfl) y ?_))
 refine bodyPost_ret (v:=.agg (AB us)) (results_cell_row rfl _ _ w.heap.size 203 _ (0,0) _ rfl (setRow_heap X w.heap.size _ _ 203 _ C) underlying203 rfl t) rfl ⟨by rw[K.out,M.out],CU P (A' _) _⟩
def WO:Array Value:=(Ft.map λ(n:Nat)=>Value.int .i64 (n:Int)).toArray
def Dq(w:World):Prop:=∃ t fr,w.heap[4]?=some (.cells WO t fr)
theorem Dq.af(h:Dq w){B:Nat}(b:4<B)(c:Below B w w'):Dq w':=by
 obtain⟨t,a,h⟩:=h;exact⟨t,a,(c.block _ b).trans h⟩
theorem Dq.pos(h:Dq w):4<w.heap.size:=by
 obtain⟨t,a,h⟩:=h;exact(U'.1 h).1
theorem i8(j:Nat)(a:j<8):∀ w,(Instr.index 263 (.agg WO) (.int .i64 (j:Int))).run prog w=.ok (.agg #[.int .i64 ((Ft.getD (4*j) 0:Nat):Int),.int .i64 ((Ft.getD (4*j+1) 0:Nat):Int),.int .i64 ((Ft.getD (4*j+2) 0:Nat):Int),.int .i64 ((Ft.getD (4*j+3) 0:Nat):Int)]) w:=by
 intro w;obtain rfl|rfl|rfl|rfl|rfl|rfl|rfl|rfl:j=0\/j=1\/j=2\/j=3\/j=4\/j=5\/j=6\/j=7:=by omega
 all_goals kernel_rfl
theorem mO(w:World)(a b c:Obj){W:World}(h:((w.alloc a).alloc b).alloc c=W) :
  W.heap[w.heap.size]?=some a/\W.heap[w.heap.size+1]?=some b/\W.heap[w.heap.size+1+1]?=some c/\W.heap.size=w.heap.size+3/\Bw w W:=by
 subst h;refine⟨?_,?_,?_,by simp,(((Below.refl _ _).alloc (A' _) _).alloc (by simp) _).alloc (by simp;omega) _⟩
 .rw[heap_alloc_old _ _ (by simp;omega)];exact heap_alloc2_old w a b
 .rw[heap_alloc_old _ _ (by simp)];exact heap_alloc2_new w a b
 .have:=heap_alloc_new ((w.alloc a).alloc b) c;simpa using this
theorem iE:∀ (S:List (BitVec 32)),S.length=16->∃ s0 s1 s2 s3 s4 s5 s6 s7 s8 s9 s10 s11 s12 s13 s14 s15,S=[s0,s1,s2,s3,s4,s5,s6,s7,s8,s9,s10,s11,s12,s13,s14,s15]
 | [s0,s1,s2,s3,s4,s5,s6,s7,s8,s9,s10,s11,s12,s13,s14,s15],_=>⟨s0,s1,s2,s3,s4,s5,s6,s7,s8,s9,s10,s11,s12,s13,s14,s15,rfl⟩
theorem dI(S:List (BitVec 32))(a:S.length=16)(j:Nat)(h:j<16):∀ w,(Instr.index 203 (.agg (AB S)) (.int .i64 (j:Int))).run prog w=.ok (.int .u32 (uw (S.getD j 0#32))) w:=by
 intro w;obtain⟨s0,i,k,s3,l,m,n,o,p,q,b,c,d,e,f,g,rfl⟩:=iE S a;obtain rfl|rfl|rfl|rfl|rfl|rfl|rfl|rfl|rfl|rfl|rfl|rfl|rfl|rfl|rfl|rfl:j=0\/j=1\/j=2\/j=3\/j=4\/j=5\/j=6\/j=7\/j=8\/j=9\/j=10\/j=11\/j=12\/j=13\/j=14\/j=15:=by omega
 all_goals kernel_rfl
theorem Dp{l:List Oper}(h:wpList P ops Q l a w):wpList P ops Q l a w:=h
theorem Gb(w:World)(b c a:Obj):(((w.alloc b).alloc c).alloc a).heap[w.heap.size+1+1]?=some a:=by
 have:=heap_alloc_new ((w.alloc b).alloc c) a;simpa using this
theorem R0(w:World)(a b e:Obj)(d c:Array Value)(t:TypeId)(f:e=.cells c t (0,0)){W:World}(h:(((w.alloc a).alloc b).alloc e).setRow (w.heap.size+1+1) d=W) :
  W.heap[w.heap.size]?=some a/\W.heap[w.heap.size+1]?=some b/\W.heap[w.heap.size+1+1]?=some (.cells d t (0,0))/\W.heap.size=w.heap.size+3/\Bw w W:=by
 subst h;subst f;have g:=Gb w a b (.cells c t (0,0));refine⟨?_,?_,setRow_heap _ _ _ _ t _ g,by simp,CU ((((Below.refl _ _).alloc (A' _) _).alloc (by simp) _).alloc (by simp;omega) _) (by omega) _⟩
 .rw[setRow_other _ _ _ _ (by omega),heap_alloc_old _ _ (by simp;omega)];exact heap_alloc2_old w a b
 .rw[setRow_other _ _ _ _ (by omega),heap_alloc_old _ _ (by simp)];exact heap_alloc2_new w a b
theorem mH(A:List Int)(n:Nat)(f g h i a b c d:Int)(R:List Int)(e:A.length=n):((((A++f::g::h::i::R).set n a).set (n+1) b).set (n+2) c).set (n+3) d=A++[a,b,c,d]++R:=by
 subst e;rw[pj _ _ (A' _),pj _ _ (by omega),pj _ _ (by omega),pj _ _ (by omega)];simp
theorem KW(h:w.heap[g]?=some (.cells (Ba l) t (0,0)))(k:Nat)(x:Int) :
  (w.setCell ⟨g,k,none⟩ (.int .u8 x)).heap[g]?=some (.cells (Ba (l.set k x)) t (0,0)):=by
 rw[heap_setCell_same _ _ _ _ _ _ h,XG]
theorem LR(w:World)(G k:Nat)(h:k≠G)(a b c d:Nat)(x y z u:Value):((((w.setCell ⟨G,a,none⟩ x).setCell ⟨G,b,none⟩ y).setCell ⟨G,c,none⟩ z).setCell ⟨G,d,none⟩ u).heap[k]?=w.heap[k]?:=by
 rw[heap_setCell_other _ _ _ _ (by simpa using h),heap_setCell_other _ _ _ _ (by simpa using h),heap_setCell_other _ _ _ _ (by simpa using h),heap_setCell_other _ _ _ _ (by simpa using h)]
def ED(s t:List (BitVec 32))(j:Nat):List Int:=Tu s t j++List.replicate (64-4*j) 0
theorem IP(s t:List (BitVec 32))(j:Nat)(a:j<=16):(ED s t j).length=64:=by
 rw[ED,G',G4,oO];omega
theorem T7(s t:List (BitVec 32))(j:Nat)(b:j<16)(x:BitVec 32)(a:gN s t j=x):((((ED s t j).set (4*j) (uw x%256)).set (4*j+1) (uw x/256%256)).set (4*j+2) (uw x/65536%256)).set (4*j+3) (uw x/16777216%256)=ED s t (j+1):=by
 have e:List.replicate (64-4*j) (0:Int)=0::0::0::0::List.replicate (64-4*(j+1)) 0:=by
  rw[show 64-4*j=64-4*(j+1)+1+1+1+1 by omega];rfl
 rw[ED,e,mH _ _ _ _ _ _ _ _ _ _ _ (G4 s t j),ED,Tu,Lu,a]
theorem H5(b:List (BitVec 32))(w:World)(s:b.length=16)(ht:Dq w) :
  Calls prog 149 #[.agg (AB b)] w λe w'=>e=.returned (.agg (Ba (CL b)))/\Bw w w':=by
 have P:=ht.pos;have f:(prog.info? 203).map (·.size)=some (AB b).size:=by rw[Bm,s];kernel_rfl
 have h:(AB b).all (·.oneCell')=true:=by simp[AB,Value.oneCell']
 go_enter func149,ntmps149
 go_wp2_with ((with_reducible (refine Dp ?_));first
  | (refine wpList_load_row rfl 203 _ rfl w.heap.size rfl 203 _ (0,0) _ (heap_alloc2_old _ _ _) underlying203 rfl f ?_)
  | (refine wpList_store_row rfl 203 _ _ rfl (w.heap.size+1+1) _ rfl rfl 203 (AB (List.replicate 16 0#32)) (Gb _ _ _ _) f (by rw[Bm,Bm,s];rfl) h ?_))
 generalize L:World.setRow _ _ _=W0;obtain⟨E,q,g,a1,A⟩:=R0 w _ _ _ _ (AB (List.replicate 16 0#32)) 203 rfl L;clear L;have q:W0.heap[w.heap.size+1]?=some (.cells (Ba (List.replicate 64 0)) 151 (0,0)):=q;have Q:Dq W0:=ht.af P A
 go_loopw [10] (λi wr=>∃ k:Nat,k<=10/\i=.int .i64 k/\wr.heap[w.heap.size+1+1]?=some (.cells (AB (Ee b k)) 203 (0,0))/\Below (w.heap.size+1+1) W0 wr) (λi _=>10-(intOf i).toNat)
 case atStart=>exact⟨0,by omega,rfl,g,Below.refl _ _⟩
 case round =>
  clear g;obtain⟨k,hk,rfl,g,a⟩:=hrel;by_cases a0:k<10
  .obtain⟨tq,frq,hq⟩:=Q.af (by omega) a;have o:(k:Int)<10:=by omega
   have n:=i8;have y:(prog.info? 263).map (·.size)=some WO.size:=by kernel_rfl
   generalize WO=qa at hq y n;have HT:Hid (Ee b (k+1)=H6 (Ee b k) 8):=rfl;have l:(Ee b k).length=16:=by rw[H7];exact s
   generalize Ee b k=S at HT g l;go_wp2_with ((with_reducible (refine Dp ?_));refine wpList_load_row rfl 263 (.global 4) rfl 4 rfl tq _ frq _ hq underlying263 rfl y ?_)
   clear hq
   go_loopw [13] (λi wr=>∃ j:Nat,j<=8/\i=.int .i64 j/\wr.heap[w.heap.size+1+1]?=some (.cells (AB (H6 S j)) 203 (0,0))/\Below (w.heap.size+1+1) W0 wr) (λi _=>8-(intOf i).toNat)
   case atStart=>exact⟨0,by omega,rfl,g,a⟩
   case round =>
    clear g a;obtain⟨j,Y,rfl,g,a⟩:=hrel;have B:=a.size;by_cases Z:j<8
    .have d:=n j Z;have N:(j:Int)<8:=by omega
     have D:Hid (H6 S (j+1)=Mr (H6 S j) (Ft.getD (4*j) 0) (Ft.getD (4*j+1) 0) (Ft.getD (4*j+2) 0) (Ft.getD (4*j+3) 0)):=rfl;have l0:=Lc (4*j);have l1:=Lc (4*j+1);have l2:=Lc (4*j+2);have l3:=Lc (4*j+3);have O:(H6 S j).length=16:=by rw[Jo];exact l
     generalize Ft.getD (4*j) 0=q0 at d D l0;generalize Ft.getD (4*j+1) 0=q1 at d D l1;generalize Ft.getD (4*j+2) 0=q2 at d D l2;generalize Ft.getD (4*j+3) 0=q3 at d D l3;generalize H6 S j=X at D g O;clear n;go_wp2_with fail
     refine(Rl (w.heap.size+1+1) X _ ((heap_alloc_old _ _ (by omega)).trans g) O q0 q1 q2 q3 l0 l1 l2 l3).mono ?_;rintro e w1 ⟨rfl,V,M⟩;have W:Below (w.heap.size+1+1) W0 w1:=(a.alloc (by omega) _).trans M;clear g a M B d;go_wp2
     go_roundw
     case rel=>exact⟨j+1,by omega,by go_num,by rw[D.out];exact V,W⟩
     case measure=>simp[intOf];omega
    .have HJ:Hid (j=8):=by unfold Hid;omega
     have N:¬ (j:Int)<8:=by omega
     go_wp2
     go_roundw
     case rel=>exact⟨k+1,by omega,by go_num,by rw[HT.out,<- HJ.out];exact g,a⟩
     case measure=>simp[intOf];omega
  .have HK:Hid (k=10):=by unfold Hid;omega
   have o:¬ (k:Int)<10:=by omega
   have HB:Hid (k=10->CL b=ED (Ee b k) b 16):=by rintro rfl;simp[CL,ED]
   have l:(Ee b k).length=16:=by rw[H7];exact s
   generalize Ee b k=S at HB g l;have B:=a.size;have H:=(a.block w.heap.size (by omega)).trans E;have J:=(a.block (w.heap.size+1) (by omega)).trans q;have z:Bw w wr:=A.trans (a.mono (by omega));have u:(prog.info? 203).map (·.size)=some (AB S).size:=by rw[Bm,l];kernel_rfl
   clear E q A a Q;go_wp2_with ((with_reducible (refine Dp ?_));refine wpList_load_row rfl 203 _ rfl (w.heap.size+1+1) rfl 203 _ (0,0) _ ((heap_alloc_old _ _ (by omega)).trans g) underlying203 rfl u ?_)
   have U:w.heap.size+1<wr.heap.size:=by omega
   generalize m:wr.alloc _=W1;have c:W1.heap[wr.heap.size]?=some (.cells (Ba (ED S b 0)) 151 (0,0)):=by rw[<- m];exact heap_alloc_new _ _
   have I:W1.heap[w.heap.size]?=some (.cells (AB b) 203 (0,0)):=by rw[<- m];exact(heap_alloc_old _ _ (by omega)).trans H
   have K:W1.heap[w.heap.size+1]?=some (.cells (Ba (List.replicate 64 0)) 151 (0,0)):=by rw[<- m];exact(heap_alloc_old _ _ (by omega)).trans J
   have F:Bw w W1:=by rw[<- m];exact z.alloc z.size _
   clear m H J z B g ht f u h o;generalize wr.heap.size=G at c U ⊢
   go_loopw [28] (λi wr=>∃ j:Nat,j<=16/\i=.int .i64 j/\wr.heap[G]?=some (.cells (Ba (ED S b j)) 151 (0,0))/\wr.heap[w.heap.size]?=some (.cells (AB b) 203 (0,0))/\wr.heap[w.heap.size+1]?=some (.cells (Ba (List.replicate 64 0)) 151 (0,0))/\Bw w wr) (λi _=>16-(intOf i).toNat)
   case atStart=>exact⟨0,by omega,rfl,c,I,K,F⟩
   case round =>
    clear c I K F;obtain⟨j,Y,rfl,c,E,q,a⟩:=hrel;by_cases t:j<16
    .have C:(j:Int)<16:=by omega
     have d:=dI S l j t;have cf:=(cell_of_row wr _ j _ _ _ E).trans (BY b j (by omega));have r:=IP S b j Y;have c0:=(cell_of_row wr _ (4*j) _ _ _ c).trans (E5 _ (4*j) (by omega));have c1:=(cell_of_row wr _ (4*j+1) _ _ _ c).trans (E5 _ (4*j+1) (by omega));have c2:=(cell_of_row wr _ (4*j+2) _ _ _ c).trans (E5 _ (4*j+2) (by omega));have c3:=(cell_of_row wr _ (4*j+3) _ _ _ c).trans (E5 _ (4*j+3) (by omega));have f0:=frozen_of_row wr _ (4*j) _ _ c;have f1:=frozen_of_row wr _ (4*j+1) _ _ c;have f2:=frozen_of_row wr _ (4*j+2) _ _ c;have f3:=frozen_of_row wr _ (4*j+3) _ _ c;obtain⟨x,hx,HX⟩:∃ x,(uw (S.getD j 0#32)+uw (b.getD j 0#32))%(4294967296:Int)=uw x/\Hid (gN S b j=x):=⟨_,D3 _ _,rfl⟩;generalize S.getD j 0#32=xa at d hx;generalize b.getD j 0#32=xb at cf hx;have nx:=El x;have HN:Hid _:=c;have HF:Hid _:=E;have HR:Hid _:=q;have R:Hid _:=a;have T:Hid (((((ED S b j).set (4*j) (uw x%256)).set (4*j+1) (uw x/256%256)).set (4*j+2) (uw x/65536%256)).set (4*j+3) (uw x/16777216)=ED S b (j+1)):=by
      have h1:=T7 S b j t x HX.out;rw[show uw x/16777216%256=uw x/16777216 by have:=bO x;omega]at h1
      exact h1
     clear c E q a r;go_wp2
     go_roundw
     case rel=>exact⟨j+1,by omega,by go_num,by rw[<- T.out];exact KW (KW (KW (KW HN.out _ _) _ _) _ _) _ _,(LR wr G _ (by omega) _ _ _ _ _ _ _ _).trans HF.out,(LR wr G _ (by omega) _ _ _ _ _ _ _ _).trans HR.out,
       (((R.out.setCell (p:=⟨G,_,none⟩) (by simp;omega) _).setCell (p:=⟨G,_,none⟩) (by simp;omega) _).setCell (p:=⟨G,_,none⟩) (by simp;omega) _).setCell (p:=⟨G,_,none⟩) (by simp;omega) _⟩
     case measure=>simp[intOf];omega
    .have HJ:Hid (j=16):=by unfold Hid;omega
     have C:¬ (j:Int)<16:=by omega
     have r:=IP S b j Y;have f:(prog.info? 151).map (·.size)=some (Ba (ED S b j)).size:=by rw[AI,r];kernel_rfl
     have h:(Ba (ED S b j)).all (·.oneCell')=true:=by simp[Ba,Value.oneCell']
     go_wp2_with ((with_reducible (refine Dp ?_));first|(refine wpList_load_row rfl 151 _ rfl G rfl 151 _ (0,0) _ c underlying151 rfl f ?_)|(refine wpList_store_row rfl 151 _ _ rfl (w.heap.size+1) _ rfl rfl 151 _ q f (by rw[AI,AI,r];rfl) h ?_))
     refine bodyPost_ret (v:=.agg (Ba (ED S b j))) (results_cell_row rfl _ _ (w.heap.size+1) 151 _ (0,0) _ rfl (setRow_heap wr _ _ _ 151 _ q) underlying151 rfl f) rfl ⟨?_,CU a (by omega) _⟩;rw[HB.out HK.out,HJ.out]
def E7(key nonce:List Int)(c:Int):Int:=if key.length≠32\/nonce.length≠12 then 1 else if c<0\/1073741824<c then 2 else 0
theorem Qf(h:key.length≠32\/nonce.length≠12):E7 key nonce c=1:=by unfold E7;rw[if_pos h]
theorem Pb(a:key.length=32)(b:nonce.length=12)(h:c<0\/1073741824<c):E7 key nonce c=2:=by unfold E7;rw[if_neg (by omega),if_pos h]
theorem Jw(a:key.length=32)(b:nonce.length=12)(h:0<=c/\c<=1073741824):E7 key nonce c=0:=by unfold E7;rw[if_neg (by omega),if_neg (by omega)]
theorem Kx(g h:Value)(key a:List Int)(c:Int)(w:World)(i:Sl w g key)(j:Sl w h a) :
  Calls prog 115 #[g,.int .i64 c,h] w λe w'=>e=.returned (.int .i64 (E7 key a c))/\w'=w:=by
 obtain⟨⟨k,o,rfl,_,_,_⟩,lk,_⟩:=i;obtain⟨⟨l,p,rfl,_,_,_⟩,r,_⟩:=j;have b:Hid (key.length≠32\/a.length≠12->E7 key a c=1):=Qf;have d:Hid (key.length=32->a.length=12->(c<0\/1073741824<c)->E7 key a c=2):=Pb;have f:Hid (key.length=32->a.length=12->(0<=c/\c<=1073741824)->E7 key a c=0):=Jw;generalize E7 key a c=E at b d f ⊢;generalize key.length=n at *;generalize a.length=m at *;go_enter func115,ntmps115
 by_cases q:(n:Int)=32
 .by_cases h2:(m:Int)=12
  .by_cases h3:c<0
   .go_wp2
    go_ret;exact⟨by rw[d.out (by omega) (by omega) (by omega)];rfl,rfl⟩
   .by_cases h4:1073741824<c
    .go_wp2
     go_ret;exact⟨by rw[d.out (by omega) (by omega) (by omega)];rfl,rfl⟩
    .go_wp2
     go_ret;exact⟨by rw[f.out (by omega) (by omega) (by omega)];rfl,rfl⟩
  .go_wp2
   go_ret;exact⟨by rw[b.out (by omega)];rfl,rfl⟩
 .go_wp2
  go_ret;exact⟨by rw[b.out (by omega)];rfl,rfl⟩
theorem Jv(w:World)(l:List Int)(o:Obj)(t:TypeId)(a:Array Value)(c:o=.cells a t (0,0)){W:World}(b:(w.alloc o).setRow w.heap.size (Ba l)=W) :
  W.heap[w.heap.size]?=some (.cells (Ba l) t (0,0))/\Bw w W/\W.heap.size=w.heap.size+1:=by
 subst b;subst c;exact⟨setRow_heap _ _ _ _ t _ (heap_alloc_new _ _),CU ((Below.refl _ _).alloc (A' _) _) (A' _) _,by simp⟩
theorem Sl.ofRow(h:w.heap[g]?=some (.cells (Ba l) t fr))(c:l.length<=140737488351232)(a:∀ x∈l,0<=x/\x<256):Sl w (.slice (some ⟨g,0,none⟩) l.length l.length) l:=by
 refine⟨⟨_,l.length,rfl,by simp,by simp,.inr ⟨g,0,rfl,(U'.1 h).1,λi b=>?_⟩⟩,c,a⟩;rw[nM];exact(cell_of_row w _ i _ _ _ h).trans (E5 l i b)
structure Got(w w':World)(v:Value)(l:List Int):Prop where
 sl:Sl w' v l
 tL:Bw w w'
 new:∀ b o n c,v=.slice (some ⟨b,o,none⟩) n c->w.heap.size<=b
theorem XL(k l:Value)(key a:List Int)(c:Nat)(w:World)(t:Sl w k key)(v:Sl w l a)(lk:key.length=32)(y:a.length=12)(E:c<=1073741824)(x:Dq w) :
  Calls prog 118 #[k,.int .i64 c,l] w λe w'=>∃ v',e=.returned (.tuple #[v',.int .i64 0])/\Got w w' v' (CL (Cc key (BitVec.ofNat 32 c) a)):=by
 go_enter func118,ntmps118
 go_wp2_with fail
 refine(Kx k l key a c w t v).mono ?_;rintro e C ⟨rfl,rfl⟩;rw[Jw lk y (by omega)];go_wp2_with fail
 refine(NT k l key a c C t v lk y (by omega)).mono ?_;rintro e D ⟨rfl,f⟩;have u:=Hu key (BitVec.ofNat 32 c) a;generalize j:Cc key (BitVec.ofNat 32 c) a=us at u;have p:Hid (Cc key (BitVec.ofNat 32 c) a=us):=j;clear j;go_wp2_with fail
 refine(H5 us D u (x.af x.pos f)).mono ?_;rintro e z ⟨rfl,q⟩;have d:=EY us;have g:=Gn us;generalize h:CL us=bs at d g;have m:Hid (CL us=bs):=h;clear h;have s:(prog.info? 151).map (·.size)=some (Ba bs).size:=by rw[AI,d];kernel_rfl
 have i:(Ba bs).all (·.oneCell')=true:=by simp[Ba,Value.oneCell']
 go_wp2_with ((with_reducible (refine Dp ?_));refine wpList_store_row rfl 151 _ _ rfl z.heap.size _ rfl rfl 151 (Ba (List.replicate 64 0)) (heap_alloc_new _ _) s (by rw[AI,AI,d];rfl) i ?_)
 generalize r:World.setRow _ _ _=W4;obtain⟨B,A,_⟩:=Jv z bs _ 151 (Ba (List.replicate 64 0)) rfl r
 go_ret2
 refine⟨_,rfl,?_,(f.trans (q.mono f.size)).trans (A.mono (mS f.size q.size)),λb o n c e=>?_⟩
 .rw[p.out,m.out];have:=Sl.ofRow B (by omega) g;rw[d]at this
  exact this
 .have:=mS f.size q.size;injection e with e1
  injection e1 with e2
  injection e2 with e3
  omega
theorem Ut(c:0<=x/\x<256)(d:0<=y/\y<256):bits .xor .u8 x y=bx x y:=by
 obtain⟨a,rfl⟩:∃ a:Nat,x=a:=⟨x.toNat,by omega⟩;obtain⟨b,rfl⟩:∃ b:Nat,y=b:=⟨y.toNat,by omega⟩;rw[u8_xor_nat _ _ (by omega) (by omega)];rfl
theorem JF(h:w.ownsRow base e 1 v n xs){g:Nat}{c:Array Value}{t:TypeId}{d:Nat × Nat}(a:w.heap[g]?=some (.cells c t d))(f:t≠e):v.ownBlock≠some g:=by
 intro b;rcases h.2 with⟨rfl,_⟩|⟨g',cap,cur,rfl,_,hg',_⟩
 .simp[Value.ownBlock]at b
 .simp only[Value.ownBlock,Z']at b;subst b;rw[hg']at a
  simp only[Z',Obj.cells.injEq]at a;exact f a.2.1.symm
theorem Fr(h:w.ownsRow base e 1 v n xs)(a:∀ k,v.ownBlock=some k->w'.heap[k]?=w.heap[k]?):w'.ownsRow base e 1 v n xs:=by
 refine⟨h.1,?_⟩;rcases h.2 with h2|⟨g,cap,cur,hv,hb,hg,hr⟩
 .exact .inl h2
 .exact .inr ⟨g,cap,cur,hv,hb,(a g (by rw[hv];rfl)).trans hg,hr⟩
theorem Sl.ue(w:World)(b a:Int)(e:TypeId){g:Nat}(f:g=w.heap.size)(c:0<=b/\b<256)(d:a=b):Sl (w.alloc (.cells #[.int .u8 a] e)) (.slice (some ⟨g,0,none⟩) 1 1) [b]:=by
 subst d;exact Sl.one w a e f c
theorem bP(x:BitVec 32):(uw x+1)%(4294967296:Int)=uw (x+1#32):=D3 x 1#32
theorem Ss(c:BitVec 32)(q:Nat):c+BitVec.ofNat 32 q+1#32=c+BitVec.ofNat 32 (q+1):=by
 rw[BitVec.add_assoc]
 congr 1
 apply BitVec.eq_of_toNat_eq;simp[BitVec.toNat_add,BitVec.toNat_ofNat]
def EZ(ws:List (BitVec 32))(q:Nat):List (BitVec 32):=ws.set 12 (ws.getD 12 0#32+BitVec.ofNat 32 q)
theorem Qi(a:List (BitVec 32))(q:Nat):(EZ a q).length=a.length:=by simp[EZ]
theorem VI(a:List (BitVec 32))(h:a.length=16):EZ a 0=a:=by
 unfold EZ;rw[show BitVec.ofNat 32 0=0#32 from rfl,BitVec.add_zero,List.getD,E' (by omega),qQ,List.set_getElem_self]
theorem cS(a:List (BitVec 32))(q:Nat)(h:a.length=16):(EZ a q).getD 12 0#32=a.getD 12 0#32+BitVec.ofNat 32 q:=by
 unfold EZ;simp[List.getD,h]
theorem VH(a:List (BitVec 32))(q:Nat)(h:a.length=16):(EZ a q).set 12 ((EZ a q).getD 12 0#32+1#32)=EZ a (q+1):=by
 rw[cS a q h,Ss];unfold EZ;rw[List.set_set]
theorem R2(a:List (BitVec 32))(q j:Nat)(b:j<64):MI a (64*q+j)=(CL (EZ a q)).getD j 0:=by
 unfold MI EZ;rw[show(64*q+j)/64=q by omega,show(64*q+j)%64=j by omega]
theorem Sg(f:List (BitVec 32))(vd:Value)(d:List Int)(w:World)(b9:f.length=16)(hd:Sl w vd d)(hl:d.length<=100000)(ht:Dq w) :
  Calls prog 116 #[.agg (AB f),vd] w λe w'=>∃ v',e=.returned v'/\w'.ownsRow w.heap.size 5 1 v' (KH f d).length ((KH f d).map (Value.int .u8))/\Bw w w':=by
 obtain⟨i0,hi,d1,d2,d3⟩:=info_parts Ax;have c4:=hd;obtain⟨⟨ad,d9,rfl,hc,hn,h1⟩,e3,c2⟩:=hd;have c9:=ht.pos;generalize c7:d.length=n at *;have HN:Hid (d.length=n):=c7;clear c7 h1 hn;go_enter func116,ntmps116
 go_wp2_with (at_make;refine wpList_make_own _ rfl _ _ 27 rfl w.heap.size 5 i0 (.int .u8 0) 1 underlying27 hi d1 d2 _ _ _ n rfl rfl (by omega) (by rw[d3];omega) (by unfold maxLen;omega) (by simp) ?_)
 intro w1 c8 b4;have b:w1.heap[w.heap.size]?=some (.cells (AB (EZ f 0)) 203 (0,0)):=by
  rw[b4.block w.heap.size (by simp) (by simp),VI f b9];exact heap_alloc_new _ _
 have c1:Bw w w1:=((Below.refl _ _).alloc (A' _) _).grown b4 (by simp) (by simp);have a1:w1.ownsRow w.heap.size 5 1 (.slice (some ⟨w.heap.size+1,0,none⟩) 0 n) (CJ f d 0).length ((CJ f d 0).map (Value.int .u8)):=c8;clear b4 c8 d1 d2 d3 hi;go_wp2_with fail
 go_loopw [5] (λv wr=>∃ (q m:Nat) (a:Option Addr) (z:Nat),m=min (64*q) n/\v=.slice a m z/\wr.ownsRow w.heap.size 5 1 v (CJ f d m).length ((CJ f d m).map (Value.int .u8))/\wr.heap[w.heap.size]?=some (.cells (AB (EZ f q)) 203 (0,0))/\Bw w wr) (λv _=>n-Zk v)
 case atStart=>exact⟨0,0,_,_,by omega,rfl,a1,b,c1⟩
 case round =>
  clear a1 b c1;obtain⟨q,m,a,z,hm,rfl,c,b,h⟩:=hrel;have HM:Hid (m=min (64*q) n):=hm;have e0:m<=n:=by omega
  clear hm;have H:w.heap.size<wr.heap.size:=(U'.1 b).1;by_cases c6:m<n
  .have hmni:(m:Int)<(n:Int):=by omega
   have M:Hid (m=64*q):=by have:=HM.out;unfold Hid;omega
   have b8:(EZ f q).length=16:=by rw[Qi];exact b9
   have Y:Hid (∀ j,j<64->MI f (m+j)=(CL (EZ f q)).getD j 0):=λj hj=>by rw[M.out];exact R2 f q j hj
   have a0:(prog.info? 203).map (·.size)=some (AB (EZ f q)).size:=by rw[Bm,b8];kernel_rfl
   have a6:Hid ((EZ f q).set 12 ((EZ f q).getD 12 0#32+1#32)=EZ f (q+1)):=VH f q b9;generalize EZ f q=us at b b8 Y a0 a6;go_wp2_with ((with_reducible (refine Dp ?_));refine wpList_load_row rfl 203 _ rfl w.heap.size rfl 203 _ (0,0) _ b underlying203 rfl a0 ?_)
   refine(H5 us wr b8 (ht.af c9 h)).mono ?_;rintro e w2 ⟨rfl,b2⟩;have Z:=EY us;have a9:=Gn us;generalize CL us=bs at Z a9 Y;have J:(prog.info? 151).map (·.size)=some (Ba bs).size:=by rw[AI,Z];kernel_rfl
   have I:(Ba bs).all (·.oneCell')=true:=by simp[Ba,Value.oneCell']
   have C:∀ k,Value.ownBlock (.slice a m z)=some k->k<wr.heap.size:=λk K=>(c.lt k K).2;by_cases e2:(64:Int)<=(n:Int)-(m:Int)
   .have a5:Hid (m+64=min (64*(q+1)) n):=by have:=M.out;unfold Hid;omega
    have d8:m+64<=n:=by omega
    have d0:64<=64:=by omega
    go_wp2_with ((with_reducible (refine Dp ?_));refine wpList_store_row rfl 151 _ _ rfl w2.heap.size _ rfl rfl 151 (Ba (List.replicate 64 0)) (heap_alloc_new _ _) J (by rw[AI,AI,Z];rfl) I ?_)
    generalize Q:World.setRow _ _ _=W3;obtain⟨F,b3,b7⟩:=Jv w2 bs _ 151 (Ba (List.replicate 64 0)) rfl Q;clear Q;have u:Bw wr W3:=b2.trans (b3.mono b2.size);have o:=(u.block w.heap.size H).trans b;have l:=Fr c (λk K=>u.block k (C k K));have R:Bw w W3:=h.trans (u.mono h.size);have b5:w.heap.size<w2.heap.size:=X' H b2.size;clear c b h b2 b3 u C b7 a0 J I c6 hmni;generalize w2.heap.size=g at F b5 ⊢
    go_loopw [5,27] (λv i wr=>∃ (j:Nat) (a:Option Addr) (z:Nat),j<=64/\i=.int .i64 j/\v=.slice a (m+j) z/\wr.ownsRow w.heap.size 5 1 v (CJ f d (m+j)).length ((CJ f d (m+j)).map (Value.int .u8))/\wr.heap[w.heap.size]?=some (.cells (AB us) 203 (0,0))/\wr.heap[g]?=some (.cells (Ba bs) 151 (0,0))/\Bw w wr) (λ_ i _=>64-(intOf i).toNat)
    case atStart=>exact⟨0,a,z,by omega,rfl,rfl,l,o,F,R⟩
    case round =>
     clear l o F R;obtain⟨j,a2,P,hj,rfl,rfl,c,b,U,h⟩:=hrel;by_cases d6:j<64
     .have hjri:(j:Int)<(64:Int):=by omega
      have V:=c.lt;have cb:=(cell_of_row wr _ j _ _ _ U).trans (E5 bs j (by omega));obtain⟨O,od,rfl,b0,S⟩:∃ O od,ad=some ⟨O,od,none⟩/\O<w.heap.size/\w.cell? ⟨O,od+(m+j),none⟩=some (.int .u8 (d.getD (m+j) 0)):=by
       obtain⟨⟨a',c0,e',_,_,A⟩,_,_⟩:=c4;rw[HN.out]at e' A
       simp only[Value.slice.injEq]at e';obtain⟨rfl,_,_⟩:=e';rcases A with A|⟨b',o',rfl,E,hc'⟩
       .have:=HN.out;rw[A]at this;simp at this;omega
       .exact⟨b',o',rfl,E,hc' (m+j) (by omega)⟩
      have cd:=(h.cell (p:=⟨O,od+(m+j),none⟩) b0).trans S;have y1:=Ak a9 j;have y2:=Ak c2 (m+j);have N:Hid (CJ f d (m+(j+1))=CJ f d (m+j)++[bx (bs.getD j 0) (d.getD (m+j) 0)]):=by
       unfold Hid;rw[<- Y.out j (by omega)];rfl
      have D:=Dx f d (m+j);have L:=OZ y1 y2;have t:Hid (bits .xor .u8 (bs.getD j 0) (d.getD (m+j) 0)=bx (bs.getD j 0) (d.getD (m+j) 0)):=Ut y1 y2;have s:Hid (0<=bx (bs.getD j 0) (d.getD (m+j) 0)/\bx (bs.getD j 0) (d.getD (m+j) 0)<256):=L;clear L S;generalize bs.getD j 0=x at cb y1 N t s;generalize d.getD (m+j) 0=y at cd y2 N t s;generalize bx x y=xy at N t s;generalize CJ f d (m+j)=pre at c D N;go_wp2_with (at_builtin;refine Aa _ rfl _ _ 27 rfl w.heap.size 5 underlying27 Ax _ _ rfl rfl pre [xy] (c.alloc _) (Sl.ue _ _ _ _ rfl s.out t.out) (by rw[D];simp;omega) (by have:=h.size;simp;omega) ?_)
      intro v' w' ho B;have W:w'.ownsRow w.heap.size 5 1 v' (pre++[xy]).length ((pre++[xy]).map (Value.int .u8)):=by simpa[D]using ho
      have E:Bw w w':=(h.alloc h.size _).grown B (by have:=h.size;simp;omega) (λk K=>(V k K).1);have n1:=JF c b (by decide);have n2:=JF c U (by decide);have a8:w.heap.size<wr.heap.size:=(U'.1 b).1;have b6:g<wr.heap.size:=(U'.1 U).1;have G:w'.heap[w.heap.size]?=some (.cells (AB us) 203 (0,0)):=((B.block w.heap.size (by simp;omega) n1.symm).trans (heap_alloc_old _ _ a8)).trans b;have b1:w'.heap[g]?=some (.cells (Ba bs) 151 (0,0)):=((B.block g (by simp;omega) n2.symm).trans (heap_alloc_old _ _ b6)).trans U;obtain⟨a3,c3,X⟩:=ES W;rw[G',D,nN]at X
      subst X;clear ho B c V h b U cb cd n1 n2;go_wp2
      go_roundw
      case rel=>exact⟨j+1,a3,c3,by omega,by go_num,rfl,by rw[N.out];exact W,G,b1,E⟩
      case measure=>simp[intOf];omega
     .have hjri:¬ (j:Int)<(64:Int):=by omega
      have HJ:Hid (j=64):=by unfold Hid;omega
      have a7:=(cell_of_row wr _ 12 _ _ _ b).trans (BY us 12 (by omega));have d5:=frozen_of_row wr _ 12 _ _ b;generalize T:us.getD 12 0#32=cw at a7;have a4:Hid (us.getD 12 0#32=cw):=T;clear T;have c5:=bP cw;have n1:=JF c b (by decide);go_wp2
      go_roundw
      case rel =>
       refine⟨q+1,m+j,a2,P,by rw[HJ.out];exact a5.out,rfl,Fr c (λk K=>heap_setCell_other _ _ _ _ (by simp;intro e;subst e;exact n1 K)),?_,h.setCell (p:=⟨w.heap.size,12,none⟩) (A' _) _⟩;rw[<- a6.out,a4.out];exact Fu b 12 _
      case measure=>simp[Zk];have:=HJ.out;omega
   .obtain⟨r,hrsub⟩:∃ r:Nat,(n:Int)-(m:Int)=(r:Int):=⟨n-m,by omega⟩;have a5:Hid (m+r=min (64*(q+1)) n):=by have:=M.out;unfold Hid;omega
    have d8:m+r<=n:=by omega
    have d0:r<=64:=by omega
    have d7:(r:Int)<=64:=by omega
    have e1:(0:Int)<=(r:Int):=by omega
    have e4:0<r:=by omega
    go_wp2_with ((with_reducible (refine Dp ?_));refine wpList_store_row rfl 151 _ _ rfl w2.heap.size _ rfl rfl 151 (Ba (List.replicate 64 0)) (heap_alloc_new _ _) J (by rw[AI,AI,Z];rfl) I ?_)
    generalize Q:World.setRow _ _ _=W3;obtain⟨F,b3,b7⟩:=Jv w2 bs _ 151 (Ba (List.replicate 64 0)) rfl Q;clear Q;have u:Bw wr W3:=b2.trans (b3.mono b2.size);have o:=(u.block w.heap.size H).trans b;have l:=Fr c (λk K=>u.block k (C k K));have R:Bw w W3:=h.trans (u.mono h.size);have b5:w.heap.size<w2.heap.size:=X' H b2.size;clear c b h b2 b3 u C b7 a0 J I c6 hmni;generalize w2.heap.size=g at F b5 ⊢
    go_loopw [5,27] (λv i wr=>∃ (j:Nat) (a:Option Addr) (z:Nat),j<=r/\i=.int .i64 j/\v=.slice a (m+j) z/\wr.ownsRow w.heap.size 5 1 v (CJ f d (m+j)).length ((CJ f d (m+j)).map (Value.int .u8))/\wr.heap[w.heap.size]?=some (.cells (AB us) 203 (0,0))/\wr.heap[g]?=some (.cells (Ba bs) 151 (0,0))/\Bw w wr) (λ_ i _=>r-(intOf i).toNat)
    case atStart=>exact⟨0,a,z,by omega,rfl,rfl,l,o,F,R⟩
    case round =>
     clear l o F R;obtain⟨j,a2,P,hj,rfl,rfl,c,b,U,h⟩:=hrel;by_cases d6:j<r
     .have hjri:(j:Int)<(r:Int):=by omega
      have V:=c.lt;have cb:=(cell_of_row wr _ j _ _ _ U).trans (E5 bs j (by omega));obtain⟨O,od,rfl,b0,S⟩:∃ O od,ad=some ⟨O,od,none⟩/\O<w.heap.size/\w.cell? ⟨O,od+(m+j),none⟩=some (.int .u8 (d.getD (m+j) 0)):=by
       obtain⟨⟨a',c0,e',_,_,A⟩,_,_⟩:=c4;rw[HN.out]at e' A
       simp only[Value.slice.injEq]at e';obtain⟨rfl,_,_⟩:=e';rcases A with A|⟨b',o',rfl,E,hc'⟩
       .have:=HN.out;rw[A]at this;simp at this;omega
       .exact⟨b',o',rfl,E,hc' (m+j) (by omega)⟩
      have cd:=(h.cell (p:=⟨O,od+(m+j),none⟩) b0).trans S;have y1:=Ak a9 j;have y2:=Ak c2 (m+j);have N:Hid (CJ f d (m+(j+1))=CJ f d (m+j)++[bx (bs.getD j 0) (d.getD (m+j) 0)]):=by
       unfold Hid;rw[<- Y.out j (by omega)];rfl
      have D:=Dx f d (m+j);have L:=OZ y1 y2;have t:Hid (bits .xor .u8 (bs.getD j 0) (d.getD (m+j) 0)=bx (bs.getD j 0) (d.getD (m+j) 0)):=Ut y1 y2;have s:Hid (0<=bx (bs.getD j 0) (d.getD (m+j) 0)/\bx (bs.getD j 0) (d.getD (m+j) 0)<256):=L;clear L S;generalize bs.getD j 0=x at cb y1 N t s;generalize d.getD (m+j) 0=y at cd y2 N t s;generalize bx x y=xy at N t s;generalize CJ f d (m+j)=pre at c D N;go_wp2_with (at_builtin;refine Aa _ rfl _ _ 27 rfl w.heap.size 5 underlying27 Ax _ _ rfl rfl pre [xy] (c.alloc _) (Sl.ue _ _ _ _ rfl s.out t.out) (by rw[D];simp;omega) (by have:=h.size;simp;omega) ?_)
      intro v' w' ho B;have W:w'.ownsRow w.heap.size 5 1 v' (pre++[xy]).length ((pre++[xy]).map (Value.int .u8)):=by simpa[D]using ho
      have E:Bw w w':=(h.alloc h.size _).grown B (by have:=h.size;simp;omega) (λk K=>(V k K).1);have n1:=JF c b (by decide);have n2:=JF c U (by decide);have a8:w.heap.size<wr.heap.size:=(U'.1 b).1;have b6:g<wr.heap.size:=(U'.1 U).1;have G:w'.heap[w.heap.size]?=some (.cells (AB us) 203 (0,0)):=((B.block w.heap.size (by simp;omega) n1.symm).trans (heap_alloc_old _ _ a8)).trans b;have b1:w'.heap[g]?=some (.cells (Ba bs) 151 (0,0)):=((B.block g (by simp;omega) n2.symm).trans (heap_alloc_old _ _ b6)).trans U;obtain⟨a3,c3,X⟩:=ES W;rw[G',D,nN]at X
      subst X;clear ho B c V h b U cb cd n1 n2;go_wp2
      go_roundw
      case rel=>exact⟨j+1,a3,c3,by omega,by go_num,rfl,by rw[N.out];exact W,G,b1,E⟩
      case measure=>simp[intOf];omega
     .have hjri:¬ (j:Int)<(r:Int):=by omega
      have HJ:Hid (j=r):=by unfold Hid;omega
      have a7:=(cell_of_row wr _ 12 _ _ _ b).trans (BY us 12 (by omega));have d5:=frozen_of_row wr _ 12 _ _ b;generalize T:us.getD 12 0#32=cw at a7;have a4:Hid (us.getD 12 0#32=cw):=T;clear T;have c5:=bP cw;have n1:=JF c b (by decide);go_wp2
      go_roundw
      case rel =>
       refine⟨q+1,m+j,a2,P,by rw[HJ.out];exact a5.out,rfl,Fr c (λk K=>heap_setCell_other _ _ _ _ (by simp;intro e;subst e;exact n1 K)),?_,h.setCell (p:=⟨w.heap.size,12,none⟩) (A' _) _⟩;rw[<- a6.out,a4.out];exact Fu b 12 _
      case measure=>simp[Zk];have:=HJ.out;omega
  .have hmni:¬ (m:Int)<(n:Int):=by omega
   have d4:Hid (n=m):=by unfold Hid;omega
   go_wp2
   go_ret;refine⟨_,rfl,?_,h⟩;unfold KH;rw[HN.out,d4.out];exact c
theorem dX(g h s:Value)(key a d:List Int)(c:Nat)(w:World)(n:Sl w g key)(p:Sl w h a)(m:Sl w s d)(lk:key.length=32)(r:a.length=12)(E:c<=1073741824)(F:d.length<=2000)(q:Dq w) :
  Calls prog 77 #[g,.int .i64 c,h,s] w λe w'=>∃ v',e=.returned (.tuple #[v',.int .i64 0])/\w'.ownsRow w.heap.size 5 1 v' (KH (Cc key (BitVec.ofNat 32 c) a) d).length ((KH (Cc key (BitVec.ofNat 32 c) a) d).map (Value.int .u8))/\Bw w w':=by
 have j:=m;obtain⟨⟨ad,l,rfl,x,z,u⟩,y,v⟩:=m;clear u;have A:(d.length:Int)<=2000:=by omega
 go_enter func77,ntmps77
 go_wp2_with fail
 refine(Kx g h key a c w n p).mono ?_;rintro e C ⟨rfl,rfl⟩;rw[Jw lk r (by omega)];go_wp2_with fail
 refine(NT g h key a c C n p lk r (by omega)).mono ?_;rintro e D ⟨rfl,b⟩;have o:=Hu key (BitVec.ofNat 32 c) a;generalize f:Cc key (BitVec.ofNat 32 c) a=us at o;have i:Hid (Cc key (BitVec.ofNat 32 c) a=us):=f;clear f;go_wp2_with fail
 refine(Sg us _ d D o (j.af b) (by omega) (q.af q.pos b)).mono ?_;rintro e G ⟨B,rfl,k,t⟩;go_wp2
 go_ret2
 refine⟨B,rfl,?_,b.trans (t.mono b.size)⟩;rw[i.out];exact BL k b.size
def Ai(l:List Int):Array Value:=(l.map (Value.int .u64)).toArray
theorem Aj(l:List Int):(Ai l).size=l.length:=by simp[Ai]
theorem Au(l:List Int)(i:Nat)(h:i<l.length):(Ai l)[i]?=some (.int .u64 (l.getD i 0)):=by
 simp[Ai,List.getD,List.getElem?_eq_getElem h]
theorem ZB(l:List Int)(i:Nat)(x:Int):(Ai l).setIfInBounds i (.int .u64 x)=Ai (l.set i x):=by
 apply rG;simp[Ai,List.map_set]
theorem EQ(h:w.heap[g]?=some (.cells (Ai l) t (0,0)))(k:Nat)(x:Int) :
  (w.setCell ⟨g,k,none⟩ (.int .u64 x)).heap[g]?=some (.cells (Ai (l.set k x)) t (0,0)):=by
 rw[heap_setCell_same _ _ _ _ _ _ h,ZB]
theorem BG(l:List Int):(Ai l).all (·.oneCell')=true:=by simp[Ai,Value.oneCell']
theorem Ox:∀ (S:List Int),S.length=5->∃ a b c d e,S=[a,b,c,d,e]
 | [a,b,c,d,e],_=>⟨a,b,c,d,e,rfl⟩
def val:List Int->Int
 | []=>0
 | x::l=>x+67108864*val l
def Lim(B:Int)(l:List Int):Prop:=l.length=5/\∀ j,0<=l.getD j 0/\l.getD j 0<B
theorem Lim.uy{B a b d e:Int}(f:0<=a/\a<B)(g:0<=b/\b<B)(h:0<=c/\c<B)(i:0<=d/\d<B)(k:0<=e/\e<B):Lim B [a,b,c,d,e]:=by
 refine⟨rfl,λj=>?_⟩
 match j with
 | 0=>exact f
 | 1=>exact g
 | 2=>exact h
 | 3=>exact i
 | 4=>exact k
 | j+5=>simp[List.getD];omega
theorem Lim.split{B:Int}(h:Lim B l):∃ a b c d e,l=[a,b,c,d,e]/\(0<=a/\a<B)/\(0<=b/\b<B)/\(0<=c/\c<B)/\(0<=d/\d<B)/\(0<=e/\e<B):=by
 obtain⟨a,b,c,d,e,rfl⟩:=Ox l h.1;exact⟨a,b,c,d,e,rfl,h.2 0,h.2 1,h.2 2,h.2 3,h.2 4⟩
theorem Lim.mono{B C:Int}(h:Lim B l)(a:B<=C):Lim C l:=⟨h.1,λj=>⟨(h.2 j).1,by have:=(h.2 j).2;omega⟩⟩
theorem D4(a b c d e:Int):val [a,b,c,d,e]=a+67108864*b+4503599627370496*c+302231454903657293676544*d+20282409603651670423947251286016*e:=by
 simp only[val];omega
structure Carr(l m:List Int)(k:Nat)(o:Int):Prop where
 len:m.length=5
 sum:val m+o*67108864^k=val l
 done:∀ j,j<k->0<=m.getD j 0/\m.getD j 0<67108864
 rest:∀ j,k<=j->m.getD j 0=l.getD j 0
 lo:0<=o
 hi:o<274877906944
theorem Carr.zero(h:l.length=5):Carr l l 0 0:=⟨h,by omega,λ_ h=>by omega,λ_ _=>rfl,by omega,by omega⟩
theorem Carr.succ(h:Carr l m k o)(z:Lim 9223372036854775808 l)(K:k<5) :
  Carr l (m.set k ((m.getD k 0+o)%67108864)) (k+1) ((m.getD k 0+o)/67108864):=by
 obtain⟨A,t,u,v,w,rfl,b0,B,C,D,E⟩:=z.split;obtain⟨d,e,g,q,x,rfl⟩:=Ox m h.len;have s:=h.sum;have b:=h.done;have a:=h.rest;have I:=h.lo;have J:=h.hi;rw[D4]at s
 rw[D4]at s
 obtain rfl|rfl|rfl|rfl|rfl:k=0\/k=1\/k=2\/k=3\/k=4:=by omega
 .have e0:d=A:=a 0 (by omega);have p:e=t:=a 1 (by omega);have F:g=u:=a 2 (by omega);have G:q=v:=a 3 (by omega);have H:x=w:=a 4 (by omega);simp only[ng,nz];refine⟨rfl,?_,λj c=>?_,λj c=>?_,by omega,by omega⟩
  .rw[D4,D4];omega
  .obtain rfl:j=0:=by omega
   simp only[nz];omega
  .obtain⟨j,rfl⟩:∃ i,j=i+1:=⟨j-1,by omega⟩;have:=a (j+1) (by omega);simpa using this
 .have p:e=t:=a 1 (by omega);have f:0<=d/\d<67108864:=b 0 (by omega);simp only[ng,nh,nz,nR];refine⟨rfl,?_,λj c=>?_,λj c=>?_,by omega,by omega⟩
  .rw[D4,D4];omega
  .obtain rfl|rfl:j=0\/j=1:=by omega
   .exact f
   .simp only[nz,nR];omega
  .obtain⟨j,rfl⟩:∃ i,j=i+2:=⟨j-2,by omega⟩;have:=a (j+2) (by omega);simpa using this
 .have p:g=u:=a 2 (by omega);have f:0<=d/\d<67108864:=b 0 (by omega);have n:0<=e/\e<67108864:=b 1 (by omega);simp only[ng,nh,nz,nR];refine⟨rfl,?_,λj c=>?_,λj c=>?_,by omega,by omega⟩
  .rw[D4,D4];omega
  .obtain rfl|rfl|rfl:j=0\/j=1\/j=2:=by omega
   .exact f
   .exact n
   .simp only[nz,nR];omega
  .obtain⟨j,rfl⟩:∃ i,j=i+3:=⟨j-3,by omega⟩;have:=a (j+3) (by omega);simpa using this
 .have p:q=v:=a 3 (by omega);have f:0<=d/\d<67108864:=b 0 (by omega);have n:0<=e/\e<67108864:=b 1 (by omega);have r:0<=g/\g<67108864:=b 2 (by omega);simp only[ng,nh,nz,nR];refine⟨rfl,?_,λj c=>?_,λj c=>?_,by omega,by omega⟩
  .rw[D4,D4];omega
  .obtain rfl|rfl|rfl|rfl:j=0\/j=1\/j=2\/j=3:=by omega
   .exact f
   .exact n
   .exact r
   .simp only[nz,nR];omega
  .obtain⟨j,rfl⟩:∃ i,j=i+4:=⟨j-4,by omega⟩;have:=a (j+4) (by omega);simpa using this
 .have p:x=w:=a 4 (by omega);have f:0<=d/\d<67108864:=b 0 (by omega);have n:0<=e/\e<67108864:=b 1 (by omega);have r:0<=g/\g<67108864:=b 2 (by omega);have y:0<=q/\q<67108864:=b 3 (by omega);simp only[ng,nh,nz,nR];refine⟨rfl,?_,λj c=>?_,λj c=>?_,by omega,by omega⟩
  .rw[D4,D4];omega
  .obtain rfl|rfl|rfl|rfl|rfl:j=0\/j=1\/j=2\/j=3\/j=4:=by omega
   .exact f
   .exact n
   .exact r
   .exact y
   .simp only[nz,nR];omega
  .obtain⟨j,rfl⟩:∃ i,j=i+5:=⟨j-5,by omega⟩;simp[List.getD]
theorem Carr.se(h:Carr l m 5 o):Lim 67108864 m/\val m+1361129467683753853853498429727072845824*o=val l:=by
 refine⟨⟨h.len,λj=>?_⟩,?_⟩
 .by_cases hj:j<5
  .exact h.done j hj
  .rw[Hd (by have:=h.len;omega)];omega
 .have:=h.sum;omega
def pp:Int:=1361129467683753853853498429727072845819
theorem PQ(h:l.length=5)(t:Nat)(f:t<5)(y:Int):val (l.set t y)=val l+(y-l.getD t 0)*67108864^t:=by
 obtain⟨a,b,c,d,e,rfl⟩:=Ox l h;obtain rfl|rfl|rfl|rfl|rfl:t=0\/t=1\/t=2\/t=3\/t=4:=by omega
 all_goals
  simp only[ng,nh,nz,nR,D4];omega
def pv(n:List Int):Nat->Int
 | 0=>0
 | k+1=>pv n k+n.getD k 0*67108864^k
theorem UZ{n:List Int}(h:n.length=5):pv n 5=val n:=by
 obtain⟨a,b,c,d,e,rfl⟩:=Ox n h;simp only[pv,nz,nR,D4];omega
structure Adds(l m r:List Int)(k:Nat):Prop where
 len:r.length=5
 done:∀ j,j<k->r.getD j 0=l.getD j 0+m.getD j 0
 rest:∀ j,k<=j->r.getD j 0=l.getD j 0
theorem Adds.zero(h:l.length=5):Adds l m l 0:=⟨h,λ_ h=>by omega,λ_ _=>rfl⟩
theorem AT(h:k<l.length)(x:Int):(l.set k x).getD k 0=x:=by
 simp[List.getD,h]
theorem AF(h:k≠j)(x:Int):(l.set k x).getD j 0=l.getD j 0:=by
 simp[List.getD,List.getElem?_set_ne h]
theorem Adds.succ(h:Adds l m r k)(b:k<5):Adds l m (r.set k (r.getD k 0+m.getD k 0)) (k+1):=by
 refine⟨by simpa using h.len,λj a=>?_,λj a=>?_⟩
 .by_cases e:k=j
  .subst e;rw[AT (by rw[h.len];omega),h.rest k (by omega)]
  .rw[AF e];exact h.done j (by omega)
 .rw[AF (by omega)];exact h.rest j (by omega)
theorem Adds.se(h:Adds l m r 5)(a:Lim 67108864 l)(b:Lim 67108864 m):Lim 134217728 r/\val r=val l+val m:=by
 obtain⟨c,d,e,f,g,rfl,b0,v,w,x,y⟩:=a.split;obtain⟨i,j,k,n,o,rfl,z,A,B,C,D⟩:=b.split;obtain⟨p,q,s,t,u,rfl⟩:=Ox r h.len;have E:p=c+i:=h.done 0 (by omega);have F:q=d+j:=h.done 1 (by omega);have G:s=e+k:=h.done 2 (by omega);have H:t=f+n:=h.done 3 (by omega);have I:u=g+o:=h.done 4 (by omega);exact⟨Lim.uy (by omega) (by omega) (by omega) (by omega) (by omega),by rw[D4,D4,D4];omega⟩
structure Prods(n m r:List Int)(i j:Nat):Prop where
 len:r.length=5
 sum:val r%pp=(pv n i*val m+n.getD i 0*67108864^i*pv m j)%pp
 low:∀ t,0<=r.getD t 0
 high:∀ t,r.getD t 0<=(5*(i:Int)+(j:Int))*45035996273704960
theorem Prods.zero(n m:List Int):Prods n m [0,0,0,0,0] 0 0:=by
 refine⟨rfl,?_,λt=>?_,λt=>?_⟩
 .simp[pv,val]
 .match t with
  | 0|1|2|3|4=>simp
  | t+5=>simp[List.getD]
 .match t with
  | 0|1|2|3|4=>simp
  | t+5=>simp[List.getD]
theorem Ij(b:0<=x/\x<134217728)(a:0<=y/\y<67108864):0<=x*y/\x*y<=9007199254740992:=by
 refine⟨rZ b.1 a.1,?_⟩;have c:=r8 (qD b.2) (qD a.2) a.1 (by omega);omega
theorem Prods.tx{n:List Int}(h:Prods n m r i j)(c:Lim 134217728 n)(b:Lim 67108864 m)(a:i+j<5) :
  Prods n m (r.set (i+j) (r.getD (i+j) 0+n.getD i 0*m.getD j 0)) i (j+1):=by
 have g:=Ij (c.2 i) (b.2 j);have d:=h.low (i+j);have f:=h.high (i+j);refine⟨by simpa using h.len,?_,λt=>?_,λt=>?_⟩
 .rw[PQ h.len _ a,qH,h.sum,<- qH]
  congr 1
  rw[pY];simp only[pv]
  grind
 .by_cases e:i+j=t
  .subst e;rw[AT (by rw[h.len];omega)];omega
  .rw[AF e];exact h.low t
 .by_cases e:i+j=t
  .subst e;rw[AT (by rw[h.len];omega)];omega
  .rw[AF e];have:=h.high t;omega
theorem Prods.tg{n:List Int}(h:Prods n m r i j)(d:Lim 134217728 n)(c:Lim 67108864 m)(b:5<=i+j)(l:i<5)(o:j<5) :
  Prods n m (r.set (i+j-5) (r.getD (i+j-5) 0+n.getD i 0*m.getD j 0*5)) i (j+1):=by
 have k:=Ij (d.2 i) (c.2 j);have f:=h.low (i+j-5);have g:=h.high (i+j-5);refine⟨by simpa using h.len,?_,λt=>?_,λt=>?_⟩
 .rw[PQ h.len _ (by omega),qH,h.sum,<- qH];have e:(67108864:Int)^i*67108864^j=67108864^(i+j-5)*(pp+5):=by
   rw[<- pY,show pp+5=(67108864:Int)^5 by unfold pp;rfl,<- pY];congr 1;omega
  have a:pv n i*val m+n.getD i 0*67108864^i*pv m (j+1)=pv n i*val m+n.getD i 0*67108864^i*pv m j+(r.getD (i+j-5) 0+n.getD i 0*m.getD j 0*5-r.getD (i+j-5) 0)*67108864^(i+j-5)+pp*(n.getD i 0*m.getD j 0*67108864^(i+j-5)):=by
   simp only[pv]
   grind
  rw[a,rx]
 .by_cases e:i+j-5=t
  .subst e;rw[AT (by rw[h.len];omega)];omega
  .rw[AF e];exact h.low t
 .by_cases e:i+j-5=t
  .subst e;rw[AT (by rw[h.len];omega)];omega
  .rw[AF e];have:=h.high t;omega
theorem Prods.row{n:List Int}(h:Prods n m r i 5)(a:m.length=5):Prods n m r (i+1) 0:=by
 refine⟨h.len,?_,h.low,λt=>?_⟩
 .rw[h.sum,UZ a]
  congr 1
  simp only[pv]
  grind
 .have:=h.high t;omega
theorem Prods.se{n:List Int}(h:Prods n m r 5 0)(a:n.length=5):Lim 1152921504606846976 r/\val r%pp=(val n*val m)%pp:=by
 refine⟨⟨h.len,λt=>⟨h.low t,?_⟩⟩,?_⟩
 .have:=h.high t;omega
 .rw[h.sum,UZ a];congr 1;simp only[pv];grind
theorem Tc{n:List Int}(q:Lim 67108864 n)(p:Carr (n.set 0 (n.getD 0 0+5)) m 5 o):Lim 67108864 m/\(0<o->val m=val n%pp)/\(¬ 0<o->val n=val n%pp):=by
 obtain⟨k,l⟩:=p.se;refine⟨k,?_⟩;have B:=p.lo;obtain⟨a,b,c,d,e,rfl,b0,s,t,u,v⟩:=q.split;obtain⟨f,g,h,i,j,rfl,w,x,y,z,A⟩:=k.split;simp only[ng,nz]at l;have r:val [a+5,b,c,d,e]=val [a,b,c,d,e]+5:=by rw[D4,D4];omega
 have C:0<=val [a,b,c,d,e]/\val [a,b,c,d,e]<1361129467683753853853498429727072845824:=by rw[D4];omega
 have D:0<=val [f,g,h,i,j]/\val [f,g,h,i,j]<1361129467683753853853498429727072845824:=by rw[D4];omega
 rw[r]at l
 generalize val [a,b,c,d,e]=V at *;generalize val [f,g,h,i,j]=M at *;unfold pp;constructor
 .intro ho;obtain rfl:o=1:=by omega
  omega
 .intro ho;obtain rfl:o=0:=by omega
  omega
def leP(l:List Int):Nat->Int
 | 0=>0
 | k+1=>leP l k+l.getD k 0*256^k
def leN(l:List Int):Int:=leP l l.length
theorem Zh(k:Nat)(h:l.length<=k):leP l k=leN l:=by
 obtain⟨d,rfl⟩:∃ d,k=l.length+d:=⟨k-l.length,by omega⟩;clear h;induction d with
 | zero=>rfl
 | succ d ih=>rw[<- oh,leP,ih,Hd (by omega)];omega
theorem Wo(k:Nat)(h:∀ j,j<k->l.getD j 0=m.getD j 0):leP l k=leP m k:=by
 induction k with
 | zero=>rfl
 | succ k ih=>rw[leP,leP,ih (λj a=>h j (by omega)),h k (by omega)]
theorem Ta(k:Nat):leP (l++m) (l.length+k)=leN l+256^l.length*leP m k:=by
 induction k with
 | zero =>
  simp only[pC,leP,Int.mul_zero,Int.add_zero];unfold leN;exact Wo _ (λj a=>by simp[List.getD,List.getElem?_append_left a])
 | succ k ih =>
  rw[<- oh,leP,ih,leP,Int.mul_add,pY];have:(l++m).getD (l.length+k) 0=m.getD k 0:=by simp[List.getD,List.getElem?_append_right]
  rw[this]
  grind
theorem SZ(l m:List Int):leN (l++m)=leN l+256^l.length*leN m:=by
 have h:=Ta (l:=l) (m:=m) m.length;rw[<- G']at h
 exact h
theorem Wn(n:Nat):leN (List.replicate n 0)=0:=by
 unfold leN;generalize (List.replicate n (0:Int)).length=k;induction k with
 | zero=>rfl
 | succ k ih =>
  rw[leP,ih];have:(List.replicate n (0:Int)).getD k 0=0:=by
   rcases nU k n with h|h
   .simp[List.getD,h]
   .exact Hd (by simpa using h)
  rw[this];omega
structure Reads(b r:List Int)(k:Nat):Prop where
 len:r.length=5
 sum:val r=leP b k
 low:∀ t,0<=r.getD t 0
 high:∀ t,r.getD t 0<=(k:Int)*17179869184
theorem Reads.zero(b:List Int):Reads b [0,0,0,0,0] 0:=by
 refine⟨rfl,rfl,λt=>?_,λt=>?_⟩
 .match t with
  | 0|1|2|3|4=>simp
  | t+5=>simp[List.getD]
 .match t with
  | 0|1|2|3|4=>simp
  | t+5=>simp[List.getD]
theorem Reads.succ{b:List Int}(h:Reads b r k)(c:0<=b.getD k 0/\b.getD k 0<256)(q:Nat)(m:Int)(f:q<5)(a:0<=m/\m<=33554432)(d:m*67108864^q=256^k):Reads b (r.set q (r.getD q 0+b.getD k 0*m)) (k+1):=by
 have g:0<=b.getD k 0*m:=rZ c.1 a.1;have i:b.getD k 0*m<=256*33554432:=r8 (by omega) a.2 a.1 (by omega);refine⟨by simpa using h.len,?_,λt=>?_,λt=>?_⟩
 .rw[PQ h.len q f,h.sum,leP,<- d]
  grind
 .have:=h.low q;by_cases e:q=t
  .subst e;rw[AT (by rw[h.len];omega)];omega
  .rw[AF e];exact h.low t
 .have:=h.high q;by_cases e:q=t
  .subst e;rw[AT (by rw[h.len];omega)];omega
  .rw[AF e];have:=h.high t;omega
def piece(l:List Int)(k:Nat):List Int:=(l.drop (16*k)).take 16
def K6(R:Int)(l:List Int):Nat->Int
 | 0=>0
 | k+1=>(K6 R l k+leN (piece l k++[1]))*R%pp
def P0(l:List Int):Nat:=(l.length+15)/16
def gE(R:Int)(l:List Int):Int:=K6 R l (P0 l)
theorem TE:0<pp:=by unfold pp;omega
theorem RQ(R:Int)(l:List Int)(k:Nat):0<=K6 R l k/\K6 R l k<pp:=by
 cases k with
 | zero=>exact⟨by simp[K6],TE⟩
 | succ k=>exact⟨rU _ (by have:=TE;omega),rA _ TE⟩
theorem X1{n s t:List Int}{R:Int}(b:val n%pp=K6 R l k%pp)(a:val m%pp=leN (piece l k++[1])%pp)(d:val s=val n+val m)(c:val r%pp=R%pp)(e:val t%pp=(val s*val r)%pp) :
  val t%pp=K6 R l (k+1)%pp:=by
 rw[e,K6,Int.emod_emod_of_dvd _ (Int.dvd_refl _),Int.mul_emod,d,qH,b,a,c,<- qH,<- Int.mul_emod]
theorem Dw(l:List Int)(n i:Nat):(l.drop n).getD i 0=l.getD (n+i) 0:=by simp[List.getD]
theorem B3(l:List Int)(n i:Nat)(h:i<n):(l.take n).getD i 0=l.getD i 0:=by simp[List.getD,h]
theorem Sl.sE{a:Option Addr}(h:Sl w (.slice a n cap) l)(d c:Nat)(m:d<=c)(g:c<=l.length):Sl w (sliced a d c cap 1) ((l.take c).drop d):=by
 have B:=(h.take c g).len;have r:=h.byte;obtain⟨⟨y,o,e,A,u,q⟩,t,s⟩:=h;simp only[Value.slice.injEq]at e;obtain⟨rfl,rfl,rfl⟩:=e;have k:((l.take c).drop d).length=c-d:=by rw[nc,j'];omega
 have f:∀ x∈(l.take c).drop d,0<=x/\x<256:=λx v=>r x (nm (oP v));cases a with
 | none =>
  have p:=u rfl;subst p;have z:l.length=0:=by omega
  refine⟨⟨_,_,by rw[k];rfl,by omega,λ_=>by omega,.inl (Y' (by omega))⟩,by omega,f⟩
 | some ad =>
  refine⟨⟨_,_,by rw[k];rfl,by omega,(by intro h;split at h<;>simp at h),?_⟩,by omega,f⟩;rcases Nat.eq_or_lt_of_le m with he|hlt
  .exact .inl (Y' (by omega))
  .rcases q with rfl|⟨b,off,e2,hbs,hcell⟩
   .simp at g;omega
   .simp only[Z']at e2;subst e2;refine .inr ⟨b,off+d,?_,hbs,λi j=>?_⟩
    .rw[if_neg (by omega)];simp[Addr.add]
    .rw[k]at j
     rw[oh,hcell (d+i) (by omega),Dw,B3 _ _ _ (by omega)]
theorem GI(w:World):(Go.sizeOf 5).run prog w=.ok 1 w:=by
 obtain⟨i,b,_,a,_⟩:=info_parts Ax;simp[sizeOf,typeInfo,b,a]
theorem Sl.sa{a:Option Addr}(h:Sl w (.slice a n cap) l)(b:Nat)(c:b<=l.length) :
  ∃ a' c',(∀ W,(Instr.slice 27 (.slice a n cap) none (some (.int .i64 (b:Int))) none).run prog W=.ok (.slice a' b c') W)/\Sl w (.slice a' b c') (l.take b):=by
 have i:=h.sE 0 b (by omega) c;obtain⟨⟨a',d,e,k,m,j⟩,g,f⟩:=h;simp only[Value.slice.injEq]at e;obtain⟨rfl,rfl,rfl⟩:=e;refine⟨_,_,λW=>?_,by simpa[sliced]using i⟩;rw[run_slice_h (P:=prog) W 27 a _ cap underlying27 .i64 _ (by omega) (by omega)];have e:prog.elem 27=5:=by kernel_rfl
 rw[e,GI];simp[Result.andThen,sliced]
theorem Sl.from{a:Option Addr}(h:Sl w (.slice a n cap) l)(b:Nat)(c:b<=l.length) :
  ∃ a' c',(∀ W,(Instr.slice 27 (.slice a n cap) (some (.int .i64 (b:Int))) none none).run prog W=.ok (.slice a' (n-b) c') W)/\Sl w (.slice a' (n-b) c') (l.drop b):=by
 have i:=h.sE b l.length c (A' _);obtain⟨⟨a',d,e,k,m,j⟩,g,f⟩:=h;simp only[Value.slice.injEq]at e;obtain⟨rfl,rfl,rfl⟩:=e;refine⟨_,_,λW=>?_,by simpa[sliced]using i⟩;rw[run_slice_l (P:=prog) W 27 a _ cap underlying27 .i64 _ (by omega) (by omega)];have e:prog.elem 27=5:=by kernel_rfl
 rw[e,GI];simp[Result.andThen,sliced]
theorem jU(x:Int)(a:0<=x)(b:x<18446744073709551616):bits .and .u64 x 67108863=x%67108864:=by
 obtain⟨n,rfl⟩:=nI a;rw[show(67108863:Int)=((67108863:Nat):Int)from rfl,u64_and_nat _ _ (by omega) (by omega),show(67108863:Nat)=2^26-1 from rfl,qJ];omega
theorem Dj(h:l.length=5):(prog.info? 236).map (·.size)=some (Ai l).size:=by rw[Aj,h];kernel_rfl
theorem Bk{a:World}(h:Below B a w){g:Nat}(c:B<=g)(b:Array Value):Below B a (w.setRow g b) :=
 h.trans ⟨rfl,rfl,rfl,by simp,λk d=>setRow_other w g k b (by omega)⟩
theorem GC{P:Program}{f:Func}{p u:Tmp}{c:TypeId}(h:f.results=#[.cell p c,.tmp u])(a:Array Value)(w:World)(g:Nat)(t:TypeId)(b:Array Value)(i:Nat × Nat)(d:TypeDesc)(m:a.getD p undef=.pointer (some ⟨g,0,none⟩))(k:w.heap[g]?=some (.cells b t i))(n:P.underlying c=some d)(j:(match d with|.struct _|.array _ _=>true|_=>false)=true)(l:(P.info? c).map (·.size)=some b.size){v:Value}(o:a.getD u undef=v) :
  (results f a).run P w=.ok (.tuple #[.agg b,v]) w:=by
 have e:a[p]?.getD undef=.pointer (some ⟨g,0,none⟩):=by simpa using m
 rw[results_cell_tmp h,o];simp[e,asAddr,run_loadVar_row w g t c b i d k n j l]
theorem As{l:List Oper}(h:wpList P ops Q l a w):wpList P ops Q l a w:=h
theorem QU(l:List Int)(w:World)(j:Lim 9223372036854775808 l) :
  Calls prog 202 #[.agg (Ai l)] w λe w'=>∃ m o,e=.returned (.tuple #[.agg (Ai m),.int .u64 o])/\Carr l m 5 o/\Bw w w':=by
 have s:=j.1;have z:=Dj s;go_enter func202,ntmps202
 go_wp2_with fail
 go_loopw [4,6] (λo i wr=>∃ (k:Nat) (m:List Int) (b:Int),k<=5/\i=.int .i64 k/\o=.int .u64 b/\Carr l m k b/\wr.heap[w.heap.size]?=some (.cells (Ai m) 236 (0,0))/\wr.heap[w.heap.size+1]?=some (.cells (Ai [0,0,0,0,0]) 236 (0,0))/\Bw w wr) (λ_ i _=>5-(intOf i).toNat)
 case atStart=>
  refine⟨0,l,0,by omega,rfl,rfl,Carr.zero s,?_,?_,?_⟩
  .exact heap_alloc2_old _ _ _
  .exact heap_alloc2_new _ _ _
  .exact((Below.refl _ _).alloc (A' _) _).alloc (by simp) _
 case round =>
  obtain⟨k,m,b,D,rfl,rfl,c,f,n,t⟩:=hrel;by_cases g:k<5
  .have h:(k:Int)<5:=by omega
   have y:=(cell_of_row wr _ k _ _ _ f).trans (Au m k (by rw[c.len];omega));have B:=frozen_of_row wr _ k _ _ f;have u:=c.succ j g;have E:=c.lo;have F:=c.hi;have r:m.getD k 0=l.getD k 0:=c.rest k (by omega);have d:=j.2 k;rw[<- r]at d
   have q:Hid (Carr l (m.set k ((m.getD k 0+b)%67108864)) (k+1) ((m.getD k 0+b)/67108864)):=u;clear u c r;generalize m.getD k 0=x at y q d;obtain⟨d,A⟩:=d;have C:=jU (x+b) (by omega) (by omega);go_wp2
   go_roundw
   case rel =>
    refine⟨k+1,_,_,by omega,by go_num,rfl,q.out,?_,?_,?_⟩
    .have h1:=EQ (EQ f k (x+b)) k ((x+b)%67108864);rw[List.set_set]at h1
     exact h1
    .rw[heap_setCell_other _ _ _ _ (by simp),heap_setCell_other _ _ _ _ (by simp)];exact n
    .exact(t.setCell (p:=⟨w.heap.size,k,none⟩) (A' _) _).setCell (p:=⟨w.heap.size,k,none⟩) (A' _) _
   case measure=>simp[intOf];omega
  .have HK:Hid (k=5):=by unfold Hid;omega
   have h:¬ (k:Int)<5:=by omega
   have a:=Dj c.len;go_wp2_with ((with_reducible (refine As ?_));first
    | (refine wpList_load_row rfl 236 _ rfl w.heap.size rfl 236 _ (0,0) _ f underlying236 rfl a ?_)
    | (refine wpList_store_row rfl 236 _ _ rfl (w.heap.size+1) _ rfl rfl 236 _ n a (by rw[Aj,Aj,c.len];rfl) (BG m) ?_))
   refine bodyPost_ret (v:=.tuple #[.agg (Ai m),.int .u64 b]) (GC rfl _ _ (w.heap.size+1) 236 _ (0,0) _ rfl (setRow_heap wr (w.heap.size+1) _ _ 236 _ n) underlying236 rfl a rfl) rfl ⟨m,b,rfl,by have:=HK.out;subst this;exact c,Bk t (by omega) _⟩
def RP:Nat->List Int->Prop
 | 0,m=>Lim 1152921504606846976 m
 | 1,m=>Lim 274877906944 m/\val m<1361129467683753853853498429727072845824+274877906944
 | 2,m=>Lim 274877906944 m/\val m<1361129467683753853853498429727072845824
 | _,m=>Lim 67108864 m
theorem RP.uM:∀ {k:Nat} {m:List Int},RP k m->Lim 9223372036854775808 m
 | 0,_,h=>Lim.mono h (by omega)
 | 1,_,h=>Lim.mono h.1 (by omega)
 | 2,_,h=>Lim.mono h.1 (by omega)
 | _+3,_,h=>Lim.mono (B:=67108864) h (by omega)
theorem iL(a b o:Int)(h:a+1361129467683753853853498429727072845824*o=b):(a+5*o)%pp=b%pp:=by
 rw[<- h,show a+1361129467683753853853498429727072845824*o=a+5*o+pp*o by unfold pp;omega,rx]
theorem RP.succ(h:RP k l)(G:k<3)(b:Carr l m 5 o):RP (k+1) (m.set 0 (m.getD 0 0+o*5))/\val (m.set 0 (m.getD 0 0+o*5))%pp=val l%pp/\0<=m.getD 0 0/\m.getD 0 0<67108864/\0<=o/\o<274877906944:=by
 obtain⟨t,a⟩:=b.se;obtain⟨d,f,g,i,j,rfl,b0,C,D,E,F⟩:=t.split;have A:=b.lo;have B:=b.hi;simp only[ng,nz];have c:=iL _ _ _ a;rw[D4]at a
 have e:val [d+o*5,f,g,i,j]=val [d,f,g,i,j]+5*o:=by rw[D4,D4];omega
 rw[<- e]at c
 refine⟨?_,c,b0.1,b0.2,A,B⟩;obtain rfl|rfl|rfl:k=0\/k=1\/k=2:=by omega
 .obtain⟨v,w,x,y,z,rfl,n,p,q,r,s⟩:=Lim.split h;rw[D4]at a
  refine⟨Lim.uy (by omega) (by omega) (by omega) (by omega) (by omega),?_⟩;rw[D4];omega
 .obtain⟨h3,h4⟩:=h;obtain⟨v,w,x,y,z,rfl,n,p,q,r,s⟩:=Lim.split h3;rw[D4]at a h4
  refine⟨Lim.uy (by omega) (by omega) (by omega) (by omega) (by omega),?_⟩;rw[D4];omega
 .obtain⟨h3,h4⟩:=h;have u:o=0:=by omega
  subst u;show Lim 67108864 _;exact Lim.uy (by omega) (by omega) (by omega) (by omega) (by omega)
theorem Kc(l:List Int)(w:World)(I:Lim 1152921504606846976 l) :
  Calls prog 201 #[.agg (Ai l)] w λe w'=>∃ m,e=.returned (.agg (Ai m))/\Lim 67108864 m/\val m%pp=val l%pp/\Bw w w':=by
 have M:=I.1;have N:=Dj M;go_enter func201,ntmps201
 go_wp2_with fail
 go_loopw [4] (λi wr=>∃ (k:Nat) (m:List Int),k<=3/\i=.int .i64 k/\RP k m/\val m%pp=val l%pp/\wr.heap[w.heap.size]?=some (.cells (Ai m) 236 (0,0))/\wr.heap[w.heap.size+1]?=some (.cells (Ai [0,0,0,0,0]) 236 (0,0))/\w.heap.size+2<=wr.heap.size/\Bw w wr) (λi _=>3-(intOf i).toNat)
 case atStart=>
  refine⟨0,l,by omega,rfl,I,rfl,?_,?_,by simp,?_⟩
  .exact heap_alloc2_old _ _ _
  .exact heap_alloc2_new _ _ _
  .exact((Below.refl _ _).alloc (A' _) _).alloc (by simp) _
 case round =>
  obtain⟨k,m,T,rfl,n,K,B,C,U,E⟩:=hrel;have f:=n.uM.1;have b:=Dj f;by_cases G:k<3
  .have hki:(k:Int)<3:=by omega
   go_wp2_with ((with_reducible (refine As ?_));refine wpList_load_row rfl 236 _ rfl w.heap.size rfl 236 _ (0,0) _ B underlying236 rfl b ?_)
   refine(QU m wr n.uM).mono ?_;rintro e h ⟨a,o,rfl,d,c⟩;obtain⟨J,A,Q,R,V,W⟩:=n.succ G d;have q:=d.len;have y:=Dj q;have r:=(c.block w.heap.size (by omega)).trans B;have s:=(c.block (w.heap.size+1) (by omega)).trans C;have O:=c.size;have j:Bw w h:=E.trans (c.mono (by omega));have g:=setRow_heap h w.heap.size (Ai m) (Ai a) 236 (0,0) r;have H:(h.setRow w.heap.size (Ai a)).heap[w.heap.size+1]?=some (.cells (Ai [0,0,0,0,0]) 236 (0,0)):=(setRow_other _ _ _ _ (by omega)).trans s;have D:Bw w (h.setRow w.heap.size (Ai a)):=Bk j (A' _) _;have P:(h.setRow w.heap.size (Ai a)).heap.size=h.heap.size:=by simp
   have L:=(cell_of_row _ _ 0 _ _ _ g).trans (Au a 0 (by omega));have S:=frozen_of_row _ _ 0 _ _ g;have t:Hid (RP (k+1) (a.set 0 (a.getD 0 0+o*5))):=J;have z:Hid (val (a.set 0 (a.getD 0 0+o*5))%pp=val m%pp):=A;have u:Hid (((h.setRow w.heap.size (Ai a)).setCell ⟨w.heap.size,0,none⟩ (.int .u64 (a.getD 0 0+o*5))).heap[w.heap.size]?=some (.cells (Ai (a.set 0 (a.getD 0 0+o*5))) 236 (0,0))):=EQ g 0 _;clear E B C c s j n d J A;generalize a.getD 0 0=x at L t z u Q R;go_wp2_with ((with_reducible (refine As ?_));refine wpList_store_row rfl 236 _ _ rfl w.heap.size _ rfl rfl 236 _ r y (by rw[Aj,Aj,q,f]) (BG a) ?_)
   go_roundw
   case rel =>
    refine⟨k+1,_,by omega,by go_num,t.out,z.out.trans K,u.out,?_,?_,?_⟩
    .rw[heap_setCell_other _ _ _ _ (by simp)];exact H
    .simp;omega
    .exact D.setCell (p:=⟨w.heap.size,0,none⟩) (A' _) _
   case measure=>simp[intOf];omega
  .have hki:¬ (k:Int)<3:=by omega
   have F:Lim 67108864 m:=by
    obtain rfl:k=3:=by omega
    exact n
   go_wp2_with ((with_reducible (refine As ?_));first
    | (refine wpList_load_row rfl 236 _ rfl w.heap.size rfl 236 _ (0,0) _ B underlying236 rfl b ?_)
    | (refine wpList_store_row rfl 236 _ _ rfl (w.heap.size+1) _ rfl rfl 236 _ C b (by rw[Aj,Aj,f];rfl) (BG m) ?_))
   refine bodyPost_ret (v:=.agg (Ai m)) (results_cell_row rfl _ _ (w.heap.size+1) 236 _ (0,0) _ rfl (setRow_heap wr (w.heap.size+1) _ _ 236 _ C) underlying236 rfl b) rfl ⟨m,rfl,F,K,Bk E (by omega) _⟩
theorem Nm(n:Int):IntKind.u64.wrap n=n%18446744073709551616:=by simp[IntKind.wrap,IntKind.bits,IntKind.signed]
theorem SP(S:List Int)(f:S.length=5)(j:Nat)(g:j<5):∀ w,(Instr.index 236 (.agg (Ai S)) (.int .i64 (j:Int))).run prog w=.ok (.int .u64 (S.getD j 0)) w:=by
 intro w;obtain⟨a,b,c,d,e,rfl⟩:=Ox S f;obtain rfl|rfl|rfl|rfl|rfl:j=0\/j=1\/j=2\/j=3\/j=4:=by omega
 all_goals kernel_rfl
theorem Gm(w:World)(a b c:Obj):(((w.alloc a).alloc b).alloc c).heap[w.heap.size]?=some a/\(((w.alloc a).alloc b).alloc c).heap[w.heap.size+1]?=some b/\(((w.alloc a).alloc b).alloc c).heap[w.heap.size+1+1]?=some c/\Bw w (((w.alloc a).alloc b).alloc c):=by
 refine⟨?_,?_,?_,(((Below.refl _ _).alloc (A' _) _).alloc (by simp) _).alloc (by simp;omega) _⟩
 .rw[heap_alloc_old _ _ (by simp;omega)];exact heap_alloc2_old w a b
 .rw[heap_alloc_old _ _ (by simp)];exact heap_alloc2_new w a b
 .have:=heap_alloc_new ((w.alloc a).alloc b) c;simpa using this
theorem Lo(w:World)(a b c d:Obj):((((w.alloc a).alloc b).alloc c).alloc d).heap[w.heap.size]?=some a/\((((w.alloc a).alloc b).alloc c).alloc d).heap[w.heap.size+1]?=some b/\((((w.alloc a).alloc b).alloc c).alloc d).heap[w.heap.size+1+1]?=some c/\((((w.alloc a).alloc b).alloc c).alloc d).heap[w.heap.size+1+1+1]?=some d/\Bw w ((((w.alloc a).alloc b).alloc c).alloc d):=by
 obtain⟨e,f,g,h⟩:=Gm w a b c;refine⟨?_,?_,?_,?_,h.alloc (by simp;omega) _⟩
 .rw[heap_alloc_old _ _ (by simp;omega)];exact e
 .rw[heap_alloc_old _ _ (by simp)];exact f
 .rw[heap_alloc_old _ _ (by simp)];exact g
 .have:=heap_alloc_new (((w.alloc a).alloc b).alloc c) d;simpa using this
theorem ZW(l m:List Int)(w:World)(n:Lim 67108864 l)(d:Lim 67108864 m) :
  Calls prog 179 #[.agg (Ai l),.agg (Ai m)] w λe w'=>∃ r,e=.returned (.agg (Ai r))/\Lim 134217728 r/\val r=val l+val m/\Bw w w':=by
 have C:=n.1;have g:=Dj d.1;go_enter func179,ntmps179
 go_wp2_with ((with_reducible (refine As ?_));(refine wpList_load_row rfl 236 _ rfl (w.heap.size+1) rfl 236 _ (0,0) _ (Gm w _ _ _).2.1 underlying236 rfl g ?_))
 go_loopw [8] (λi wr=>∃ (k:Nat) (r:List Int),k<=5/\i=.int .i64 k/\Adds l m r k/\wr.heap[w.heap.size]?=some (.cells (Ai r) 236 (0,0))/\wr.heap[w.heap.size+1+1]?=some (.cells (Ai [0,0,0,0,0]) 236 (0,0))/\Bw w wr) (λi _=>5-(intOf i).toNat)
 case atStart=>exact⟨0,l,by omega,rfl,Adds.zero C,(Gm w _ _ _).1,(Gm w _ _ _).2.2.1,(Gm w _ _ _).2.2.2⟩
 case round =>
  obtain⟨k,r,G,rfl,j,o,z,A⟩:=hrel;have f:=j.len;by_cases c:k<5
  .have u:(k:Int)<5:=by omega
   have t:=SP m d.1 k c;have B:=(cell_of_row wr _ k _ _ _ o).trans (Au r k (by omega));have F:=frozen_of_row wr _ k _ _ o;have q:Hid (Adds l m (r.set k (r.getD k 0+m.getD k 0)) (k+1)):=j.succ c;have h:=n.2 k;rw[<- j.rest k (by omega)]at h
   have s:=d.2 k;generalize r.getD k 0=x at B q h;generalize m.getD k 0=y at t q s;obtain⟨h,D⟩:=h;obtain⟨s,E⟩:=s;go_wp2
   go_roundw
   case rel =>
    refine⟨k+1,_,by omega,by go_num,q.out,EQ o k _,?_,?_⟩
    .rw[heap_setCell_other _ _ _ _ (by simp;omega)];exact z
    .exact A.setCell (p:=⟨w.heap.size,k,none⟩) (A' _) _
   case measure=>simp[intOf];omega
  .have HK:Hid (k=5):=by unfold Hid;omega
   have u:¬ (k:Int)<5:=by omega
   have a:=Dj f;go_wp2_with ((with_reducible (refine As ?_));first
    | (refine wpList_load_row rfl 236 _ rfl (w.heap.size) rfl 236 _ (0,0) _ o underlying236 rfl a ?_)
    | (refine wpList_store_row rfl 236 _ _ rfl (w.heap.size+1+1) _ rfl rfl 236 _ z a (by rw[Aj,Aj,f];rfl) (BG r) ?_))
   have b:Adds l m r 5:=by have:=HK.out;subst this;exact j
   refine bodyPost_ret (v:=.agg (Ai r)) (results_cell_row rfl _ _ (w.heap.size+1+1) 236 _ (0,0) _ rfl (setRow_heap wr (w.heap.size+1+1) _ _ 236 _ z) underlying236 rfl a) rfl ⟨r,rfl,(b.se n d).1,(b.se n d).2,Bk A (by omega) _⟩
theorem Xr(n m:List Int)(w:World)(u:Lim 134217728 n)(s:Lim 67108864 m) :
  Calls prog 181 #[.agg (Ai n),.agg (Ai m)] w λe w'=>∃ r,e=.returned (.agg (Ai r))/\Lim 67108864 r/\val r%pp=(val n*val m)%pp/\Bw w w':=by
 have G:=Dj u.1;have F:=Dj s.1;go_enter func181,ntmps181
 go_wp2_with ((with_reducible (refine As ?_));(refine wpList_load_row rfl 236 _ rfl (w.heap.size) rfl 236 _ (0,0) _ (Lo w _ _ _ _).1 underlying236 rfl G ?_))
 go_loopw [11] (λi wr=>∃ (k:Nat) (r:List Int),k<=5/\i=.int .i64 k/\Prods n m r k 0/\wr.heap[w.heap.size+1]?=some (.cells (Ai m) 236 (0,0))/\wr.heap[w.heap.size+1+1]?=some (.cells (Ai [0,0,0,0,0]) 236 (0,0))/\wr.heap[w.heap.size+1+1+1]?=some (.cells (Ai r) 236 (0,0))/\Bw w wr) (λi _=>5-(intOf i).toNat)
 case atStart=>exact⟨0,_,by omega,rfl,Prods.zero n m,(Lo w _ _ _ _).2.1,(Lo w _ _ _ _).2.2.1,(Lo w _ _ _ _).2.2.2.1,(Lo w _ _ _ _).2.2.2.2⟩
 case round =>
  obtain⟨k,r,hk,rfl,b,a,o,d,h⟩:=hrel;have q:=b.len;by_cases D:k<5
  .have O:(k:Int)<5:=by omega
   have c:=SP n u.1 k D;obtain⟨x,Q⟩:∃ x,n.getD k 0=x:=⟨_,rfl⟩;rw[Q]at c
   have J:Hid (n.getD k 0=x):=Q;clear Q;go_wp2_with ((with_reducible (refine As ?_));(refine wpList_load_row rfl 236 _ rfl (w.heap.size+1) rfl 236 _ (0,0) _ a underlying236 rfl F ?_))
   go_loopw [16] (λi wr=>∃ (j:Nat) (r:List Int),j<=5/\i=.int .i64 j/\Prods n m r k j/\wr.heap[w.heap.size+1]?=some (.cells (Ai m) 236 (0,0))/\wr.heap[w.heap.size+1+1]?=some (.cells (Ai [0,0,0,0,0]) 236 (0,0))/\wr.heap[w.heap.size+1+1+1]?=some (.cells (Ai r) 236 (0,0))/\Bw w wr) (λi _=>5-(intOf i).toNat)
   case atStart=>exact⟨0,r,by omega,rfl,b,a,o,d,h⟩
   case round =>
    clear c;clear b a o d h q;obtain⟨j,r,hj,rfl,b,a,o,d,h⟩:=hrel;have q:=b.len;by_cases C:j<5
    .have N:(j:Int)<5:=by omega
     have c:=SP m s.1 j C;have f:=Ij (u.2 k) (s.2 j);rw[J.out]at f
     by_cases hs:k+j<5
     .have hsi:(k:Int)+(j:Int)<5:=by omega
      have I:=(cell_of_row _ _ (k+j) _ _ _ d).trans (Au r (k+j) (by omega));have W:=frozen_of_row _ _ (k+j) _ _ d;have g:Hid (Prods n m (r.set (k+j) (r.getD (k+j) 0+x*m.getD j 0)) k (j+1)):=by rw[<- J.out];exact b.tx u s hs
      have K:=b.low (k+j);have L:r.getD (k+j) 0<=1152921504606846976:=by have:=b.high (k+j);omega
      generalize r.getD (k+j) 0=z at I g K L;generalize m.getD j 0=y at c g f;obtain⟨U,V⟩:=f;have Y:IntKind.u64.wrap (x*y)=x*y:=by rw[Nm];omega
      have Z:IntKind.u64.wrap (z+x*y)=z+x*y:=by rw[Nm];omega
      clear b;go_wp2
      go_roundw
      case rel =>
       refine⟨j+1,_,by omega,by go_num,g.out,?_,?_,EQ d (k+j) _,?_⟩
       .rw[heap_setCell_other _ _ _ _ (by simp)];exact a
       .rw[heap_setCell_other _ _ _ _ (by simp)];exact o
       .exact h.setCell (p:=⟨w.heap.size+1+1+1,k+j,none⟩) (by simp;omega) _
      case measure=>simp[intOf];omega
     .have hsi:¬ (k:Int)+(j:Int)<5:=by omega
      have I:=(cell_of_row _ _ (k+j-5) _ _ _ d).trans (Au r (k+j-5) (by omega));have W:=frozen_of_row _ _ (k+j-5) _ _ d;have g:Hid (Prods n m (r.set (k+j-5) (r.getD (k+j-5) 0+x*m.getD j 0*5)) k (j+1)):=by rw[<- J.out];exact b.tg u s (by omega) D C
      have K:=b.low (k+j-5);have L:r.getD (k+j-5) 0<=1152921504606846976:=by have:=b.high (k+j-5);omega
      generalize r.getD (k+j-5) 0=z at I g K L;generalize m.getD j 0=y at c g f;obtain⟨U,V⟩:=f;have Y:IntKind.u64.wrap (x*y)=x*y:=by rw[Nm];omega
      have e3:IntKind.u64.wrap (x*y*5)=x*y*5:=by rw[Nm];omega
      have Z:IntKind.u64.wrap (z+x*y*5)=z+x*y*5:=by rw[Nm];omega
      clear b;obtain⟨t,ht⟩:∃ t:Nat,k+j=t+5:=⟨k+j-5,by omega⟩;have e4:(k:Int)+(j:Int)-5=(t:Int):=by omega
      have P:k+j-5=t:=by omega
      rw[P]at I W g
      go_wp2
      go_roundw
      case rel =>
       refine⟨j+1,_,by omega,by go_num,g.out,?_,?_,EQ d t _,?_⟩
       .rw[heap_setCell_other _ _ _ _ (by simp)];exact a
       .rw[heap_setCell_other _ _ _ _ (by simp)];exact o
       .exact h.setCell (p:=⟨w.heap.size+1+1+1,t,none⟩) (by simp;omega) _
      case measure=>simp[intOf];omega
    .have HJ:Hid (j=5):=by unfold Hid;omega
     have N:¬ (j:Int)<5:=by omega
     go_wp2
     go_roundw
     case rel=>exact⟨k+1,r,by omega,by go_num,by have:=HJ.out;subst this;exact b.row s.1,a,o,d,h⟩
     case measure=>simp[intOf];omega
  .have HK:Hid (k=5):=by unfold Hid;omega
   have O:¬ (k:Int)<5:=by omega
   have E:=Dj q;have B:Prods n m r 5 0:=by have:=HK.out;subst this;exact b
   obtain⟨l5,v5⟩:=B.se u.1;have R:w.heap.size+1+1<wr.heap.size:=(U'.1 o).1;clear b B a;go_wp2_with ((with_reducible (refine As ?_));(refine wpList_load_row rfl 236 _ rfl (w.heap.size+1+1+1) rfl 236 _ (0,0) _ d underlying236 rfl E ?_))
   refine(Kc r wr l5).mono ?_;rintro e X ⟨T,rfl,S,v1,A⟩;have H:=(A.block (w.heap.size+1+1) R).trans o;have M:Bw w X:=h.trans (A.mono h.size);have l:=Dj S.1;go_wp2_with ((with_reducible (refine As ?_));(refine wpList_store_row rfl 236 _ _ rfl (w.heap.size+1+1) _ rfl rfl 236 _ H l (by rw[Aj,Aj,S.1];rfl) (BG T) ?_))
   refine bodyPost_ret (v:=.agg (Ai T)) (results_cell_row rfl _ _ (w.heap.size+1+1) 236 _ (0,0) _ rfl (setRow_heap X (w.heap.size+1+1) _ _ 236 _ H) underlying236 rfl l) rfl ⟨T,rfl,S,v1.trans v5,Bk M (by omega) _⟩
theorem QG(w:World)(n:List Int)(_hn:n.length=5){A W:World}(e:A=((w.alloc (.cells (Ai n) 236 (0,0))).alloc (.cells (Ai [0,0,0,0,0]) 236 (0,0))).alloc (.cells (Ai [0,0,0,0,0]) 236 (0,0)))(f:A.setRow (w.heap.size+1+1) (Ai n)=W) :
  W.heap[w.heap.size]?=some (.cells (Ai n) 236 (0,0))/\W.heap[w.heap.size+1]?=some (.cells (Ai [0,0,0,0,0]) 236 (0,0))/\W.heap[w.heap.size+1+1]?=some (.cells (Ai n) 236 (0,0))/\Bw w W:=by
 obtain⟨a,b,c,d⟩:=Gm w (.cells (Ai n) 236 (0,0)) (.cells (Ai [0,0,0,0,0]) 236 (0,0)) (.cells (Ai [0,0,0,0,0]) 236 (0,0));rw[<- e]at a b c d
 subst f;refine⟨?_,?_,setRow_heap _ _ _ _ 236 _ c,Bk d (by omega) _⟩
 .rw[setRow_other _ _ _ _ (by omega)];exact a
 .rw[setRow_other _ _ _ _ (by omega)];exact b
theorem Wp(n:List Int)(w:World)(u:Lim 67108864 n) :
  Calls prog 182 #[.agg (Ai n)] w λe w'=>∃ r,e=.returned (.agg (Ai r))/\Lim 67108864 r/\val r=val n%pp/\Bw w w':=by
 have t:=u.1;have c:=Dj t;have T:=u.2 0;have a:(n.set 0 (n.getD 0 0+5)).length=5:=by simpa using t
 have q:Lim 9223372036854775808 (n.set 0 (n.getD 0 0+5)):=by
  refine⟨a,λj=>?_⟩;by_cases e:0=j
  .subst e;rw[AT (by omega)];omega
  .rw[AF e];have:=u.2 j;omega
 have s:=Dj a;have B:Hid (∀ m o,Carr (n.set 0 (n.getD 0 0+5)) m 5 o->Lim 67108864 m/\(0<o->val m=val n%pp)/\(¬ 0<o->val n=val n%pp)):=λm o h=>Tc u h;have g:Hid (∀ W:World,W.heap[w.heap.size+1+1]?=some (.cells (Ai n) 236 (0,0))->(W.setCell ⟨w.heap.size+1+1,0,none⟩ (.int .u64 (n.getD 0 0+5))).heap[w.heap.size+1+1]?=some (.cells (Ai (n.set 0 (n.getD 0 0+5))) 236 (0,0))):=λW h=>EQ h 0 _;have E:Hid (∀ W:World,W.heap[w.heap.size+1+1]?=some (.cells (Ai n) 236 (0,0))->W.cell? ⟨w.heap.size+1+1,0,none⟩=some (.int .u64 (n.getD 0 0))):=λW h=>(cell_of_row W _ 0 _ _ _ h).trans (Au n 0 (by omega));generalize n.set 0 (n.getD 0 0+5)=m0 at q B s g a;generalize n.getD 0 0=x at T g E;obtain⟨x1,x2⟩:=T;obtain⟨A,I⟩:∃ A,A=((w.alloc (.cells (Ai n) 236 (0,0))).alloc (.cells (Ai [0,0,0,0,0]) 236 (0,0))).alloc (.cells (Ai [0,0,0,0,0]) 236 (0,0)):=⟨_,rfl⟩;obtain⟨l,i⟩:∃ W,A.setRow (w.heap.size+1+1) (Ai n)=W:=⟨_,rfl⟩;obtain⟨N,O,s3,P⟩:=QG w n t I i;rw[I]at i
 clear I;have L:=E.out l s3;have M:=frozen_of_row l _ 0 _ _ s3;have C:=g.out l s3;have Q:(l.setCell ⟨w.heap.size+1+1,0,none⟩ (.int .u64 (x+5))).heap[w.heap.size]?=some (.cells (Ai n) 236 (0,0)):=by rw[heap_setCell_other _ _ _ _ (by simp;omega)];exact N
 have R:(l.setCell ⟨w.heap.size+1+1,0,none⟩ (.int .u64 (x+5))).heap[w.heap.size+1]?=some (.cells (Ai [0,0,0,0,0]) 236 (0,0)):=by rw[heap_setCell_other _ _ _ _ (by simp)];exact O
 have J:Bw w (l.setCell ⟨w.heap.size+1+1,0,none⟩ (.int .u64 (x+5))):=P.setCell (p:=⟨w.heap.size+1+1,0,none⟩) (by simp;omega) _;have V:w.heap.size+1+1<(l.setCell ⟨w.heap.size+1+1,0,none⟩ (.int .u64 (x+5))).heap.size:=(U'.1 C).1;have F:Hid _:=i;clear i N O s3 P g E;go_enter func182,ntmps182
 go_wp2_with ((with_reducible (refine As ?_));first
  | (refine wpList_load_row rfl 236 _ rfl (w.heap.size) rfl 236 _ (0,0) _ (heap_alloc2_old _ _ _) underlying236 rfl c ?_)
  | (refine wpList_store_row rfl 236 _ _ rfl (w.heap.size+1+1) _ rfl rfl 236 (Ai [0,0,0,0,0]) (Gm w _ _ _).2.2.1 c (by rw[Aj,Aj,t];rfl) (BG n) ?_;refine(congrArg (wpList _ _ _ _ _) F.out).mpr ?_)
  | (refine wpList_load_row rfl 236 _ rfl (w.heap.size+1+1) rfl 236 _ (0,0) _ C underlying236 rfl s ?_))
 refine(QU m0 _ q).mono ?_;rintro e z ⟨f,o,rfl,k,d⟩;obtain⟨y,G,H⟩:=B.out f o k;have o1:=k.lo;generalize l.setCell _ _=W2 at d Q R C J V;have X:=(d.block w.heap.size (by omega)).trans Q;have Y:=(d.block (w.heap.size+1) (by omega)).trans R;have K:=(d.block (w.heap.size+1+1) (by omega)).trans C;have Z:Bw w z:=J.trans (d.mono J.size);have v1:(z.setRow (w.heap.size+1+1) (Ai f)).heap[w.heap.size]?=some (.cells (Ai n) 236 (0,0)):=(setRow_other _ _ _ _ (by omega)).trans X;have D:(z.setRow (w.heap.size+1+1) (Ai f)).heap[w.heap.size+1]?=some (.cells (Ai [0,0,0,0,0]) 236 (0,0)):=(setRow_other _ _ _ _ (by omega)).trans Y;have v3:=setRow_heap z (w.heap.size+1+1) _ (Ai f) 236 _ K;have S:Bw w (z.setRow (w.heap.size+1+1) (Ai f)):=Bk Z (by omega) _;have b:=Dj y.1;by_cases U:0<o
 .have g1':=G U;clear G H k B L M F;go_wp2_with ((with_reducible (refine As ?_));first
   | (refine wpList_store_row rfl 236 _ _ rfl (w.heap.size+1+1) _ rfl rfl 236 _ K b (by rw[Aj,Aj,y.1,a]) (BG f) ?_)
   | (refine wpList_load_row rfl 236 _ rfl (w.heap.size+1+1) rfl 236 _ (0,0) _ v3 underlying236 rfl b ?_)
   | (refine wpList_store_row rfl 236 _ _ rfl (w.heap.size+1) _ rfl rfl 236 _ D b (by rw[Aj,Aj,y.1];rfl) (BG f) ?_))
  exact bodyPost_ret (v:=.agg (Ai f)) (results_cell_row rfl _ _ (w.heap.size+1) 236 _ (0,0) _ rfl (setRow_heap _ (w.heap.size+1) _ _ 236 _ D) underlying236 rfl b) rfl ⟨f,rfl,y,g1',Bk S (by omega) _⟩
 .have g2':=H (by omega);clear G H k B L M F;go_wp2_with ((with_reducible (refine As ?_));first
   | (refine wpList_store_row rfl 236 _ _ rfl (w.heap.size+1+1) _ rfl rfl 236 _ K b (by rw[Aj,Aj,y.1,a]) (BG f) ?_)
   | (refine wpList_load_row rfl 236 _ rfl (w.heap.size) rfl 236 _ (0,0) _ v1 underlying236 rfl c ?_)
   | (refine wpList_store_row rfl 236 _ _ rfl (w.heap.size+1) _ rfl rfl 236 _ D c (by rw[Aj,Aj,t];rfl) (BG n) ?_))
  exact bodyPost_ret (v:=.agg (Ai n)) (results_cell_row rfl _ _ (w.heap.size+1) 236 _ (0,0) _ rfl (setRow_heap _ (w.heap.size+1) _ _ 236 _ D) underlying236 rfl c) rfl ⟨n,rfl,u,g2',Bk S (by omega) _⟩
theorem WI(k q a:Nat)(h:a+26*q=8*k)(c:a<26):(0:Int)<=2^a/\(2:Int)^a<=33554432/\(2:Int)^a*67108864^q=256^k:=by
 refine⟨qD (Int.pow_pos (by omega)),?_,?_⟩
 .have h1:(2:Nat)^a<=2^25:=Nat.pow_le_pow_right (by omega) (by omega);have b:(((2:Nat)^a:Nat):Int)<=((2^25:Nat):Int):=Int.ofNat_le.2 h1;rw[pN]at b
  exact b
 .rw[show(67108864:Int)=2^26 from rfl,show(256:Int)=2^8 from rfl,<- Int.pow_mul,<- Int.pow_mul,<- pY,h]
theorem Ro(v:Value)(b:List Int)(w:World)(h:Sl w v b)(hl:b.length<=17) :
  Calls prog 183 #[v] w λe w'=>∃ r,e=.returned (.agg (Ai r))/\Lim 67108864 r/\val r%pp=leN b%pp/\Bw w w':=by
 obtain⟨⟨a,a0,rfl,hc,hn,L⟩,W,C⟩:=h;have f:∃ B c,(b≠[]->a=some ⟨B,c,none⟩)/\(b≠[]->B<w.heap.size)/\∀ i,i<b.length->w.cell? ⟨B,c+i,none⟩=some (.int .u8 (b.getD i 0)):=by
  rcases L with rfl|⟨B,c,rfl,s,f⟩
  .exact⟨0,0,λh=>absurd rfl h,λh=>absurd rfl h,λi hi=>by simp at hi⟩
  .exact⟨B,c,λ_=>rfl,λ_=>s,f⟩
 clear L;obtain⟨B,c,ha,hB,u⟩:=f;have HC:Hid (∀ i,i<b.length->w.cell? ⟨B,c+i,none⟩=some (.int .u8 (b.getD i 0))):=u;have HA:Hid (b≠[]->a=some ⟨B,c,none⟩):=ha;have HB:Hid (b≠[]->B<w.heap.size):=hB;have N:Hid (∀ x∈b,0<=x/\x<256):=C;obtain⟨n,K⟩:∃ n,Hid (b.length=n):=⟨_,rfl⟩;rw[K.out]at hl hc W ⊢
 clear u ha hB C hn;go_enter func183,ntmps183
 go_wp2_with fail
 go_loopw [8] (λi wr=>∃ (k:Nat) (r:List Int),k<=n/\i=.int .i64 k/\Reads b r k/\wr.heap[w.heap.size]?=some (.cells (Ai [0,0,0,0,0]) 236 (0,0))/\wr.heap[w.heap.size+1]?=some (.cells (Ai r) 236 (0,0))/\Bw w wr) (λi _=>n-(intOf i).toNat)
 case atStart=>exact⟨0,_,by omega,rfl,Reads.zero b,heap_alloc2_old _ _ _,heap_alloc2_new _ _ _,((Below.refl _ _).alloc (A' _) _).alloc (by simp) _⟩
 case round =>
  obtain⟨k,r,hk,rfl,g,X,M,s⟩:=hrel;have G:=g.len;by_cases V:k<n
  .have U:(k:Int)<(n:Int):=by omega
   have E:b≠[]:=by intro e;have:=K.out;rw[e]at this;simp at this;omega
   have hA:=HA.out E;subst hA;have T:=HB.out E;have ck:=(s.cell (p:=⟨B,c+k,none⟩) T).trans (HC.out k (by rw[K.out];exact V));have l:=Ak N.out k;have O:Hid (∀ (q:Nat) (m:Int),q<5->0<=m/\m<=33554432->m*67108864^q=256^k->Reads b (r.set q (r.getD q 0+b.getD k 0*m)) (k+1)):=λq m L Q R=>g.succ l q m L Q R;have HR:Hid (∀ t,0<=r.getD t 0/\r.getD t 0<=300000000000):=λt=>⟨g.low t,by have:=g.high t;omega⟩;have J:Hid (∀ t,t<5->wr.cell? ⟨w.heap.size+1,t,none⟩=some (.int .u64 (r.getD t 0))):=λt ht=>(cell_of_row _ _ t _ _ _ M).trans (Au r t (by omega));have HF:Hid (∀ t,wr.frozen? ⟨w.heap.size+1,t,none⟩=false):=λt=>frozen_of_row _ _ t _ _ M;have P:Hid (∀ t x,(wr.setCell ⟨w.heap.size+1,t,none⟩ (.int .u64 x)).heap[w.heap.size+1]?=some (.cells (Ai (r.set t x)) 236 (0,0))):=λt x=>EQ M t x;generalize b.getD k 0=x at ck O l;obtain⟨x1,x2⟩:=l;clear g;obtain⟨q,hq⟩:∃ q,8*k/26=q:=⟨_,rfl⟩;have F:q<5:=by omega
   have cq:=J.out q F;have fq:=HF.out q;have rq:=HR.out q;have z:Hid (∀ (m:Int),0<=m/\m<=33554432->m*67108864^q=256^k->Reads b (r.set q (r.getD q 0+x*m)) (k+1)):=λm Q R=>O.out q m F Q R;generalize r.getD q 0=y at cq rq z;obtain⟨y1,y2⟩:=rq;obtain⟨d,a1⟩:∃ d,8*k%26=d:=⟨_,rfl⟩;have o:d<26:=by omega
   have i1:(8*(k:Int))/26=(q:Int):=by omega
   have i2:(8*(k:Int))%26=(d:Int):=by omega
   have i3:Int.tdiv (8*(k:Int)) 26=(q:Int):=by rw[ry (by omega)];exact i1
   have i4:Int.tmod (8*(k:Int)) 26=(d:Int):=by rw[Int.tmod_eq_emod_of_nonneg (by omega)];exact i2
   have HP:Hid ((0:Int)<=2^d/\(2:Int)^d<=33554432/\(2:Int)^d*67108864^q=256^k):=WI k q d (by omega) o;clear hq J HF HR O;go_wp2_with fail
   refine Av 13 (by kernel_rfl) (by kernel_rfl) ?_;simp only[oB,oI,oL,pm]
   repeat (go_big_quiet_step (fail))
   refine wpQuiet_nil ?_;go_wp2
   obtain⟨p1,p2,p3⟩:=HP.out;have q1:0<=x*2^d:=rZ x1 p1;have q2:x*2^d<=256*33554432:=r8 (by omega) p2 p1 (by omega);rw[show IntKind.u64.wrap (x*2^d)=x*2^d by rw[Nm];omega,show IntKind.u64.wrap (y+x*2^d)=y+x*2^d by rw[Nm];omega];go_roundw
   case rel =>
    refine⟨k+1,_,by omega,by go_num,z.out (2^d) ⟨p1,p2⟩ p3,?_,P.out q _,?_⟩
    .exact(heap_setCell_other _ _ _ _ (by simp)).trans X
    .exact(s.setCell (p:=⟨w.heap.size+1,q,none⟩) (by simp) _).drew
   case measure=>simp[intOf];omega
  .have J:Hid (k=n):=by unfold Hid;omega
   have U:¬ (k:Int)<(n:Int):=by omega
   have H:=Dj G;have D:Lim 1152921504606846976 r:=⟨G,λt=>⟨g.low t,by have:=g.high t;omega⟩⟩;have HV:Hid (val r=leN b):=by
    unfold Hid;rw[g.sum,J.out,<- K.out];rfl
   have Y:w.heap.size<wr.heap.size:=(U'.1 X).1;clear g;go_wp2_with ((with_reducible (refine As ?_));(refine wpList_load_row rfl 236 _ rfl (w.heap.size+1) rfl 236 _ (0,0) _ M underlying236 rfl H ?_))
   refine(Kc r wr D).mono ?_;rintro e w1 ⟨r1,rfl,Z,v1,A⟩;have I:=(A.block w.heap.size Y).trans X;have S:Bw w w1:=s.trans (A.mono s.size);have j:=Dj Z.1;go_wp2_with ((with_reducible (refine As ?_));(refine wpList_store_row rfl 236 _ _ rfl (w.heap.size) _ rfl rfl 236 _ I j (by rw[Aj,Aj,Z.1];rfl) (BG r1) ?_))
   exact bodyPost_ret (v:=.agg (Ai r1)) (results_cell_row rfl _ _ (w.heap.size) 236 _ (0,0) _ rfl (setRow_heap w1 (w.heap.size) _ _ 236 _ I) underlying236 rfl j) rfl ⟨r1,rfl,Z,by rw[v1,HV.out],Bk S (A' _) _⟩
def byA(l:List Int):Array Value:=(l.map (Value.int .u8)).toArray
theorem cL(l:List Int)(i:Nat)(x:Int):(byA l).setIfInBounds i (.int .u8 x)=byA (l.set i x):=by
 apply rG;simp[byA,List.map_set]
theorem GX(h:w.heap[g]?=some (.cells (byA l) t (0,0)))(k:Nat)(x:Int) :
  (w.setCell ⟨g,k,none⟩ (.int .u8 x)).heap[g]?=some (.cells (byA (l.set k x)) t (0,0)):=by
 rw[heap_setCell_same _ _ _ _ _ _ h,cL]
theorem Iz(l:List Int)(i:Nat)(h:i<l.length):(byA l)[i]?=some (.int .u8 (l.getD i 0)):=by
 simp[byA,List.getD,List.getElem?_eq_getElem h]
theorem YR:(prog.info? 5).map (·.size)=some 1:=by kernel_rfl
theorem Ja(l:List Int)(n:Nat):splice ((List.replicate n (0:Int)).map (Value.int .u8)) 0 (l.map (Value.int .u8))=(l++List.replicate (n-l.length) 0).map (Value.int .u8):=by
 have e:(List.replicate n (0:Int)).map (Value.int .u8)=List.replicate n (Value.int .u8 0):=qf;rw[e];simp only[splice,oI,oJ,nA,nM,List.drop_replicate,nG,qf]
theorem Sl.src{i:Option Addr}{c:Nat}(h:Sl w (.slice i n c) l)(q:0<l.length):∃ ad,i=some ad/\∀ (j:Nat) (v:Value),(l.map (Value.int .u8))[j]?=some v->w.cell? (ad.add j)=some v:=by
 obtain⟨⟨a,k,e,r,s,m⟩,p,o⟩:=h;simp only[Value.slice.injEq]at e;obtain⟨rfl,rfl,rfl⟩:=e;rcases m with rfl|⟨b,off,rfl,_,hcell⟩
 .simp at q
 .refine⟨_,rfl,λj v g=>?_⟩;have d:j<l.length:=by
   have:=(V'.1 g).1;simpa using this
  have f:(⟨b,off,none⟩:Addr).add j=⟨b,off+j,none⟩:=by unfold Addr.add;split<;>simp_all
  rw[f,hcell j d];simp[List.getElem?_eq_getElem d]at g
  rw[AQ d,g]
theorem Sl.uz(h:w.heap[g]?=some (.cells (byA l) t fr))(c:l.length<=140737488351232)(a:∀ x∈l,0<=x/\x<256):Sl w (.slice (some ⟨g,0,none⟩) l.length l.length) l:=by
 refine⟨⟨_,l.length,rfl,by simp,by simp,.inr ⟨g,0,rfl,(U'.1 h).1,λi b=>?_⟩⟩,c,a⟩;rw[cell_of_row _ _ (0+i) _ _ _ h,nM,Iz l i b]
theorem Sl.rowOf(h:w.heap[g]?=some (.cells (byA l) t fr))(c:l.length=n)(b:l.length<=140737488351232)(a:∀ x∈l,0<=x/\x<256):Sl w (.slice (some ⟨g,0,none⟩) n n) l:=by
 subst c;exact Sl.uz h b a
theorem Zt(l:List Int)(h:l.length<=16):(l++List.replicate (17-l.length) 0).set l.length 1=l++[1]++List.replicate (16-l.length) 0:=by
 rw[pj _ _ (A' _),show 17-l.length=16-l.length+1 by omega,List.replicate_succ];simp
theorem Zs(l:List Int)(n:Nat):leN (l++[1]++List.replicate n 0)=leN (l++[1]):=by
 rw[SZ,Wn];omega
theorem Rb(v:Value)(l:List Int)(w:World)(h:Sl w v l)(N:l.length<=16) :
  Calls prog 180 #[v] w λe w'=>∃ r,e=.returned (.agg (Ai r))/\Lim 67108864 r/\val r%pp=leN (l++[1])%pp/\Bw w w':=by
 have H:=h;obtain⟨⟨a,J,rfl,T,P,M⟩,O,q⟩:=h;have u:Hid (∀ x∈l,0<=x/\x<256):=q;have E:=Zt l N;have k:=Zs l (16-l.length);clear M q P;go_enter func180,ntmps180
 go_wp2_with (refine wpList_copy_splice rfl _ _ 27 27 rfl 5 underlying27 YR _ _ _ _ _ _ rfl rfl (w.heap.size+1) 0 ((List.replicate 17 (0:Int)).map (Value.int .u8)) 283 (heap_alloc2_new _ _ _) (l.map (Value.int .u8)) (by rw[nA];exact(oC (show l.length<=17 by omega)).symm) (λQ=>⟨rfl,(H.af (((Below.refl _ _).alloc (A' _) _).alloc (by simp) _)).src (by simpa using Q)⟩) (by rw[nA,nA,oO];omega) (Fl _) (w.heap.size+1) _ (Below.refl _ _) (A' _) ?_)
 intro f D g;have c:f.heap[w.heap.size+1]?=some (.cells (byA (l++List.replicate (17-l.length) 0)) 283 (0,0)):=by
  have F:f.heap[w.heap.size+1]?=some (.cells (splice ((List.replicate 17 (0:Int)).map (Value.int .u8)) 0 (l.map (Value.int .u8))).toArray 283 (0,0)):=D.out;rw[Ja]at F
  exact F
 have y:Bw w f:=(((Below.refl _ _).alloc (A' _) _).alloc (by simp) _).trans (g.mono (by omega));have A:f.heap[w.heap.size]?=some (.cells (Ai [0,0,0,0,0]) 236 (0,0)):=by
  rw[g.block _ (by omega)];exact heap_alloc2_old _ _ _
 clear D g;have G:(l++List.replicate (17-l.length) (0:Int)).length=17:=by simp;omega
 have K:=(cell_of_row _ _ l.length _ _ _ c).trans (Iz _ l.length (by omega));have fl:=frozen_of_row _ _ l.length _ _ c;have i:=GX c l.length 1;rw[E]at i
 have s:(f.setCell ⟨w.heap.size+1,l.length,none⟩ (.int .u8 1)).heap[w.heap.size]?=some (.cells (Ai [0,0,0,0,0]) 236 (0,0)):=(heap_setCell_other _ _ _ _ (by simp)).trans A;have n:Bw w (f.setCell ⟨w.heap.size+1,l.length,none⟩ (.int .u8 1)):=y.setCell (p:=⟨w.heap.size+1,l.length,none⟩) (by simp) _;have B:w.heap.size<(f.setCell ⟨w.heap.size+1,l.length,none⟩ (.int .u8 1)).heap.size:=(U'.1 s).1;have s3:Sl (f.setCell ⟨w.heap.size+1,l.length,none⟩ (.int .u8 1)) (.slice (some ⟨w.heap.size+1,0,none⟩) 17 17) (l++[1]++List.replicate (16-l.length) 0):=by
  refine Sl.rowOf i (by simp;omega) (by simp;omega) ?_;intro x R;rcases P'.1 R with h|h
  .rcases P'.1 h with h|h
   .exact u.out x h
   .simp at h;omega
  .rw[(qd.1 h).2];omega
 have b:(l++[1]++List.replicate (16-l.length) (0:Int)).length<=17:=by simp;omega
 have m:Hid _:=s3;have j:Hid (leN (l++[1]++List.replicate (16-l.length) 0)=leN (l++[1])):=k;clear i c E k s3 H;generalize l++[1]++List.replicate (16-l.length) 0=L at m b j;generalize (l++List.replicate (17-l.length) (0:Int)).getD l.length 0=c0 at K;go_wp2_with fail
 refine(Ro _ L _ m.out b).mono ?_;rintro e I ⟨r,rfl,C,S,o⟩;have t:=(o.block w.heap.size B).trans s;have z:Bw w I:=n.trans (o.mono n.size);have d:=Dj C.1;go_wp2_with ((with_reducible (refine As ?_));(refine wpList_store_row rfl 236 _ _ rfl (w.heap.size) _ rfl rfl 236 _ t d (by rw[Aj,Aj,C.1];rfl) (BG r) ?_))
 exact bodyPost_ret (v:=.agg (Ai r)) (results_cell_row rfl _ _ (w.heap.size) 236 _ (0,0) _ rfl (setRow_heap I (w.heap.size) _ _ 236 _ t) underlying236 rfl d) rfl ⟨r,rfl,C,by rw[S,j.out],Bk z (A' _) _⟩
def kK:Value->Nat
 | .slice _ n _=>n
 | _=>0
theorem j0{a:Array Value}(t:List Int)(c:w.heap[g]?=some (.cells a 236 (0,0)))(d:a.size=5)(e:t.length=5):(storeCells ⟨g,0,none⟩ (Ai t).toList).run prog w=.ok () (w.setRow g (Ai t)):=by
 have:=run_storeCells_from (P:=prog) g 236 (Ai t).toList 0 a w c (by simp[Aj];omega) (λv b=>by simp[Ai]at b;obtain⟨x,_,rfl⟩:=b;rfl);rw[this];simp[Ai]
theorem NG{d:Nat}{K:Act->World->Prop}(R:List Int->List Int->List Int->World->Prop){A:List Int->List Int->List Int->Act}(c:∀ K':Act->World->Prop,Hid (∀ x y z W2,R x y z W2->K' (A x y z) W2)->(Code.region d ops true).wp P (Exit.then K' Q) a w)(b:∀ x y z W2,R x y z W2->K (A x y z) W2):(Code.region d ops true).wp P (Exit.then K Q) a w:=c K b
theorem Pn(rl:List Int)(R:Int)(v:Value)(l:List Int)(w:World)(h:Sl w v l)(hl:l.length<=4000)(hr:Lim 67108864 rl)(hR:val rl%pp=R%pp) :
  Calls prog 152 #[.agg (Ai rl),v] w λe w'=>∃ r,e=.returned (.agg (Ai r))/\Lim 67108864 r/\val r=gE R l/\Bw w w':=by
 obtain⟨a0,c0,rfl⟩:∃ a c,v=.slice a l.length c:=by
  obtain⟨⟨a,c,e,_⟩,_⟩:=h;exact⟨a,c,e⟩
 have HR:Hid (val rl%pp=R%pp):=hR;clear hR;go_enter func152,ntmps152
 go_wp2_with fail
 go_loopw [1] (λY wr=>∃ (k:Nat) (P:List Int) (a:Option Addr) (c:Nat),16*k<=l.length+15/\Y=.slice a (l.length-16*k) c/\Sl w Y (l.drop (16*k))/\Lim 67108864 P/\val P%pp=K6 R l k%pp/\wr.heap[w.heap.size]?=some (.cells (Ai rl) 236 (0,0))/\wr.heap[w.heap.size+1]?=some (.cells (Ai [0,0,0,0,0]) 236 (0,0))/\wr.heap[w.heap.size+1+1]?=some (.cells (Ai P) 236 (0,0))/\Bw w wr) (λY _=>kK Y)
 case atStart =>
  obtain⟨S,s2,s3,s4⟩:=Gm w (.cells (Ai rl) 236 (0,0)) (.cells (Ai [0,0,0,0,0]) 236 (0,0)) (.cells (Ai [0,0,0,0,0]) 236 (0,0));exact⟨0,[0,0,0,0,0],a0,c0,by omega,rfl,h,Lim.uy (by omega) (by omega) (by omega) (by omega) (by omega),rfl,S,s2,s3,s4⟩
 case round =>
  clear h;obtain⟨k,P,a,c,hk,rfl,hs,x,z,m,hz,y,Z⟩:=hrel;by_cases b8:16*k<l.length
  .obtain⟨n,hne⟩:∃ n,l.length-16*k=n:=⟨_,rfl⟩;have a3:Hid (l.length-16*k=n):=hne;have c6:0<n:=by omega
   have c4:(0:Int)<(n:Int):=by omega
   rw[hne]at hs ⊢
   have b9:(l.drop (16*k)).length=n:=by rw[nc];exact hne
   obtain⟨n0,n1,n2,n3,n4,rfl,_⟩:=x.split;obtain⟨r0,Q,r2,r3,r4,rfl,_⟩:=hr.split;have E:=(cell_of_row _ _ 0 _ _ _ y).trans (Au _ 0 (by simp));have F:=(cell_of_row _ _ 1 _ _ _ y).trans (Au _ 1 (by simp));have G:=(cell_of_row _ _ 2 _ _ _ y).trans (Au _ 2 (by simp));have H:=(cell_of_row _ _ 3 _ _ _ y).trans (Au _ 3 (by simp));have I:=(cell_of_row _ _ 4 _ _ _ y).trans (Au _ 4 (by simp));have J:=(cell_of_row _ _ 0 _ _ _ m).trans (Au _ 0 (by simp));have K:=(cell_of_row _ _ 1 _ _ _ m).trans (Au _ 1 (by simp));have L:=(cell_of_row _ _ 2 _ _ _ m).trans (Au _ 2 (by simp));have M:=(cell_of_row _ _ 3 _ _ _ m).trans (Au _ 3 (by simp));have N:=(cell_of_row _ _ 4 _ _ _ m).trans (Au _ 4 (by simp));simp only[nz,nR]at E F G H I J K L M N;have i:w.heap.size+1+1<wr.heap.size:=(U'.1 y).1;have j:w.heap.size<wr.heap.size:=by omega
   have HN:Hid _:=y;have a4:Hid _:=m;have HZ:Hid _:=hz;have HB:Hid _:=Z;have a6:Hid (val [n0,n1,n2,n3,n4]%pp=K6 R l k%pp):=z;clear y m hz Z z hne;obtain⟨o,c3,B,f⟩:∃ o:Nat,(if(n:Int)<16 then(n:Int)else 16)=(o:Int)/\o<=n/\((o=16)\/(o=n/\n<16)):=by
    by_cases u:(n:Int)<16
    .exact⟨n,by rw[if_pos u],by omega,.inr ⟨rfl,by omega⟩⟩
    .exact⟨16,by rw[if_neg u];rfl,by omega,.inl rfl⟩
   obtain⟨a1,c1,a8,st⟩:=hs.sa o (by omega);obtain⟨a2,c2,c5,sd⟩:=hs.from o (by omega);have U:((l.drop (16*k)).take o).length<=16:=by rw[j'];omega
   have HP:Hid ((l.drop (16*k)).take o=piece l k):=by
    unfold Hid piece;rcases f with rfl|⟨rfl,u⟩
    .rfl
    .rw[nf (by omega),nf (by omega)]
   have HD:Hid ((l.drop (16*k)).drop o=l.drop (16*(k+1))/\n-o=l.length-16*(k+1)):=by
    unfold Hid;have:=a3.out;rw[pK];rcases f with rfl|⟨rfl,u⟩
    .exact⟨by congr 1,by omega⟩
    .refine⟨?_,by omega⟩;rw[oc (by omega),oc (by omega)]
   have a5:Hid (1<=o):=by unfold Hid;omega
   clear f;go_wp2_with fail
   apply NG (λm1 S A W=>Lim 67108864 A/\val A%pp=K6 R l (k+1)%pp/\W.heap[w.heap.size]?=some (.cells (Ai [r0,Q,r2,r3,r4]) 236 (0,0))/\W.heap[w.heap.size+1]?=some (.cells (Ai [0,0,0,0,0]) 236 (0,0))/\W.heap[w.heap.size+1+1]?=some (.cells (Ai A) 236 (0,0))/\Bw w W)
   .intro K2 HK2
    go_region_with (first
     | (go_at_call 180;refine(Rb _ _ _ (st.af HB.out.drew) U).mono ?_;rintro e w2 ⟨m1,rfl,b0,X,b⟩;have s:w.heap.size+1+1<w2.heap.size:=X' i b.size;have g:w.heap.size<w2.heap.size:=X' j b.size;have c9:=(b.cell (p:=⟨w.heap.size+1+1,0,none⟩) i).trans E;have d0:=(b.cell (p:=⟨w.heap.size+1+1,1,none⟩) i).trans F;have d3:=(b.cell (p:=⟨w.heap.size+1+1,2,none⟩) i).trans G;have d4:=(b.cell (p:=⟨w.heap.size+1+1,3,none⟩) i).trans H;have d5:=(b.cell (p:=⟨w.heap.size+1+1,4,none⟩) i).trans I;have b1:=(b.cell (p:=⟨w.heap.size,0,none⟩) j).trans J;have b2:=(b.cell (p:=⟨w.heap.size,1,none⟩) j).trans K;have b3:=(b.cell (p:=⟨w.heap.size,2,none⟩) j).trans L;have b4:=(b.cell (p:=⟨w.heap.size,3,none⟩) j).trans M;have b5:=(b.cell (p:=⟨w.heap.size,4,none⟩) j).trans N)
     | (go_at_call 179;refine(ZW [n0,n1,n2,n3,n4] m1 _ x b0).mono ?_;rintro e w3 ⟨S,rfl,b6,b7,d⟩;have C:w.heap.size+1+1<w3.heap.size:=X' s d.size;have d6:=(d.cell (p:=⟨w.heap.size,0,none⟩) g).trans b1;have d7:=(d.cell (p:=⟨w.heap.size,1,none⟩) g).trans b2;have d8:=(d.cell (p:=⟨w.heap.size,2,none⟩) g).trans b3;have d9:=(d.cell (p:=⟨w.heap.size,3,none⟩) g).trans b4;have e0:=(d.cell (p:=⟨w.heap.size,4,none⟩) g).trans b5)
     | (go_at_call 181;refine(Xr S [r0,Q,r2,r3,r4] _ b6 hr).mono ?_;rintro e w4 ⟨A,rfl,t,O,q⟩;have c8:=j0 A ((q.block _ C).trans ((d.block _ s).trans ((b.block _ i).trans HN.out))) rfl t.1;have c7:(Ai A).size=5:=by rw[Aj];exact t.1))
    all_goals
     refine HK2.out m1 S A _ ⟨t,?_,?_,?_,?_,?_⟩
     .rw[HP.out]at X
      exact X1 a6.out X b7 HR.out O
     .exact(setRow_other _ _ _ _ (by omega)).trans ((q.block _ (by omega)).trans ((d.block _ (by omega)).trans ((b.block _ j).trans a4.out)))
     .exact(setRow_other _ _ _ _ (by omega)).trans ((q.block _ (by omega)).trans ((d.block _ (by omega)).trans ((b.block _ (Nat.lt_of_succ_lt i)).trans HZ.out)))
     .exact setRow_heap _ _ _ _ 236 _ ((q.block _ C).trans ((d.block _ s).trans ((b.block _ i).trans HN.out)))
     .exact Bk (((HB.out.drew.trans (b.mono (pD j))).trans (d.mono (pD g))).trans (q.mono (by omega))) (by omega) _
   intro m1 S A W hW;obtain⟨t,O,q1,q2,q3,q4⟩:=hW;clear E F G H I J K L M N st a8 U;go_wp2
   go_roundw
   case rel =>
    obtain⟨d1,d2⟩:=HD.out;rw[d1]at sd
    exact⟨k+1,A,a2,c2,by omega,by rw[d2],sd,t,O,q1,q2,q3,q4⟩
   case measure=>have:=a5.out;simp[kK];omega
  .have HK:Hid (k=P0 l):=by unfold Hid P0;omega
   have D:l.length-16*k=0:=by omega
   rw[D];have B:=Dj x.1;have a9:w.heap.size+1<wr.heap.size:=(U'.1 hz).1;have HV:Hid (val P%pp=K6 R l k%pp):=z;clear z hs;go_wp2_with ((with_reducible (refine As ?_));(refine wpList_load_row rfl 236 _ rfl (w.heap.size+1+1) rfl 236 _ (0,0) _ y underlying236 rfl B ?_))
   refine(Wp P wr x).mono ?_;rintro e w1 ⟨Q,rfl,l1,v1,T⟩;have V:=(T.block (w.heap.size+1) a9).trans hz;have a7:Bw w w1:=Z.trans (T.mono Z.size);have f:=Dj l1.1;go_wp2_with ((with_reducible (refine As ?_));(refine wpList_store_row rfl 236 _ _ rfl (w.heap.size+1) _ rfl rfl 236 _ V f (by rw[Aj,Aj,l1.1];rfl) (BG Q) ?_))
   refine bodyPost_ret (v:=.agg (Ai Q)) (results_cell_row rfl _ _ (w.heap.size+1) 236 _ (0,0) _ rfl (setRow_heap w1 (w.heap.size+1) _ _ 236 _ V) underlying236 rfl f) rfl ⟨Q,rfl,l1,?_,Bk a7 (by omega) _⟩;have hK:=HK.out;subst hK;rw[v1,HV.out];have:=RQ R l (P0 l);exact Int.emod_eq_of_lt this.1 this.2
end
end
section
structure Lac where
 k:Int
 n:Int
 a:Int
 p:Int
 d:List Int
def Gj(k:Int):Bool:=decide (k=1\/k=2\/k=3\/k=9\/k=8)
def Ir(k:Int):Bool:=decide (4<=k/\k<=6)
def Is(k:Int):Bool:=decide (k=8)
def dQ(x:Lac):Int :=
 if ¬ (1<=x.k/\x.k<=9)then 4
 else if(Gj x.k=true/\¬ (0<=x.n/\x.n<=4))\/(Ir x.k=true/\¬ (0<=x.a/\x.a<=1048576))\/(Is x.k=true/\¬ (0<=x.p/\x.p<=100000))then 2
 else if 2000<x.d.length then 1
 else if(Gj x.k=false/\x.n≠0)\/(Ir x.k=false/\x.a≠0)\/(Is x.k=false/\x.p≠0)\/(x.k≠1/\x.d≠[])then 3
 else 0
structure LacOk(x:Lac):Prop where
 k:1<=x.k/\x.k<=9
 n:Gj x.k=true->0<=x.n/\x.n<=4
 a:Ir x.k=true->0<=x.a/\x.a<=1048576
 p:Is x.k=true->0<=x.p/\x.p<=100000
 d:x.d.length<=2000
 n0:Gj x.k=false->x.n=0
 a0:Ir x.k=false->x.a=0
 p0:Is x.k=false->x.p=0
 d0:x.k≠1->x.d=[]
theorem DM{x:Lac}:dQ x=0↔LacOk x:=by
 unfold dQ;constructor
 .intro h;by_cases c:1<=x.k/\x.k<=9
  .rw[if_neg (λe=>e c)]at h
   by_cases b:(Gj x.k=true/\¬ (0<=x.n/\x.n<=4))\/(Ir x.k=true/\¬ (0<=x.a/\x.a<=1048576))\/(Is x.k=true/\¬ (0<=x.p/\x.p<=100000))
   .rw[if_pos b]at h;omega
   .rw[if_neg b]at h
    by_cases g:2000<x.d.length
    .rw[if_pos g]at h;omega
    .rw[if_neg g]at h
     by_cases f:(Gj x.k=false/\x.n≠0)\/(Ir x.k=false/\x.a≠0)\/(Is x.k=false/\x.p≠0)\/(x.k≠1/\x.d≠[])
     .rw[if_pos f]at h;omega
     .simp only[not_or,not_and,mX]at b f;exact⟨c,λe=>by have:=b.1 e;omega,λe=>by have:=b.2.1 e;omega,λe=>by have:=b.2.2 e;omega,by omega,f.1,f.2.1,f.2.2.1,f.2.2.2⟩
  .rw[if_pos c]at h;omega
 .intro h;rw[if_neg (λe=>e h.k),if_neg,if_neg (by have:=h.d;omega),if_neg]
  .rintro(⟨c,b⟩|⟨c,b⟩|⟨c,b⟩|⟨c,b⟩)
   .exact b (h.n0 c)
   .exact b (h.a0 c)
   .exact b (h.p0 c)
   .exact b (h.d0 c)
  .rintro(⟨c,b⟩|⟨c,b⟩|⟨c,b⟩)
   .exact b (h.n c)
   .exact b (h.a c)
   .exact b (h.p c)
def V2(k:Int):List Int :=
 if k=1 then[115,117,98,109,105,116]else if k=2 then[108,101,97,100]else if k=3 then[115,116,101,112]else if k=4 then[99,97,114,114,121]else if k=5 then[108,111,115,101]
 else if k=6 then[100,111,117,98,108,101]else if k=7 then[97,108,108]else if k=8 then[99,114,97,115,104]else if k=9 then[115,116,97,114,116]else[]
end
section
open Go.RowKit
section
variable{P:Program}{md:Region.Mode}{ops:Array Oper}{Q:Exit->Act->World->Prop}{S:World->Prop}
section
variable{K:Act->World->Prop}{L:Array Bool}{a:Act}{d fuel i:Nat}{o:Oper}{v:Value}{w:World}
theorem ZL{c:World}(g:ops[i]?=some o)(j:Region.wanted o (yielded ops a.tmps)=true)(f:o.dst=some d)(b:(execOp a.eval o).run P w=.ok (.value v) c)(h:K (a.put (some d) v) c):wpOp P ops Q i K a w :=
 wpOp_step g λk e=>by
  rw[if_pos j];unfold Oper.wp;rw[b,Oper.upon_value];exact e _ _ (by rw[f];exact h)
theorem Pw{f:FuncId}{args:Array Value}(k:ops[i]?=some o)(m:Region.wanted o (yielded ops a.tmps)=true)(g:o.dst=some d)(b:(execOp a.eval o).run P w=.ok (.enter f args) w)(h:Calls P f args w λe w'=>∃ v,e=.returned v/\K (a.put (some d) v) w'):wpOp P ops Q i K a w :=
 wpOp_step k λn c=>by
  rw[if_pos m];unfold Oper.wp;rw[b,Oper.upon_enter];refine h.mono λe w' j=>?_;obtain⟨v,rfl,l⟩:=j;exact c _ _ (by rw[g];exact l)
theorem UV(n:ops[i]?=some o)(p:Region.wanted o (yielded ops a.tmps)=true)(k:o.dst=none)(e:TypeId)(x y:Operand)(d:o.op=.store e x y)(g:Nat)(cells:Array Value)(q:a.eval x=.pointer (some ⟨g,0,none⟩))(r:a.eval y=.agg cells)(t:TypeId)(b:Array Value)(l:w.heap[g]?=some (.cells b t (0,0)))(m:(P.info? e).map (·.size)=some cells.size)(c:b.size=cells.size)(f:cells.all (·.oneCell')=true)(h:K a (w.setRow g cells)):wpOp P ops Q i K a w :=
 wpOp_step n λs j=>by
  rw[if_pos p];exact wp_store_row e x y d g cells q r t b l m c f (j _ _ (by rw[k];exact h))
theorem Eo(c:Region.ready md ops L=[i])(h:wpOp P ops Q i (λa' w'=>S w'/\wpAnyH P md ops Q S fuel (L.setIfInBounds i true) a' w') a w):wpAnyH P md ops Q S (fuel+1) L a w :=
 wpAnyH_all c (by simp) (λj b=>by
  obtain rfl:j=i:=by simpa using b
  exact h)
theorem dE{i':Nat}(d:Region.ready md ops L=[i,i'])(h:wpOp P ops Q i (λa' w'=>S w'/\wpAnyH P md ops Q S fuel (L.setIfInBounds i true) a' w') a w)(b:wpOp P ops Q i' (λa' w'=>S w'/\wpAnyH P md ops Q S fuel (L.setIfInBounds i' true) a' w') a w):wpAnyH P md ops Q S (fuel+1) L a w :=
 wpAnyH_all d (by simp) (λj c=>by
  rcases(show j=i\/j=i' by simpa using c)with rfl|rfl
  .exact h
  .exact b)
theorem Be(d:Nat){f:Oper}{v:Value}{e:Nat}{b:Array Bool}{a:Act}{w:World}(m:ops[i]?=some f)(g:f.dst=some d)(o:Region.noSelect ops=true)(l:Region.free md ops b i=true)(n:(Region.ready md ops b).contains i=true)(j:∀ c a w,Q (.panic c) (a.put (some d) v) w->Q (.panic c) a w)(p:YieldsIf P ops S f v a)(k:S w)(h:wpAnyH P md ops Q S e (b.setIfInBounds i true) (a.put (some d) v) w):wpAnyH P md ops Q S (e+1) b a w :=
 wpAnyH_take m o l n (by rw[g];exact j) p k (by rw[g];exact h)
theorem Xz{op:Oper}(j:Region.wanted op (yielded ops a.tmps)=true)(c:TypeId)(x:Operand)(h:op.op=.load c x)(d:TypeDesc)(i:P.underlying c=some d)(l:d.isRow=false)(p:Addr)(k:a.eval x=.pointer (some p))(v:Value)(f:∀ w,S w->w.cell? p=some v):YieldsIf P ops S op v a :=
 .inl ⟨j,λw e=>by
  have b:(isAgg c).run P w=.ok false w:=by
   unfold isAgg;rw[Sem.run_bind,run_underlying i w];cases d<;>simp_all[TypeDesc.isRow]
  have g:(loadVar c p).run P w=.ok v w:=by simp[loadVar,b,f w e,go_sem]
  unfold execOp;simp only[h,k,Instr.loadAt,Instr.sureAddr,Sem.run_bind,Sem.run_pure,Result.andThen_ok,g]⟩
end
end
section
variable{K:Act->World->Prop}{P:Program}{Q:Exit->Act->World->Prop}{a:Act}{b base e g i id k8 n:Nat}{fr:Nat × Nat}{o op:Oper}{ops:Array Oper}{t:TypeId}{v:Value}{w w':World}{xs:List Value}
theorem Ed{l:List Oper}(h:wpList P ops Q l a w):wpList P ops Q l a w:=h
theorem Dc{B:Nat}{a:World}(h:Below B a w){g:Nat}(c:B<=g)(b:Array Value):Below B a (w.setRow g b) :=
 h.trans ⟨rfl,rfl,rfl,by simp,λk d=>setRow_other w g k b (by omega)⟩
theorem FW{a:Nat}(h:w.ownsRow b e k8 v n xs)(c:a<=b):w.ownsRow a e k8 v n xs:=by
 refine⟨h.1,?_⟩;rcases h.2 with h2|⟨g,cap,cur,hv,hbg,hr⟩
 .exact .inl h2
 .exact .inr ⟨g,cap,cur,hv,mS c hbg,hr⟩
theorem DI(h:w.ownsRow base e k8 v n xs)(a:∀ k,v.ownBlock=some k->w'.heap[k]?=w.heap[k]?):w'.ownsRow base e k8 v n xs:=by
 refine⟨h.1,?_⟩;rcases h.2 with h2|⟨g,cap,cur,hv,hb,hg,hr⟩
 .exact .inl h2
 .exact .inr ⟨g,cap,cur,hv,hb,(a g (by rw[hv];rfl)).trans hg,hr⟩
theorem bj{P:Program}{f:Func}{p:Tmp}{c:TypeId}(h:f.results=#[.cell p c])(a:Array Value)(w:World)(g:Nat)(t:TypeId)(b:Array Value)(i:Nat × Nat)(d:TypeDesc)(m:a.getD p undef=.pointer (some ⟨g,0,none⟩))(k:w.heap[g]?=some (.cells b t i))(n:P.underlying c=some d)(j:(match d with|.struct _|.array _ _=>true|_=>false)=true)(l:(P.info? c).map (·.size)=some b.size) :
  (results f a).run P w=.ok (.agg b) w:=by
 have e:a[p]?.getD undef=.pointer (some ⟨g,0,none⟩):=by simpa using m
 simp[results,h,e,asAddr,run_loadVar_row w g t c b i d k n j l]
theorem Vi{P:Program}{f:Func}{p u:Tmp}{c:TypeId}(h:f.results=#[.cell p c,.tmp u])(a:Array Value)(w:World)(g:Nat)(t:TypeId)(b:Array Value)(i:Nat × Nat)(d:TypeDesc)(m:a.getD p undef=.pointer (some ⟨g,0,none⟩))(k:w.heap[g]?=some (.cells b t i))(n:P.underlying c=some d)(j:(match d with|.struct _|.array _ _=>true|_=>false)=true)(l:(P.info? c).map (·.size)=some b.size) :
  (results f a).run P w=.ok (.tuple #[.agg b,a.getD u undef]) w:=by
 have e:a[p]?.getD undef=.pointer (some ⟨g,0,none⟩):=by simpa using m
 simp[results,h,e,asAddr,run_loadVar_row w g t c b i d k n j l]
theorem Sl.sx{l:List Int}(h:Sl w v l):∃ a cap,v=.slice a l.length cap:=by
 obtain⟨⟨a,cap,e,_⟩,_,_⟩:=h;exact⟨a,cap,e⟩
theorem Sl.ua{ad:Addr}{g:Nat}{m:List Int}(h:Sl w (.slice (some ad) n g) m):∀ j u,(m.map (Value.int .u8))[j]?=some u->w.cell? (ad.add j)=some u:=by
 intro j u f;obtain⟨⟨a,k,e,l,o,i⟩,_⟩:=h;simp only[Value.slice.injEq]at e;obtain⟨rfl,rfl,rfl⟩:=e;rcases i with rfl|⟨b,off,hab,_,hcell⟩
 .simp at f
 .obtain rfl:ad=⟨b,off,none⟩:=by simpa using hab
  have c:j<m.length:=by
   have:=(V'.1 f).1;simpa using this
  have d:(⟨b,off,none⟩:Addr).add j=⟨b,off+j,none⟩:=by unfold Addr.add;split<;>simp_all
  rw[d,hcell j c];simp[List.getElem?_eq_getElem c]at f
  rw[AQ c,f]
theorem Ru(w:World)(c x F G e:Nat)(y:P.underlying x=some (.slice e))(q:(P.info? e).map (·.size)=some 1)(g n:Nat)(H:List Value)(h:w.ownsRow c e 1 (.slice (some ⟨g,0,none⟩) n n) n H)(u:Value)(m:List Int)(D:n<=m.length)(z:Sl w u m) :
  ∃ w',(Builtin.copy_ #[x,F] G #[.slice (some ⟨g,0,none⟩) n n,u]).run P w=.ok (goInt n) w'/\w'.ownsRow c e 1 (.slice (some ⟨g,0,none⟩) n n) n ((m.take n).map (Value.int .u8))/\Below g w w':=by
 obtain⟨i,l,B⟩:∃ i,P.info? e=some i/\i.size=1:=by
  cases l:P.info? e with
  | none=>rw[l]at q;cases q
  | some i=>rw[l]at q;exact⟨i,rfl,by simpa using q⟩
 rcases h.2 with⟨h0,_⟩|⟨g',cap,cur,hvv,hbg,hg,hnc,hcm,hcs,ht⟩
 .cases h0
 .simp only[Value.slice.injEq,Z',Addr.mk.injEq]at hvv;obtain⟨⟨rfl,_⟩,_,rfl⟩:=hvv;have t:=z;obtain⟨⟨a,A,rfl,J,E,I⟩,_⟩:=z;have f:Nat.min m.length n=n:=Nat.min_eq_right D;cases a with
  | none =>
   have r:=E rfl;subst r;have s:n=0:=by omega
   subst s;refine⟨w,?_,⟨by simp,.inr ⟨g,0,cur,rfl,hbg,hg,hnc,hcm,hcs,by simp⟩⟩,Below.refl _ _⟩;simp[Builtin.copy_,run_underlying y,Builtin.lenOf,Builtin.firstCells,sizeOf,typeInfo,l,storeCells]
  | some ad =>
   have b:((m.take n).map (Value.int .u8)).length=n:=by simp;omega
   have C:=run_firstCells_some (P:=P) w 1 n ad m.length A ((m.take n).map (Value.int .u8)) (by rw[b];omega) (λj v p=>t.ua j v (by
    rw[q',oz]at p
    split at p
    .exact p
    .cases p))
   have o:=run_storeCells_at P g 0 e ((m.take n).map (Value.int .u8)) 0 cur w hg (by rw[b];omega) (Fl (m.take n));have d:(cur.toList.take (0+0)++(m.take n).map (Value.int .u8)++cur.toList.drop (0+0+((m.take n).map (Value.int .u8)).length))=(m.take n).map (Value.int .u8):=by
    rw[b,oc (by rw[oM];omega)];simp
   rw[d]at o
   refine⟨w.setRow g ((m.take n).map (Value.int .u8)).toArray,?_,⟨by rw[b];omega,.inr ⟨g,n,((m.take n).map (Value.int .u8)).toArray,rfl,hbg,setRow_heap w g cur _ e _ hg,A' _,hcm,by rw[px,b];omega,?_⟩⟩,?_⟩
   .simp[-List.map_take,Builtin.copy_,run_underlying y,Builtin.lenOf,sizeOf,typeInfo,l,B,f,C,o]
   .rw[nf (by show((m.take n).map (Value.int .u8)).length<=_;rw[b];omega)]
   .exact⟨rfl,rfl,rfl,by simp,λk K=>setRow_other w g k _ (by omega)⟩
theorem Ni(w:World){j:Array Oper}{c:List Oper}{o:Oper}{a:Act}{Q:Exit->Act->World->Prop}(l:o.guard=none)(d s:Operand)(k r:TypeId)(A:o.op=.call { callee:=.builtin .copy,args:=#[d,s],argTypes:=#[k,r] })(b e:Nat)(C:P.underlying k=some (.slice e))(B:(P.info? e).map (·.size)=some 1)(g n:Nat)(v:List Value)(y:a.eval d=.slice (some ⟨g,0,none⟩) n n)(f:w.ownsRow b e 1 (.slice (some ⟨g,0,none⟩) n n) n v)(u:Value)(q:a.eval s=u)(m:List Int)(z:n<=m.length)(D:Sl w u m)(t:List Int)(p:t=m.take n)(h:∀ w',w'.ownsRow b e 1 (.slice (some ⟨g,0,none⟩) n n) n (t.map (Value.int .u8))->Below g w w'->wpList P j Q c (a.put o.dst (goInt n)) w'):wpList P j Q (o::c) a w:=by
 subst p;refine wpList_plain l λK x=>?_;obtain⟨w',i,E,F⟩:=Ru (P:=P) w b k r o.type e C B g n v f u m z D;unfold Oper.wp execOp;simp only[A,resolve,invoke,builtin,Sem.run_bind,Sem.run_pure,Result.andThen_ok,pV,nO,oN,y,q,i];exact x _ _ (h w' E F)
theorem Nk(w:World){g:Array Oper}{d:List Oper}{o:Oper}{a:Act}{Q:Exit->Act->World->Prop}(v:o.guard=none)(l c:Operand)(t:TypeId)(h:o.op=Op.makeSlice t l c)(b:Nat)(e:TypeId)(r:P.underlying t=some (.slice e))(f:(P.info? e).map (λi=>(i.zero,i.size,i.bytes))=some (some (.int .u8 0),1,1))(n:Nat)(y:a.eval l=.int .i64 (n:Int))(u:a.eval c=.int .i64 (n:Int))(B:n<=140737488351232)(p:b<=w.heap.size)(s:∀ w',Hid (∃ xs,w'.ownsRow b e 1 (.slice (some ⟨w.heap.size,0,none⟩) n n) n xs)->w.grownBy w' none->wpList P g Q d (a.put o.dst (.slice (some ⟨w.heap.size,0,none⟩) n n)) w'):wpList P g Q (o::d) a w:=by
 obtain⟨z,x,j,k,m⟩:=info_parts f;refine wpList_make_full w v l c t h b e z (.int .u8 0) 1 r x j k _ _ _ _ n y u rfl rfl (by rw[m];omega) (by unfold maxLen;omega) p (λw' A q=>s w' ⟨_,A⟩ q)
theorem EH(w:World)(a:Obj):(w.alloc a).heap[w.heap.size]?=some a:=heap_alloc_new w a
theorem Cp(w:World)(a:Obj):Bw w (w.alloc a):=(Below.refl _ _).alloc (A' _) _
theorem ML(w:World)(a b:Obj):((w.alloc a).alloc b).heap[w.heap.size]?=some a:=heap_alloc2_old w a b
theorem MM(w:World)(b a:Obj):((w.alloc b).alloc a).heap[w.heap.size+1]?=some a:=heap_alloc2_new w b a
theorem OK(w:World)(a b:Obj):Bw w ((w.alloc a).alloc b):=((Below.refl _ _).alloc (A' _) _).alloc (by simp) _
theorem CA(h:w.ownsRow base e k8 v n xs):∃ g c,v=.slice g n c:=by
 rcases h.2 with⟨rfl,h0⟩|⟨g,cap,cur,hv,_⟩
 .exact⟨none,0,by rw[h0]⟩
 .exact⟨_,_,hv⟩
theorem bk(R:World->Prop){A:Act}(c:∀ K':Act->World->Prop,Hid (∀ W2,R W2->K' A W2)->(Code.region id ops true).wp P (Exit.then K' Q) a w)(b:∀ W2,R W2->K A W2):(Code.region id ops true).wp P (Exit.then K Q) a w:=c K b
theorem bm(R:Option Addr->Nat->World->Prop){A:Option Addr->Nat->Act}(d:∀ K':Act->World->Prop,Hid (∀ g c W2,R g c W2->K' (A g c) W2)->(Code.region id ops true).wp P (Exit.then K' Q) a w)(b:∀ g c W2,R g c W2->K (A g c) W2):(Code.region id ops true).wp P (Exit.then K Q) a w:=d K b
theorem MJ{cs:List Value}(h:w.heap[g]?=some (.cells cs.toArray t fr)):w.rangeAt g 0 cs:=λj u a=>by
 rw[cell_of_row _ _ (0+j) _ _ _ h];simpa using a
theorem MK(h:w.ownsRow base 5 k8 v n xs){g:Nat}{c:Array Value}{t:TypeId}{d:Nat × Nat}(f:w.heap[g]?=some (.cells c t d))(i:t≠5):∀ k,v.ownBlock=some k->k≠g:=by
 intro k a e;rcases h.2 with⟨h1,_⟩|⟨q,cap,cur,h1,_,h2,_⟩
 .rw[h1]at a;cases a
 .rw[h1]at a
  have b:q=k:=by simpa[Value.ownBlock]using a
  rw[b,e,f]at h2
  simp only[Z',Obj.cells.injEq]at h2;exact i h2.2.1
theorem Xh(h:w.ownsRow base 5 k8 v n xs){g:Nat}{b:Array Value}{t:TypeId}{c:Nat × Nat}(d:w.heap[g]?=some (.cells b t c))(f:t≠5)(a:Array Value):(w.setRow g a).ownsRow base 5 k8 v n xs :=
 DI h (λk e=>setRow_other _ _ _ _ (MK h d f k e))
theorem kf:(prog.info? 5).map (·.size)=some 1:=by kernel_rfl
theorem PD(w:World)(b o:Nat)(f:TypeId)(v e:Value)(j:w.cell? ⟨b,o,none⟩=some e)(k:w.frozen? ⟨b,o,none⟩=false)(c:(P.info? f).map (·.size)=some 1)(g:v.oneCell'=true) :
  (storeVar f ⟨b,o,none⟩ v).run P w=.ok () (w.setCell ⟨b,o,none⟩ v):=by
 cases h:P.info? f with
 | none=>rw[h]at c;cases c
 | some i =>
  rw[h]at c
  simp at c;have a:(⟨b,o,none⟩:Addr).add 0=⟨b,o,none⟩:=by unfold Addr.add;split<;>simp_all
  have l:(Go.store ⟨b,o,none⟩ v .plain).run P w=.ok () (w.setCell ⟨b,o,none⟩ v):=by
   rw[run_store P w _ v .plain g,j];simp[k]
  have d:v.cells=#[v]:=by cases v<;>first|rfl|cases g
  unfold storeVar;rw[d];simp[sizeOf,typeInfo,h,c,storeCells,a,l,Result.andThen]
theorem PU{Q:Exit->Act->World->Prop}(d:TypeId)(x y:Operand)(i:op.op=.store d x y)(b o:Nat)(v c:Value)(k:a.eval x=.pointer (some ⟨b,o,none⟩))(l:a.eval y=v)(e:w.cell? ⟨b,o,none⟩=some c)(f:w.frozen? ⟨b,o,none⟩=false)(g:(P.info? d).map (·.size)=some 1)(j:v.oneCell'=true)(h:K (a.put op.dst undef) (w.setCell ⟨b,o,none⟩ v)):op.wp P a w K Q:=by
 unfold Oper.wp execOp;simp only[i,k,l,Instr.storeAt,Instr.sureAddr,Sem.run_bind,Sem.run_pure,Result.andThen_ok,PD w b o d v c e f g j];exact h
theorem Tq(n:ops[i]?=some o)(q:Region.wanted o (yielded ops a.tmps)=true)(j:o.dst=none)(e:TypeId)(x y:Operand)(d:o.op=.store e x y)(b k:Nat)(v c:Value)(r:a.eval x=.pointer (some ⟨b,k,none⟩))(s:a.eval y=v)(g:w.cell? ⟨b,k,none⟩=some c)(l:w.frozen? ⟨b,k,none⟩=false)(m:(P.info? e).map (·.size)=some 1)(p:v.oneCell'=true)(h:K a (w.setCell ⟨b,k,none⟩ v)):wpOp P ops Q i K a w :=
 wpOp_step n λt f=>by
  rw[if_pos q];exact PU e x y d b k v c r s g l m p (f _ _ (by rw[j];exact h))
structure Only(b:Nat)(w w':World):Prop where
 os:w'.os=w.os
 tape:w'.tape=w.tape
 output:w'.output=w.output
 size:w'.heap.size=w.heap.size
 other:∀ k,k≠b->w'.heap[k]?=w.heap[k]?
theorem Only.refl(b:Nat)(w:World):Only b w w:=⟨rfl,rfl,rfl,rfl,λ_ _=>rfl⟩
theorem Only.trans{a:World}(h:Only b w w')(k:Only b w' a):Only b w a :=
 ⟨k.os.trans h.os,k.tape.trans h.tape,k.output.trans h.output,k.size.trans h.size,λi c=>(k.other i c).trans (h.other i c)⟩
theorem Only.one(w:World)(b o:Nat)(v:Value):Only b w (w.setCell ⟨b,o,none⟩ v):=⟨rfl,rfl,rfl,by simp[World.setCell],λk a=>heap_setCell_other _ _ _ _ a⟩
theorem Only.store(w:World)(b o:Nat)(a:List Value):Only b w (w.setCells b o a):=by
 induction a generalizing w o with
 | nil=>exact Only.refl _ _
 | cons v r ih=>exact(Only.one w b o v).trans (ih _ _)
theorem mi{P:Program}{b:Array Oper}{S:World->Prop}{op:Oper}{a:Act}(n:Region.wanted op (yielded b a.tmps)=true)(e:TypeId)(x:Operand)(l:op.op=.load e x)(g:Nat)(o:a.eval x=.pointer (some ⟨g,0,none⟩))(c:Array Value)(t:TypeId)(h:Nat × Nat)(d:TypeDesc)(i:∀ w,S w->w.heap[g]?=some (.cells c t h))(m:P.underlying e=some d)(j:(match d with|.struct _|.array _ _=>true|_=>false)=true)(k:(P.info? e).map (·.size)=some c.size):YieldsIf P b S op (.agg c) a :=
 .inl ⟨n,λw f=>by
  unfold execOp;simp only[l,o,Instr.loadAt,Instr.sureAddr,Sem.run_bind,Sem.run_pure,Result.andThen_ok,run_loadVar_row w g t e c h d (i w f) m j k]⟩
theorem kg{P:Program}{u:Func}{p s:Tmp}{j c:TypeId}(h:u.results=#[.cell p j,.cell s c])(a:Array Value)(w:World)(g i:Nat)(t x:TypeId)(f b:Array Value)(v e:Nat × Nat)(d k:TypeDesc)(B:a.getD p undef=.pointer (some ⟨g,0,none⟩))(z:w.heap[g]?=some (.cells f t v))(D:P.underlying j=some d)(y:(match d with|.struct _|.array _ _=>true|_=>false)=true)(A:(P.info? j).map (·.size)=some f.size)(o:a.getD s undef=.pointer (some ⟨i,0,none⟩))(m:w.heap[i]?=some (.cells b x e))(r:P.underlying c=some k)(l:(match k with|.struct _|.array _ _=>true|_=>false)=true)(n:(P.info? c).map (·.size)=some b.size) :
  (results u a).run P w=.ok (.tuple #[.agg f,.agg b]) w:=by
 have C:a[p]?.getD undef=.pointer (some ⟨g,0,none⟩):=by simpa using B
 have q:a[s]?.getD undef=.pointer (some ⟨i,0,none⟩):=by simpa using o
 simp[results,h,C,q,asAddr,run_loadVar_row w g t j f v d z D y A,run_loadVar_row w i x c b e k m r l n]
theorem kh{P:Program}{v:Func}{p s u:Tmp}{j c:TypeId}(h:v.results=#[.cell p j,.cell s c,.tmp u])(a:Array Value)(w:World)(g i:Nat)(t y:TypeId)(f b:Array Value)(x e:Nat × Nat)(d k:TypeDesc)(C:a.getD p undef=.pointer (some ⟨g,0,none⟩))(A:w.heap[g]?=some (.cells f t x))(E:P.underlying j=some d)(z:(match d with|.struct _|.array _ _=>true|_=>false)=true)(B:(P.info? j).map (·.size)=some f.size)(o:a.getD s undef=.pointer (some ⟨i,0,none⟩))(m:w.heap[i]?=some (.cells b y e))(r:P.underlying c=some k)(l:(match k with|.struct _|.array _ _=>true|_=>false)=true)(n:(P.info? c).map (·.size)=some b.size) :
  (results v a).run P w=.ok (.tuple #[.agg f,.agg b,a.getD u undef]) w:=by
 have D:a[p]?.getD undef=.pointer (some ⟨g,0,none⟩):=by simpa using C
 have q:a[s]?.getD undef=.pointer (some ⟨i,0,none⟩):=by simpa using o
 simp[results,h,D,q,asAddr,run_loadVar_row w g t j f x d A E z B,run_loadVar_row w i y c b e k m r l n]
theorem Rt(t e:TypeId)(N k:Nat)(d:prog.underlying t=some (.array N e))(a:(prog.info? e).map (·.size)=some k)(b o i:Nat)(f:i<N)(w:World):(Instr.indexAt t (.pointer (some ⟨b,o,none⟩)) (.int .i64 (i:Int))).run prog w=.ok (.pointer (some ⟨b,o+k*i,none⟩)) w:=by
 have c:(Go.sizeOf e).run prog w=.ok k w:=by
  cases hq:prog.info? e with
  | none=>rw[hq]at a;cases a
  | some x =>
   rw[hq]at a
   simp at a;simp[sizeOf,typeInfo,hq,a]
 simp only[Instr.indexAt,Sem.run_bind,run_underlying d w,Result.andThen_ok,Instr.sureAddr,Sem.run_pure,asIntOf];rw[if_pos ⟨by omega,by omega⟩];simp[c,Result.andThen,Addr.add_mid,Nat.mul_comm]
theorem Tp(l:ops[i]?=some o)(n:Region.wanted o (yielded ops a.tmps)=true)(g:o.dst=none)(d:TypeId)(x y:Operand)(c:o.op=.store d x y)(b k:Nat)(cells:Array Value)(p:a.eval x=.pointer (some ⟨b,k,none⟩))(q:a.eval y=.agg cells)(m:w.there b k cells.size)(j:(P.info? d).map (·.size)=some cells.size)(e:cells.all (·.oneCell')=true)(h:K a (w.setCells b k cells.toList)):wpOp P ops Q i K a w :=
 wpOp_step l λr f=>by
  rw[if_pos n];exact wp_store_mid d x y c b k cells p q m j e (f _ _ (by rw[g];exact h))
def MZ(j:Nat)(k:Int):Bool:=if j=0 then Gj k else if j=1 then Ir k else Is k
def cK(j:Nat):Int:=if j=0 then 4 else if j=1 then 1048576 else 100000
structure LWTab(w:World):Prop where
 lt:1<w.heap.size
 text:∀ k:Nat,k<10->w.cell? ⟨1,4*k,none⟩=some (.string (strOfNums (V2 (k:Int))))
 has:∀ k j:Nat,k<10->j<3->w.cell? ⟨1,4*k+1+j,none⟩=some (.bool (MZ j (k:Int)))
theorem LWTab.af(h:LWTab w)(a:Bw w w'):LWTab w' :=
 ⟨X' h.lt a.size,λk b=>(a.cell (p:=⟨1,4*k,none⟩) h.lt).trans (h.text k b),λk j b c=>(a.cell (p:=⟨1,4*k+1+j,none⟩) h.lt).trans (h.has k j b c)⟩
structure LBTab(w:World):Prop where
 lt:2<w.heap.size
 uD:∀ j:Nat,j<3->w.cell? ⟨2,j,none⟩=some (.int .i64 (cK j))
theorem LBTab.af(h:LBTab w)(a:Bw w w'):LBTab w' :=
 ⟨X' h.lt a.size,λj b=>(a.cell (p:=⟨2,j,none⟩) h.lt).trans (h.uD j b)⟩
theorem jI:(prog.info? 165).map (·.size)=some 4:=by kernel_rfl
theorem WX(k:Nat)(a:k<10)(w:World):(Instr.indexAt 166 (.pointer (some ⟨1,0,none⟩)) (.int .i64 (k:Int))).run prog w=.ok (.pointer (some ⟨1,4*k,none⟩)) w:=by
 have h:=Rt 166 165 10 4 underlying166 jI 1 0 k a w
 rwa [nM]at h
end
end
section
open Go.ChangeShapes Go.WideShapes Go.ChangeAt Go.RowKit
section
theorem own:ownKnob prog.godebug=none:=by kernel_rfl
theorem dS:laidOutB prog=true:=by kernel_rfl
theorem dN:prog.cellsOf 3=1:=by kernel_rfl
theorem dO:prog.cellsOf 4=1:=by kernel_rfl
theorem dP:prog.cellsOf 9=1:=by kernel_rfl
theorem UJ:prog.cellsOf 165=4:=by kernel_rfl
theorem UI:prog.cellsOf 163=3:=by kernel_rfl
theorem YF : prog.globalNamed "conclave/lines.words" = some 1 := by kernel_rfl
theorem SJ:(prog.globals[1]?).map (·.type)=some 166:=by kernel_rfl
theorem UF : prog.globalNamed "conclave/lines.bounds" = some 2 := by kernel_rfl
theorem Q4:(prog.globals[2]?).map (·.type)=some 167:=by kernel_rfl
variable{H:Type}{W:World}{a b c held:Bool}{base fuel:Nat}{cs:List Value}{p:List MemPlace}{sp:Nat->Bool}
theorem Li{name:String}{g:Nat}{a:Array Value}(b:prog.globalNamed name=some g)(h:W.var? prog name=some a):∃ t fr,W.heap[g]?=some (.cells a t fr):=by
 unfold World.var? at h;rw[b]at h
 simp only[Option.bind_some]at h;split at h
 .rename_i c t fr hh
  simp only[Z']at h;subst h;exact⟨t,fr,hh⟩
 .cases h
theorem Tf{e:TypeId × Value->H}(h:DataW.trod e prog W base sp held fuel 163 cs=some (.agg [.lit (.bool a),.lit (.bool b),.lit (.bool c)],p)) :
  cs=[.bool a,.bool b,.bool c]:=by
 obtain⟨u,m,_,q,o,f,d⟩:=DataW.trod_array underlying163 h;rw[UI]at o
 rw[dO]at d
 match u,f,cs,o with
 | [x0,x1,x2],_,[c0,c1,c2],_ =>
  simp only[nO,oN,nY,DataW.agg.injEq,py,and_true]at q;obtain⟨⟨k,l,n⟩,_⟩:=q;obtain⟨a0,g,r⟩:=DataW.trod_bool underlying4 (d 0 (by omega));obtain⟨v,i,s⟩:=DataW.trod_bool underlying4 (d 1 (by omega));obtain⟨w,j,t⟩:=DataW.trod_bool underlying4 (d 2 (by omega));simp at g i j r s t;subst g i j r s t;simp at k l n;subst k l n;rfl
theorem Xy{e:TypeId × Value->H}{s:List UInt8}(h:DataW.trod e prog W base sp held fuel 165 cs=some (.agg [.lit (.string s),.agg [.lit (.bool a),.lit (.bool b),.lit (.bool c)]],p)) :
  cs=[.string ⟨s.toArray⟩,.bool a,.bool b,.bool c]:=by
 obtain⟨⟨d,m⟩,⟨o,p1⟩,n,k,j,g,i⟩:=trod_struct2 underlying165 h;rw[UJ]at j
 simp only[dP,UI]at g i;simp only[nY,DataW.agg.injEq,py,and_true]at k;obtain⟨⟨rfl,rfl⟩,_⟩:=k;have l:=Tf i;obtain⟨z,f,d,_⟩:=DataW.trod_string underlying9 g
 match cs,j with
 | [c0,c1,c2,c3],_ =>
  simp at f l d;obtain⟨d,_⟩:=d;subst f d;obtain⟨rfl,rfl,rfl⟩:=l;rfl
theorem UD{l:List Value}{a:Nat}{b c d e:Value}(h:(l.drop a).take 4=[b,c,d,e]):l[a]?=some b/\l[a+1]?=some c/\l[a+2]?=some d/\l[a+3]?=some e:=by
 have g:∀ i,i<4->l[a+i]?=[b,c,d,e][i]?:=λi f=>by rw[<- h,List.getElem?_take_of_lt f,om]
 exact⟨g 0 (by omega),g 1 (by omega),g 2 (by omega),g 3 (by omega)⟩
theorem Zc(k:Nat)(a:k<10){l:List (DataW H)}(h:(Rows.laid_conclave_lines_words:DataW H)=.agg l) :
  l[k]?=some (.agg [.lit (.string ((V2 (k:Int)).map λn=>UInt8.ofNat n.toNat)),.agg [.lit (.bool (MZ 0 (k:Int))),.lit (.bool (MZ 1 (k:Int))),.lit (.bool (MZ 2 (k:Int)))]]):=by
 simp only[Rows.laid_conclave_lines_words,DataW.agg.injEq]at h;subst h
 match k,a with
 | 0,_=>rfl
 | 1,_=>rfl
 | 2,_=>rfl
 | 3,_=>rfl
 | 4,_=>rfl
 | 5,_=>rfl
 | 6,_=>rfl
 | 7,_=>rfl
 | 8,_=>rfl
 | 9,_=>rfl
theorem Zb(k:Nat)(a:k<3){l:List (DataW H)}(h:(Rows.laid_conclave_lines_bounds:DataW H)=.agg l):l[k]?=some (.lit (.int .i64 (cK k))):=by
 simp only[Rows.laid_conclave_lines_bounds,DataW.agg.injEq]at h;subst h
 match k,a with
 | 0,_=>rfl
 | 1,_=>rfl
 | 2,_=>rfl
theorem fw{r : List (String × DataW Unit)}{N : List MemPlace}(h : DataW.LaidVars prog W (("conclave/lines.bounds", Rows.laid_conclave_lines_bounds) :: ("conclave/lines.words", Rows.laid_conclave_lines_words) :: r) N) : LWTab W ∧ LBTab W := by
 obtain⟨O,T,w,x,Q,R,B,D,b,z,⟨P,U,f,y,p1,S,C,E,c,A,_,_⟩,_⟩:=h;obtain rfl:=nP (UF.symm.trans B);obtain rfl:=nP (Q4.symm.trans D);obtain rfl:=nP (YF.symm.trans C);obtain rfl:=nP (SJ.symm.trans E);constructor
 .obtain⟨xs,m,_,hx,hl,hxl,hb⟩:=DataW.trod_array underlying166 A;rw[UJ]at hb
  simp only[nY]at hx;obtain⟨t,L,q⟩:=Li YF c;have o:∀ k:Nat,k<10->(f.toList.drop (k*4)).take 4=[.string (strOfNums (V2 (k:Int))),.bool (MZ 0 (k:Int)),.bool (MZ 1 (k:Int)),.bool (MZ 2 (k:Int))]:=λk o=>by
   have g:=Zc k o hx.1;rw[nS]at g
   obtain⟨⟨d,p⟩,e,a⟩:=oQ.1 g;have l:=hb k o;rw[e]at l
   simp only at a;subst a;exact Xy l
  have s:∀ (i:Nat) (v:Value),f.toList[i]?=some v->W.cell? ⟨1,i,none⟩=some v:=λi v M=>by
   refine(cell_of_row _ _ i _ _ _ q).trans ?_
   rwa [Array.getElem?_toList]at M
  refine⟨(U'.1 q).1,λk h=>?_,λk j h u=>?_⟩
  .rw[pZ];exact s _ _ (UD (o k h)).1
  .rw[pZ];obtain⟨_,I,J,K⟩:=UD (o k h)
   match j,u with
   | 0,_=>exact s _ _ I
   | 1,_=>exact s _ _ J
   | 2,_=>exact s _ _ K
 .obtain⟨xs,m,_,hx,hl,hxl,hb⟩:=DataW.trod_array underlying167 z;rw[dN]at hb
  simp only[nY]at hx;obtain⟨t,L,q⟩:=Li UF b;refine⟨(U'.1 q).1,λj u=>(cell_of_row _ _ j _ _ _ q).trans ?_⟩;have g:=Zb j u hx.1;rw[nS]at g
  obtain⟨⟨d,p⟩,e,a⟩:=oQ.1 g;have l:=hb j u;rw[e]at l
  obtain⟨n,H,G,_⟩:=DataW.trod_int underlying3 l;simp only[nY]at G;obtain⟨rfl,_⟩:=G;simp at a;subst a;have F:((w.toList.drop (j*1)).take 1)[0]?=some (.int .i64 (cK j)):=by rw[H];rfl
  rw[List.getElem?_take_of_lt (by omega),om,Array.getElem?_toList,Nat.mul_one,pC]at F
  exact F
def RY:Array Value:=((List.range 10).flatMap λk=>[.string (strOfNums (V2 (k:Int))),.bool (MZ 0 (k:Int)),.bool (MZ 1 (k:Int)),.bool (MZ 2 (k:Int))]).toArray
def Qe:Array Value:=((List.range 3).map λk=>.int .i64 (cK k)).toArray
def Za(cs:Array Value):Obj->Obj
 | .cells _ t frozen=>.cells cs t frozen
 | o=>o
end
end
section
open Go.RowKit
section
variable{a b c k n now r s t tc tr tu u v:Int}{g:Nat}{h:List Int}{l:List Bool}{w w':World}
theorem CW(h:a=b):Ending.returned (.int .i64 a)=.returned (.int .i64 b):=by rw[h]
def iK(t:Int)(l:List Bool)(x:Int):Bool:=decide (t-8<=x)&&decide (x<t)&&l.getD (x-(t-8)).toNat false
theorem mo{x:Int}(h:t<=x):iK t l x=false:=by
 unfold iK;rw[H' (show ¬ x<t by omega)];simp
structure OkC(key:List Int)(s t:Int)(l:List Bool):Prop where
 key:key.length=32
 s0:0<=s
 s1:s<=1073741824
 t0:0<=t
 t1:t<=1073741824
 low:∀ i:Nat,i<8->l.getD i false=true->0<=t-8+(i:Int)
 top:t=0\/l.getD 7 false=true
theorem ei(key:List Int)(s t:Int)(l:List Bool):OkC key s t l↔(key.length=32/\0<=s/\s<=1073741824/\0<=t/\t<=1073741824/\(∀ i,i<8->l.getD i false=true->0<=t-8+(i:Int))/\(t=0\/l.getD 7 false=true)) :=
 ⟨λh=>⟨h.1,h.2,h.3,h.4,h.5,h.6,h.7⟩,λh=>⟨h.1,h.2.1,h.2.2.1,h.2.2.2.1,h.2.2.2.2.1,h.2.2.2.2.2.1,h.2.2.2.2.2.2⟩⟩
instance (key:List Int) (s t:Int) (l:List Bool):Decidable (OkC key s t l):=decidable_of_iff _ (ei key s t l).symm
def ZI(t:Int)(l:List Bool)(n:Int):Bool:=decide (n<t)&&(decide (n<t-8)||iK t l n)
def noB:List Bool:=List.replicate 8 false
theorem iQ(k:Nat):noB.getD k false=false:=by
 rw[noB,nF,List.getElem?_replicate];split<;>rfl
theorem OkC.new{key:List Int}(c:key.length=32)(s:Int)(a:0<=s)(b:s<=1073741824):OkC key s 0 noB :=
 ⟨c,a,b,by omega,by omega,(λi _ h=>by rw[iQ]at h;exact absurd h (by simp)),.inl rfl⟩
theorem UT(h:t<=n):ZI t l n=false:=by unfold ZI;rw[H' (by omega)];simp
def Ab(n:Int):List Int:=[n/16777216%256,n/65536%256,n/256%256,n%256]
def Cf(h:List Int):List Int:=List.replicate 8 0++h
def IK(h:List Int):Int:=16777216*h.getD 0 0+65536*h.getD 1 0+256*h.getD 2 0+h.getD 3 0
theorem BF(n:Int):(Ab n).length=4:=rfl
theorem Aw(n:Int):∀ x∈Ab n,0<=x/\x<256:=by
 intro x a;simp only[Ab,mZ,Q',or_false]at a;rcases a with rfl|rfl|rfl|rfl<;>omega
theorem Fd(a:h.length=4):(Cf h).length=12:=by simp[Cf,a]
theorem QQ(a:∀ x∈h,0<=x/\x<256):∀ x∈Cf h,0<=x/\x<256:=by
 intro x b;rcases P'.1 b with h1|h1
 .rw[(qd.1 h1).2];omega
 .exact a x h1
theorem W7(n:Int)(a:0<=n)(b:n<4294967296):IK (Ab n)=n:=by
 show 16777216*(n/16777216%256)+65536*(n/65536%256)+256*(n/256%256)+n%256=n;omega
theorem mz(h:List Int)(e:h.length=4):∃ a b c d,h=[a,b,c,d]:=by
 match h,e with
 | [a,b,c,d],_=>exact⟨a,b,c,d,rfl⟩
theorem Mh(f:h.length=4)(e:∀ x∈h,0<=x/\x<256):0<=IK h/\IK h<4294967296:=by
 obtain⟨a,b,c,d,rfl⟩:=mz h f;have g:=e a (by simp);have i:=e b (by simp);have j:=e c (by simp);have k:=e d (by simp);show 0<=16777216*a+65536*b+256*c+d/\16777216*a+65536*b+256*c+d<4294967296;omega
def cmA(k c s n v:Int):Array Value:=#[.int .i64 k,.int .i64 c,.int .i64 s,.int .i64 n,.int .i64 v]
def tkA(c r u:Int):Array Value:=#[.int .i64 c,.int .i64 r,.int .i64 u]
def InC(c s n v:Int):Prop:=0<=c/\c<=7/\0<=s/\s<=1048576/\0<=n/\n<=7/\0<=v/\v<=1073741824
instance (c s n v:Int):Decidable (InC c s n v):=by unfold InC;exact inferInstance
def Bi(k c s n v:Int):Int :=
 if ¬ (0<=k/\k<=3)then 4
 else if k=0 then(if c=0/\s=0/\n=0/\v=0 then 0 else 3)
 else if ¬ InC c s n v then 2
 else if 1<k/\v≠0 then 3
 else 0
theorem VL(h:¬ (0<=k/\k<=3)):Bi k c s n v=4:=if_pos h
theorem VM(h:c=0/\s=0/\n=0/\v=0):Bi 0 c s n v=0:=by
 unfold Bi;rw[if_neg (by omega),if_pos rfl,if_pos h]
theorem Si(h:¬ (c=0/\s=0/\n=0/\v=0)):Bi 0 c s n v=3:=by
 unfold Bi;rw[if_neg (by omega),if_pos rfl,if_neg h]
theorem Sj(h:1<=k/\k<=3)(a:¬ InC c s n v):Bi k c s n v=2:=by
 unfold Bi;rw[if_neg (by omega),if_neg (by omega),if_pos a]
theorem VK(h:2<=k/\k<=3)(a:InC c s n v)(b:v≠0):Bi k c s n v=3:=by
 unfold Bi;rw[if_neg (by omega),if_neg (by omega),if_neg (λg=>g a),if_pos ⟨by omega,b⟩]
theorem Uy(h:1<=k/\k<=3)(a:InC c s n v)(b:k=1\/v=0):Bi k c s n v=0:=by
 unfold Bi;rw[if_neg (by omega),if_neg (by omega),if_neg (λg=>g a),if_neg (by omega)]
theorem Dg(h:Bi k c s n v=0):(0<=k/\k<=3)/\InC c s n v:=by
 unfold Bi at h;split at h
 .omega
 .rename_i h1
  split at h
  .split at h
   .rename_i h3
    exact⟨by omega,by unfold InC;omega⟩
   .omega
  .split at h
   .omega
   .rename_i h3
    exact⟨by omega,Classical.not_not.1 h3⟩
def CO(k c s n v:Int):List Int:=Ab k++Ab c++Ab s++Ab n++Ab v
theorem BE(k c s n v:Int):(CO k c s n v).length=20:=rfl
theorem Fj(k c s n v:Int):∀ x∈CO k c s n v,0<=x/\x<256:=by
 intro x hx;rcases P'.1 hx with hx|hx
 .rcases P'.1 hx with hx|hx
  .rcases P'.1 hx with hx|hx
   .rcases P'.1 hx with hx|hx
    .exact Aw _ x hx
    .exact Aw _ x hx
   .exact Aw _ x hx
  .exact Aw _ x hx
 .exact Aw _ x hx
def Ad(l:List Int)(i:Nat):Int:=16777216*l.getD i 0+65536*l.getD (i+1) 0+256*l.getD (i+2) 0+l.getD (i+3) 0
theorem BB(n:Int)(a:0<=n)(b:n<4294967296)(l m:List Int):Ad (l++(Ab n++m)) l.length=n:=by
 have e:∀ j,(l++(Ab n++m)).getD (l.length+j) 0=(Ab n++m).getD j 0:=by
  intro j;simp[List.getD,List.getElem?_append_right]
 unfold Ad;rw[show l.length=l.length+0 from rfl,oh,oh,oh,e,e,e,e];show 16777216*(n/16777216%256)+65536*(n/65536%256)+256*(n/256%256)+n%256=n;omega
theorem Hg(k c s n v:Int)(a:0<=k)(b:k<4294967296):Ad (CO k c s n v) 0=k:=by
 have h:=BB k a b [] (Ab c++Ab s++Ab n++Ab v);exact h
theorem Hh(k c s n v:Int)(a:0<=c)(b:c<4294967296):Ad (CO k c s n v) 4=c:=by
 have h:=BB c a b (Ab k) (Ab s++Ab n++Ab v);exact h
theorem Hi(k c s n v:Int)(a:0<=s)(b:s<4294967296):Ad (CO k c s n v) 8=s:=by
 have h:=BB s a b (Ab k++Ab c) (Ab n++Ab v);exact h
theorem FL(k c s n v:Int)(a:0<=n)(b:n<4294967296):Ad (CO k c s n v) 12=n:=by
 have h:=BB n a b (Ab k++Ab c++Ab s) (Ab v);exact h
theorem FM(k c s n v:Int)(a:0<=v)(b:v<4294967296):Ad (CO k c s n v) 16=v:=by
 have h:=BB v a b (Ab k++Ab c++Ab s++Ab n) [];exact h
def Cl(l:List Int):Int:=if l.length≠20 then 1 else Bi (Ad l 0) (Ad l 4) (Ad l 8) (Ad l 12) (Ad l 16)
def I3(l:List Int):Array Value:=if Cl l=0 then cmA (Ad l 0) (Ad l 4) (Ad l 8) (Ad l 12) (Ad l 16)else cmA 0 0 0 0 0
def Du(c r u:Int):Prop:=(0<=c/\c<=7)/\(0<=r/\r<=7)/\0<=u/\u<=1048576
instance (c r u:Int):Decidable (Du c r u):=by unfold Du;exact inferInstance
def NN(c r u:Int):Int:=if Du c r u then 0 else 2
theorem Jl(h:Du c r u):NN c r u=0:=if_pos h
theorem Vm(h:¬ Du c r u):NN c r u=2:=if_neg h
def Np(k r:Int):Prop:=(k=1/\r/2%2=1)\/(k=2/\r%2=1)\/(k=3/\r/4=1)
instance (k r:Int):Decidable (Np k r):=by unfold Np;exact inferInstance
def EM(tc tr tu k c s n v now:Int):Int :=
 if ¬ Du tc tr tu then 2
 else if Bi k c s n v≠0 then Bi k c s n v
 else if ¬ (Np k tr/\c=tc)then 11
 else if ¬ (0<=now/\now<=tu)then 10
 else 0
theorem XA(h:¬ Du tc tr tu):EM tc tr tu k c s n v now=2:=if_pos h
theorem X9(h:Du tc tr tu)(a:Bi k c s n v≠0):EM tc tr tu k c s n v now=Bi k c s n v:=by
 unfold EM;rw[if_neg (λg=>g h),if_pos a]
theorem Ln(h:Du tc tr tu)(a:Bi k c s n v=0)(b:¬ (Np k tr/\c=tc)):EM tc tr tu k c s n v now=11:=by
 unfold EM;rw[if_neg (λg=>g h),if_neg (λg=>g a),if_pos b]
theorem V9(h:Du tc tr tu)(a:Bi k c s n v=0)(b:Np k tr/\c=tc)(d:¬ (0<=now/\now<=tu)):EM tc tr tu k c s n v now=10:=by
 unfold EM;rw[if_neg (λg=>g h),if_neg (λg=>g a),if_neg (λg=>g b),if_pos d]
theorem Uq(h:Du tc tr tu)(a:Bi k c s n v=0)(b:Np k tr/\c=tc)(d:0<=now/\now<=tu):EM tc tr tu k c s n v now=0:=by
 unfold EM;rw[if_neg (λg=>g h),if_neg (λg=>g a),if_neg (λg=>g b),if_neg (λg=>g d)]
def Iq(c r u:Int):List Int:=c::r::Ab u
theorem Cb(c r u:Int):(Iq c r u).length=6:=rfl
theorem OM(h:Du c r u):∀ x∈Iq c r u,0<=x/\x<256:=by
 obtain⟨a,b,d⟩:=h;intro x hx;rcases mZ.1 hx with rfl|hx
 .omega
 rcases mZ.1 hx with rfl|hx
 .omega
 exact Aw _ x hx
theorem O3(c r u:Int)(m:List Int)(a:0<=u)(b:u<4294967296):Ad (Iq c r u++m) 2=u:=by
 have h:=BB u a b [c,r] m;exact h
theorem U8(a b c d e f g h i j:Int):∀ w,(binOp .eql 24 (.agg #[.int .i64 a,.int .i64 b,.int .i64 c,.int .i64 d,.int .i64 e]) (.agg #[.int .i64 f,.int .i64 g,.int .i64 h,.int .i64 i,.int .i64 j])).run prog w=.ok (.bool (decide (a=f/\b=g/\c=h/\d=i/\e=j))) w:=by
 intro w;rw[run_eql_struct,run_equalIn_agg w 9999 _ _ _ (by kernel_rfl) (by kernel_rfl)];unfold Program.fieldsOf;rw[underlying24];have k:=underlying3;simp[Op.eqFields,go_sem,k]
 repeat' split
 all_goals simp_all
theorem eg(a b c d e f g h i j:Int):∀ w,(binOp .neq 24 (.agg #[.int .i64 a,.int .i64 b,.int .i64 c,.int .i64 d,.int .i64 e]) (.agg #[.int .i64 f,.int .i64 g,.int .i64 h,.int .i64 i,.int .i64 j])).run prog w=.ok (.bool (!decide (a=f/\b=g/\c=h/\d=i/\e=j))) w:=by
 intro w;rw[run_neq_struct,run_equalIn_agg w 9999 _ _ _ (by kernel_rfl) (by kernel_rfl)];unfold Program.fieldsOf;rw[underlying24];have k:=underlying3;simp[Op.eqFields,go_sem,k]
 repeat' split
 all_goals simp_all
theorem Fi{b:TypeId}{a:Nat × Nat}(h:w.heap[g]?=some (.cells (cmA k c s n v) b a)) :
  w.cell? ⟨g,0,none⟩=some (.int .i64 k)/\w.cell? ⟨g,1,none⟩=some (.int .i64 c)/\w.cell? ⟨g,2,none⟩=some (.int .i64 s)/\w.cell? ⟨g,3,none⟩=some (.int .i64 n)/\w.cell? ⟨g,4,none⟩=some (.int .i64 v) :=
 ⟨cell_of_row _ _ 0 _ _ _ h,cell_of_row _ _ 1 _ _ _ h,cell_of_row _ _ 2 _ _ _ h,cell_of_row _ _ 3 _ _ _ h,cell_of_row _ _ 4 _ _ _ h⟩
theorem dH(c s n v:Int):InC c s n v↔(((0<=c/\c<=7)/\(0<=s/\s<=1048576))/\(0<=n/\n<=7))/\(0<=v/\v<=1073741824):=by unfold InC;omega
structure Bc(w:World)(g:Nat)(k c s n v:Int):Prop where
 lt:g<w.heap.size
 row:w.heap[g]?=some (.cells (cmA k c s n v) 24)
theorem Bc.made(w:World)(k c s n v:Int):Bc (w.alloc (.cells (cmA k c s n v) 24)) w.heap.size k c s n v:=⟨by simp,heap_alloc_new _ _⟩
theorem Bc.af(h:Bc w g k c s n v)(a:Bw w w'):Bc w' g k c s n v :=
 ⟨X' h.lt a.size,(a.block g h.lt).trans h.row⟩
theorem GZ(k c s n v:Int):(prog.info? 24).map (·.size)=some (cmA k c s n v).size:=by show _=some 5;kernel_rfl
def O0:List Int:=[0,0,0,2,7,1073741824,1,7,0,4,7,0]
structure NTab(w:World):Prop where
 lt:0<w.heap.size
 cell:∀ i,i<12->w.cell? ⟨0,i,none⟩=some (.int .i64 (O0.getD i 0))
theorem NTab.af(h:NTab w)(a:Bw w w'):NTab w' :=
 ⟨X' h.lt a.size,λi b=>(a.cell (p:=⟨0,i,none⟩) h.lt).trans (h.cell i b)⟩
theorem Fx(n g:Int)(w:World) :
  Calls prog 39 #[.int .i64 n,.int .i64 g] w λe w'=>e=.returned (.bool (decide (0<=n/\n<=g)))/\w'=w:=by
 by_cases a:0<=n
 .by_cases h1:n<=g
  .rw[O' ⟨a,h1⟩];go_enter func39,ntmps39
   go_wp2
   go_ret;exact⟨Ay (by simp),rfl⟩
  .rw[H' (by omega)];go_enter func39,ntmps39
   go_wp2
   go_ret;exact⟨Ay (by simp),rfl⟩
 .rw[H' (by omega)];go_enter func39,ntmps39
  go_wp2
  go_ret;exact⟨Ay (by simp),rfl⟩
theorem Jp{g:Int}{b:Bool}(h:Hid (decide (0<=n/\n<=g)=b))(w:World) :
  Calls prog 39 #[.int .i64 n,.int .i64 g] w λe w'=>e=.returned (.bool b)/\w'=w:=by
 rw[<- h.out];exact Fx n g w
theorem SS(k:Int)(w:World) :
  Calls prog 43 #[.int .i64 k] w λe w'=>e=.returned (.bool (decide (0<=k/\k<=3)))/\w'=w:=by
 go_enter func43,ntmps43
 go_wp2_with fail
 refine(Fx k 3 _).mono ?_;rintro e a ⟨rfl,rfl⟩;go_wp2
 go_ret;exact⟨Ay (by simp),rfl⟩
theorem ZE(c s n v:Int)(w:World) :
  Calls prog 44 #[.agg (cmA 0 c s n v)] w λe w'=>e=.returned (.int .i64 (Bi 0 c s n v))/\Bw w w':=by
 have a:Bw w (w.alloc (.cells (cmA 0 c s n v) 24)):=(Below.refl _ _).alloc (A' _) _;simp only[cmA]at a ⊢;have b:=eg 0 c s n v 0 0 0 0 0;by_cases h:c=0/\s=0/\n=0/\v=0
 .have HE:Hid (0=Bi 0 c s n v):=(VM h).symm;rw[O' ⟨rfl,h⟩]at b
  clear h;go_enter func44,ntmps44
  go_wp2
  go_ret;exact⟨CW HE.out,a⟩
 .have HE:Hid (3=Bi 0 c s n v):=(Si h).symm;rw[H' (λg=>h g.2)]at b
  clear h;go_enter func44,ntmps44
  go_wp2
  go_ret;exact⟨CW HE.out,a⟩
theorem NTab.name(h:NTab w)(k:Nat)(a:1<=k)(b:k<=3):w.cell? ⟨0,k*3+1,none⟩=some (.int .i64 7):=by
 rcases(by omega:k=1\/k=2\/k=3)with rfl|rfl|rfl
 .exact h.cell 4 (by omega)
 .exact h.cell 7 (by omega)
 .exact h.cell 10 (by omega)
theorem Po(k c s n v:Int)(w:World)(r:1<=k/\k<=3)(p:NTab w) :
  Calls prog 45 #[.agg (cmA k c s n v)] w λe w'=>e=.returned (.bool (decide (InC c s n v)))/\Bw w w':=by
 have f:Bw w (w.alloc (.cells (cmA k c s n v) 24)):=(Below.refl _ _).alloc (A' _) _;have l:=(p.af f).name;have o:=heap_alloc_new w (.cells (cmA k c s n v) 24);simp only[cmA]at f l o ⊢;obtain⟨m,rfl⟩:=nI (show 0<=k by omega);replace l:=l m (by omega) (by omega);have A:(0:Int)<=(m:Int):=by omega
 have B:(m:Int)<4:=by omega
 have C:m<4:=by omega
 clear r p;have a:Hid (InC c s n v↔_):=dH c s n v;generalize q:w.alloc (.cells #[.int .i64 (m:Int),.int .i64 c,.int .i64 s,.int .i64 n,.int .i64 v] 24)=W at f l o;go_enter func45,ntmps45
 go_wp2_with fail
 clear q;obtain⟨t,u,x,y,z⟩:=Fi o;clear o;by_cases d:0<=c/\c<=7
 .have U1:Hid (decide _=true):=O' d;by_cases h:0<=s/\s<=1048576
  .have U2:Hid (decide _=true):=O' h;by_cases i:0<=n/\n<=7
   .have U3:Hid (decide _=true):=O' i;by_cases j:0<=v/\v<=1073741824
    .have U4:Hid (decide _=true):=O' j;have b:Hid (true=decide (InC c s n v)):=(O' (a.out.2 ⟨⟨⟨d,h⟩,i⟩,j⟩)).symm;clear d h i j a;go_quiet ((go_at_call 39;exact Calls.quiet_of_same (Jp (by assumption) _)))
     go_wp2
     go_ret;exact⟨Ay b.out,Ar f nq⟩
    .have U4:Hid (decide _=false):=H' j;have b:Hid (false=decide (InC c s n v)):=(H' (λG=>j ((λg=>g.2) (a.out.1 G)))).symm;clear d h i j a;go_quiet ((go_at_call 39;exact Calls.quiet_of_same (Jp (by assumption) _)))
     go_wp2
     go_ret;exact⟨Ay b.out,Ar f nq⟩
   .have U3:Hid (decide _=false):=H' i;have b:Hid (false=decide (InC c s n v)):=(H' (λG=>i ((λg=>g.1.2) (a.out.1 G)))).symm;clear d h i a;go_quiet ((go_at_call 39;exact Calls.quiet_of_same (Jp (by assumption) _)))
    go_wp2
    go_ret;exact⟨Ay b.out,Ar f nq⟩
  .have U2:Hid (decide _=false):=H' h;have b:Hid (false=decide (InC c s n v)):=(H' (λG=>h ((λg=>g.1.1.2) (a.out.1 G)))).symm;clear d h a;go_quiet ((go_at_call 39;exact Calls.quiet_of_same (Jp (by assumption) _)))
   go_wp2
   go_ret;exact⟨Ay b.out,Ar f nq⟩
 .have U1:Hid (decide _=false):=H' d;have b:Hid (false=decide (InC c s n v)):=(H' (λG=>d ((λg=>g.1.1.1) (a.out.1 G)))).symm;clear d a;go_quiet ((go_at_call 39;exact Calls.quiet_of_same (Jp (by assumption) _)))
  go_wp2
  go_ret;exact⟨Ay b.out,Ar f nq⟩
theorem eN(h:a=b):Ending.returned (.int .u32 a)=.returned (.int .u32 b):=by rw[h]
theorem jV(n:Nat)(a:1<=n)(b:n<=31):bits .and .u64 (IntKind.u64.wrap (-(n:Int))) 31=32-(n:Int):=by
 have e:IntKind.u64.wrap (-(n:Int))=((18446744073709551616-n:Nat):Int):=by rw[IntKind.wrap_u64];omega
 rw[e,show(31:Int)=((31:Nat):Int)from rfl,u64_and_nat _ _ (by omega) (by omega),nat_mask5];omega
theorem aD(x:BitVec 32)(n:Nat)(w:World)(a:1<=n)(b:n<=31) :
  Calls prog 176 #[.int .u32 (uw x),.int .i64 (-(n:Int))] w λe w'=>e=.returned (.int .u32 (uw (x.rotateRight n)))/\w'=w:=by
 have c:=El x;have d:=bO x;have f:=jV n a b;go_enter func176,ntmps176
 go_wp2
 go_ret;exact⟨eN (jC x n a b),rfl⟩
theorem WT(x:BitVec 32)(n:Nat)(w:World)(a:1<=n)(b:n<=31) :
  Calls prog 148 #[.int .u32 (uw x),.int .i64 (n:Int)] w λe w'=>e=.returned (.int .u32 (uw (x.rotateRight n)))/\w'=w:=by
 go_enter func148,ntmps148
 go_wp2_with fail
 refine(aD x n w a b).mono ?_;rintro e c ⟨rfl,rfl⟩;go_wp2
 go_ret;exact⟨rfl,rfl⟩
theorem My(x:BitVec 32)(k:Int)(w:World)(a:1<=k)(b:k<=31) :
  Calls prog 148 #[.int .u32 (uw x),.int .i64 k] w λe w'=>e=.returned (.int .u32 (uw (x.rotateRight k.toNat)))/\w'=w:=by
 obtain⟨n,rfl⟩:∃ n:Nat,k=n:=⟨k.toNat,by omega⟩;exact WT x n w (by omega) (by omega)
end
end
end Go.Proofs.YthkjeoamjgnpoaaGreatDoor
