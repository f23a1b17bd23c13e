/- Part 1 of the walk. -/
import Derived.Test.YtdjfdfpkkenjbacGreatDoorZ0
import Derived.WalkKit
import Derived.ProofKit
import Derived.Laws.AppendOwnNone
import Derived.Laws.BytesArg
import Derived.BigQuiet
import Derived.OpenShut
import Derived.StillTail
import Derived.Test.YtdjfdfpkkenjbacGreatDoorProg
import Derived.Deep.QuietTactic
import Derived.BigRegion
import Derived.Laws.ResultCell
import Derived.Laws.CopyOwn
import Derived.Deep.RegionWith
set_option maxRecDepth 100000
set_option maxHeartbeats 4000000
open Go.Proofs.Tryz
set_option linter.unusedVariables false
namespace Go.Proofs.YtdjfdfpkkenjbacGreatDoor
section
open Go.RowKit Go.ChangeShapes Go.WideShapes Go.ChangeAt
section
abbrev Bw(w w':World):Prop:=Below w.heap.size w w'
abbrev zV5:Array Value:=#[.int .i64 0,.int .i64 0,.int .i64 0,.int .i64 0,.int .i64 0]
abbrev zV8:Array Value:=#[.int .i64 0,.int .i64 0,.int .i64 0,.int .i64 0,.int .i64 0,.int .i64 0,.int .i64 0,.int .i64 0]
structure Sl(w:World)(v:Value)(l:List Int):Prop where
 ex:∃ a cap,v=.slice a l.length cap/\l.length<=cap/\(a=none->cap=0)/\(l=[]\/∃ b off,a=some ⟨b,off,none⟩/\b<w.heap.size/\∀ i,i<l.length->w.cell? ⟨b,off+i,none⟩=some (.int .u8 (l.getD i 0)))
 len:l.length<=140737488351232
 byte:∀ x∈l,0<=x/\x<256
variable{P:Program}{base cap e i n:Nat}{l:List Int}{v:Value}{w:World}
theorem Sl.af{f:World}(h:Sl w v l)(e:Below w.heap.size w f):Sl f v l:=by
 obtain⟨⟨a,c,rfl,k,n,d⟩,g,j⟩:=h;refine⟨⟨a,c,rfl,k,n,?_⟩,g,j⟩;rcases d with d|⟨b,off,ha,hbs,hcell⟩
 .exact .inl d
 .exact .inr ⟨b,off,ha,Z' hbs e.size,λi m=>(e.cell (p:=⟨b,off+i,none⟩) hbs).trans (hcell i m)⟩
theorem Sl.nil(w:World)(a:Option Addr):Sl w (.slice a 0 0) []:=⟨⟨a,0,rfl,by simp,by simp,.inl rfl⟩,by simp,by simp⟩
theorem Sl.ni(h:w.ownsRow base e 1 v l.length (l.map (Value.int .u8)))(f:l.length<=140737488351232)(c:∀ x∈l,0<=x/\x<256):Sl w v l:=by
 refine⟨?_,f,c⟩;rcases h.2 with⟨rfl,h0⟩|⟨g,cap,cur,rfl,_,hg,hn,_,hcs,ht⟩
 .exact⟨none,0,by rw[h0],by omega,λ_=>rfl,.inl (Y' h0)⟩
 .refine⟨_,cap,rfl,hn,by simp,.inr ⟨g,0,rfl,(U'.1 hg).1,λi d=>?_⟩⟩;have b:=h.cells (g:=g) rfl i (.int .u8 (l.getD i 0)) (by simp[List.getElem?_eq_getElem d,List.getD]);have a:(⟨g,0,none⟩:Addr).add i=⟨g,i,none⟩:=by unfold Addr.add;split<;>simp_all
  rw[a]at b
  simpa using b
theorem AO(a:i<l.length):l.getD i 0=l[i]:=by simp[List.getD,List.getElem?_eq_getElem a]
theorem GY(a:l.length<=i):l.getD i 0=0:=by simp[List.getD,List.getElem?_eq_none a]
theorem Al(h:∀ x∈l,0<=x/\x<256)(i:Nat):0<=l.getD i 0/\l.getD i 0<256:=by
 rcases mZ i l.length with hi|hi
 .rw[AO hi];exact h _ (mP hi)
 .rw[GY hi];omega
theorem Fj(l:List Int):∀ u∈l.map (Value.int .u8),u.oneCell'=true:=by
 intro u a;obtain⟨x,_,rfl⟩:=mB.1 a;rfl
theorem Hv(w:World)(c t x e:Nat)(A:P.underlying t=some (.slice e))(h:(P.info? e).map (λi=>(i.zero,i.size,i.bytes))=some (some (.int .u8 0),1,1))(v:Value)(l:List Int)(d:w.ownsRow c e 1 v l.length (l.map (Value.int .u8)))(u:Value)(m:List Int)(H:Sl w u m)(z:l.length+m.length<=140737488355328)(g:c<=w.heap.size) :
  ∃ v' w',(Builtin.append_ #[t,t] x #[v,u]).run P w=.ok v' w'/\w'.ownsRow c e 1 v' (l++m).length ((l++m).map (Value.int .u8))/\w.grownBy w' v.ownBlock:=by
 obtain⟨i,y,I,s,q⟩:=info_parts h;obtain⟨⟨a,p,rfl,J,E,B⟩,_,_⟩:=H;cases a with
 | none =>
  have r:=E rfl;subst r;have D:m=[]:=Y' (by omega);subst D;refine⟨v,w,?_,by simpa using d,⟨rfl,rfl,rfl,A' _,λ_ _ _=>rfl⟩⟩;exact run_append_owned_none (P:=P) (w:=w) c t x e i 1 A y v l.length _ d
 | some ad =>
  have f:∀ j u,(m.map (Value.int .u8))[j]?=some u->w.cell? (ad.add j)=some u:=by
   intro j u o;rcases B with rfl|⟨b,off,hab,_,hcell⟩
   .simp at o
   .obtain rfl:ad=⟨b,off,none⟩:=by simpa using hab
    have k:j<m.length:=by
     have:=(V'.1 o).1;simpa using this
    have n:(⟨b,off,none⟩:Addr).add j=⟨b,off+j,none⟩:=by unfold Addr.add;split<;>simp_all
    rw[n,hcell j k];simp[List.getElem?_eq_getElem k]at o
    rw[AO k,o]
  obtain⟨v',w',G,F,C,_⟩:=run_append_own (P:=P) w c t x e i (.int .u8 0) 1 1 A y I s q rfl (by decide) v l.length _ d ad m.length p (m.map (Value.int .u8)) (by simp) f (Fj m)
   (by unfold maxLen;omega) (by omega) g
  exact⟨v',w',G,by simpa using F,C⟩
theorem Aa(w:World){n:Array Oper}{c:List Oper}{o:Oper}{a:Act}{Q:Exit->Act->World->Prop}(p:o.guard=none)(s x:Operand)(t:TypeId)(r:o.op=.call { callee:=.builtin .append,args:=#[s,x],argTypes:=#[t,t] })(b e:Nat)(z:P.underlying t=some (.slice e))(f:(P.info? e).map (λi=>(i.zero,i.size,i.bytes))=some (some (.int .u8 0),1,1))(v u:Value)(y:a.eval s=v)(B:a.eval x=u)(l m:List Int)(j:w.ownsRow b e 1 v l.length (l.map (Value.int .u8)))(A:Sl w u m)(g:l.length+m.length<=140737488355328)(d:b<=w.heap.size)(h:∀ v' w',w'.ownsRow b e 1 v' (l++m).length ((l++m).map (Value.int .u8))->w.grownBy w' v.ownBlock->wpList P n Q c (a.put o.dst v') w'):wpList P n Q (o::c) a w:=by
 refine wpList_plain p λK q=>?_;obtain⟨v',w',k,C,D⟩:=Hv (P:=P) w b t o.type e z f v l j u m A g d;unfold Oper.wp execOp;simp only[r,resolve,invoke,builtin,Sem.run_bind,Sem.run_pure,Result.andThen_ok,oT,mR,nG,y,B,k];exact q _ _ (h v' w' C D)
theorem Sl.take{a:Option Addr}(h:Sl w (.slice a n cap) l)(m:Nat)(s:m<=l.length):Sl w (.slice a m cap) (l.take m):=by
 obtain⟨⟨q,d,e,r,o,f⟩,k,c⟩:=h;simp only[Value.slice.injEq]at e;obtain⟨rfl,rfl,rfl⟩:=e;have j:(l.take m).length=m:=by rw[j'];omega
 refine⟨⟨a,cap,by rw[j],by omega,o,?_⟩,by omega,λx p=>c x (mx p)⟩;rcases f with rfl|⟨b,off,rfl,hb,hcell⟩
 .exact .inl (by simp)
 .refine .inr ⟨b,off,rfl,hb,λi g=>?_⟩;rw[hcell i (by omega),AO (by omega),AO g];simp
theorem Sl.drop{b off:Nat}(h:Sl w (.slice (some ⟨b,off,none⟩) n cap) l)(k:Nat)(s:k<=l.length)(a:Nat)(g:l.length<=a+k):Sl w (.slice (some ⟨b,off+k,none⟩) (l.length-k) a) (l.drop k):=by
 obtain⟨⟨q,d,e,r,t,f⟩,o,c⟩:=h;simp only[Value.slice.injEq]at e;obtain⟨rfl,rfl,rfl⟩:=e;have m:(l.drop k).length=l.length-k:=by rw[mo]
 refine⟨⟨_,a,by rw[m],by omega,by simp,?_⟩,by omega,λx p=>c x (nU p)⟩;rcases f with rfl|⟨b,off,e,hb,hcell⟩
 .exact .inl (by simp)
 .simp only[X',Addr.mk.injEq,and_true]at e;obtain⟨rfl,rfl⟩:=e;refine .inr ⟨_,_,rfl,hb,λi j=>?_⟩;rw[nc,hcell (k+i) (by omega),AO (by omega),AO j];simp
theorem EA(h:w.ownsRow base e 1 v l.length (l.map (Value.int .u8)))(c:l≠[]) :
  ∃ g cap,v=.slice (some ⟨g,0,none⟩) l.length cap/\base<=g/\g<w.heap.size/\l.length<=cap/\(∀ i,i<l.length->w.cell? ⟨g,i,none⟩=some (.int .u8 (l.getD i 0)))/\(∀ i,w.frozen? ⟨g,i,none⟩=false):=by
 rcases h.2 with⟨rfl,h0⟩|⟨g,cap,cur,rfl,hb,hg,hn,_,hcs,ht⟩
 .exact absurd (Y' h0) c
 .refine⟨g,cap,rfl,hb,(U'.1 hg).1,hn,λi b=>?_,λi=>?_⟩
  .have hc:=h.cells (g:=g) rfl i (.int .u8 (l.getD i 0)) (by simp[List.getElem?_eq_getElem b,List.getD]);have a:(⟨g,0,none⟩:Addr).add i=⟨g,i,none⟩:=by unfold Addr.add;split<;>simp_all
   rwa [a]at hc
  .simp[World.frozen?,hg]
theorem Sl.built(w:World)(l:List Int)(e:TypeId){g:Nat}(b:g=w.heap.size)(d:l.length<=140737488351232)(a:∀ x∈l,0<=x/\x<256):Sl (w.alloc (.cells (l.map (Value.int .u8)).toArray e)) (.slice (some ⟨g,0,none⟩) l.length l.length) l:=by
 subst b;refine⟨⟨_,l.length,rfl,by simp,by simp,.inr ⟨w.heap.size,0,rfl,by simp,λi c=>?_⟩⟩,d,a⟩;rw[cell_of_row _ _ (0+i) _ _ _ (heap_alloc_new w _)];simp[List.getElem?_eq_getElem c,List.getD]
theorem Sl.one(w:World)(b:Int)(e:TypeId){g:Nat}(c:g=w.heap.size)(a:0<=b/\b<256):Sl (w.alloc (.cells #[.int .u8 b] e)) (.slice (some ⟨g,0,none⟩) 1 1) [b]:=by
 subst c;refine⟨⟨_,1,rfl,by simp,by simp,.inr ⟨w.heap.size,0,rfl,by simp,λi d=>?_⟩⟩,by simp,by simpa using a⟩;obtain rfl:i=0:=by simpa using d
 simp
theorem Aw{a b:Bool}(h:a=b):Ending.returned (.bool a)=.returned (.bool b):=by rw[h]
theorem Aq{B:Nat}{a:World}(h:Below B a w)(n:Nat):Below B a (w.drewN n):=h.trans ⟨rfl,rfl,rfl,A' _,λ_ _=>rfl⟩
end
end
section
open Go.RowKit
section
def YM:Value->Nat
 | .slice _ n _=>n
 | _=>0
variable{P:Program}{base n:Nat}{l:List Int}{v:Value}{w:World}{x y:Int}{xs:List Value}
theorem ER{e:Nat}(h:w.ownsRow base e 1 v n xs):∃ a cap,v=.slice a n cap:=by
 rcases h.2 with⟨rfl,rfl⟩|⟨g,cap,cur,rfl,_⟩
 .exact⟨none,0,rfl⟩
 .exact⟨_,cap,rfl⟩
theorem Cf{a:Nat}{e:TypeId}{b:Nat}(h:w.ownsRow base e b v n xs)(c:a<=base):w.ownsRow a e b v n xs:=by
 refine⟨h.1,?_⟩;rcases h.2 with h2|⟨g,cap,cur,hv,hg,hr⟩
 .exact .inl h2
 .exact .inr ⟨g,cap,cur,hv,mg c hg,hr⟩
theorem Mg(l:List Int)(j:Nat):l++List.replicate j 0++[0]=l++List.replicate (j+1) 0:=by
 rw[mm,<- List.replicate_succ']
theorem Sl.shape(h:Sl w v l):∃ a cap,v=.slice a l.length cap:=by
 obtain⟨⟨a,cap,e,_⟩,_⟩:=h;exact⟨a,cap,e⟩
def AX(l:List Int):Array Value:=(l.map (Value.int .u8)).toArray
theorem AE(l:List Int):(AX l).size=l.length:=by simp[AX]
theorem Lb(l:List Int):(AX l).all (·.oneCell')=true:=by simp[AX,Value.oneCell']
theorem E3(l:List Int)(i:Nat)(h:i<l.length):(AX l)[i]?=some (.int .u8 (l.getD i 0)):=by
 simp[AX,List.getD,List.getElem?_eq_getElem h]
theorem Xw(l:List Int)(i:Nat)(x:Int):(AX l).setIfInBounds i (.int .u8 x)=AX (l.set i x):=by
 apply pY;simp[AX,List.map_set]
def uw(x:BitVec 32):Int:=(x.toNat:Int)
theorem Ek(x:BitVec 32):0<=uw x:=Int.natCast_nonneg _
theorem be(x:BitVec 32):uw x<4294967296:=by unfold uw;have:=x.isLt;omega
theorem TT{x y:BitVec 32}:uw x=uw y↔x=y:=by
 unfold uw;constructor
 .intro h;exact BitVec.eq_of_toNat_eq (by omega)
 .rintro rfl;rfl
theorem MI(x y:BitVec 32):bits .and .u32 (uw x) (uw y)=uw (x &&& y):=by
 unfold uw;rw[u32_and_nat _ _ x.isLt y.isLt,BitVec.toNat_and]
theorem Ks(x y:BitVec 32):bits .or .u32 (uw x) (uw y)=uw (x ||| y):=by
 unfold uw;rw[u32_or_nat _ _ x.isLt y.isLt,ql]
theorem DL(x y:BitVec 32):bits .xor .u32 (uw x) (uw y)=uw (x ^^^ y):=by
 unfold uw;rw[u32_xor_nat _ _ x.isLt y.isLt,BitVec.toNat_xor]
theorem ma(x y:BitVec 32):IntKind.u32.wrap (uw x+uw y)=uw (x+y):=by
 unfold uw;rw[IntKind.wrap_u32',qd];omega
theorem D0(a b:BitVec 32):(uw a+uw b)%(4294967296:Int)=uw (a+b):=by
 unfold uw;rw[qd];omega
theorem eT(a b c:BitVec 32):(uw a+uw b+uw c)%(4294967296:Int)=uw (a+b+c):=by
 rw[<- D0,<- D0];omega
theorem UW(a b c d:BitVec 32):(uw a+uw b+uw c+uw d)%(4294967296:Int)=uw (a+b+c+d):=by
 rw[<- D0,<- eT];omega
theorem GL(x:BitVec 32)(k:Nat):uw x*(2:Int)^k%(4294967296:Int)=uw (x <<< k):=by
 unfold uw;rw[BitVec.toNat_shiftLeft,Nat.shiftLeft_eq,qe,qm,oK];rfl
theorem PH(x:BitVec 32)(k:Nat):uw x/(2:Int)^k=uw (x >>> k):=by
 unfold uw;rw[BitVec.toNat_ushiftRight,Nat.shiftRight_eq_div_pow,Int.natCast_ediv,oK];rfl
theorem eS(x:BitVec 32):uw x/(8:Int)=uw (x >>> 3):=PH x 3
theorem bg(x:BitVec 32):uw x/(1024:Int)=uw (x >>> 10):=PH x 10
theorem je(x:BitVec 32)(n:Nat)(a:1<=n)(b:n<=31):bits .or .u32 (uw x*2^(32-n)%4294967296) (uw x/2^(32-(32-n)))=uw (x.rotateRight n):=by
 rw[GL,PH,Ks,TT];rw[show 32-(32-n)=n by omega,BitVec.rotateRight_def,pG (by omega:n<32),BitVec.or_comm]
def Fy(n:Nat):Nat:=(119-n%64)%64
def CS(n:Nat):List Int:=[((n*8/2^56%256:Nat):Int),((n*8/2^48%256:Nat):Int),((n*8/2^40%256:Nat):Int),((n*8/2^32%256:Nat):Int),
 ((n*8/2^24%256:Nat):Int),((n*8/2^16%256:Nat):Int),((n*8/2^8%256:Nat):Int),((n*8/2^0%256:Nat):Int)]
def CT(l:List Int)(j:Nat):List Int:=l++[128]++List.replicate j 0
def pad(l:List Int):List Int:=CT l (Fy l.length)++CS l.length
theorem Dy(l:List Int)(j:Nat):(CT l j).length=l.length+1+j:=by simp[CT];omega
theorem Tn(l:List Int)(j:Nat):CT l j++[0]=CT l (j+1):=by
 simp only[CT,mm];rw[<- List.replicate_succ']
theorem K5(n:Nat):(CS n).length=8:=rfl
theorem To(l:List Int):(pad l).length%64=0/\l.length<(pad l).length/\(pad l).length<=l.length+72:=by
 unfold pad;rw[E',Dy,K5];unfold Fy;omega
theorem Tm(h:∀ x∈l,0<=x/\x<256)(j:Nat):∀ x∈CT l j,0<=x/\x<256:=by
 intro x a;simp only[CT,Q',D',o8]at a;rcases a with(a|rfl)|⟨_,rfl⟩
 .exact h x a
 .omega
 .omega
theorem Nh(n:Nat):∀ x∈CS n,0<=x/\x<256:=by
 intro x a;simp only[CS,mp,O',or_false]at a;rcases a with rfl|rfl|rfl|rfl|rfl|rfl|rfl|rfl<;>omega
theorem Zs(h:∀ x∈l,0<=x/\x<256):∀ x∈pad l,0<=x/\x<256:=by
 intro x a;rcases Q'.1 a with h1|h1
 .exact Tm h _ x h1
 .exact Nh _ x h1
theorem Pg(n s:Nat):((n*8/2^s%256:Nat):Int)=(n:Int)*8/2^s%256:=by
 rw[qe,Int.natCast_ediv,qm,oK];rfl
theorem Ni(n k:Nat)(a:k<8):(CS n).take (k+1)=(CS n).take k++[(n:Int)*8/2^(56-8*k)%256]:=by
 rw[<- Pg];obtain rfl|rfl|rfl|rfl|rfl|rfl|rfl|rfl:k=0\/k=1\/k=2\/k=3\/k=4\/k=5\/k=6\/k=7:=by omega
 all_goals rfl
def Az(ws:List (BitVec 32)):Array Value:=(ws.map λx=>Value.int .u32 (uw x)).toArray
theorem Bn(a:List (BitVec 32)):(Az a).size=a.length:=by simp[Az]
theorem BX(a:List (BitVec 32))(i:Nat)(h:i<a.length):(Az a)[i]?=some (.int .u32 (uw (a.getD i 0#32))):=by
 simp[Az,List.getD,List.getElem?_eq_getElem h]
theorem MK(a:List (BitVec 32))(i:Nat)(x:BitVec 32):(Az a).setIfInBounds i (.int .u32 (uw x))=Az (a.set i x):=by
 apply pY;simp[Az,List.map_set]
def CL(n:Int):BitVec 32:=BitVec.ofNat 32 n.toNat
def TX(l:List Int)(i:Nat):BitVec 32:=CL (l.getD (4*i) 0) <<< 24 ||| CL (l.getD (4*i+1) 0) <<< 16 ||| CL (l.getD (4*i+2) 0) <<< 8 ||| CL (l.getD (4*i+3) 0)
def iP(x:BitVec 32):BitVec 32:=x.rotateRight 7 ^^^ x.rotateRight 18 ^^^ x >>> 3
def iQ(x:BitVec 32):BitVec 32:=x.rotateRight 17 ^^^ x.rotateRight 19 ^^^ x >>> 10
def KB(l:List Int):Nat->List (BitVec 32)
 | 0=>List.replicate 64 0#32
 | k+1=>(KB l k).set k (TX l k)
def Zb(ws:List (BitVec 32))(i:Nat):BitVec 32:=ws.getD (i-16) 0#32+iP (ws.getD (i-15) 0#32)+ws.getD (i-7) 0#32+iQ (ws.getD (i-2) 0#32)
def Ge(l:List Int):Nat->List (BitVec 32)
 | 0=>KB l 16
 | k+1=>(Ge l k).set (16+k) (Zb (Ge l k) (16+k))
def O5(l:List Int):List (BitVec 32):=Ge l 48
theorem GB(l:List Int)(k:Nat):(KB l k).length=64:=by
 induction k with
 | zero=>simp[KB]
 | succ k ih=>simp[KB,ih]
theorem ET(l:List Int)(k:Nat):(Ge l k).length=64:=by
 induction k with
 | zero=>exact GB l 16
 | succ k ih=>simp[Ge,ih]
theorem P4(l:List Int):(O5 l).length=64:=ET l 48
theorem KT(n:Int)(h:0<=n/\n<256):uw (CL n)=n:=by
 unfold uw CL;rw[pR];omega
def SI:List Int:=[1116352408,1899447441,3049323471,3921009573,961987163,1508970993,2453635748,2870763221,3624381080,310598401,607225278,1426881987,1925078388,2162078206,2614888103,3248222580,3835390401,4022224774,264347078,604807628,770255983,1249150122,1555081692,1996064986,2554220882,2821834349,2952996808,3210313671,3336571891,3584528711,113926993,338241895,666307205,773529912,1294757372,1396182291,1695183700,1986661051,2177026350,2456956037,2730485921,2820302411,3259730800,3345764771,3516065817,3600352804,4094571909,275423344,430227734,506948616,659060556,883997877,958139571,1322822218,1537002063,1747873779,1955562222,2024104815,2227730452,2361852424,2428436474,2756734187,3204031479,3329325298]
def kAt(i:Nat):BitVec 32:=BitVec.ofNat 32 (SI.getD i 0).toNat
structure St where
 a:BitVec 32
 b:BitVec 32
 c:BitVec 32
 d:BitVec 32
 e:BitVec 32
 f:BitVec 32
 g:BitVec 32
 h:BitVec 32
def St.cells(s:St):Array Value:=#[.int .u32 (uw s.a),.int .u32 (uw s.b),.int .u32 (uw s.c),.int .u32 (uw s.d),.int .u32 (uw s.e),.int .u32 (uw s.f),.int .u32 (uw s.g),.int .u32 (uw s.h)]
def St.list(s:St):List (BitVec 32):=[s.a,s.b,s.c,s.d,s.e,s.f,s.g,s.h]
def RP(e f g:BitVec 32):BitVec 32:=(e &&& f) ^^^ (~~~e &&& g)
def ik(a b c:BitVec 32):BitVec 32:=(a &&& b) ^^^ (a &&& c) ^^^ (b &&& c)
def jy(e:BitVec 32):BitVec 32:=e.rotateRight 6 ^^^ e.rotateRight 11 ^^^ e.rotateRight 25
def jx(a:BitVec 32):BitVec 32:=a.rotateRight 2 ^^^ a.rotateRight 13 ^^^ a.rotateRight 22
def upS(s:St)(k w:BitVec 32):BitVec 32:=s.h+jy s.e+RP s.e s.f s.g+k+w
def fy(s:St):BitVec 32:=jx s.a+ik s.a s.b s.c
def aq(s:St)(k w:BitVec 32):St:={ a:=upS s k w+fy s,b:=s.a,c:=s.b,d:=s.c,e:=s.d+upS s k w,f:=s.e,g:=s.f,h:=s.g }
def BO(ws:List (BitVec 32))(s:St):Nat->St
 | 0=>s
 | k+1=>aq (BO ws s k) (kAt k) (ws.getD k 0#32)
def lA(s t:St):St:={ a:=s.a+t.a,b:=s.b+t.b,c:=s.c+t.c,d:=s.d+t.d,e:=s.e+t.e,f:=s.f+t.f,g:=s.g+t.g,h:=s.h+t.h }
def E2(s t:St):Nat->List (BitVec 32)
 | 0=>s.list
 | i+1=>(E2 s t i).set i ((E2 s t i).getD i 0#32+t.list.getD i 0#32)
theorem F5(s t:St)(i:Nat):(E2 s t i).length=8:=by
 induction i with
 | zero=>rfl
 | succ i ih=>simp[E2,ih]
def YV(s:St)(ws:List (BitVec 32)):St:=lA s (BO ws s 64)
def start:St:={ a:=1779033703#32,b:=3144134277#32,c:=1013904242#32,d:=2773480762#32,e:=1359893119#32,f:=2600822924#32,g:=528734635#32,h:=1541459225#32 }
def F6(x:BitVec 32):List Int:=[uw x/16777216%256,uw x/65536%256,uw x/256%256,uw x%256]
def CP:List (BitVec 32)->List Int
 | []=>[]
 | x::r=>F6 x++CP r
def OP(s:St):List Int:=CP s.list
theorem JQ(x:BitVec 32):∀ n∈F6 x,0<=n/\n<256:=by
 intro n a;simp only[F6,mp,O',or_false]at a;rcases a with rfl|rfl|rfl|rfl<;>omega
theorem PT(l:List (BitVec 32)):∀ n∈CP l,0<=n/\n<256:=by
 induction l with
 | nil=>intro n a;cases a
 | cons x r ih =>
  intro n a;rcases Q'.1 a with h|h
  .exact JQ x n h
  .exact ih n h
theorem PU(l:List (BitVec 32))(x:BitVec 32):CP (l++[x])=CP l++F6 x:=by
 induction l with
 | nil=>simp[CP]
 | cons y r ih=>simp[CP,ih]
theorem Hq(l:List (BitVec 32)):(CP l).length=4*l.length:=by
 induction l with
 | nil=>rfl
 | cons x r ih=>simp[CP,F6,ih];omega
def OV(l:List Int):Nat->St
 | 0=>start
 | k+1=>YV (OV l k) (O5 ((l.drop (64*k)).take 64))
def dig(l:List Int):List Int:=OP (OV (pad l) ((pad l).length/64))
theorem AA(l:List Int):(dig l).length=32:=rfl
theorem DV(l:List Int):∀ n∈dig l,0<=n/\n<256:=PT _
def Ng(s:List (BitVec 32))(a b:Nat):List (BitVec 32):=s.set a (s.getD a 0#32+s.getD b 0#32)
def gO(s:List (BitVec 32))(a t n:Nat):List (BitVec 32):=s.set t ((s.getD t 0#32 ^^^ s.getD a 0#32).rotateLeft n)
def JW(s:List (BitVec 32))(a b t n:Nat):List (BitVec 32):=gO (Ng s a b) a t n
def Ma(s:List (BitVec 32))(a b c d:Nat):List (BitVec 32):=JW (JW (JW (JW s a b d 16) c d b 12) a b d 8) c d b 7
theorem JV(s:List (BitVec 32))(a b:Nat):(Ng s a b).length=s.length:=by simp[Ng]
theorem Q2(s:List (BitVec 32))(a t n:Nat):(gO s a t n).length=s.length:=by simp[gO]
theorem Cd(s:List (BitVec 32))(a b t n:Nat):(JW s a b t n).length=s.length:=by rw[JW,Q2,JV]
theorem Nm(s:List (BitVec 32))(a b c d:Nat):(Ma s a b c d).length=s.length:=by simp only[Ma,Cd]
def Fr:List Nat:=[0,4,8,12,1,5,9,13,2,6,10,14,3,7,11,15,0,5,10,15,1,6,11,12,2,7,8,13,3,4,9,14]
def Hx(s:List (BitVec 32)):Nat->List (BitVec 32)
 | 0=>s
 | k+1=>Ma (Hx s k) (Fr.getD (4*k) 0) (Fr.getD (4*k+1) 0) (Fr.getD (4*k+2) 0) (Fr.getD (4*k+3) 0)
def Ee(s:List (BitVec 32)):Nat->List (BitVec 32)
 | 0=>s
 | k+1=>Hx (Ee s k) 8
theorem Jf(s:List (BitVec 32))(k:Nat):(Hx s k).length=s.length:=by
 induction k with
 | zero=>rfl
 | succ k ih=>rw[Hx,Nm,ih]
theorem Hy(s:List (BitVec 32))(k:Nat):(Ee s k).length=s.length:=by
 induction k with
 | zero=>rfl
 | succ k ih=>rw[Ee,Jf,ih]
theorem KQ(i:Nat):Fr.getD i 0<16:=by
 have all:∀ j:Fin 32,Fr.getD j.val 0<16:=by decide
 rcases mZ i 32 with h|h
 .exact all ⟨i,h⟩
 .rw[List.getD,nN (by simpa[Fr]using h)];decide
def Lg(x:BitVec 32):List Int:=[uw x%256,uw x/256%256,uw x/65536%256,uw x/16777216%256]
def gb(s t:List (BitVec 32))(i:Nat):BitVec 32:=s.getD i 0#32+t.getD i 0#32
def Td(s t:List (BitVec 32)):Nat->List Int
 | 0=>[]
 | k+1=>Td s t k++Lg (gb s t k)
theorem Gz(s t:List (BitVec 32))(k:Nat):(Td s t k).length=4*k:=by
 induction k with
 | zero=>rfl
 | succ k ih=>simp[Td,Lg,ih];omega
theorem PV(x:BitVec 32):∀ n∈Lg x,0<=n/\n<256:=by
 intro n a;simp only[Lg,mp,O',or_false]at a;rcases a with rfl|rfl|rfl|rfl<;>omega
theorem Wl(s t:List (BitVec 32))(k:Nat):∀ n∈Td s t k,0<=n/\n<256:=by
 induction k with
 | zero=>intro n a;cases a
 | succ k ih =>
  intro n a;rcases Q'.1 a with h|h
  .exact ih n h
  .exact PV _ n h
def CO(s:List (BitVec 32)):List Int:=Td (Ee s 10) s 16
theorem EX(s:List (BitVec 32)):(CO s).length=64:=Gz _ _ _
theorem Gj(s:List (BitVec 32)):∀ n∈CO s,0<=n/\n<256:=Wl _ _ _
def bC(l:List Int)(i:Nat):BitVec 32:=CL (l.getD (4*i) 0) ||| CL (l.getD (4*i+1) 0) <<< 8 ||| CL (l.getD (4*i+2) 0) <<< 16 ||| CL (l.getD (4*i+3) 0) <<< 24
def Ei(s:List (BitVec 32))(off:Nat)(l:List Int):Nat->List (BitVec 32)
 | 0=>s
 | k+1=>(Ei s off l k).set (off+k) (bC l k)
theorem Eq(s:List (BitVec 32))(a:Nat)(l:List Int)(k:Nat):(Ei s a l k).length=s.length:=by
 induction k with
 | zero=>rfl
 | succ k ih=>simp[Ei,ih]
def Ig:List (BitVec 32):=[1634760805#32,857760878#32,2036477234#32,1797285236#32,0#32,0#32,0#32,0#32,0#32,0#32,0#32,0#32,0#32,0#32,0#32,0#32]
def Cb(key:List Int)(c:BitVec 32)(nonce:List Int):List (BitVec 32):=Ei ((Ei Ig 4 key 8).set 12 c) 13 nonce 3
theorem Hp(key:List Int)(c:BitVec 32)(a:List Int):(Cb key c a).length=16:=by
 simp[Cb,Eq,Ig]
def bx(x y:Int):Int:=((x.toNat ^^^ y.toNat:Nat):Int)
theorem OO(a:0<=x/\x<256)(b:0<=y/\y<256):0<=bx x y/\bx x y<256:=by
 unfold bx;have:x.toNat ^^^ y.toNat<2^8:=pa (by omega) (by omega);omega
theorem jz(a:0<=y):bx x (bx x y)=y:=by
 unfold bx;rw[mM,<- Nat.xor_assoc,Nat.xor_self,Nat.zero_xor];omega
def Mt(s:List (BitVec 32))(i:Nat):Int:=(CO (s.set 12 (s.getD 12 0#32+BitVec.ofNat 32 (i/64)))).getD (i%64) 0
theorem TF(s:List (BitVec 32))(i:Nat):0<=Mt s i/\Mt s i<256:=Al (Gj _) _
def CM(s:List (BitVec 32))(d:List Int):Nat->List Int
 | 0=>[]
 | k+1=>CM s d k++[bx (Mt s k) (d.getD k 0)]
def K6(s:List (BitVec 32))(d:List Int):List Int:=CM s d d.length
theorem Dw(s:List (BitVec 32))(d:List Int)(k:Nat):(CM s d k).length=k:=by
 induction k with
 | zero=>rfl
 | succ k ih=>simp[CM,ih]
theorem Di(s:List (BitVec 32))(d:List Int):(K6 s d).length=d.length:=Dw _ _ _
theorem SQ(s:List (BitVec 32)){d:List Int}(b:∀ x∈d,0<=x/\x<256)(k:Nat):∀ n∈CM s d k,0<=n/\n<256:=by
 induction k with
 | zero=>intro n a;cases a
 | succ k ih =>
  intro n a;rcases Q'.1 a with h|h
  .exact ih n h
  .obtain rfl:n=_:=by simpa using h
   exact OO (TF _ _) (Al b k)
theorem Jy(s:List (BitVec 32)){d:List Int}(a:∀ x∈d,0<=x/\x<256):∀ n∈K6 s d,0<=n/\n<256:=SQ s a _
theorem QD(s:List (BitVec 32))(d:List Int)(k i:Nat)(a:i<k):(CM s d k).getD i 0=bx (Mt s i) (d.getD i 0):=by
 induction k with
 | zero=>omega
 | succ k ih =>
  rw[CM];rcases mZ i k with h|h
  .rw[<- ih h];simp[List.getD,List.getElem?_append_left (show i<(CM s d k).length by rw[Dw];exact h)]
  .obtain rfl:i=k:=by omega
   simp[List.getD,Dw]
theorem YN{m:List Int}(c:l.length=m.length)(h:∀ i,i<l.length->l.getD i 0=m.getD i 0):l=m:=by
 refine oG c λi a b=>?_;have:=h i a
 rwa [AO a,AO b]at this
theorem VX(s:List (BitVec 32)){d:List Int}(b:∀ x∈d,0<=x/\x<256):K6 s (K6 s d)=d:=by
 refine YN (by rw[Di,Di]) λi a=>?_;rw[Di,Di]at a
 rw[K6,QD _ _ _ _ (by rw[Di];exact a),K6,QD _ _ _ _ a,jz (Al b i).1]
theorem CD{c:Array Oper}{Q:Act->Prop}:∀ (l:List Oper) (a:Act),wpQuiet P c (λw'=>w'=w) Q l a->wpStill P c w Q l a
 | [],_,h=>h
 | o::rest,a,h=>by
  unfold wpQuiet at h;unfold wpStill;split
  .rename_i hw
   rw[if_pos hw]at h
   obtain⟨v,h1,h2⟩:=h;have b:=h1 w rfl;unfold Oper.quietAt at b;unfold Oper.still;generalize (execOp a.eval o).run P w=r at b ⊢;cases r with
   | ok n w' =>
    cases n<;>simp only[Oper.quietUpon]at b<;>simp only[Oper.stillUpon]
    case value u =>
     obtain⟨d,e⟩:=b;rw[e];exact⟨d,CD rest _ h2⟩
    case skip =>
     obtain⟨d,e⟩:=b;rw[<- e];exact⟨d,CD rest _ h2⟩
    case enter f args=>exact⟨b.1,v,b.2,CD rest _ h2⟩
   | halt x w'=>simp only[Oper.quietUpon]at b
  .rename_i hw
   rw[if_neg hw]at h
   exact CD rest _ h
theorem Au{d:Nat}{Q:Exit->Act->World->Prop}{a:Act}{l:List Oper}(n:Nat)(c:P.follows .mixedOrders=true)(b:Region.lexTailB .any l.toArray n=true)(h:wpQuiet P l.toArray (λw'=>w'=w.drew) (λa'=>wpList P l.toArray Q (l.drop n) a' w.drew) (l.take n) a):(Code.region d l.toArray true).wp P Q a w :=
 wp_region_still_tail n c b (CD _ _ h)
theorem ZH{a b:Int}(h:a=b):Ending.returned (.int .u32 a)=.returned (.int .u32 b):=by rw[h]
theorem ge(n:Nat)(a:n<=31):bits .and .u64 (n:Int) 31=(n:Int):=by
 rw[show(31:Int)=((31:Nat):Int)from rfl,u64_and_nat _ _ (by omega) (by omega),nat_mask5];omega
theorem eQ(x:BitVec 32)(n:Nat)(a:1<=n)(b:n<=31):bits .or .u32 (uw x*2^n%4294967296) (uw x/2^(32-n))=uw (x.rotateLeft n):=by
 rw[GL,PH,Ks,TT];rw[BitVec.rotateLeft_def,pG (by omega:n<32)]
theorem ZN(x:BitVec 32)(n:Nat)(w:World)(b:1<=n)(a:n<=31) :
  Calls prog 168 #[.int .u32 (uw x),.int .i64 (n:Int)] w λe w'=>e=.returned (.int .u32 (uw (x.rotateLeft n)))/\w'=w:=by
 have c:=Ek x;have d:=be x;have f:=ge n a;go_enter func168,ntmps168
 go_wp2
 go_ret;exact⟨ZH (eQ x n b a),rfl⟩
theorem ej(v:Int)(x:BitVec 32)(c:v=uw x)(n:Nat)(w:World)(a:1<=n)(b:n<=31) :
  Calls prog 168 #[.int .u32 v,.int .i64 (n:Int)] w λe w'=>e=.returned (.int .u32 (uw (x.rotateLeft n)))/\w'=w:=by
 subst c;exact ZN x n w a b
theorem Fs{g:Nat}{a:List (BitVec 32)}(h:w.heap[g]?=some (.cells (Az a) 184 (0,0)))(k:Nat)(x:BitVec 32) :
  (w.setCell ⟨g,k,none⟩ (.int .u32 (uw x))).heap[g]?=some (.cells (Az (a.set k x)) 184 (0,0)):=by
 rw[heap_setCell_same _ _ _ _ _ _ h,MK]
theorem I4(g:Nat)(c:List (BitVec 32))(w:World)(i:w.heap[g]?=some (.cells (Az c) 184 (0,0)))(r:c.length=16)(a b t n:Nat)(D:a<16)(E:b<16)(F:t<16)(A:1<=n)(B:n<=31) :
  Calls prog 192 #[.pointer (some ⟨g,0,none⟩),.int .i64 a,.int .i64 b,.int .i64 t,.int .i64 n] w λe w'=>e=.returned (.tuple #[])/\w'.heap[g]?=some (.cells (Az (JW c a b t n)) 184 (0,0))/\Below g w w':=by
 have l:=(cell_of_row w _ a _ _ _ i).trans (BX c a (by omega));have q:=(cell_of_row w _ b _ _ _ i).trans (BX c b (by omega));have z:=frozen_of_row w _ a _ _ i;have k:Hid (Ng c a b=c.set a (c.getD a 0#32+c.getD b 0#32)):=rfl;have o:Hid _:=i;have m:Hid (c.length=16):=r;clear i r;generalize c.getD a 0#32=x at l k;generalize c.getD b 0#32=y at q k;go_enter func192,ntmps192
 go_wp2_with fail
 refine Au 13 (by kernel_rfl) (by kernel_rfl) ?_;simp only[np,nB,nE,n7]
 repeat (go_big_quiet_step (fail))
 refine wpQuiet_nil ?_;go_wp2_with fail
 rw[D0];generalize d:(w.setCell _ _).drew=W1;have f:W1.heap[g]?=some (.cells (Az (Ng c a b)) 184 (0,0)):=by rw[<- d,k.out];exact Fs o.out a _
 have u:Below g w W1:=by rw[<- d];exact((Below.refl g w).setCell (p:=⟨g,a,none⟩) (A' _) _).drew
 have h:(Ng c a b).length=16:=by rw[JV];exact m.out
 have j:Hid (JW c a b t n=(Ng c a b).set t (((Ng c a b).getD t 0#32 ^^^ (Ng c a b).getD a 0#32).rotateLeft n)):=rfl;clear d k o m l q z;generalize Ng c a b=vs at f h j;have l:=(cell_of_row W1 _ a _ _ _ f).trans (BX vs a (by omega));have v:=(cell_of_row W1 _ t _ _ _ f).trans (BX vs t (by omega));have C:=frozen_of_row W1 _ t _ _ f;generalize vs.getD a 0#32=x2 at l j;generalize vs.getD t 0#32=y2 at v j;have s:Hid _:=f;clear f h;refine Au 17 (by kernel_rfl) (by kernel_rfl) ?_;simp only[np,nB,nE,n7]
 repeat (go_big_quiet_step (fail))
 go_big_quiet_want
 go_big_quiet_op
 refine⟨_,ej _ (y2 ^^^ x2) (DL y2 x2) n _ A B,?_⟩
 go_big_quiet_on
 repeat (go_big_quiet_step (fail))
 refine wpQuiet_nil ?_;go_wp2
 go_end0
 refine⟨rfl,?_,u.trans (((Below.refl g W1).setCell (p:=⟨g,t,none⟩) (A' _) _).drew)⟩;rw[j.out];exact Fs (w:=W1.drew) s.out t _
theorem Ra(g:Nat)(j:List (BitVec 32))(w:World)(q:w.heap[g]?=some (.cells (Az j) 184 (0,0)))(i:j.length=16)(a b c d:Nat)(k:a<16)(f:b<16)(l:c<16)(h:d<16) :
  Calls prog 169 #[.pointer (some ⟨g,0,none⟩),.int .i64 a,.int .i64 b,.int .i64 c,.int .i64 d] w λe w'=>e=.returned (.tuple #[])/\w'.heap[g]?=some (.cells (Az (Ma j a b c d)) 184 (0,0))/\Below g w w':=by
 go_enter func169,ntmps169
 go_wp2_with fail
 refine(I4 g j w q i a b d 16 k f h (by omega) (by omega)).mono ?_;rintro e v ⟨rfl,r,m⟩;go_wp2_with fail
 refine(I4 g _ v r (by rw[Cd];exact i) c d b 12 l h f (by omega) (by omega)).mono ?_;rintro e x ⟨rfl,s,n⟩;go_wp2_with fail
 refine(I4 g _ x s (by rw[Cd,Cd];exact i) a b d 8 k f h (by omega) (by omega)).mono ?_;rintro e y ⟨rfl,t,o⟩;go_wp2_with fail
 refine(I4 g _ y t (by rw[Cd,Cd,Cd];exact i) c d b 7 l h f (by omega) (by omega)).mono ?_;rintro e z ⟨rfl,u,p⟩;go_wp2
 go_end0
 exact⟨rfl,u,((m.trans n).trans o).trans p⟩
end
end
section
theorem Av:(prog.info? 5).map (λi=>(i.zero,i.size,i.bytes))=some (some (.int .u8 0),1,1):=by kernel_rfl
end
section
open Go.RowKit
section
theorem JF(x:BitVec 32)(h:uw x<256):uw x*16777216=uw (x <<< 24)/\uw x*65536=uw (x <<< 16)/\uw x*256=uw (x <<< 8):=by
 have d:=Ek x;have b:=GL x 24;have a:=GL x 16;have c:=GL x 8;rw[<- b,<- a,<- c];refine⟨?_,?_,?_⟩
 .rw[show(2:Int)^24=16777216 from rfl];omega
 .rw[show(2:Int)^16=65536 from rfl];omega
 .rw[show(2:Int)^8=256 from rfl];omega
theorem Hu(g d n B:Nat)(r:List (BitVec 32))(v:Value)(l:List Int)(w:World)(J:w.heap[g]?=some (.cells (Az r) 184 (0,0)))(a0:r.length=16)(I:d+n<=16)(Z:0<n)(h:Sl w v l)(C:l.length=4*n)(t:∀ b o m c,v=.slice (some ⟨b,o,none⟩) m c->b<g) :
  Calls prog 140 #[.slice (some ⟨g,d,none⟩) n B,v] w λe w'=>e=.returned (.tuple #[])/\w'.heap[g]?=some (.cells (Az (Ei r d l n)) 184 (0,0))/\Below g w w':=by
 obtain⟨⟨a,E,rfl,U,Y,T⟩,D,j⟩:=h;rcases T with rfl|⟨b,o,rfl,hb,hcell⟩
 .simp at C;omega
 have q:=t _ _ _ _ rfl;clear t;rw[C]at U D hcell ⊢
 have x:Hid (∀ i,i<4*n->w.cell? ⟨b,o+i,none⟩=some (.int .u8 (uw (CL (l.getD i 0))))):=λi W=>by rw[KT _ (Al j i)];exact hcell i W
 have u:Hid (∀ i,uw (CL (l.getD i 0))<256):=λi=>by rw[KT _ (Al j i)];exact(Al j i).2
 clear C Y hcell j;go_enter func140,ntmps140
 go_wp2_with fail
 go_loopw [7] (λi wr=>∃ k:Nat,k<=n/\i=.int .i64 k/\wr.heap[g]?=some (.cells (Az (Ei r d l k)) 184 (0,0))/\Below g w wr) (λi _=>n-(intOf i).toNat)
 case atStart=>exact⟨0,by omega,rfl,J,Below.refl _ _⟩
 case round =>
  clear J;obtain⟨k,hk,rfl,z,f⟩:=hrel;by_cases X:k<n
  .have hfw:wr.frozen? ⟨g,d+k,none⟩=false:=frozen_of_row wr _ (d+k) _ _ z;have K:=BX (Ei r d l k) (d+k) (by rw[Eq];omega);have V:wr.cell? ⟨g,d+k,none⟩=some (.int .u32 (uw ((Ei r d l k).getD (d+k) 0#32))):=(cell_of_row wr _ (d+k) _ _ _ z).trans K;have P:=(f.cell (p:=⟨b,o+(4*k),none⟩) q).trans (x.out (4*k) (by omega));have Q:=(f.cell (p:=⟨b,o+(4*k+1),none⟩) q).trans (x.out (4*k+1) (by omega));have R:=(f.cell (p:=⟨b,o+(4*k+2),none⟩) q).trans (x.out (4*k+2) (by omega));have S:=(f.cell (p:=⟨b,o+(4*k+3),none⟩) q).trans (x.out (4*k+3) (by omega));have l0:=u.out (4*k);have L:=u.out (4*k+1);have M:=u.out (4*k+2);have N:=u.out (4*k+3);obtain⟨A,s,O⟩:∃ A,Hid (A=bC l k)/\Hid (Ei r d l (k+1)=(Ei r d l k).set (d+k) A):=⟨_,rfl,rfl⟩;unfold bC at s;generalize CL (l.getD (4*k) 0)=x0 at P l0 s;generalize CL (l.getD (4*k+1) 0)=x1 at Q L s;generalize CL (l.getD (4*k+2) 0)=x2 at R M s;generalize CL (l.getD (4*k+3) 0)=x3 at S N s;obtain⟨y1,s1,F⟩:∃ y,uw x1*256=uw y/\x1 <<< 8=y:=⟨_,(JF x1 L).2.2,rfl⟩;obtain⟨y2,s2,G⟩:∃ y,uw x2*65536=uw y/\x2 <<< 16=y:=⟨_,(JF x2 M).2.1,rfl⟩;obtain⟨y3,s3,H⟩:∃ y,uw x3*16777216=uw y/\x3 <<< 24=y:=⟨_,(JF x3 N).1,rfl⟩;rw[F,G,H]at s
   clear F G H;have z0:=Ek x0;have z1:=Ek x1;have z2:=Ek x2;have z3:=Ek x3;clear K;go_wp2_with fail
   refine Au 36 (by kernel_rfl) (by kernel_rfl) ?_;simp only[np,nB,nE,n7]
   repeat (go_big_quiet_step (fail))
   refine wpQuiet_nil ?_;go_wp2
   rw[Ks,Ks,Ks,<- s.out];go_roundw
   case rel=>exact⟨k+1,by omega,by go_num,by rw[O.out];exact Fs z (d+k) A,(f.setCell (p:=⟨g,d+k,none⟩) (A' _) _).drew⟩
   case measure=>simp[intOf];omega
  .have HK:Hid (k=n):=by unfold Hid;omega
   go_wp2
   go_end0
   exact⟨rfl,by rw[<- HK.out];exact z,f⟩
variable{B base cap e g i j k n:Nat}{P:Program}{Q:Exit->Act->World->Prop}{a:Act}{c o x y:Int}{fr:Nat × Nat}{key l m nonce r:List Int}{ops:Array Oper}{t:TypeId}{v:Value}{w w':World}{xs:List Value}
theorem CV{a:World}(h:Below B a w){g:Nat}(c:B<=g)(b:Array Value):Below B a (w.setRow g b) :=
 h.trans ⟨rfl,rfl,rfl,by simp,λk d=>setRow_other w g k b (by omega)⟩
theorem NF(G H:Value)(key d:List Int)(c:Nat)(w:World)(U:Sl w G key)(V:Sl w H d)(lk:key.length=32)(W:d.length=12)(Y:c<=2000000000) :
  Calls prog 105 #[G,.int .i64 c,H] w λe w'=>e=.returned (.agg (Az (Cb key (BitVec.ofNat 32 c) d)))/\Bw w w':=by
 have S:∀ b o m c,G=.slice (some ⟨b,o,none⟩) m c->b<w.heap.size:=by
  intro b o m c e;obtain⟨⟨a,N,rfl,_,_,O⟩,_,_⟩:=U;rcases O with rfl|⟨b',off',e',hb,_⟩
  .simp at lk
  .rw[e']at e
   simp only[Value.slice.injEq,X',Addr.mk.injEq,and_true]at e;omega
 have T:∀ b o m c,H=.slice (some ⟨b,o,none⟩) m c->b<w.heap.size:=by
  intro b o m c e;obtain⟨⟨a,N,rfl,_,_,O⟩,_,_⟩:=V;rcases O with rfl|⟨b',off',e',hb,_⟩
  .simp at W
  .rw[e']at e
   simp only[Value.slice.injEq,X',Addr.mk.injEq,and_true]at e;omega
 go_enter func105,ntmps105
 go_wp2_with fail
 generalize g:(w.alloc _).alloc _=W0;have D:W0.heap[w.heap.size+1]?=some (.cells (Az Ig) 184 (0,0)):=by rw[<- g];exact heap_alloc2_new _ _ _
 have z:W0.heap[w.heap.size]?=some (.cells (Az (List.replicate 16 0#32)) 184 (0,0)):=by rw[<- g];exact heap_alloc2_old _ _ _
 have l:Bw w W0:=by rw[<- g];exact((Below.refl _ _).alloc (A' _) _).alloc (by simp) _
 clear g;refine(Hu (w.heap.size+1) 4 8 12 Ig G key W0 D rfl (by omega) (by omega) (U.af l) lk (λb o m c e=>pZ (S b o m c e))).mono ?_;rintro e I ⟨rfl,f,n⟩;have A:=(n.block w.heap.size (by omega)).trans z;have u:Bw w I:=l.trans (n.mono (by omega));have r:(Ei Ig 4 key 8).length=16:=by rw[Eq];rfl
 have L:Hid (Cb key (BitVec.ofNat 32 c) d=Ei ((Ei Ig 4 key 8).set 12 (BitVec.ofNat 32 c)) 13 d 3):=rfl;have x:(c:Int)=uw (BitVec.ofNat 32 c):=by unfold uw;rw[pR,pG (by omega)]
 have J:Hid ((c:Int)=uw (BitVec.ofNat 32 c)):=x;clear D z l n x;generalize Ei Ig 4 key 8=vs at f r L;have Q:=(cell_of_row I _ 12 _ _ _ f).trans (BX vs 12 (by omega));have R:=frozen_of_row I _ 12 _ _ f;go_wp2_with fail
 rw[J.out];generalize j:BitVec.ofNat 32 c=cw at L ⊢;have K:Hid (BitVec.ofNat 32 c=cw):=j;clear j;generalize h:I.setCell _ _=W2;have E:W2.heap[w.heap.size+1]?=some (.cells (Az (vs.set 12 cw)) 184 (0,0)):=by rw[<- h];exact Fs f 12 cw
 have B:W2.heap[w.heap.size]?=some (.cells (Az (List.replicate 16 0#32)) 184 (0,0)):=by rw[<- h];exact(heap_setCell_other _ _ _ _ (by simp)).trans A
 have k:Bw w W2:=by rw[<- h];exact u.setCell (p:=⟨w.heap.size+1,12,none⟩) (by simp) _
 clear h f A u Q R;refine(Hu (w.heap.size+1) 13 3 3 (vs.set 12 cw) H d W2 E (by simpa using r) (by omega) (by omega) (V.af k) W (λb o m c e=>pZ (T b o m c e))).mono ?_;rintro e X ⟨rfl,s,q⟩;have C:=(q.block w.heap.size (by omega)).trans B;have P:Bw w X:=k.trans (q.mono (by omega));have i:(Ei (vs.set 12 cw) 13 d 3).length=16:=by rw[Eq];simpa using r
 clear E B k q;rw[<- L.out]at s i
 generalize F:Cb key cw d=us at s i;have M:Hid (Cb key cw d=us):=F;clear F;have t:(prog.info? 184).map (·.size)=some (Az us).size:=by rw[Bn,i];kernel_rfl
 have y:(Az us).all (·.oneCell')=true:=by simp[Az,Value.oneCell']
 go_wp2_with (first|(refine wpList_load_row rfl 184 _ rfl (w.heap.size+1) rfl 184 _ (0,0) _ s underlying184 rfl t ?_)|(refine wpList_store_row rfl 184 _ _ rfl w.heap.size _ rfl rfl 184 _ C t (by rw[Bn,Bn,i];rfl) y ?_))
 refine bodyPost_ret (v:=.agg (Az us)) (results_cell_row rfl _ _ w.heap.size 184 _ (0,0) _ rfl (setRow_heap X w.heap.size _ _ 184 _ C) underlying184 rfl t) rfl ⟨by rw[K.out,M.out],CV P (A' _) _⟩
def Wt:Array Value:=(Fr.map λ(n:Nat)=>Value.int .i64 (n:Int)).toArray
def Dq(w:World):Prop:=∃ t fr,w.heap[4]?=some (.cells Wt t fr)
theorem Dq.af(h:Dq w){B:Nat}(b:4<B)(c:Below B w w'):Dq w':=by
 obtain⟨t,a,h⟩:=h;exact⟨t,a,(c.block _ b).trans h⟩
theorem Dq.pos(h:Dq w):4<w.heap.size:=by
 obtain⟨t,a,h⟩:=h;exact(U'.1 h).1
theorem gQ(j:Nat)(a:j<8):∀ w,(Instr.index 249 (.agg Wt) (.int .i64 (j:Int))).run prog w=.ok (.agg #[.int .i64 ((Fr.getD (4*j) 0:Nat):Int),.int .i64 ((Fr.getD (4*j+1) 0:Nat):Int),.int .i64 ((Fr.getD (4*j+2) 0:Nat):Int),.int .i64 ((Fr.getD (4*j+3) 0:Nat):Int)]) w:=by
 intro w;obtain rfl|rfl|rfl|rfl|rfl|rfl|rfl|rfl:j=0\/j=1\/j=2\/j=3\/j=4\/j=5\/j=6\/j=7:=by omega
 all_goals kernel_rfl
theorem lZ(w:World)(a b c:Obj){W:World}(h:((w.alloc a).alloc b).alloc c=W) :
  W.heap[w.heap.size]?=some a/\W.heap[w.heap.size+1]?=some b/\W.heap[w.heap.size+1+1]?=some c/\W.heap.size=w.heap.size+3/\Bw w W:=by
 subst h;refine⟨?_,?_,?_,by simp,(((Below.refl _ _).alloc (A' _) _).alloc (by simp) _).alloc (by simp;omega) _⟩
 .rw[heap_alloc_old _ _ (by simp;omega)];exact heap_alloc2_old w a b
 .rw[heap_alloc_old _ _ (by simp)];exact heap_alloc2_new w a b
 .have:=heap_alloc_new ((w.alloc a).alloc b) c;simpa using this
theorem gX:∀ (S:List (BitVec 32)),S.length=16->∃ s0 s1 s2 s3 s4 s5 s6 s7 s8 s9 s10 s11 s12 s13 s14 s15,S=[s0,s1,s2,s3,s4,s5,s6,s7,s8,s9,s10,s11,s12,s13,s14,s15]
 | [s0,s1,s2,s3,s4,s5,s6,s7,s8,s9,s10,s11,s12,s13,s14,s15],_=>⟨s0,s1,s2,s3,s4,s5,s6,s7,s8,s9,s10,s11,s12,s13,s14,s15,rfl⟩
theorem cZ(S:List (BitVec 32))(a:S.length=16)(j:Nat)(h:j<16):∀ w,(Instr.index 184 (.agg (Az S)) (.int .i64 (j:Int))).run prog w=.ok (.int .u32 (uw (S.getD j 0#32))) w:=by
 intro w;obtain⟨s0,i,k,s3,l,m,n,o,p,q,b,c,d,e,f,g,rfl⟩:=gX S a;obtain rfl|rfl|rfl|rfl|rfl|rfl|rfl|rfl|rfl|rfl|rfl|rfl|rfl|rfl|rfl|rfl:j=0\/j=1\/j=2\/j=3\/j=4\/j=5\/j=6\/j=7\/j=8\/j=9\/j=10\/j=11\/j=12\/j=13\/j=14\/j=15:=by omega
 all_goals kernel_rfl
theorem Dp{l:List Oper}(h:wpList P ops Q l a w):wpList P ops Q l a w:=h
theorem Ga(w:World)(b c a:Obj):(((w.alloc b).alloc c).alloc a).heap[w.heap.size+1+1]?=some a:=by
 have:=heap_alloc_new ((w.alloc b).alloc c) a;simpa using this
theorem Rp(w:World)(a b e:Obj)(d c:Array Value)(t:TypeId)(f:e=.cells c t (0,0)){W:World}(h:(((w.alloc a).alloc b).alloc e).setRow (w.heap.size+1+1) d=W) :
  W.heap[w.heap.size]?=some a/\W.heap[w.heap.size+1]?=some b/\W.heap[w.heap.size+1+1]?=some (.cells d t (0,0))/\W.heap.size=w.heap.size+3/\Bw w W:=by
 subst h;subst f;have g:=Ga w a b (.cells c t (0,0));refine⟨?_,?_,setRow_heap _ _ _ _ t _ g,by simp,CV ((((Below.refl _ _).alloc (A' _) _).alloc (by simp) _).alloc (by simp;omega) _) (by omega) _⟩
 .rw[setRow_other _ _ _ _ (by omega),heap_alloc_old _ _ (by simp;omega)];exact heap_alloc2_old w a b
 .rw[setRow_other _ _ _ _ (by omega),heap_alloc_old _ _ (by simp)];exact heap_alloc2_new w a b
theorem lS(A:List Int)(n:Nat)(f g h i a b c d:Int)(R:List Int)(e:A.length=n):((((A++f::g::h::i::R).set n a).set (n+1) b).set (n+2) c).set (n+3) d=A++[a,b,c,d]++R:=by
 subst e;rw[nZ _ _ (A' _),nZ _ _ (by omega),nZ _ _ (by omega),nZ _ _ (by omega)];simp
theorem KL(h:w.heap[g]?=some (.cells (AX l) t (0,0)))(k:Nat)(x:Int) :
  (w.setCell ⟨g,k,none⟩ (.int .u8 x)).heap[g]?=some (.cells (AX (l.set k x)) t (0,0)):=by
 rw[heap_setCell_same _ _ _ _ _ _ h,Xw]
theorem L5(w:World)(G k:Nat)(h:k≠G)(a b c d:Nat)(x y z u:Value):((((w.setCell ⟨G,a,none⟩ x).setCell ⟨G,b,none⟩ y).setCell ⟨G,c,none⟩ z).setCell ⟨G,d,none⟩ u).heap[k]?=w.heap[k]?:=by
 rw[heap_setCell_other _ _ _ _ (by simpa using h),heap_setCell_other _ _ _ _ (by simpa using h),heap_setCell_other _ _ _ _ (by simpa using h),heap_setCell_other _ _ _ _ (by simpa using h)]
def EB(s t:List (BitVec 32))(j:Nat):List Int:=Td s t j++List.replicate (64-4*j) 0
theorem IJ(s t:List (BitVec 32))(j:Nat)(a:j<=16):(EB s t j).length=64:=by
 rw[EB,E',Gz,nH];omega
theorem Tq(s t:List (BitVec 32))(j:Nat)(b:j<16)(x:BitVec 32)(a:gb s t j=x):((((EB s t j).set (4*j) (uw x%256)).set (4*j+1) (uw x/256%256)).set (4*j+2) (uw x/65536%256)).set (4*j+3) (uw x/16777216%256)=EB s t (j+1):=by
 have e:List.replicate (64-4*j) (0:Int)=0::0::0::0::List.replicate (64-4*(j+1)) 0:=by
  rw[show 64-4*j=64-4*(j+1)+1+1+1+1 by omega];rfl
 rw[EB,e,lS _ _ _ _ _ _ _ _ _ _ _ (Gz s t j),EB,Td,Lg,a]
theorem Hw(b:List (BitVec 32))(w:World)(s:b.length=16)(ht:Dq w) :
  Calls prog 139 #[.agg (Az b)] w λe w'=>e=.returned (.agg (AX (CO b)))/\Bw w w':=by
 have P:=ht.pos;have f:(prog.info? 184).map (·.size)=some (Az b).size:=by rw[Bn,s];kernel_rfl
 have h:(Az b).all (·.oneCell')=true:=by simp[Az,Value.oneCell']
 go_enter func139,ntmps139
 go_wp2_with ((with_reducible (refine Dp ?_));first
  | (refine wpList_load_row rfl 184 _ rfl w.heap.size rfl 184 _ (0,0) _ (heap_alloc2_old _ _ _) underlying184 rfl f ?_)
  | (refine wpList_store_row rfl 184 _ _ rfl (w.heap.size+1+1) _ rfl rfl 184 (Az (List.replicate 16 0#32)) (Ga _ _ _ _) f (by rw[Bn,Bn,s];rfl) h ?_))
 generalize L:World.setRow _ _ _=W0;obtain⟨E,q,g,a1,A⟩:=Rp w _ _ _ _ (Az (List.replicate 16 0#32)) 184 rfl L;clear L;have q:W0.heap[w.heap.size+1]?=some (.cells (AX (List.replicate 64 0)) 131 (0,0)):=q;have Q:Dq W0:=ht.af P A
 go_loopw [10] (λi wr=>∃ k:Nat,k<=10/\i=.int .i64 k/\wr.heap[w.heap.size+1+1]?=some (.cells (Az (Ee b k)) 184 (0,0))/\Below (w.heap.size+1+1) W0 wr) (λi _=>10-(intOf i).toNat)
 case atStart=>exact⟨0,by omega,rfl,g,Below.refl _ _⟩
 case round =>
  clear g;obtain⟨k,hk,rfl,g,a⟩:=hrel;by_cases a0:k<10
  .obtain⟨tq,frq,hq⟩:=Q.af (by omega) a;have o:(k:Int)<10:=by omega
   have n:=gQ;have y:(prog.info? 249).map (·.size)=some Wt.size:=by kernel_rfl
   generalize Wt=qa at hq y n;have HT:Hid (Ee b (k+1)=Hx (Ee b k) 8):=rfl;have l:(Ee b k).length=16:=by rw[Hy];exact s
   generalize Ee b k=S at HT g l;go_wp2_with ((with_reducible (refine Dp ?_));refine wpList_load_row rfl 249 (.global 4) rfl 4 rfl tq _ frq _ hq underlying249 rfl y ?_)
   clear hq
   go_loopw [13] (λi wr=>∃ j:Nat,j<=8/\i=.int .i64 j/\wr.heap[w.heap.size+1+1]?=some (.cells (Az (Hx S j)) 184 (0,0))/\Below (w.heap.size+1+1) W0 wr) (λi _=>8-(intOf i).toNat)
   case atStart=>exact⟨0,by omega,rfl,g,a⟩
   case round =>
    clear g a;obtain⟨j,Y,rfl,g,a⟩:=hrel;have B:=a.size;by_cases Z:j<8
    .have d:=n j Z;have N:(j:Int)<8:=by omega
     have D:Hid (Hx S (j+1)=Ma (Hx S j) (Fr.getD (4*j) 0) (Fr.getD (4*j+1) 0) (Fr.getD (4*j+2) 0) (Fr.getD (4*j+3) 0)):=rfl;have l0:=KQ (4*j);have l1:=KQ (4*j+1);have l2:=KQ (4*j+2);have l3:=KQ (4*j+3);have O:(Hx S j).length=16:=by rw[Jf];exact l
     generalize Fr.getD (4*j) 0=q0 at d D l0;generalize Fr.getD (4*j+1) 0=q1 at d D l1;generalize Fr.getD (4*j+2) 0=q2 at d D l2;generalize Fr.getD (4*j+3) 0=q3 at d D l3;generalize Hx S j=X at D g O;clear n;go_wp2_with fail
     refine(Ra (w.heap.size+1+1) X _ ((heap_alloc_old _ _ (by omega)).trans g) O q0 q1 q2 q3 l0 l1 l2 l3).mono ?_;rintro e w1 ⟨rfl,V,M⟩;have W:Below (w.heap.size+1+1) W0 w1:=(a.alloc (by omega) _).trans M;clear g a M B d;go_wp2
     go_roundw
     case rel=>exact⟨j+1,by omega,by go_num,by rw[D.out];exact V,W⟩
     case measure=>simp[intOf];omega
    .have HJ:Hid (j=8):=by unfold Hid;omega
     have N:¬ (j:Int)<8:=by omega
     go_wp2
     go_roundw
     case rel=>exact⟨k+1,by omega,by go_num,by rw[HT.out,<- HJ.out];exact g,a⟩
     case measure=>simp[intOf];omega
  .have HK:Hid (k=10):=by unfold Hid;omega
   have o:¬ (k:Int)<10:=by omega
   have HB:Hid (k=10->CO b=EB (Ee b k) b 16):=by rintro rfl;simp[CO,EB]
   have l:(Ee b k).length=16:=by rw[Hy];exact s
   generalize Ee b k=S at HB g l;have B:=a.size;have H:=(a.block w.heap.size (by omega)).trans E;have J:=(a.block (w.heap.size+1) (by omega)).trans q;have z:Bw w wr:=A.trans (a.mono (by omega));have u:(prog.info? 184).map (·.size)=some (Az S).size:=by rw[Bn,l];kernel_rfl
   clear E q A a Q;go_wp2_with ((with_reducible (refine Dp ?_));refine wpList_load_row rfl 184 _ rfl (w.heap.size+1+1) rfl 184 _ (0,0) _ ((heap_alloc_old _ _ (by omega)).trans g) underlying184 rfl u ?_)
   have U:w.heap.size+1<wr.heap.size:=by omega
   generalize m:wr.alloc _=W1;have c:W1.heap[wr.heap.size]?=some (.cells (AX (EB S b 0)) 131 (0,0)):=by rw[<- m];exact heap_alloc_new _ _
   have I:W1.heap[w.heap.size]?=some (.cells (Az b) 184 (0,0)):=by rw[<- m];exact(heap_alloc_old _ _ (by omega)).trans H
   have K:W1.heap[w.heap.size+1]?=some (.cells (AX (List.replicate 64 0)) 131 (0,0)):=by rw[<- m];exact(heap_alloc_old _ _ (by omega)).trans J
   have F:Bw w W1:=by rw[<- m];exact z.alloc z.size _
   clear m H J z B g ht f u h o;generalize wr.heap.size=G at c U ⊢
   go_loopw [28] (λi wr=>∃ j:Nat,j<=16/\i=.int .i64 j/\wr.heap[G]?=some (.cells (AX (EB S b j)) 131 (0,0))/\wr.heap[w.heap.size]?=some (.cells (Az b) 184 (0,0))/\wr.heap[w.heap.size+1]?=some (.cells (AX (List.replicate 64 0)) 131 (0,0))/\Bw w wr) (λi _=>16-(intOf i).toNat)
   case atStart=>exact⟨0,by omega,rfl,c,I,K,F⟩
   case round =>
    clear c I K F;obtain⟨j,Y,rfl,c,E,q,a⟩:=hrel;by_cases t:j<16
    .have C:(j:Int)<16:=by omega
     have d:=cZ S l j t;have cf:=(cell_of_row wr _ j _ _ _ E).trans (BX b j (by omega));have r:=IJ S b j Y;have c0:=(cell_of_row wr _ (4*j) _ _ _ c).trans (E3 _ (4*j) (by omega));have c1:=(cell_of_row wr _ (4*j+1) _ _ _ c).trans (E3 _ (4*j+1) (by omega));have c2:=(cell_of_row wr _ (4*j+2) _ _ _ c).trans (E3 _ (4*j+2) (by omega));have c3:=(cell_of_row wr _ (4*j+3) _ _ _ c).trans (E3 _ (4*j+3) (by omega));have f0:=frozen_of_row wr _ (4*j) _ _ c;have f1:=frozen_of_row wr _ (4*j+1) _ _ c;have f2:=frozen_of_row wr _ (4*j+2) _ _ c;have f3:=frozen_of_row wr _ (4*j+3) _ _ c;obtain⟨x,hx,HX⟩:∃ x,(uw (S.getD j 0#32)+uw (b.getD j 0#32))%(4294967296:Int)=uw x/\Hid (gb S b j=x):=⟨_,D0 _ _,rfl⟩;generalize S.getD j 0#32=xa at d hx;generalize b.getD j 0#32=xb at cf hx;have nx:=Ek x;have HN:Hid _:=c;have HF:Hid _:=E;have HR:Hid _:=q;have R:Hid _:=a;have T:Hid (((((EB S b j).set (4*j) (uw x%256)).set (4*j+1) (uw x/256%256)).set (4*j+2) (uw x/65536%256)).set (4*j+3) (uw x/16777216)=EB S b (j+1)):=by
      have h1:=Tq S b j t x HX.out;rw[show uw x/16777216%256=uw x/16777216 by have:=be x;omega]at h1
      exact h1
     clear c E q a r;go_wp2
     go_roundw
     case rel=>exact⟨j+1,by omega,by go_num,by rw[<- T.out];exact KL (KL (KL (KL HN.out _ _) _ _) _ _) _ _,(L5 wr G _ (by omega) _ _ _ _ _ _ _ _).trans HF.out,(L5 wr G _ (by omega) _ _ _ _ _ _ _ _).trans HR.out,
       (((R.out.setCell (p:=⟨G,_,none⟩) (by simp;omega) _).setCell (p:=⟨G,_,none⟩) (by simp;omega) _).setCell (p:=⟨G,_,none⟩) (by simp;omega) _).setCell (p:=⟨G,_,none⟩) (by simp;omega) _⟩
     case measure=>simp[intOf];omega
    .have HJ:Hid (j=16):=by unfold Hid;omega
     have C:¬ (j:Int)<16:=by omega
     have r:=IJ S b j Y;have f:(prog.info? 131).map (·.size)=some (AX (EB S b j)).size:=by rw[AE,r];kernel_rfl
     have h:(AX (EB S b j)).all (·.oneCell')=true:=by simp[AX,Value.oneCell']
     go_wp2_with ((with_reducible (refine Dp ?_));first|(refine wpList_load_row rfl 131 _ rfl G rfl 131 _ (0,0) _ c underlying131 rfl f ?_)|(refine wpList_store_row rfl 131 _ _ rfl (w.heap.size+1) _ rfl rfl 131 _ q f (by rw[AE,AE,r];rfl) h ?_))
     refine bodyPost_ret (v:=.agg (AX (EB S b j))) (results_cell_row rfl _ _ (w.heap.size+1) 131 _ (0,0) _ rfl (setRow_heap wr _ _ _ 131 _ q) underlying131 rfl f) rfl ⟨?_,CV a (by omega) _⟩;rw[HB.out HK.out,HJ.out]
def E5(key nonce:List Int)(c:Int):Int:=if key.length≠32\/nonce.length≠12 then 1 else if c<0\/1073741824<c then 2 else 0
theorem PY(h:key.length≠32\/nonce.length≠12):E5 key nonce c=1:=by unfold E5;rw[if_pos h]
theorem OQ(a:key.length=32)(b:nonce.length=12)(h:c<0\/1073741824<c):E5 key nonce c=2:=by unfold E5;rw[if_neg (by omega),if_pos h]
theorem Jn(a:key.length=32)(b:nonce.length=12)(h:0<=c/\c<=1073741824):E5 key nonce c=0:=by unfold E5;rw[if_neg (by omega),if_neg (by omega)]
theorem Kl(g h:Value)(key a:List Int)(c:Int)(w:World)(i:Sl w g key)(j:Sl w h a) :
  Calls prog 103 #[g,.int .i64 c,h] w λe w'=>e=.returned (.int .i64 (E5 key a c))/\w'=w:=by
 obtain⟨⟨k,o,rfl,_,_,_⟩,lk,_⟩:=i;obtain⟨⟨l,p,rfl,_,_,_⟩,r,_⟩:=j;have b:Hid (key.length≠32\/a.length≠12->E5 key a c=1):=PY;have d:Hid (key.length=32->a.length=12->(c<0\/1073741824<c)->E5 key a c=2):=OQ;have f:Hid (key.length=32->a.length=12->(0<=c/\c<=1073741824)->E5 key a c=0):=Jn;generalize E5 key a c=E at b d f ⊢;generalize key.length=n at *;generalize a.length=m at *;go_enter func103,ntmps103
 by_cases q:(n:Int)=32
 .by_cases h2:(m:Int)=12
  .by_cases h3:c<0
   .go_wp2
    go_ret;exact⟨by rw[d.out (by omega) (by omega) (by omega)];rfl,rfl⟩
   .by_cases h4:1073741824<c
    .go_wp2
     go_ret;exact⟨by rw[d.out (by omega) (by omega) (by omega)];rfl,rfl⟩
    .go_wp2
     go_ret;exact⟨by rw[f.out (by omega) (by omega) (by omega)];rfl,rfl⟩
  .go_wp2
   go_ret;exact⟨by rw[b.out (by omega)];rfl,rfl⟩
 .go_wp2
  go_ret;exact⟨by rw[b.out (by omega)];rfl,rfl⟩
theorem Jm(w:World)(l:List Int)(o:Obj)(t:TypeId)(a:Array Value)(c:o=.cells a t (0,0)){W:World}(b:(w.alloc o).setRow w.heap.size (AX l)=W) :
  W.heap[w.heap.size]?=some (.cells (AX l) t (0,0))/\Bw w W/\W.heap.size=w.heap.size+1:=by
 subst b;subst c;exact⟨setRow_heap _ _ _ _ t _ (heap_alloc_new _ _),CV ((Below.refl _ _).alloc (A' _) _) (A' _) _,by simp⟩
theorem Sl.ofRow(h:w.heap[g]?=some (.cells (AX l) t fr))(c:l.length<=140737488351232)(a:∀ x∈l,0<=x/\x<256):Sl w (.slice (some ⟨g,0,none⟩) l.length l.length) l:=by
 refine⟨⟨_,l.length,rfl,by simp,by simp,.inr ⟨g,0,rfl,(U'.1 h).1,λi b=>?_⟩⟩,c,a⟩;rw[mU];exact(cell_of_row w _ i _ _ _ h).trans (E3 l i b)
structure Got(w w':World)(v:Value)(l:List Int):Prop where
 sl:Sl w' v l
 sc:Bw w w'
 new:∀ b o n c,v=.slice (some ⟨b,o,none⟩) n c->w.heap.size<=b
theorem X0(k l:Value)(key a:List Int)(c:Nat)(w:World)(t:Sl w k key)(v:Sl w l a)(lk:key.length=32)(y:a.length=12)(E:c<=1073741824)(x:Dq w) :
  Calls prog 106 #[k,.int .i64 c,l] w λe w'=>∃ v',e=.returned (.tuple #[v',.int .i64 0])/\Got w w' v' (CO (Cb key (BitVec.ofNat 32 c) a)):=by
 go_enter func106,ntmps106
 go_wp2_with fail
 refine(Kl k l key a c w t v).mono ?_;rintro e C ⟨rfl,rfl⟩;rw[Jn lk y (by omega)];go_wp2_with fail
 refine(NF k l key a c C t v lk y (by omega)).mono ?_;rintro e D ⟨rfl,f⟩;have u:=Hp key (BitVec.ofNat 32 c) a;generalize j:Cb key (BitVec.ofNat 32 c) a=us at u;have p:Hid (Cb key (BitVec.ofNat 32 c) a=us):=j;clear j;go_wp2_with fail
 refine(Hw us D u (x.af x.pos f)).mono ?_;rintro e z ⟨rfl,q⟩;have d:=EX us;have g:=Gj us;generalize h:CO us=bs at d g;have m:Hid (CO us=bs):=h;clear h;have s:(prog.info? 131).map (·.size)=some (AX bs).size:=by rw[AE,d];kernel_rfl
 have i:(AX bs).all (·.oneCell')=true:=by simp[AX,Value.oneCell']
 go_wp2_with ((with_reducible (refine Dp ?_));refine wpList_store_row rfl 131 _ _ rfl z.heap.size _ rfl rfl 131 (AX (List.replicate 64 0)) (heap_alloc_new _ _) s (by rw[AE,AE,d];rfl) i ?_)
 generalize r:World.setRow _ _ _=W4;obtain⟨B,A,_⟩:=Jm z bs _ 131 (AX (List.replicate 64 0)) rfl r
 go_ret2
 refine⟨_,rfl,?_,(f.trans (q.mono f.size)).trans (A.mono (mg f.size q.size)),λb o n c e=>?_⟩
 .rw[p.out,m.out];have:=Sl.ofRow B (by omega) g;rw[d]at this
  exact this
 .have:=mg f.size q.size;injection e with e1
  injection e1 with e2
  injection e2 with e3
  omega
theorem Ud(c:0<=x/\x<256)(d:0<=y/\y<256):bits .xor .u8 x y=bx x y:=by
 obtain⟨a,rfl⟩:∃ a:Nat,x=a:=⟨x.toNat,by omega⟩;obtain⟨b,rfl⟩:∃ b:Nat,y=b:=⟨y.toNat,by omega⟩;rw[u8_xor_nat _ _ (by omega) (by omega)];rfl
theorem J7(h:w.ownsRow base e 1 v n xs){g:Nat}{c:Array Value}{t:TypeId}{d:Nat × Nat}(a:w.heap[g]?=some (.cells c t d))(f:t≠e):v.ownBlock≠some g:=by
 intro b;rcases h.2 with⟨rfl,_⟩|⟨g',cap,cur,rfl,_,hg',_⟩
 .simp[Value.ownBlock]at b
 .simp only[Value.ownBlock,X']at b;subst b;rw[hg']at a
  simp only[X',Obj.cells.injEq]at a;exact f a.2.1.symm
theorem Fp(h:w.ownsRow base e 1 v n xs)(a:∀ k,v.ownBlock=some k->w'.heap[k]?=w.heap[k]?):w'.ownsRow base e 1 v n xs:=by
 refine⟨h.1,?_⟩;rcases h.2 with h2|⟨g,cap,cur,hv,hb,hg,hr⟩
 .exact .inl h2
 .exact .inr ⟨g,cap,cur,hv,hb,(a g (by rw[hv];rfl)).trans hg,hr⟩
theorem Sl.ss(w:World)(b a:Int)(e:TypeId){g:Nat}(f:g=w.heap.size)(c:0<=b/\b<256)(d:a=b):Sl (w.alloc (.cells #[.int .u8 a] e)) (.slice (some ⟨g,0,none⟩) 1 1) [b]:=by
 subst d;exact Sl.one w a e f c
theorem bf(x:BitVec 32):(uw x+1)%(4294967296:Int)=uw (x+1#32):=D0 x 1#32
theorem Sa(c:BitVec 32)(q:Nat):c+BitVec.ofNat 32 q+1#32=c+BitVec.ofNat 32 (q+1):=by
 rw[BitVec.add_assoc]
 congr 1
 apply BitVec.eq_of_toNat_eq;simp[BitVec.toNat_add,BitVec.toNat_ofNat]
def EY(ws:List (BitVec 32))(q:Nat):List (BitVec 32):=ws.set 12 (ws.getD 12 0#32+BitVec.ofNat 32 q)
theorem Qb(a:List (BitVec 32))(q:Nat):(EY a q).length=a.length:=by simp[EY]
theorem Vw(a:List (BitVec 32))(h:a.length=16):EY a 0=a:=by
 unfold EY;rw[show BitVec.ofNat 32 0=0#32 from rfl,BitVec.add_zero,List.getD,H' (by omega),qf,List.set_getElem_self]
theorem bW(a:List (BitVec 32))(q:Nat)(h:a.length=16):(EY a q).getD 12 0#32=a.getD 12 0#32+BitVec.ofNat 32 q:=by
 unfold EY;simp[List.getD,h]
theorem Vv(a:List (BitVec 32))(q:Nat)(h:a.length=16):(EY a q).set 12 ((EY a q).getD 12 0#32+1#32)=EY a (q+1):=by
 rw[bW a q h,Sa];unfold EY;rw[List.set_set]
theorem Rq(a:List (BitVec 32))(q j:Nat)(b:j<64):Mt a (64*q+j)=(CO (EY a q)).getD j 0:=by
 unfold Mt EY;rw[show(64*q+j)/64=q by omega,show(64*q+j)%64=j by omega]
theorem RS(f:List (BitVec 32))(vd:Value)(d:List Int)(w:World)(b9:f.length=16)(hd:Sl w vd d)(hl:d.length<=100000)(ht:Dq w) :
  Calls prog 104 #[.agg (Az f),vd] w λe w'=>∃ v',e=.returned v'/\w'.ownsRow w.heap.size 5 1 v' (K6 f d).length ((K6 f d).map (Value.int .u8))/\Bw w w':=by
 obtain⟨i0,hi,d1,d2,d3⟩:=info_parts Av;have c4:=hd;obtain⟨⟨ad,d9,rfl,hc,hn,h1⟩,e3,c2⟩:=hd;have c9:=ht.pos;generalize c7:d.length=n at *;have HN:Hid (d.length=n):=c7;clear c7 h1 hn;go_enter func104,ntmps104
 go_wp2_with (at_make;refine wpList_make_own _ rfl _ _ 27 rfl w.heap.size 5 i0 (.int .u8 0) 1 underlying27 hi d1 d2 _ _ _ n rfl rfl (by omega) (by rw[d3];omega) (by unfold maxLen;omega) (by simp) ?_)
 intro w1 c8 b4;have b:w1.heap[w.heap.size]?=some (.cells (Az (EY f 0)) 184 (0,0)):=by
  rw[b4.block w.heap.size (by simp) (by simp),Vw f b9];exact heap_alloc_new _ _
 have c1:Bw w w1:=((Below.refl _ _).alloc (A' _) _).grown b4 (by simp) (by simp);have a1:w1.ownsRow w.heap.size 5 1 (.slice (some ⟨w.heap.size+1,0,none⟩) 0 n) (CM f d 0).length ((CM f d 0).map (Value.int .u8)):=c8;clear b4 c8 d1 d2 d3 hi;go_wp2_with fail
 go_loopw [5] (λv wr=>∃ (q m:Nat) (a:Option Addr) (z:Nat),m=min (64*q) n/\v=.slice a m z/\wr.ownsRow w.heap.size 5 1 v (CM f d m).length ((CM f d m).map (Value.int .u8))/\wr.heap[w.heap.size]?=some (.cells (Az (EY f q)) 184 (0,0))/\Bw w wr) (λv _=>n-YM v)
 case atStart=>exact⟨0,0,_,_,by omega,rfl,a1,b,c1⟩
 case round =>
  clear a1 b c1;obtain⟨q,m,a,z,hm,rfl,c,b,h⟩:=hrel;have HM:Hid (m=min (64*q) n):=hm;have e0:m<=n:=by omega
  clear hm;have H:w.heap.size<wr.heap.size:=(U'.1 b).1;by_cases c6:m<n
  .have hmni:(m:Int)<(n:Int):=by omega
   have M:Hid (m=64*q):=by have:=HM.out;unfold Hid;omega
   have b8:(EY f q).length=16:=by rw[Qb];exact b9
   have Y:Hid (∀ j,j<64->Mt f (m+j)=(CO (EY f q)).getD j 0):=λj hj=>by rw[M.out];exact Rq f q j hj
   have a0:(prog.info? 184).map (·.size)=some (Az (EY f q)).size:=by rw[Bn,b8];kernel_rfl
   have a6:Hid ((EY f q).set 12 ((EY f q).getD 12 0#32+1#32)=EY f (q+1)):=Vv f q b9;generalize EY f q=us at b b8 Y a0 a6;go_wp2_with ((with_reducible (refine Dp ?_));refine wpList_load_row rfl 184 _ rfl w.heap.size rfl 184 _ (0,0) _ b underlying184 rfl a0 ?_)
   refine(Hw us wr b8 (ht.af c9 h)).mono ?_;rintro e w2 ⟨rfl,b2⟩;have Z:=EX us;have a9:=Gj us;generalize CO us=bs at Z a9 Y;have J:(prog.info? 131).map (·.size)=some (AX bs).size:=by rw[AE,Z];kernel_rfl
   have I:(AX bs).all (·.oneCell')=true:=by simp[AX,Value.oneCell']
   have C:∀ k,Value.ownBlock (.slice a m z)=some k->k<wr.heap.size:=λk K=>(c.lt k K).2;by_cases e2:(64:Int)<=(n:Int)-(m:Int)
   .have a5:Hid (m+64=min (64*(q+1)) n):=by have:=M.out;unfold Hid;omega
    have d8:m+64<=n:=by omega
    have d0:64<=64:=by omega
    go_wp2_with ((with_reducible (refine Dp ?_));refine wpList_store_row rfl 131 _ _ rfl w2.heap.size _ rfl rfl 131 (AX (List.replicate 64 0)) (heap_alloc_new _ _) J (by rw[AE,AE,Z];rfl) I ?_)
    generalize Q:World.setRow _ _ _=W3;obtain⟨F,b3,b7⟩:=Jm w2 bs _ 131 (AX (List.replicate 64 0)) rfl Q;clear Q;have u:Bw wr W3:=b2.trans (b3.mono b2.size);have o:=(u.block w.heap.size H).trans b;have l:=Fp c (λk K=>u.block k (C k K));have R:Bw w W3:=h.trans (u.mono h.size);have b5:w.heap.size<w2.heap.size:=Z' H b2.size;clear c b h b2 b3 u C b7 a0 J I c6 hmni;generalize w2.heap.size=g at F b5 ⊢
    go_loopw [5,27] (λv i wr=>∃ (j:Nat) (a:Option Addr) (z:Nat),j<=64/\i=.int .i64 j/\v=.slice a (m+j) z/\wr.ownsRow w.heap.size 5 1 v (CM f d (m+j)).length ((CM f d (m+j)).map (Value.int .u8))/\wr.heap[w.heap.size]?=some (.cells (Az us) 184 (0,0))/\wr.heap[g]?=some (.cells (AX bs) 131 (0,0))/\Bw w wr) (λ_ i _=>64-(intOf i).toNat)
    case atStart=>exact⟨0,a,z,by omega,rfl,rfl,l,o,F,R⟩
    case round =>
     clear l o F R;obtain⟨j,a2,P,hj,rfl,rfl,c,b,U,h⟩:=hrel;by_cases d6:j<64
     .have hjri:(j:Int)<(64:Int):=by omega
      have V:=c.lt;have cb:=(cell_of_row wr _ j _ _ _ U).trans (E3 bs j (by omega));obtain⟨O,od,rfl,b0,S⟩:∃ O od,ad=some ⟨O,od,none⟩/\O<w.heap.size/\w.cell? ⟨O,od+(m+j),none⟩=some (.int .u8 (d.getD (m+j) 0)):=by
       obtain⟨⟨a',c0,e',_,_,A⟩,_,_⟩:=c4;rw[HN.out]at e' A
       simp only[Value.slice.injEq]at e';obtain⟨rfl,_,_⟩:=e';rcases A with A|⟨b',o',rfl,E,hc'⟩
       .have:=HN.out;rw[A]at this;simp at this;omega
       .exact⟨b',o',rfl,E,hc' (m+j) (by omega)⟩
      have cd:=(h.cell (p:=⟨O,od+(m+j),none⟩) b0).trans S;have y1:=Al a9 j;have y2:=Al c2 (m+j);have N:Hid (CM f d (m+(j+1))=CM f d (m+j)++[bx (bs.getD j 0) (d.getD (m+j) 0)]):=by
       unfold Hid;rw[<- Y.out j (by omega)];rfl
      have D:=Dw f d (m+j);have L:=OO y1 y2;have t:Hid (bits .xor .u8 (bs.getD j 0) (d.getD (m+j) 0)=bx (bs.getD j 0) (d.getD (m+j) 0)):=Ud y1 y2;have s:Hid (0<=bx (bs.getD j 0) (d.getD (m+j) 0)/\bx (bs.getD j 0) (d.getD (m+j) 0)<256):=L;clear L S;generalize bs.getD j 0=x at cb y1 N t s;generalize d.getD (m+j) 0=y at cd y2 N t s;generalize bx x y=xy at N t s;generalize CM f d (m+j)=pre at c D N;go_wp2_with (at_builtin;refine Aa _ rfl _ _ 27 rfl w.heap.size 5 underlying27 Av _ _ rfl rfl pre [xy] (c.alloc _) (Sl.ss _ _ _ _ rfl s.out t.out) (by rw[D];simp;omega) (by have:=h.size;simp;omega) ?_)
      intro v' w' ho B;have W:w'.ownsRow w.heap.size 5 1 v' (pre++[xy]).length ((pre++[xy]).map (Value.int .u8)):=by simpa[D]using ho
      have E:Bw w w':=(h.alloc h.size _).grown B (by have:=h.size;simp;omega) (λk K=>(V k K).1);have n1:=J7 c b (by decide);have n2:=J7 c U (by decide);have a8:w.heap.size<wr.heap.size:=(U'.1 b).1;have b6:g<wr.heap.size:=(U'.1 U).1;have G:w'.heap[w.heap.size]?=some (.cells (Az us) 184 (0,0)):=((B.block w.heap.size (by simp;omega) n1.symm).trans (heap_alloc_old _ _ a8)).trans b;have b1:w'.heap[g]?=some (.cells (AX bs) 131 (0,0)):=((B.block g (by simp;omega) n2.symm).trans (heap_alloc_old _ _ b6)).trans U;obtain⟨a3,c3,X⟩:=ER W;rw[E',D,mQ]at X
      subst X;clear ho B c V h b U cb cd n1 n2;go_wp2
      go_roundw
      case rel=>exact⟨j+1,a3,c3,by omega,by go_num,rfl,by rw[N.out];exact W,G,b1,E⟩
      case measure=>simp[intOf];omega
     .have hjri:¬ (j:Int)<(64:Int):=by omega
      have HJ:Hid (j=64):=by unfold Hid;omega
      have a7:=(cell_of_row wr _ 12 _ _ _ b).trans (BX us 12 (by omega));have d5:=frozen_of_row wr _ 12 _ _ b;generalize T:us.getD 12 0#32=cw at a7;have a4:Hid (us.getD 12 0#32=cw):=T;clear T;have c5:=bf cw;have n1:=J7 c b (by decide);go_wp2
      go_roundw
      case rel =>
       refine⟨q+1,m+j,a2,P,by rw[HJ.out];exact a5.out,rfl,Fp c (λk K=>heap_setCell_other _ _ _ _ (by simp;intro e;subst e;exact n1 K)),?_,h.setCell (p:=⟨w.heap.size,12,none⟩) (A' _) _⟩;rw[<- a6.out,a4.out];exact Fs b 12 _
      case measure=>simp[YM];have:=HJ.out;omega
   .obtain⟨r,hrsub⟩:∃ r:Nat,(n:Int)-(m:Int)=(r:Int):=⟨n-m,by omega⟩;have a5:Hid (m+r=min (64*(q+1)) n):=by have:=M.out;unfold Hid;omega
    have d8:m+r<=n:=by omega
    have d0:r<=64:=by omega
    have d7:(r:Int)<=64:=by omega
    have e1:(0:Int)<=(r:Int):=by omega
    have e4:0<r:=by omega
    go_wp2_with ((with_reducible (refine Dp ?_));refine wpList_store_row rfl 131 _ _ rfl w2.heap.size _ rfl rfl 131 (AX (List.replicate 64 0)) (heap_alloc_new _ _) J (by rw[AE,AE,Z];rfl) I ?_)
    generalize Q:World.setRow _ _ _=W3;obtain⟨F,b3,b7⟩:=Jm w2 bs _ 131 (AX (List.replicate 64 0)) rfl Q;clear Q;have u:Bw wr W3:=b2.trans (b3.mono b2.size);have o:=(u.block w.heap.size H).trans b;have l:=Fp c (λk K=>u.block k (C k K));have R:Bw w W3:=h.trans (u.mono h.size);have b5:w.heap.size<w2.heap.size:=Z' H b2.size;clear c b h b2 b3 u C b7 a0 J I c6 hmni;generalize w2.heap.size=g at F b5 ⊢
    go_loopw [5,27] (λv i wr=>∃ (j:Nat) (a:Option Addr) (z:Nat),j<=r/\i=.int .i64 j/\v=.slice a (m+j) z/\wr.ownsRow w.heap.size 5 1 v (CM f d (m+j)).length ((CM f d (m+j)).map (Value.int .u8))/\wr.heap[w.heap.size]?=some (.cells (Az us) 184 (0,0))/\wr.heap[g]?=some (.cells (AX bs) 131 (0,0))/\Bw w wr) (λ_ i _=>r-(intOf i).toNat)
    case atStart=>exact⟨0,a,z,by omega,rfl,rfl,l,o,F,R⟩
    case round =>
     clear l o F R;obtain⟨j,a2,P,hj,rfl,rfl,c,b,U,h⟩:=hrel;by_cases d6:j<r
     .have hjri:(j:Int)<(r:Int):=by omega
      have V:=c.lt;have cb:=(cell_of_row wr _ j _ _ _ U).trans (E3 bs j (by omega));obtain⟨O,od,rfl,b0,S⟩:∃ O od,ad=some ⟨O,od,none⟩/\O<w.heap.size/\w.cell? ⟨O,od+(m+j),none⟩=some (.int .u8 (d.getD (m+j) 0)):=by
       obtain⟨⟨a',c0,e',_,_,A⟩,_,_⟩:=c4;rw[HN.out]at e' A
       simp only[Value.slice.injEq]at e';obtain⟨rfl,_,_⟩:=e';rcases A with A|⟨b',o',rfl,E,hc'⟩
       .have:=HN.out;rw[A]at this;simp at this;omega
       .exact⟨b',o',rfl,E,hc' (m+j) (by omega)⟩
      have cd:=(h.cell (p:=⟨O,od+(m+j),none⟩) b0).trans S;have y1:=Al a9 j;have y2:=Al c2 (m+j);have N:Hid (CM f d (m+(j+1))=CM f d (m+j)++[bx (bs.getD j 0) (d.getD (m+j) 0)]):=by
       unfold Hid;rw[<- Y.out j (by omega)];rfl
      have D:=Dw f d (m+j);have L:=OO y1 y2;have t:Hid (bits .xor .u8 (bs.getD j 0) (d.getD (m+j) 0)=bx (bs.getD j 0) (d.getD (m+j) 0)):=Ud y1 y2;have s:Hid (0<=bx (bs.getD j 0) (d.getD (m+j) 0)/\bx (bs.getD j 0) (d.getD (m+j) 0)<256):=L;clear L S;generalize bs.getD j 0=x at cb y1 N t s;generalize d.getD (m+j) 0=y at cd y2 N t s;generalize bx x y=xy at N t s;generalize CM f d (m+j)=pre at c D N;go_wp2_with (at_builtin;refine Aa _ rfl _ _ 27 rfl w.heap.size 5 underlying27 Av _ _ rfl rfl pre [xy] (c.alloc _) (Sl.ss _ _ _ _ rfl s.out t.out) (by rw[D];simp;omega) (by have:=h.size;simp;omega) ?_)
      intro v' w' ho B;have W:w'.ownsRow w.heap.size 5 1 v' (pre++[xy]).length ((pre++[xy]).map (Value.int .u8)):=by simpa[D]using ho
      have E:Bw w w':=(h.alloc h.size _).grown B (by have:=h.size;simp;omega) (λk K=>(V k K).1);have n1:=J7 c b (by decide);have n2:=J7 c U (by decide);have a8:w.heap.size<wr.heap.size:=(U'.1 b).1;have b6:g<wr.heap.size:=(U'.1 U).1;have G:w'.heap[w.heap.size]?=some (.cells (Az us) 184 (0,0)):=((B.block w.heap.size (by simp;omega) n1.symm).trans (heap_alloc_old _ _ a8)).trans b;have b1:w'.heap[g]?=some (.cells (AX bs) 131 (0,0)):=((B.block g (by simp;omega) n2.symm).trans (heap_alloc_old _ _ b6)).trans U;obtain⟨a3,c3,X⟩:=ER W;rw[E',D,mQ]at X
      subst X;clear ho B c V h b U cb cd n1 n2;go_wp2
      go_roundw
      case rel=>exact⟨j+1,a3,c3,by omega,by go_num,rfl,by rw[N.out];exact W,G,b1,E⟩
      case measure=>simp[intOf];omega
     .have hjri:¬ (j:Int)<(r:Int):=by omega
      have HJ:Hid (j=r):=by unfold Hid;omega
      have a7:=(cell_of_row wr _ 12 _ _ _ b).trans (BX us 12 (by omega));have d5:=frozen_of_row wr _ 12 _ _ b;generalize T:us.getD 12 0#32=cw at a7;have a4:Hid (us.getD 12 0#32=cw):=T;clear T;have c5:=bf cw;have n1:=J7 c b (by decide);go_wp2
      go_roundw
      case rel =>
       refine⟨q+1,m+j,a2,P,by rw[HJ.out];exact a5.out,rfl,Fp c (λk K=>heap_setCell_other _ _ _ _ (by simp;intro e;subst e;exact n1 K)),?_,h.setCell (p:=⟨w.heap.size,12,none⟩) (A' _) _⟩;rw[<- a6.out,a4.out];exact Fs b 12 _
      case measure=>simp[YM];have:=HJ.out;omega
  .have hmni:¬ (m:Int)<(n:Int):=by omega
   have d4:Hid (n=m):=by unfold Hid;omega
   go_wp2
   go_ret;refine⟨_,rfl,?_,h⟩;unfold K6;rw[HN.out,d4.out];exact c
theorem dq(g h s:Value)(key a d:List Int)(c:Nat)(w:World)(n:Sl w g key)(p:Sl w h a)(m:Sl w s d)(lk:key.length=32)(r:a.length=12)(E:c<=1073741824)(F:d.length<=2000)(q:Dq w) :
  Calls prog 66 #[g,.int .i64 c,h,s] w λe w'=>∃ v',e=.returned (.tuple #[v',.int .i64 0])/\w'.ownsRow w.heap.size 5 1 v' (K6 (Cb key (BitVec.ofNat 32 c) a) d).length ((K6 (Cb key (BitVec.ofNat 32 c) a) d).map (Value.int .u8))/\Bw w w':=by
 have j:=m;obtain⟨⟨ad,l,rfl,x,z,u⟩,y,v⟩:=m;clear u;have A:(d.length:Int)<=2000:=by omega
 go_enter func66,ntmps66
 go_wp2_with fail
 refine(Kl g h key a c w n p).mono ?_;rintro e C ⟨rfl,rfl⟩;rw[Jn lk r (by omega)];go_wp2_with fail
 refine(NF g h key a c C n p lk r (by omega)).mono ?_;rintro e D ⟨rfl,b⟩;have o:=Hp key (BitVec.ofNat 32 c) a;generalize f:Cb key (BitVec.ofNat 32 c) a=us at o;have i:Hid (Cb key (BitVec.ofNat 32 c) a=us):=f;clear f;go_wp2_with fail
 refine(RS us _ d D o (j.af b) (by omega) (q.af q.pos b)).mono ?_;rintro e G ⟨B,rfl,k,t⟩;go_wp2
 go_ret2
 refine⟨B,rfl,?_,b.trans (t.mono b.size)⟩;rw[i.out];exact Cf k b.size
def Ai(l:List Int):Array Value:=(l.map (Value.int .u64)).toArray
theorem Ak(l:List Int):(Ai l).size=l.length:=by simp[Ai]
theorem At(l:List Int)(i:Nat)(h:i<l.length):(Ai l)[i]?=some (.int .u64 (l.getD i 0)):=by
 simp[Ai,List.getD,List.getElem?_eq_getElem h]
theorem YZ(l:List Int)(i:Nat)(x:Int):(Ai l).setIfInBounds i (.int .u64 x)=Ai (l.set i x):=by
 apply pY;simp[Ai,List.map_set]
theorem EP(h:w.heap[g]?=some (.cells (Ai l) t (0,0)))(k:Nat)(x:Int) :
  (w.setCell ⟨g,k,none⟩ (.int .u64 x)).heap[g]?=some (.cells (Ai (l.set k x)) t (0,0)):=by
 rw[heap_setCell_same _ _ _ _ _ _ h,YZ]
theorem BG(l:List Int):(Ai l).all (·.oneCell')=true:=by simp[Ai,Value.oneCell']
theorem Oh:∀ (S:List Int),S.length=5->∃ a b c d e,S=[a,b,c,d,e]
 | [a,b,c,d,e],_=>⟨a,b,c,d,e,rfl⟩
def val:List Int->Int
 | []=>0
 | x::l=>x+67108864*val l
def Lim(B:Int)(l:List Int):Prop:=l.length=5/\∀ j,0<=l.getD j 0/\l.getD j 0<B
theorem Lim.sL{B a b d e:Int}(f:0<=a/\a<B)(g:0<=b/\b<B)(h:0<=c/\c<B)(i:0<=d/\d<B)(k:0<=e/\e<B):Lim B [a,b,c,d,e]:=by
 refine⟨rfl,λj=>?_⟩
 match j with
 | 0=>exact f
 | 1=>exact g
 | 2=>exact h
 | 3=>exact i
 | 4=>exact k
 | j+5=>simp[List.getD];omega
theorem Lim.split{B:Int}(h:Lim B l):∃ a b c d e,l=[a,b,c,d,e]/\(0<=a/\a<B)/\(0<=b/\b<B)/\(0<=c/\c<B)/\(0<=d/\d<B)/\(0<=e/\e<B):=by
 obtain⟨a,b,c,d,e,rfl⟩:=Oh l h.1;exact⟨a,b,c,d,e,rfl,h.2 0,h.2 1,h.2 2,h.2 3,h.2 4⟩
theorem Lim.mono{B C:Int}(h:Lim B l)(a:B<=C):Lim C l:=⟨h.1,λj=>⟨(h.2 j).1,by have:=(h.2 j).2;omega⟩⟩
theorem D1(a b c d e:Int):val [a,b,c,d,e]=a+67108864*b+4503599627370496*c+302231454903657293676544*d+20282409603651670423947251286016*e:=by
 simp only[val];omega
structure Carr(l m:List Int)(k:Nat)(o:Int):Prop where
 len:m.length=5
 sum:val m+o*67108864^k=val l
 done:∀ j,j<k->0<=m.getD j 0/\m.getD j 0<67108864
 rest:∀ j,k<=j->m.getD j 0=l.getD j 0
 lo:0<=o
 hi:o<274877906944
theorem Carr.zero(h:l.length=5):Carr l l 0 0:=⟨h,by omega,λ_ h=>by omega,λ_ _=>rfl,by omega,by omega⟩
theorem Carr.succ(h:Carr l m k o)(z:Lim 9223372036854775808 l)(K:k<5) :
  Carr l (m.set k ((m.getD k 0+o)%67108864)) (k+1) ((m.getD k 0+o)/67108864):=by
 obtain⟨A,t,u,v,w,rfl,b0,B,C,D,E⟩:=z.split;obtain⟨d,e,g,q,x,rfl⟩:=Oh m h.len;have s:=h.sum;have b:=h.done;have a:=h.rest;have I:=h.lo;have J:=h.hi;rw[D1]at s
 rw[D1]at s
 obtain rfl|rfl|rfl|rfl|rfl:k=0\/k=1\/k=2\/k=3\/k=4:=by omega
 .have e0:d=A:=a 0 (by omega);have p:e=t:=a 1 (by omega);have F:g=u:=a 2 (by omega);have G:q=v:=a 3 (by omega);have H:x=w:=a 4 (by omega);simp only[mq,mE];refine⟨rfl,?_,λj c=>?_,λj c=>?_,by omega,by omega⟩
  .rw[D1,D1];omega
  .obtain rfl:j=0:=by omega
   simp only[mE];omega
  .obtain⟨j,rfl⟩:∃ i,j=i+1:=⟨j-1,by omega⟩;have:=a (j+1) (by omega);simpa using this
 .have p:e=t:=a 1 (by omega);have f:0<=d/\d<67108864:=b 0 (by omega);simp only[mq,mw,mE,mW];refine⟨rfl,?_,λj c=>?_,λj c=>?_,by omega,by omega⟩
  .rw[D1,D1];omega
  .obtain rfl|rfl:j=0\/j=1:=by omega
   .exact f
   .simp only[mE,mW];omega
  .obtain⟨j,rfl⟩:∃ i,j=i+2:=⟨j-2,by omega⟩;have:=a (j+2) (by omega);simpa using this
 .have p:g=u:=a 2 (by omega);have f:0<=d/\d<67108864:=b 0 (by omega);have n:0<=e/\e<67108864:=b 1 (by omega);simp only[mq,mw,mE,mW];refine⟨rfl,?_,λj c=>?_,λj c=>?_,by omega,by omega⟩
  .rw[D1,D1];omega
  .obtain rfl|rfl|rfl:j=0\/j=1\/j=2:=by omega
   .exact f
   .exact n
   .simp only[mE,mW];omega
  .obtain⟨j,rfl⟩:∃ i,j=i+3:=⟨j-3,by omega⟩;have:=a (j+3) (by omega);simpa using this
 .have p:q=v:=a 3 (by omega);have f:0<=d/\d<67108864:=b 0 (by omega);have n:0<=e/\e<67108864:=b 1 (by omega);have r:0<=g/\g<67108864:=b 2 (by omega);simp only[mq,mw,mE,mW];refine⟨rfl,?_,λj c=>?_,λj c=>?_,by omega,by omega⟩
  .rw[D1,D1];omega
  .obtain rfl|rfl|rfl|rfl:j=0\/j=1\/j=2\/j=3:=by omega
   .exact f
   .exact n
   .exact r
   .simp only[mE,mW];omega
  .obtain⟨j,rfl⟩:∃ i,j=i+4:=⟨j-4,by omega⟩;have:=a (j+4) (by omega);simpa using this
 .have p:x=w:=a 4 (by omega);have f:0<=d/\d<67108864:=b 0 (by omega);have n:0<=e/\e<67108864:=b 1 (by omega);have r:0<=g/\g<67108864:=b 2 (by omega);have y:0<=q/\q<67108864:=b 3 (by omega);simp only[mq,mw,mE,mW];refine⟨rfl,?_,λj c=>?_,λj c=>?_,by omega,by omega⟩
  .rw[D1,D1];omega
  .obtain rfl|rfl|rfl|rfl|rfl:j=0\/j=1\/j=2\/j=3\/j=4:=by omega
   .exact f
   .exact n
   .exact r
   .exact y
   .simp only[mE,mW];omega
  .obtain⟨j,rfl⟩:∃ i,j=i+5:=⟨j-5,by omega⟩;simp[List.getD]
theorem Carr.qk(h:Carr l m 5 o):Lim 67108864 m/\val m+1361129467683753853853498429727072845824*o=val l:=by
 refine⟨⟨h.len,λj=>?_⟩,?_⟩
 .by_cases hj:j<5
  .exact h.done j hj
  .rw[GY (by have:=h.len;omega)];omega
 .have:=h.sum;omega
def pp:Int:=1361129467683753853853498429727072845819
theorem PI(h:l.length=5)(t:Nat)(f:t<5)(y:Int):val (l.set t y)=val l+(y-l.getD t 0)*67108864^t:=by
 obtain⟨a,b,c,d,e,rfl⟩:=Oh l h;obtain rfl|rfl|rfl|rfl|rfl:t=0\/t=1\/t=2\/t=3\/t=4:=by omega
 all_goals
  simp only[mq,mw,mE,mW,D1];omega
def pv(n:List Int):Nat->Int
 | 0=>0
 | k+1=>pv n k+n.getD k 0*67108864^k
theorem UG{n:List Int}(h:n.length=5):pv n 5=val n:=by
 obtain⟨a,b,c,d,e,rfl⟩:=Oh n h;simp only[pv,mE,mW,D1];omega
structure Adds(l m r:List Int)(k:Nat):Prop where
 len:r.length=5
 done:∀ j,j<k->r.getD j 0=l.getD j 0+m.getD j 0
 rest:∀ j,k<=j->r.getD j 0=l.getD j 0
theorem Adds.zero(h:l.length=5):Adds l m l 0:=⟨h,λ_ h=>by omega,λ_ _=>rfl⟩
theorem AP(h:k<l.length)(x:Int):(l.set k x).getD k 0=x:=by
 simp[List.getD,h]
theorem AB(h:k≠j)(x:Int):(l.set k x).getD j 0=l.getD j 0:=by
 simp[List.getD,List.getElem?_set_ne h]
theorem Adds.succ(h:Adds l m r k)(b:k<5):Adds l m (r.set k (r.getD k 0+m.getD k 0)) (k+1):=by
 refine⟨by simpa using h.len,λj a=>?_,λj a=>?_⟩
 .by_cases e:k=j
  .subst e;rw[AP (by rw[h.len];omega),h.rest k (by omega)]
  .rw[AB e];exact h.done j (by omega)
 .rw[AB (by omega)];exact h.rest j (by omega)
theorem Adds.qk(h:Adds l m r 5)(a:Lim 67108864 l)(b:Lim 67108864 m):Lim 134217728 r/\val r=val l+val m:=by
 obtain⟨c,d,e,f,g,rfl,b0,v,w,x,y⟩:=a.split;obtain⟨i,j,k,n,o,rfl,z,A,B,C,D⟩:=b.split;obtain⟨p,q,s,t,u,rfl⟩:=Oh r h.len;have E:p=c+i:=h.done 0 (by omega);have F:q=d+j:=h.done 1 (by omega);have G:s=e+k:=h.done 2 (by omega);have H:t=f+n:=h.done 3 (by omega);have I:u=g+o:=h.done 4 (by omega);exact⟨Lim.sL (by omega) (by omega) (by omega) (by omega) (by omega),by rw[D1,D1,D1];omega⟩
structure Prods(n m r:List Int)(i j:Nat):Prop where
 len:r.length=5
 sum:val r%pp=(pv n i*val m+n.getD i 0*67108864^i*pv m j)%pp
 low:∀ t,0<=r.getD t 0
 high:∀ t,r.getD t 0<=(5*(i:Int)+(j:Int))*45035996273704960
theorem Prods.zero(n m:List Int):Prods n m [0,0,0,0,0] 0 0:=by
 refine⟨rfl,?_,λt=>?_,λt=>?_⟩
 .simp[pv,val]
 .match t with
  | 0|1|2|3|4=>simp
  | t+5=>simp[List.getD]
 .match t with
  | 0|1|2|3|4=>simp
  | t+5=>simp[List.getD]
theorem Ie(b:0<=x/\x<134217728)(a:0<=y/\y<67108864):0<=x*y/\x*y<=9007199254740992:=by
 refine⟨qx b.1 a.1,?_⟩;have c:=qy (pB b.2) (pB a.2) a.1 (by omega);omega
theorem Prods.rW{n:List Int}(h:Prods n m r i j)(c:Lim 134217728 n)(b:Lim 67108864 m)(a:i+j<5) :
  Prods n m (r.set (i+j) (r.getD (i+j) 0+n.getD i 0*m.getD j 0)) i (j+1):=by
 have g:=Ie (c.2 i) (b.2 j);have d:=h.low (i+j);have f:=h.high (i+j);refine⟨by simpa using h.len,?_,λt=>?_,λt=>?_⟩
 .rw[PI h.len _ a,pC,h.sum,<- pC]
  congr 1
  rw[oX];simp only[pv]
  grind
 .by_cases e:i+j=t
  .subst e;rw[AP (by rw[h.len];omega)];omega
  .rw[AB e];exact h.low t
 .by_cases e:i+j=t
  .subst e;rw[AP (by rw[h.len];omega)];omega
  .rw[AB e];have:=h.high t;omega
theorem Prods.rP{n:List Int}(h:Prods n m r i j)(d:Lim 134217728 n)(c:Lim 67108864 m)(b:5<=i+j)(l:i<5)(o:j<5) :
  Prods n m (r.set (i+j-5) (r.getD (i+j-5) 0+n.getD i 0*m.getD j 0*5)) i (j+1):=by
 have k:=Ie (d.2 i) (c.2 j);have f:=h.low (i+j-5);have g:=h.high (i+j-5);refine⟨by simpa using h.len,?_,λt=>?_,λt=>?_⟩
 .rw[PI h.len _ (by omega),pC,h.sum,<- pC];have e:(67108864:Int)^i*67108864^j=67108864^(i+j-5)*(pp+5):=by
   rw[<- oX,show pp+5=(67108864:Int)^5 by unfold pp;rfl,<- oX];congr 1;omega
  have a:pv n i*val m+n.getD i 0*67108864^i*pv m (j+1)=pv n i*val m+n.getD i 0*67108864^i*pv m j+(r.getD (i+j-5) 0+n.getD i 0*m.getD j 0*5-r.getD (i+j-5) 0)*67108864^(i+j-5)+pp*(n.getD i 0*m.getD j 0*67108864^(i+j-5)):=by
   simp only[pv]
   grind
  rw[a,pP]
 .by_cases e:i+j-5=t
  .subst e;rw[AP (by rw[h.len];omega)];omega
  .rw[AB e];exact h.low t
 .by_cases e:i+j-5=t
  .subst e;rw[AP (by rw[h.len];omega)];omega
  .rw[AB e];have:=h.high t;omega
theorem Prods.row{n:List Int}(h:Prods n m r i 5)(a:m.length=5):Prods n m r (i+1) 0:=by
 refine⟨h.len,?_,h.low,λt=>?_⟩
 .rw[h.sum,UG a]
  congr 1
  simp only[pv]
  grind
 .have:=h.high t;omega
theorem Prods.qk{n:List Int}(h:Prods n m r 5 0)(a:n.length=5):Lim 1152921504606846976 r/\val r%pp=(val n*val m)%pp:=by
 refine⟨⟨h.len,λt=>⟨h.low t,?_⟩⟩,?_⟩
 .have:=h.high t;omega
 .rw[h.sum,UG a];congr 1;simp only[pv];grind
theorem SO{n:List Int}(q:Lim 67108864 n)(p:Carr (n.set 0 (n.getD 0 0+5)) m 5 o):Lim 67108864 m/\(0<o->val m=val n%pp)/\(¬ 0<o->val n=val n%pp):=by
 obtain⟨k,l⟩:=p.qk;refine⟨k,?_⟩;have B:=p.lo;obtain⟨a,b,c,d,e,rfl,b0,s,t,u,v⟩:=q.split;obtain⟨f,g,h,i,j,rfl,w,x,y,z,A⟩:=k.split;simp only[mq,mE]at l;have r:val [a+5,b,c,d,e]=val [a,b,c,d,e]+5:=by rw[D1,D1];omega
 have C:0<=val [a,b,c,d,e]/\val [a,b,c,d,e]<1361129467683753853853498429727072845824:=by rw[D1];omega
 have D:0<=val [f,g,h,i,j]/\val [f,g,h,i,j]<1361129467683753853853498429727072845824:=by rw[D1];omega
 rw[r]at l
 generalize val [a,b,c,d,e]=V at *;generalize val [f,g,h,i,j]=M at *;unfold pp;constructor
 .intro ho;obtain rfl:o=1:=by omega
  omega
 .intro ho;obtain rfl:o=0:=by omega
  omega
def leP(l:List Int):Nat->Int
 | 0=>0
 | k+1=>leP l k+l.getD k 0*256^k
def leN(l:List Int):Int:=leP l l.length
theorem YJ(k:Nat)(h:l.length<=k):leP l k=leN l:=by
 obtain⟨d,rfl⟩:∃ d,k=l.length+d:=⟨k-l.length,by omega⟩;clear h;induction d with
 | zero=>rfl
 | succ d ih=>rw[<- nc,leP,ih,GY (by omega)];omega
theorem VR(k:Nat)(h:∀ j,j<k->l.getD j 0=m.getD j 0):leP l k=leP m k:=by
 induction k with
 | zero=>rfl
 | succ k ih=>rw[leP,leP,ih (λj a=>h j (by omega)),h k (by omega)]
theorem SM(k:Nat):leP (l++m) (l.length+k)=leN l+256^l.length*leP m k:=by
 induction k with
 | zero =>
  simp only[oA,leP,Int.mul_zero,Int.add_zero];unfold leN;exact VR _ (λj a=>by simp[List.getD,List.getElem?_append_left a])
 | succ k ih =>
  rw[<- nc,leP,ih,leP,Int.mul_add,oX];have:(l++m).getD (l.length+k) 0=m.getD k 0:=by simp[List.getD,List.getElem?_append_right]
  rw[this]
  grind
theorem SL(l m:List Int):leN (l++m)=leN l+256^l.length*leN m:=by
 have h:=SM (l:=l) (m:=m) m.length;rw[<- E']at h
 exact h
theorem VQ(n:Nat):leN (List.replicate n 0)=0:=by
 unfold leN;generalize (List.replicate n (0:Int)).length=k;induction k with
 | zero=>rfl
 | succ k ih =>
  rw[leP,ih];have:(List.replicate n (0:Int)).getD k 0=0:=by
   rcases mZ k n with h|h
   .simp[List.getD,h]
   .exact GY (by simpa using h)
  rw[this];omega
structure Reads(b r:List Int)(k:Nat):Prop where
 len:r.length=5
 sum:val r=leP b k
 low:∀ t,0<=r.getD t 0
 high:∀ t,r.getD t 0<=(k:Int)*17179869184
theorem Reads.zero(b:List Int):Reads b [0,0,0,0,0] 0:=by
 refine⟨rfl,rfl,λt=>?_,λt=>?_⟩
 .match t with
  | 0|1|2|3|4=>simp
  | t+5=>simp[List.getD]
 .match t with
  | 0|1|2|3|4=>simp
  | t+5=>simp[List.getD]
theorem Reads.succ{b:List Int}(h:Reads b r k)(c:0<=b.getD k 0/\b.getD k 0<256)(q:Nat)(m:Int)(f:q<5)(a:0<=m/\m<=33554432)(d:m*67108864^q=256^k):Reads b (r.set q (r.getD q 0+b.getD k 0*m)) (k+1):=by
 have g:0<=b.getD k 0*m:=qx c.1 a.1;have i:b.getD k 0*m<=256*33554432:=qy (by omega) a.2 a.1 (by omega);refine⟨by simpa using h.len,?_,λt=>?_,λt=>?_⟩
 .rw[PI h.len q f,h.sum,leP,<- d]
  grind
 .have:=h.low q;by_cases e:q=t
  .subst e;rw[AP (by rw[h.len];omega)];omega
  .rw[AB e];exact h.low t
 .have:=h.high q;by_cases e:q=t
  .subst e;rw[AP (by rw[h.len];omega)];omega
  .rw[AB e];have:=h.high t;omega
def piece(l:List Int)(k:Nat):List Int:=(l.drop (16*k)).take 16
def Ku(R:Int)(l:List Int):Nat->Int
 | 0=>0
 | k+1=>(Ku R l k+leN (piece l k++[1]))*R%pp
def Pq(l:List Int):Nat:=(l.length+15)/16
def fV(R:Int)(l:List Int):Int:=Ku R l (Pq l)
theorem Tx:0<pp:=by unfold pp;omega
theorem RE(R:Int)(l:List Int)(k:Nat):0<=Ku R l k/\Ku R l k<pp:=by
 cases k with
 | zero=>exact⟨by simp[Ku],Tx⟩
 | succ k=>exact⟨qo _ (by have:=Tx;omega),pS _ Tx⟩
theorem Xi{n s t:List Int}{R:Int}(b:val n%pp=Ku R l k%pp)(a:val m%pp=leN (piece l k++[1])%pp)(d:val s=val n+val m)(c:val r%pp=R%pp)(e:val t%pp=(val s*val r)%pp) :
  val t%pp=Ku R l (k+1)%pp:=by
 rw[e,Ku,Int.emod_emod_of_dvd _ (Int.dvd_refl _),Int.mul_emod,d,pC,b,a,c,<- pC,<- Int.mul_emod]
theorem Dv(l:List Int)(n i:Nat):(l.drop n).getD i 0=l.getD (n+i) 0:=by simp[List.getD]
theorem B9(l:List Int)(n i:Nat)(h:i<n):(l.take n).getD i 0=l.getD i 0:=by simp[List.getD,h]
theorem Sl.rh{a:Option Addr}(h:Sl w (.slice a n cap) l)(d c:Nat)(m:d<=c)(g:c<=l.length):Sl w (sliced a d c cap 1) ((l.take c).drop d):=by
 have B:=(h.take c g).len;have r:=h.byte;obtain⟨⟨y,o,e,A,u,q⟩,t,s⟩:=h;simp only[Value.slice.injEq]at e;obtain⟨rfl,rfl,rfl⟩:=e;have k:((l.take c).drop d).length=c-d:=by rw[mo,j'];omega
 have f:∀ x∈(l.take c).drop d,0<=x/\x<256:=λx v=>r x (mx (nU v));cases a with
 | none =>
  have p:=u rfl;subst p;have z:l.length=0:=by omega
  refine⟨⟨_,_,by rw[k];rfl,by omega,λ_=>by omega,.inl (Y' (by omega))⟩,by omega,f⟩
 | some ad =>
  refine⟨⟨_,_,by rw[k];rfl,by omega,(by intro h;split at h<;>simp at h),?_⟩,by omega,f⟩;rcases Nat.eq_or_lt_of_le m with he|hlt
  .exact .inl (Y' (by omega))
  .rcases q with rfl|⟨b,off,e2,hbs,hcell⟩
   .simp at g;omega
   .simp only[X']at e2;subst e2;refine .inr ⟨b,off+d,?_,hbs,λi j=>?_⟩
    .rw[if_neg (by omega)];simp[Addr.add]
    .rw[k]at j
     rw[nc,hcell (d+i) (by omega),Dv,B9 _ _ _ (by omega)]
theorem GC(w:World):(Go.sizeOf 5).run prog w=.ok 1 w:=by
 obtain⟨i,b,_,a,_⟩:=info_parts Av;simp[sizeOf,typeInfo,b,a]
theorem Sl.ov{a:Option Addr}(h:Sl w (.slice a n cap) l)(b:Nat)(c:b<=l.length) :
  ∃ a' c',(∀ W,(Instr.slice 27 (.slice a n cap) none (some (.int .i64 (b:Int))) none).run prog W=.ok (.slice a' b c') W)/\Sl w (.slice a' b c') (l.take b):=by
 have i:=h.rh 0 b (by omega) c;obtain⟨⟨a',d,e,k,m,j⟩,g,f⟩:=h;simp only[Value.slice.injEq]at e;obtain⟨rfl,rfl,rfl⟩:=e;refine⟨_,_,λW=>?_,by simpa[sliced]using i⟩;rw[run_slice_h (P:=prog) W 27 a _ cap underlying27 .i64 _ (by omega) (by omega)];have e:prog.elem 27=5:=by kernel_rfl
 rw[e,GC];simp[Result.andThen,sliced]
theorem Sl.from{a:Option Addr}(h:Sl w (.slice a n cap) l)(b:Nat)(c:b<=l.length) :
  ∃ a' c',(∀ W,(Instr.slice 27 (.slice a n cap) (some (.int .i64 (b:Int))) none none).run prog W=.ok (.slice a' (n-b) c') W)/\Sl w (.slice a' (n-b) c') (l.drop b):=by
 have i:=h.rh b l.length c (A' _);obtain⟨⟨a',d,e,k,m,j⟩,g,f⟩:=h;simp only[Value.slice.injEq]at e;obtain⟨rfl,rfl,rfl⟩:=e;refine⟨_,_,λW=>?_,by simpa[sliced]using i⟩;rw[run_slice_l (P:=prog) W 27 a _ cap underlying27 .i64 _ (by omega) (by omega)];have e:prog.elem 27=5:=by kernel_rfl
 rw[e,GC];simp[Result.andThen,sliced]
theorem jt(x:Int)(a:0<=x)(b:x<18446744073709551616):bits .and .u64 x 67108863=x%67108864:=by
 obtain⟨n,rfl⟩:=mS a;rw[show(67108863:Int)=((67108863:Nat):Int)from rfl,u64_and_nat _ _ (by omega) (by omega),show(67108863:Nat)=2^26-1 from rfl,pD];omega
theorem Dj(h:l.length=5):(prog.info? 221).map (·.size)=some (Ai l).size:=by rw[Ak,h];kernel_rfl
theorem Bl{a:World}(h:Below B a w){g:Nat}(c:B<=g)(b:Array Value):Below B a (w.setRow g b) :=
 h.trans ⟨rfl,rfl,rfl,by simp,λk d=>setRow_other w g k b (by omega)⟩
theorem G7{P:Program}{f:Func}{p u:Tmp}{c:TypeId}(h:f.results=#[.cell p c,.tmp u])(a:Array Value)(w:World)(g:Nat)(t:TypeId)(b:Array Value)(i:Nat × Nat)(d:TypeDesc)(m:a.getD p undef=.pointer (some ⟨g,0,none⟩))(k:w.heap[g]?=some (.cells b t i))(n:P.underlying c=some d)(j:(match d with|.struct _|.array _ _=>true|_=>false)=true)(l:(P.info? c).map (·.size)=some b.size){v:Value}(o:a.getD u undef=v) :
  (results f a).run P w=.ok (.tuple #[.agg b,v]) w:=by
 have e:a[p]?.getD undef=.pointer (some ⟨g,0,none⟩):=by simpa using m
 rw[results_cell_tmp h,o];simp[e,asAddr,run_loadVar_row w g t c b i d k n j l]
theorem Ar{l:List Oper}(h:wpList P ops Q l a w):wpList P ops Q l a w:=h
theorem QM(l:List Int)(w:World)(j:Lim 9223372036854775808 l) :
  Calls prog 194 #[.agg (Ai l)] w λe w'=>∃ m o,e=.returned (.tuple #[.agg (Ai m),.int .u64 o])/\Carr l m 5 o/\Bw w w':=by
 have s:=j.1;have z:=Dj s;go_enter func194,ntmps194
 go_wp2_with fail
 go_loopw [4,6] (λo i wr=>∃ (k:Nat) (m:List Int) (b:Int),k<=5/\i=.int .i64 k/\o=.int .u64 b/\Carr l m k b/\wr.heap[w.heap.size]?=some (.cells (Ai m) 221 (0,0))/\wr.heap[w.heap.size+1]?=some (.cells (Ai [0,0,0,0,0]) 221 (0,0))/\Bw w wr) (λ_ i _=>5-(intOf i).toNat)
 case atStart=>
  refine⟨0,l,0,by omega,rfl,rfl,Carr.zero s,?_,?_,?_⟩
  .exact heap_alloc2_old _ _ _
  .exact heap_alloc2_new _ _ _
  .exact((Below.refl _ _).alloc (A' _) _).alloc (by simp) _
 case round =>
  obtain⟨k,m,b,D,rfl,rfl,c,f,n,t⟩:=hrel;by_cases g:k<5
  .have h:(k:Int)<5:=by omega
   have y:=(cell_of_row wr _ k _ _ _ f).trans (At m k (by rw[c.len];omega));have B:=frozen_of_row wr _ k _ _ f;have u:=c.succ j g;have E:=c.lo;have F:=c.hi;have r:m.getD k 0=l.getD k 0:=c.rest k (by omega);have d:=j.2 k;rw[<- r]at d
   have q:Hid (Carr l (m.set k ((m.getD k 0+b)%67108864)) (k+1) ((m.getD k 0+b)/67108864)):=u;clear u c r;generalize m.getD k 0=x at y q d;obtain⟨d,A⟩:=d;have C:=jt (x+b) (by omega) (by omega);go_wp2
   go_roundw
   case rel =>
    refine⟨k+1,_,_,by omega,by go_num,rfl,q.out,?_,?_,?_⟩
    .have h1:=EP (EP f k (x+b)) k ((x+b)%67108864);rw[List.set_set]at h1
     exact h1
    .rw[heap_setCell_other _ _ _ _ (by simp),heap_setCell_other _ _ _ _ (by simp)];exact n
    .exact(t.setCell (p:=⟨w.heap.size,k,none⟩) (A' _) _).setCell (p:=⟨w.heap.size,k,none⟩) (A' _) _
   case measure=>simp[intOf];omega
  .have HK:Hid (k=5):=by unfold Hid;omega
   have h:¬ (k:Int)<5:=by omega
   have a:=Dj c.len;go_wp2_with ((with_reducible (refine Ar ?_));first
    | (refine wpList_load_row rfl 221 _ rfl w.heap.size rfl 221 _ (0,0) _ f underlying221 rfl a ?_)
    | (refine wpList_store_row rfl 221 _ _ rfl (w.heap.size+1) _ rfl rfl 221 _ n a (by rw[Ak,Ak,c.len];rfl) (BG m) ?_))
   refine bodyPost_ret (v:=.tuple #[.agg (Ai m),.int .u64 b]) (G7 rfl _ _ (w.heap.size+1) 221 _ (0,0) _ rfl (setRow_heap wr (w.heap.size+1) _ _ 221 _ n) underlying221 rfl a rfl) rfl ⟨m,b,rfl,by have:=HK.out;subst this;exact c,Bl t (by omega) _⟩
def RD:Nat->List Int->Prop
 | 0,m=>Lim 1152921504606846976 m
 | 1,m=>Lim 274877906944 m/\val m<1361129467683753853853498429727072845824+274877906944
 | 2,m=>Lim 274877906944 m/\val m<1361129467683753853853498429727072845824
 | _,m=>Lim 67108864 m
theorem RD.te:∀ {k:Nat} {m:List Int},RD k m->Lim 9223372036854775808 m
 | 0,_,h=>Lim.mono h (by omega)
 | 1,_,h=>Lim.mono h.1 (by omega)
 | 2,_,h=>Lim.mono h.1 (by omega)
 | _+3,_,h=>Lim.mono (B:=67108864) h (by omega)
theorem ij(a b o:Int)(h:a+1361129467683753853853498429727072845824*o=b):(a+5*o)%pp=b%pp:=by
 rw[<- h,show a+1361129467683753853853498429727072845824*o=a+5*o+pp*o by unfold pp;omega,pP]
theorem RD.succ(h:RD k l)(G:k<3)(b:Carr l m 5 o):RD (k+1) (m.set 0 (m.getD 0 0+o*5))/\val (m.set 0 (m.getD 0 0+o*5))%pp=val l%pp/\0<=m.getD 0 0/\m.getD 0 0<67108864/\0<=o/\o<274877906944:=by
 obtain⟨t,a⟩:=b.qk;obtain⟨d,f,g,i,j,rfl,b0,C,D,E,F⟩:=t.split;have A:=b.lo;have B:=b.hi;simp only[mq,mE];have c:=ij _ _ _ a;rw[D1]at a
 have e:val [d+o*5,f,g,i,j]=val [d,f,g,i,j]+5*o:=by rw[D1,D1];omega
 rw[<- e]at c
 refine⟨?_,c,b0.1,b0.2,A,B⟩;obtain rfl|rfl|rfl:k=0\/k=1\/k=2:=by omega
 .obtain⟨v,w,x,y,z,rfl,n,p,q,r,s⟩:=Lim.split h;rw[D1]at a
  refine⟨Lim.sL (by omega) (by omega) (by omega) (by omega) (by omega),?_⟩;rw[D1];omega
 .obtain⟨h3,h4⟩:=h;obtain⟨v,w,x,y,z,rfl,n,p,q,r,s⟩:=Lim.split h3;rw[D1]at a h4
  refine⟨Lim.sL (by omega) (by omega) (by omega) (by omega) (by omega),?_⟩;rw[D1];omega
 .obtain⟨h3,h4⟩:=h;have u:o=0:=by omega
  subst u;show Lim 67108864 _;exact Lim.sL (by omega) (by omega) (by omega) (by omega) (by omega)
theorem JR(l:List Int)(w:World)(I:Lim 1152921504606846976 l) :
  Calls prog 193 #[.agg (Ai l)] w λe w'=>∃ m,e=.returned (.agg (Ai m))/\Lim 67108864 m/\val m%pp=val l%pp/\Bw w w':=by
 have M:=I.1;have N:=Dj M;go_enter func193,ntmps193
 go_wp2_with fail
 go_loopw [4] (λi wr=>∃ (k:Nat) (m:List Int),k<=3/\i=.int .i64 k/\RD k m/\val m%pp=val l%pp/\wr.heap[w.heap.size]?=some (.cells (Ai m) 221 (0,0))/\wr.heap[w.heap.size+1]?=some (.cells (Ai [0,0,0,0,0]) 221 (0,0))/\w.heap.size+2<=wr.heap.size/\Bw w wr) (λi _=>3-(intOf i).toNat)
 case atStart=>
  refine⟨0,l,by omega,rfl,I,rfl,?_,?_,by simp,?_⟩
  .exact heap_alloc2_old _ _ _
  .exact heap_alloc2_new _ _ _
  .exact((Below.refl _ _).alloc (A' _) _).alloc (by simp) _
 case round =>
  obtain⟨k,m,T,rfl,n,K,B,C,U,E⟩:=hrel;have f:=n.te.1;have b:=Dj f;by_cases G:k<3
  .have hki:(k:Int)<3:=by omega
   go_wp2_with ((with_reducible (refine Ar ?_));refine wpList_load_row rfl 221 _ rfl w.heap.size rfl 221 _ (0,0) _ B underlying221 rfl b ?_)
   refine(QM m wr n.te).mono ?_;rintro e h ⟨a,o,rfl,d,c⟩;obtain⟨J,A,Q,R,V,W⟩:=n.succ G d;have q:=d.len;have y:=Dj q;have r:=(c.block w.heap.size (by omega)).trans B;have s:=(c.block (w.heap.size+1) (by omega)).trans C;have O:=c.size;have j:Bw w h:=E.trans (c.mono (by omega));have g:=setRow_heap h w.heap.size (Ai m) (Ai a) 221 (0,0) r;have H:(h.setRow w.heap.size (Ai a)).heap[w.heap.size+1]?=some (.cells (Ai [0,0,0,0,0]) 221 (0,0)):=(setRow_other _ _ _ _ (by omega)).trans s;have D:Bw w (h.setRow w.heap.size (Ai a)):=Bl j (A' _) _;have P:(h.setRow w.heap.size (Ai a)).heap.size=h.heap.size:=by simp
   have L:=(cell_of_row _ _ 0 _ _ _ g).trans (At a 0 (by omega));have S:=frozen_of_row _ _ 0 _ _ g;have t:Hid (RD (k+1) (a.set 0 (a.getD 0 0+o*5))):=J;have z:Hid (val (a.set 0 (a.getD 0 0+o*5))%pp=val m%pp):=A;have u:Hid (((h.setRow w.heap.size (Ai a)).setCell ⟨w.heap.size,0,none⟩ (.int .u64 (a.getD 0 0+o*5))).heap[w.heap.size]?=some (.cells (Ai (a.set 0 (a.getD 0 0+o*5))) 221 (0,0))):=EP g 0 _;clear E B C c s j n d J A;generalize a.getD 0 0=x at L t z u Q R;go_wp2_with ((with_reducible (refine Ar ?_));refine wpList_store_row rfl 221 _ _ rfl w.heap.size _ rfl rfl 221 _ r y (by rw[Ak,Ak,q,f]) (BG a) ?_)
   go_roundw
   case rel =>
    refine⟨k+1,_,by omega,by go_num,t.out,z.out.trans K,u.out,?_,?_,?_⟩
    .rw[heap_setCell_other _ _ _ _ (by simp)];exact H
    .simp;omega
    .exact D.setCell (p:=⟨w.heap.size,0,none⟩) (A' _) _
   case measure=>simp[intOf];omega
  .have hki:¬ (k:Int)<3:=by omega
   have F:Lim 67108864 m:=by
    obtain rfl:k=3:=by omega
    exact n
   go_wp2_with ((with_reducible (refine Ar ?_));first
    | (refine wpList_load_row rfl 221 _ rfl w.heap.size rfl 221 _ (0,0) _ B underlying221 rfl b ?_)
    | (refine wpList_store_row rfl 221 _ _ rfl (w.heap.size+1) _ rfl rfl 221 _ C b (by rw[Ak,Ak,f];rfl) (BG m) ?_))
   refine bodyPost_ret (v:=.agg (Ai m)) (results_cell_row rfl _ _ (w.heap.size+1) 221 _ (0,0) _ rfl (setRow_heap wr (w.heap.size+1) _ _ 221 _ C) underlying221 rfl b) rfl ⟨m,rfl,F,K,Bl E (by omega) _⟩
theorem MU(n:Int):IntKind.u64.wrap n=n%18446744073709551616:=by simp[IntKind.wrap,IntKind.bits,IntKind.signed]
theorem SA(S:List Int)(f:S.length=5)(j:Nat)(g:j<5):∀ w,(Instr.index 221 (.agg (Ai S)) (.int .i64 (j:Int))).run prog w=.ok (.int .u64 (S.getD j 0)) w:=by
 intro w;obtain⟨a,b,c,d,e,rfl⟩:=Oh S f;obtain rfl|rfl|rfl|rfl|rfl:j=0\/j=1\/j=2\/j=3\/j=4:=by omega
 all_goals kernel_rfl
theorem Gi(w:World)(a b c:Obj):(((w.alloc a).alloc b).alloc c).heap[w.heap.size]?=some a/\(((w.alloc a).alloc b).alloc c).heap[w.heap.size+1]?=some b/\(((w.alloc a).alloc b).alloc c).heap[w.heap.size+1+1]?=some c/\Bw w (((w.alloc a).alloc b).alloc c):=by
 refine⟨?_,?_,?_,(((Below.refl _ _).alloc (A' _) _).alloc (by simp) _).alloc (by simp;omega) _⟩
 .rw[heap_alloc_old _ _ (by simp;omega)];exact heap_alloc2_old w a b
 .rw[heap_alloc_old _ _ (by simp)];exact heap_alloc2_new w a b
 .have:=heap_alloc_new ((w.alloc a).alloc b) c;simpa using this
theorem KZ(w:World)(a b c d:Obj):((((w.alloc a).alloc b).alloc c).alloc d).heap[w.heap.size]?=some a/\((((w.alloc a).alloc b).alloc c).alloc d).heap[w.heap.size+1]?=some b/\((((w.alloc a).alloc b).alloc c).alloc d).heap[w.heap.size+1+1]?=some c/\((((w.alloc a).alloc b).alloc c).alloc d).heap[w.heap.size+1+1+1]?=some d/\Bw w ((((w.alloc a).alloc b).alloc c).alloc d):=by
 obtain⟨e,f,g,h⟩:=Gi w a b c;refine⟨?_,?_,?_,?_,h.alloc (by simp;omega) _⟩
 .rw[heap_alloc_old _ _ (by simp;omega)];exact e
 .rw[heap_alloc_old _ _ (by simp)];exact f
 .rw[heap_alloc_old _ _ (by simp)];exact g
 .have:=heap_alloc_new (((w.alloc a).alloc b).alloc c) d;simpa using this
theorem Zw(l m:List Int)(w:World)(n:Lim 67108864 l)(d:Lim 67108864 m) :
  Calls prog 171 #[.agg (Ai l),.agg (Ai m)] w λe w'=>∃ r,e=.returned (.agg (Ai r))/\Lim 134217728 r/\val r=val l+val m/\Bw w w':=by
 have C:=n.1;have g:=Dj d.1;go_enter func171,ntmps171
 go_wp2_with ((with_reducible (refine Ar ?_));(refine wpList_load_row rfl 221 _ rfl (w.heap.size+1) rfl 221 _ (0,0) _ (Gi w _ _ _).2.1 underlying221 rfl g ?_))
 go_loopw [8] (λi wr=>∃ (k:Nat) (r:List Int),k<=5/\i=.int .i64 k/\Adds l m r k/\wr.heap[w.heap.size]?=some (.cells (Ai r) 221 (0,0))/\wr.heap[w.heap.size+1+1]?=some (.cells (Ai [0,0,0,0,0]) 221 (0,0))/\Bw w wr) (λi _=>5-(intOf i).toNat)
 case atStart=>exact⟨0,l,by omega,rfl,Adds.zero C,(Gi w _ _ _).1,(Gi w _ _ _).2.2.1,(Gi w _ _ _).2.2.2⟩
 case round =>
  obtain⟨k,r,G,rfl,j,o,z,A⟩:=hrel;have f:=j.len;by_cases c:k<5
  .have u:(k:Int)<5:=by omega
   have t:=SA m d.1 k c;have B:=(cell_of_row wr _ k _ _ _ o).trans (At r k (by omega));have F:=frozen_of_row wr _ k _ _ o;have q:Hid (Adds l m (r.set k (r.getD k 0+m.getD k 0)) (k+1)):=j.succ c;have h:=n.2 k;rw[<- j.rest k (by omega)]at h
   have s:=d.2 k;generalize r.getD k 0=x at B q h;generalize m.getD k 0=y at t q s;obtain⟨h,D⟩:=h;obtain⟨s,E⟩:=s;go_wp2
   go_roundw
   case rel =>
    refine⟨k+1,_,by omega,by go_num,q.out,EP o k _,?_,?_⟩
    .rw[heap_setCell_other _ _ _ _ (by simp;omega)];exact z
    .exact A.setCell (p:=⟨w.heap.size,k,none⟩) (A' _) _
   case measure=>simp[intOf];omega
  .have HK:Hid (k=5):=by unfold Hid;omega
   have u:¬ (k:Int)<5:=by omega
   have a:=Dj f;go_wp2_with ((with_reducible (refine Ar ?_));first
    | (refine wpList_load_row rfl 221 _ rfl (w.heap.size) rfl 221 _ (0,0) _ o underlying221 rfl a ?_)
    | (refine wpList_store_row rfl 221 _ _ rfl (w.heap.size+1+1) _ rfl rfl 221 _ z a (by rw[Ak,Ak,f];rfl) (BG r) ?_))
   have b:Adds l m r 5:=by have:=HK.out;subst this;exact j
   refine bodyPost_ret (v:=.agg (Ai r)) (results_cell_row rfl _ _ (w.heap.size+1+1) 221 _ (0,0) _ rfl (setRow_heap wr (w.heap.size+1+1) _ _ 221 _ z) underlying221 rfl a) rfl ⟨r,rfl,(b.qk n d).1,(b.qk n d).2,Bl A (by omega) _⟩
theorem WY(n m:List Int)(w:World)(u:Lim 134217728 n)(s:Lim 67108864 m) :
  Calls prog 173 #[.agg (Ai n),.agg (Ai m)] w λe w'=>∃ r,e=.returned (.agg (Ai r))/\Lim 67108864 r/\val r%pp=(val n*val m)%pp/\Bw w w':=by
 have G:=Dj u.1;have F:=Dj s.1;go_enter func173,ntmps173
 go_wp2_with ((with_reducible (refine Ar ?_));(refine wpList_load_row rfl 221 _ rfl (w.heap.size) rfl 221 _ (0,0) _ (KZ w _ _ _ _).1 underlying221 rfl G ?_))
 go_loopw [11] (λi wr=>∃ (k:Nat) (r:List Int),k<=5/\i=.int .i64 k/\Prods n m r k 0/\wr.heap[w.heap.size+1]?=some (.cells (Ai m) 221 (0,0))/\wr.heap[w.heap.size+1+1]?=some (.cells (Ai [0,0,0,0,0]) 221 (0,0))/\wr.heap[w.heap.size+1+1+1]?=some (.cells (Ai r) 221 (0,0))/\Bw w wr) (λi _=>5-(intOf i).toNat)
 case atStart=>exact⟨0,_,by omega,rfl,Prods.zero n m,(KZ w _ _ _ _).2.1,(KZ w _ _ _ _).2.2.1,(KZ w _ _ _ _).2.2.2.1,(KZ w _ _ _ _).2.2.2.2⟩
 case round =>
  obtain⟨k,r,hk,rfl,b,a,o,d,h⟩:=hrel;have q:=b.len;by_cases D:k<5
  .have O:(k:Int)<5:=by omega
   have c:=SA n u.1 k D;obtain⟨x,Q⟩:∃ x,n.getD k 0=x:=⟨_,rfl⟩;rw[Q]at c
   have J:Hid (n.getD k 0=x):=Q;clear Q;go_wp2_with ((with_reducible (refine Ar ?_));(refine wpList_load_row rfl 221 _ rfl (w.heap.size+1) rfl 221 _ (0,0) _ a underlying221 rfl F ?_))
   go_loopw [16] (λi wr=>∃ (j:Nat) (r:List Int),j<=5/\i=.int .i64 j/\Prods n m r k j/\wr.heap[w.heap.size+1]?=some (.cells (Ai m) 221 (0,0))/\wr.heap[w.heap.size+1+1]?=some (.cells (Ai [0,0,0,0,0]) 221 (0,0))/\wr.heap[w.heap.size+1+1+1]?=some (.cells (Ai r) 221 (0,0))/\Bw w wr) (λi _=>5-(intOf i).toNat)
   case atStart=>exact⟨0,r,by omega,rfl,b,a,o,d,h⟩
   case round =>
    clear c;clear b a o d h q;obtain⟨j,r,hj,rfl,b,a,o,d,h⟩:=hrel;have q:=b.len;by_cases C:j<5
    .have N:(j:Int)<5:=by omega
     have c:=SA m s.1 j C;have f:=Ie (u.2 k) (s.2 j);rw[J.out]at f
     by_cases hs:k+j<5
     .have hsi:(k:Int)+(j:Int)<5:=by omega
      have I:=(cell_of_row _ _ (k+j) _ _ _ d).trans (At r (k+j) (by omega));have W:=frozen_of_row _ _ (k+j) _ _ d;have g:Hid (Prods n m (r.set (k+j) (r.getD (k+j) 0+x*m.getD j 0)) k (j+1)):=by rw[<- J.out];exact b.rW u s hs
      have K:=b.low (k+j);have L:r.getD (k+j) 0<=1152921504606846976:=by have:=b.high (k+j);omega
      generalize r.getD (k+j) 0=z at I g K L;generalize m.getD j 0=y at c g f;obtain⟨U,V⟩:=f;have Y:IntKind.u64.wrap (x*y)=x*y:=by rw[MU];omega
      have Z:IntKind.u64.wrap (z+x*y)=z+x*y:=by rw[MU];omega
      clear b;go_wp2
      go_roundw
      case rel =>
       refine⟨j+1,_,by omega,by go_num,g.out,?_,?_,EP d (k+j) _,?_⟩
       .rw[heap_setCell_other _ _ _ _ (by simp)];exact a
       .rw[heap_setCell_other _ _ _ _ (by simp)];exact o
       .exact h.setCell (p:=⟨w.heap.size+1+1+1,k+j,none⟩) (by simp;omega) _
      case measure=>simp[intOf];omega
     .have hsi:¬ (k:Int)+(j:Int)<5:=by omega
      have I:=(cell_of_row _ _ (k+j-5) _ _ _ d).trans (At r (k+j-5) (by omega));have W:=frozen_of_row _ _ (k+j-5) _ _ d;have g:Hid (Prods n m (r.set (k+j-5) (r.getD (k+j-5) 0+x*m.getD j 0*5)) k (j+1)):=by rw[<- J.out];exact b.rP u s (by omega) D C
      have K:=b.low (k+j-5);have L:r.getD (k+j-5) 0<=1152921504606846976:=by have:=b.high (k+j-5);omega
      generalize r.getD (k+j-5) 0=z at I g K L;generalize m.getD j 0=y at c g f;obtain⟨U,V⟩:=f;have Y:IntKind.u64.wrap (x*y)=x*y:=by rw[MU];omega
      have e3:IntKind.u64.wrap (x*y*5)=x*y*5:=by rw[MU];omega
      have Z:IntKind.u64.wrap (z+x*y*5)=z+x*y*5:=by rw[MU];omega
      clear b;obtain⟨t,ht⟩:∃ t:Nat,k+j=t+5:=⟨k+j-5,by omega⟩;have e4:(k:Int)+(j:Int)-5=(t:Int):=by omega
      have P:k+j-5=t:=by omega
      rw[P]at I W g
      go_wp2
      go_roundw
      case rel =>
       refine⟨j+1,_,by omega,by go_num,g.out,?_,?_,EP d t _,?_⟩
       .rw[heap_setCell_other _ _ _ _ (by simp)];exact a
       .rw[heap_setCell_other _ _ _ _ (by simp)];exact o
       .exact h.setCell (p:=⟨w.heap.size+1+1+1,t,none⟩) (by simp;omega) _
      case measure=>simp[intOf];omega
    .have HJ:Hid (j=5):=by unfold Hid;omega
     have N:¬ (j:Int)<5:=by omega
     go_wp2
     go_roundw
     case rel=>exact⟨k+1,r,by omega,by go_num,by have:=HJ.out;subst this;exact b.row s.1,a,o,d,h⟩
     case measure=>simp[intOf];omega
  .have HK:Hid (k=5):=by unfold Hid;omega
   have O:¬ (k:Int)<5:=by omega
   have E:=Dj q;have B:Prods n m r 5 0:=by have:=HK.out;subst this;exact b
   obtain⟨l5,v5⟩:=B.qk u.1;have R:w.heap.size+1+1<wr.heap.size:=(U'.1 o).1;clear b B a;go_wp2_with ((with_reducible (refine Ar ?_));(refine wpList_load_row rfl 221 _ rfl (w.heap.size+1+1+1) rfl 221 _ (0,0) _ d underlying221 rfl E ?_))
   refine(JR r wr l5).mono ?_;rintro e X ⟨T,rfl,S,v1,A⟩;have H:=(A.block (w.heap.size+1+1) R).trans o;have M:Bw w X:=h.trans (A.mono h.size);have l:=Dj S.1;go_wp2_with ((with_reducible (refine Ar ?_));(refine wpList_store_row rfl 221 _ _ rfl (w.heap.size+1+1) _ rfl rfl 221 _ H l (by rw[Ak,Ak,S.1];rfl) (BG T) ?_))
   refine bodyPost_ret (v:=.agg (Ai T)) (results_cell_row rfl _ _ (w.heap.size+1+1) 221 _ (0,0) _ rfl (setRow_heap X (w.heap.size+1+1) _ _ 221 _ H) underlying221 rfl l) rfl ⟨T,rfl,S,v1.trans v5,Bl M (by omega) _⟩
theorem Q8(w:World)(n:List Int)(_hn:n.length=5){A W:World}(e:A=((w.alloc (.cells (Ai n) 221 (0,0))).alloc (.cells (Ai [0,0,0,0,0]) 221 (0,0))).alloc (.cells (Ai [0,0,0,0,0]) 221 (0,0)))(f:A.setRow (w.heap.size+1+1) (Ai n)=W) :
  W.heap[w.heap.size]?=some (.cells (Ai n) 221 (0,0))/\W.heap[w.heap.size+1]?=some (.cells (Ai [0,0,0,0,0]) 221 (0,0))/\W.heap[w.heap.size+1+1]?=some (.cells (Ai n) 221 (0,0))/\Bw w W:=by
 obtain⟨a,b,c,d⟩:=Gi w (.cells (Ai n) 221 (0,0)) (.cells (Ai [0,0,0,0,0]) 221 (0,0)) (.cells (Ai [0,0,0,0,0]) 221 (0,0));rw[<- e]at a b c d
 subst f;refine⟨?_,?_,setRow_heap _ _ _ _ 221 _ c,Bl d (by omega) _⟩
 .rw[setRow_other _ _ _ _ (by omega)];exact a
 .rw[setRow_other _ _ _ _ (by omega)];exact b
theorem VS(n:List Int)(w:World)(u:Lim 67108864 n) :
  Calls prog 174 #[.agg (Ai n)] w λe w'=>∃ r,e=.returned (.agg (Ai r))/\Lim 67108864 r/\val r=val n%pp/\Bw w w':=by
 have t:=u.1;have c:=Dj t;have T:=u.2 0;have a:(n.set 0 (n.getD 0 0+5)).length=5:=by simpa using t
 have q:Lim 9223372036854775808 (n.set 0 (n.getD 0 0+5)):=by
  refine⟨a,λj=>?_⟩;by_cases e:0=j
  .subst e;rw[AP (by omega)];omega
  .rw[AB e];have:=u.2 j;omega
 have s:=Dj a;have B:Hid (∀ m o,Carr (n.set 0 (n.getD 0 0+5)) m 5 o->Lim 67108864 m/\(0<o->val m=val n%pp)/\(¬ 0<o->val n=val n%pp)):=λm o h=>SO u h;have g:Hid (∀ W:World,W.heap[w.heap.size+1+1]?=some (.cells (Ai n) 221 (0,0))->(W.setCell ⟨w.heap.size+1+1,0,none⟩ (.int .u64 (n.getD 0 0+5))).heap[w.heap.size+1+1]?=some (.cells (Ai (n.set 0 (n.getD 0 0+5))) 221 (0,0))):=λW h=>EP h 0 _;have E:Hid (∀ W:World,W.heap[w.heap.size+1+1]?=some (.cells (Ai n) 221 (0,0))->W.cell? ⟨w.heap.size+1+1,0,none⟩=some (.int .u64 (n.getD 0 0))):=λW h=>(cell_of_row W _ 0 _ _ _ h).trans (At n 0 (by omega));generalize n.set 0 (n.getD 0 0+5)=m0 at q B s g a;generalize n.getD 0 0=x at T g E;obtain⟨x1,x2⟩:=T;obtain⟨A,I⟩:∃ A,A=((w.alloc (.cells (Ai n) 221 (0,0))).alloc (.cells (Ai [0,0,0,0,0]) 221 (0,0))).alloc (.cells (Ai [0,0,0,0,0]) 221 (0,0)):=⟨_,rfl⟩;obtain⟨l,i⟩:∃ W,A.setRow (w.heap.size+1+1) (Ai n)=W:=⟨_,rfl⟩;obtain⟨N,O,s3,P⟩:=Q8 w n t I i;rw[I]at i
 clear I;have L:=E.out l s3;have M:=frozen_of_row l _ 0 _ _ s3;have C:=g.out l s3;have Q:(l.setCell ⟨w.heap.size+1+1,0,none⟩ (.int .u64 (x+5))).heap[w.heap.size]?=some (.cells (Ai n) 221 (0,0)):=by rw[heap_setCell_other _ _ _ _ (by simp;omega)];exact N
 have R:(l.setCell ⟨w.heap.size+1+1,0,none⟩ (.int .u64 (x+5))).heap[w.heap.size+1]?=some (.cells (Ai [0,0,0,0,0]) 221 (0,0)):=by rw[heap_setCell_other _ _ _ _ (by simp)];exact O
 have J:Bw w (l.setCell ⟨w.heap.size+1+1,0,none⟩ (.int .u64 (x+5))):=P.setCell (p:=⟨w.heap.size+1+1,0,none⟩) (by simp;omega) _;have V:w.heap.size+1+1<(l.setCell ⟨w.heap.size+1+1,0,none⟩ (.int .u64 (x+5))).heap.size:=(U'.1 C).1;have F:Hid _:=i;clear i N O s3 P g E;go_enter func174,ntmps174
 go_wp2_with ((with_reducible (refine Ar ?_));first
  | (refine wpList_load_row rfl 221 _ rfl (w.heap.size) rfl 221 _ (0,0) _ (heap_alloc2_old _ _ _) underlying221 rfl c ?_)
  | (refine wpList_store_row rfl 221 _ _ rfl (w.heap.size+1+1) _ rfl rfl 221 (Ai [0,0,0,0,0]) (Gi w _ _ _).2.2.1 c (by rw[Ak,Ak,t];rfl) (BG n) ?_;refine(congrArg (wpList _ _ _ _ _) F.out).mpr ?_)
  | (refine wpList_load_row rfl 221 _ rfl (w.heap.size+1+1) rfl 221 _ (0,0) _ C underlying221 rfl s ?_))
 refine(QM m0 _ q).mono ?_;rintro e z ⟨f,o,rfl,k,d⟩;obtain⟨y,G,H⟩:=B.out f o k;have o1:=k.lo;generalize l.setCell _ _=W2 at d Q R C J V;have X:=(d.block w.heap.size (by omega)).trans Q;have Y:=(d.block (w.heap.size+1) (by omega)).trans R;have K:=(d.block (w.heap.size+1+1) (by omega)).trans C;have Z:Bw w z:=J.trans (d.mono J.size);have v1:(z.setRow (w.heap.size+1+1) (Ai f)).heap[w.heap.size]?=some (.cells (Ai n) 221 (0,0)):=(setRow_other _ _ _ _ (by omega)).trans X;have D:(z.setRow (w.heap.size+1+1) (Ai f)).heap[w.heap.size+1]?=some (.cells (Ai [0,0,0,0,0]) 221 (0,0)):=(setRow_other _ _ _ _ (by omega)).trans Y;have v3:=setRow_heap z (w.heap.size+1+1) _ (Ai f) 221 _ K;have S:Bw w (z.setRow (w.heap.size+1+1) (Ai f)):=Bl Z (by omega) _;have b:=Dj y.1;by_cases U:0<o
 .have g1':=G U;clear G H k B L M F;go_wp2_with ((with_reducible (refine Ar ?_));first
   | (refine wpList_store_row rfl 221 _ _ rfl (w.heap.size+1+1) _ rfl rfl 221 _ K b (by rw[Ak,Ak,y.1,a]) (BG f) ?_)
   | (refine wpList_load_row rfl 221 _ rfl (w.heap.size+1+1) rfl 221 _ (0,0) _ v3 underlying221 rfl b ?_)
   | (refine wpList_store_row rfl 221 _ _ rfl (w.heap.size+1) _ rfl rfl 221 _ D b (by rw[Ak,Ak,y.1];rfl) (BG f) ?_))
  exact bodyPost_ret (v:=.agg (Ai f)) (results_cell_row rfl _ _ (w.heap.size+1) 221 _ (0,0) _ rfl (setRow_heap _ (w.heap.size+1) _ _ 221 _ D) underlying221 rfl b) rfl ⟨f,rfl,y,g1',Bl S (by omega) _⟩
 .have g2':=H (by omega);clear G H k B L M F;go_wp2_with ((with_reducible (refine Ar ?_));first
   | (refine wpList_store_row rfl 221 _ _ rfl (w.heap.size+1+1) _ rfl rfl 221 _ K b (by rw[Ak,Ak,y.1,a]) (BG f) ?_)
   | (refine wpList_load_row rfl 221 _ rfl (w.heap.size) rfl 221 _ (0,0) _ v1 underlying221 rfl c ?_)
   | (refine wpList_store_row rfl 221 _ _ rfl (w.heap.size+1) _ rfl rfl 221 _ D c (by rw[Ak,Ak,t];rfl) (BG n) ?_))
  exact bodyPost_ret (v:=.agg (Ai n)) (results_cell_row rfl _ _ (w.heap.size+1) 221 _ (0,0) _ rfl (setRow_heap _ (w.heap.size+1) _ _ 221 _ D) underlying221 rfl c) rfl ⟨n,rfl,u,g2',Bl S (by omega) _⟩
theorem Wo(k q a:Nat)(h:a+26*q=8*k)(c:a<26):(0:Int)<=2^a/\(2:Int)^a<=33554432/\(2:Int)^a*67108864^q=256^k:=by
 refine⟨pB (Int.pow_pos (by omega)),?_,?_⟩
 .have h1:(2:Nat)^a<=2^25:=Nat.pow_le_pow_right (by omega) (by omega);have b:(((2:Nat)^a:Nat):Int)<=((2^25:Nat):Int):=Int.ofNat_le.2 h1;rw[oK]at b
  exact b
 .rw[show(67108864:Int)=2^26 from rfl,show(256:Int)=2^8 from rfl,<- Int.pow_mul,<- Int.pow_mul,<- oX,h]
theorem Re(v:Value)(b:List Int)(w:World)(h:Sl w v b)(hl:b.length<=17) :
  Calls prog 175 #[v] w λe w'=>∃ r,e=.returned (.agg (Ai r))/\Lim 67108864 r/\val r%pp=leN b%pp/\Bw w w':=by
 obtain⟨⟨a,a0,rfl,hc,hn,L⟩,W,C⟩:=h;have f:∃ B c,(b≠[]->a=some ⟨B,c,none⟩)/\(b≠[]->B<w.heap.size)/\∀ i,i<b.length->w.cell? ⟨B,c+i,none⟩=some (.int .u8 (b.getD i 0)):=by
  rcases L with rfl|⟨B,c,rfl,s,f⟩
  .exact⟨0,0,λh=>absurd rfl h,λh=>absurd rfl h,λi hi=>by simp at hi⟩
  .exact⟨B,c,λ_=>rfl,λ_=>s,f⟩
 clear L;obtain⟨B,c,ha,hB,u⟩:=f;have HC:Hid (∀ i,i<b.length->w.cell? ⟨B,c+i,none⟩=some (.int .u8 (b.getD i 0))):=u;have HA:Hid (b≠[]->a=some ⟨B,c,none⟩):=ha;have HB:Hid (b≠[]->B<w.heap.size):=hB;have N:Hid (∀ x∈b,0<=x/\x<256):=C;obtain⟨n,K⟩:∃ n,Hid (b.length=n):=⟨_,rfl⟩;rw[K.out]at hl hc W ⊢
 clear u ha hB C hn;go_enter func175,ntmps175
 go_wp2_with fail
 go_loopw [8] (λi wr=>∃ (k:Nat) (r:List Int),k<=n/\i=.int .i64 k/\Reads b r k/\wr.heap[w.heap.size]?=some (.cells (Ai [0,0,0,0,0]) 221 (0,0))/\wr.heap[w.heap.size+1]?=some (.cells (Ai r) 221 (0,0))/\Bw w wr) (λi _=>n-(intOf i).toNat)
 case atStart=>exact⟨0,_,by omega,rfl,Reads.zero b,heap_alloc2_old _ _ _,heap_alloc2_new _ _ _,((Below.refl _ _).alloc (A' _) _).alloc (by simp) _⟩
 case round =>
  obtain⟨k,r,hk,rfl,g,X,M,s⟩:=hrel;have G:=g.len;by_cases V:k<n
  .have U:(k:Int)<(n:Int):=by omega
   have E:b≠[]:=by intro e;have:=K.out;rw[e]at this;simp at this;omega
   have hA:=HA.out E;subst hA;have T:=HB.out E;have ck:=(s.cell (p:=⟨B,c+k,none⟩) T).trans (HC.out k (by rw[K.out];exact V));have l:=Al N.out k;have O:Hid (∀ (q:Nat) (m:Int),q<5->0<=m/\m<=33554432->m*67108864^q=256^k->Reads b (r.set q (r.getD q 0+b.getD k 0*m)) (k+1)):=λq m L Q R=>g.succ l q m L Q R;have HR:Hid (∀ t,0<=r.getD t 0/\r.getD t 0<=300000000000):=λt=>⟨g.low t,by have:=g.high t;omega⟩;have J:Hid (∀ t,t<5->wr.cell? ⟨w.heap.size+1,t,none⟩=some (.int .u64 (r.getD t 0))):=λt ht=>(cell_of_row _ _ t _ _ _ M).trans (At r t (by omega));have HF:Hid (∀ t,wr.frozen? ⟨w.heap.size+1,t,none⟩=false):=λt=>frozen_of_row _ _ t _ _ M;have P:Hid (∀ t x,(wr.setCell ⟨w.heap.size+1,t,none⟩ (.int .u64 x)).heap[w.heap.size+1]?=some (.cells (Ai (r.set t x)) 221 (0,0))):=λt x=>EP M t x;generalize b.getD k 0=x at ck O l;obtain⟨x1,x2⟩:=l;clear g;obtain⟨q,hq⟩:∃ q,8*k/26=q:=⟨_,rfl⟩;have F:q<5:=by omega
   have cq:=J.out q F;have fq:=HF.out q;have rq:=HR.out q;have z:Hid (∀ (m:Int),0<=m/\m<=33554432->m*67108864^q=256^k->Reads b (r.set q (r.getD q 0+x*m)) (k+1)):=λm Q R=>O.out q m F Q R;generalize r.getD q 0=y at cq rq z;obtain⟨y1,y2⟩:=rq;obtain⟨d,a1⟩:∃ d,8*k%26=d:=⟨_,rfl⟩;have o:d<26:=by omega
   have i1:(8*(k:Int))/26=(q:Int):=by omega
   have i2:(8*(k:Int))%26=(d:Int):=by omega
   have i3:Int.tdiv (8*(k:Int)) 26=(q:Int):=by rw[pQ (by omega)];exact i1
   have i4:Int.tmod (8*(k:Int)) 26=(d:Int):=by rw[Int.tmod_eq_emod_of_nonneg (by omega)];exact i2
   have HP:Hid ((0:Int)<=2^d/\(2:Int)^d<=33554432/\(2:Int)^d*67108864^q=256^k):=Wo k q d (by omega) o;clear hq J HF HR O;go_wp2_with fail
   refine Au 13 (by kernel_rfl) (by kernel_rfl) ?_;simp only[np,nB,nE,n7]
   repeat (go_big_quiet_step (fail))
   refine wpQuiet_nil ?_;go_wp2
   obtain⟨p1,p2,p3⟩:=HP.out;have q1:0<=x*2^d:=qx x1 p1;have q2:x*2^d<=256*33554432:=qy (by omega) p2 p1 (by omega);rw[show IntKind.u64.wrap (x*2^d)=x*2^d by rw[MU];omega,show IntKind.u64.wrap (y+x*2^d)=y+x*2^d by rw[MU];omega];go_roundw
   case rel =>
    refine⟨k+1,_,by omega,by go_num,z.out (2^d) ⟨p1,p2⟩ p3,?_,P.out q _,?_⟩
    .exact(heap_setCell_other _ _ _ _ (by simp)).trans X
    .exact(s.setCell (p:=⟨w.heap.size+1,q,none⟩) (by simp) _).drew
   case measure=>simp[intOf];omega
  .have J:Hid (k=n):=by unfold Hid;omega
   have U:¬ (k:Int)<(n:Int):=by omega
   have H:=Dj G;have D:Lim 1152921504606846976 r:=⟨G,λt=>⟨g.low t,by have:=g.high t;omega⟩⟩;have HV:Hid (val r=leN b):=by
    unfold Hid;rw[g.sum,J.out,<- K.out];rfl
   have Y:w.heap.size<wr.heap.size:=(U'.1 X).1;clear g;go_wp2_with ((with_reducible (refine Ar ?_));(refine wpList_load_row rfl 221 _ rfl (w.heap.size+1) rfl 221 _ (0,0) _ M underlying221 rfl H ?_))
   refine(JR r wr D).mono ?_;rintro e w1 ⟨r1,rfl,Z,v1,A⟩;have I:=(A.block w.heap.size Y).trans X;have S:Bw w w1:=s.trans (A.mono s.size);have j:=Dj Z.1;go_wp2_with ((with_reducible (refine Ar ?_));(refine wpList_store_row rfl 221 _ _ rfl (w.heap.size) _ rfl rfl 221 _ I j (by rw[Ak,Ak,Z.1];rfl) (BG r1) ?_))
   exact bodyPost_ret (v:=.agg (Ai r1)) (results_cell_row rfl _ _ (w.heap.size) 221 _ (0,0) _ rfl (setRow_heap w1 (w.heap.size) _ _ 221 _ I) underlying221 rfl j) rfl ⟨r1,rfl,Z,by rw[v1,HV.out],Bl S (A' _) _⟩
def byA(l:List Int):Array Value:=(l.map (Value.int .u8)).toArray
theorem bQ(l:List Int)(i:Nat)(x:Int):(byA l).setIfInBounds i (.int .u8 x)=byA (l.set i x):=by
 apply pY;simp[byA,List.map_set]
theorem GR(h:w.heap[g]?=some (.cells (byA l) t (0,0)))(k:Nat)(x:Int) :
  (w.setCell ⟨g,k,none⟩ (.int .u8 x)).heap[g]?=some (.cells (byA (l.set k x)) t (0,0)):=by
 rw[heap_setCell_same _ _ _ _ _ _ h,bQ]
theorem Iu(l:List Int)(i:Nat)(h:i<l.length):(byA l)[i]?=some (.int .u8 (l.getD i 0)):=by
 simp[byA,List.getD,List.getElem?_eq_getElem h]
theorem Y3:(prog.info? 5).map (·.size)=some 1:=by kernel_rfl
theorem IT(l:List Int)(n:Nat):splice ((List.replicate n (0:Int)).map (Value.int .u8)) 0 (l.map (Value.int .u8))=(l++List.replicate (n-l.length) 0).map (Value.int .u8):=by
 have e:(List.replicate n (0:Int)).map (Value.int .u8)=List.replicate n (Value.int .u8 0):=pc;rw[e];simp only[splice,nB,nC,mF,mU,List.drop_replicate,mK,pc]
theorem Sl.src{i:Option Addr}{c:Nat}(h:Sl w (.slice i n c) l)(q:0<l.length):∃ ad,i=some ad/\∀ (j:Nat) (v:Value),(l.map (Value.int .u8))[j]?=some v->w.cell? (ad.add j)=some v:=by
 obtain⟨⟨a,k,e,r,s,m⟩,p,o⟩:=h;simp only[Value.slice.injEq]at e;obtain⟨rfl,rfl,rfl⟩:=e;rcases m with rfl|⟨b,off,rfl,_,hcell⟩
 .simp at q
 .refine⟨_,rfl,λj v g=>?_⟩;have d:j<l.length:=by
   have:=(V'.1 g).1;simpa using this
  have f:(⟨b,off,none⟩:Addr).add j=⟨b,off+j,none⟩:=by unfold Addr.add;split<;>simp_all
  rw[f,hcell j d];simp[List.getElem?_eq_getElem d]at g
  rw[AO d,g]
theorem Sl.sN(h:w.heap[g]?=some (.cells (byA l) t fr))(c:l.length<=140737488351232)(a:∀ x∈l,0<=x/\x<256):Sl w (.slice (some ⟨g,0,none⟩) l.length l.length) l:=by
 refine⟨⟨_,l.length,rfl,by simp,by simp,.inr ⟨g,0,rfl,(U'.1 h).1,λi b=>?_⟩⟩,c,a⟩;rw[cell_of_row _ _ (0+i) _ _ _ h,mU,Iu l i b]
theorem Sl.rowOf(h:w.heap[g]?=some (.cells (byA l) t fr))(c:l.length=n)(b:l.length<=140737488351232)(a:∀ x∈l,0<=x/\x<256):Sl w (.slice (some ⟨g,0,none⟩) n n) l:=by
 subst c;exact Sl.sN h b a
theorem YS(l:List Int)(h:l.length<=16):(l++List.replicate (17-l.length) 0).set l.length 1=l++[1]++List.replicate (16-l.length) 0:=by
 rw[nZ _ _ (A' _),show 17-l.length=16-l.length+1 by omega,List.replicate_succ];simp
theorem YR(l:List Int)(n:Nat):leN (l++[1]++List.replicate n 0)=leN (l++[1]):=by
 rw[SL,VQ];omega
theorem QS(v:Value)(l:List Int)(w:World)(h:Sl w v l)(N:l.length<=16) :
  Calls prog 172 #[v] w λe w'=>∃ r,e=.returned (.agg (Ai r))/\Lim 67108864 r/\val r%pp=leN (l++[1])%pp/\Bw w w':=by
 have H:=h;obtain⟨⟨a,J,rfl,T,P,M⟩,O,q⟩:=h;have u:Hid (∀ x∈l,0<=x/\x<256):=q;have E:=YS l N;have k:=YR l (16-l.length);clear M q P;go_enter func172,ntmps172
 go_wp2_with (refine wpList_copy_splice rfl _ _ 27 27 rfl 5 underlying27 Y3 _ _ _ _ _ _ rfl rfl (w.heap.size+1) 0 ((List.replicate 17 (0:Int)).map (Value.int .u8)) 269 (heap_alloc2_new _ _ _) (l.map (Value.int .u8)) (by rw[mF];exact(nr (show l.length<=17 by omega)).symm) (λQ=>⟨rfl,(H.af (((Below.refl _ _).alloc (A' _) _).alloc (by simp) _)).src (by simpa using Q)⟩) (by rw[mF,mF,nH];omega) (Fj _) (w.heap.size+1) _ (Below.refl _ _) (A' _) ?_)
 intro f D g;have c:f.heap[w.heap.size+1]?=some (.cells (byA (l++List.replicate (17-l.length) 0)) 269 (0,0)):=by
  have F:f.heap[w.heap.size+1]?=some (.cells (splice ((List.replicate 17 (0:Int)).map (Value.int .u8)) 0 (l.map (Value.int .u8))).toArray 269 (0,0)):=D.out;rw[IT]at F
  exact F
 have y:Bw w f:=(((Below.refl _ _).alloc (A' _) _).alloc (by simp) _).trans (g.mono (by omega));have A:f.heap[w.heap.size]?=some (.cells (Ai [0,0,0,0,0]) 221 (0,0)):=by
  rw[g.block _ (by omega)];exact heap_alloc2_old _ _ _
 clear D g;have G:(l++List.replicate (17-l.length) (0:Int)).length=17:=by simp;omega
 have K:=(cell_of_row _ _ l.length _ _ _ c).trans (Iu _ l.length (by omega));have fl:=frozen_of_row _ _ l.length _ _ c;have i:=GR c l.length 1;rw[E]at i
 have s:(f.setCell ⟨w.heap.size+1,l.length,none⟩ (.int .u8 1)).heap[w.heap.size]?=some (.cells (Ai [0,0,0,0,0]) 221 (0,0)):=(heap_setCell_other _ _ _ _ (by simp)).trans A;have n:Bw w (f.setCell ⟨w.heap.size+1,l.length,none⟩ (.int .u8 1)):=y.setCell (p:=⟨w.heap.size+1,l.length,none⟩) (by simp) _;have B:w.heap.size<(f.setCell ⟨w.heap.size+1,l.length,none⟩ (.int .u8 1)).heap.size:=(U'.1 s).1;have s3:Sl (f.setCell ⟨w.heap.size+1,l.length,none⟩ (.int .u8 1)) (.slice (some ⟨w.heap.size+1,0,none⟩) 17 17) (l++[1]++List.replicate (16-l.length) 0):=by
  refine Sl.rowOf i (by simp;omega) (by simp;omega) ?_;intro x R;rcases Q'.1 R with h|h
  .rcases Q'.1 h with h|h
   .exact u.out x h
   .simp at h;omega
  .rw[(o8.1 h).2];omega
 have b:(l++[1]++List.replicate (16-l.length) (0:Int)).length<=17:=by simp;omega
 have m:Hid _:=s3;have j:Hid (leN (l++[1]++List.replicate (16-l.length) 0)=leN (l++[1])):=k;clear i c E k s3 H;generalize l++[1]++List.replicate (16-l.length) 0=L at m b j;generalize (l++List.replicate (17-l.length) (0:Int)).getD l.length 0=c0 at K;go_wp2_with fail
 refine(Re _ L _ m.out b).mono ?_;rintro e I ⟨r,rfl,C,S,o⟩;have t:=(o.block w.heap.size B).trans s;have z:Bw w I:=n.trans (o.mono n.size);have d:=Dj C.1;go_wp2_with ((with_reducible (refine Ar ?_));(refine wpList_store_row rfl 221 _ _ rfl (w.heap.size) _ rfl rfl 221 _ t d (by rw[Ak,Ak,C.1];rfl) (BG r) ?_))
 exact bodyPost_ret (v:=.agg (Ai r)) (results_cell_row rfl _ _ (w.heap.size) 221 _ (0,0) _ rfl (setRow_heap I (w.heap.size) _ _ 221 _ t) underlying221 rfl d) rfl ⟨r,rfl,C,by rw[S,j.out],Bl z (A' _) _⟩
def jN:Value->Nat
 | .slice _ n _=>n
 | _=>0
theorem iT{a:Array Value}(t:List Int)(c:w.heap[g]?=some (.cells a 221 (0,0)))(d:a.size=5)(e:t.length=5):(storeCells ⟨g,0,none⟩ (Ai t).toList).run prog w=.ok () (w.setRow g (Ai t)):=by
 have:=run_storeCells_from (P:=prog) g 221 (Ai t).toList 0 a w c (by simp[Ak];omega) (λv b=>by simp[Ai]at b;obtain⟨x,_,rfl⟩:=b;rfl);rw[this];simp[Ai]
theorem Nq{d:Nat}{K:Act->World->Prop}(R:List Int->List Int->List Int->World->Prop){A:List Int->List Int->List Int->Act}(c:∀ K':Act->World->Prop,Hid (∀ x y z W2,R x y z W2->K' (A x y z) W2)->(Code.region d ops true).wp P (Exit.then K' Q) a w)(b:∀ x y z W2,R x y z W2->K (A x y z) W2):(Code.region d ops true).wp P (Exit.then K Q) a w:=c K b
theorem Pc(rl:List Int)(R:Int)(v:Value)(l:List Int)(w:World)(h:Sl w v l)(hl:l.length<=4000)(hr:Lim 67108864 rl)(hR:val rl%pp=R%pp) :
  Calls prog 142 #[.agg (Ai rl),v] w λe w'=>∃ r,e=.returned (.agg (Ai r))/\Lim 67108864 r/\val r=fV R l/\Bw w w':=by
 obtain⟨a0,c0,rfl⟩:∃ a c,v=.slice a l.length c:=by
  obtain⟨⟨a,c,e,_⟩,_⟩:=h;exact⟨a,c,e⟩
 have HR:Hid (val rl%pp=R%pp):=hR;clear hR;go_enter func142,ntmps142
 go_wp2_with fail
 go_loopw [1] (λY wr=>∃ (k:Nat) (P:List Int) (a:Option Addr) (c:Nat),16*k<=l.length+15/\Y=.slice a (l.length-16*k) c/\Sl w Y (l.drop (16*k))/\Lim 67108864 P/\val P%pp=Ku R l k%pp/\wr.heap[w.heap.size]?=some (.cells (Ai rl) 221 (0,0))/\wr.heap[w.heap.size+1]?=some (.cells (Ai [0,0,0,0,0]) 221 (0,0))/\wr.heap[w.heap.size+1+1]?=some (.cells (Ai P) 221 (0,0))/\Bw w wr) (λY _=>jN Y)
 case atStart =>
  obtain⟨S,s2,s3,s4⟩:=Gi w (.cells (Ai rl) 221 (0,0)) (.cells (Ai [0,0,0,0,0]) 221 (0,0)) (.cells (Ai [0,0,0,0,0]) 221 (0,0));exact⟨0,[0,0,0,0,0],a0,c0,by omega,rfl,h,Lim.sL (by omega) (by omega) (by omega) (by omega) (by omega),rfl,S,s2,s3,s4⟩
 case round =>
  clear h;obtain⟨k,P,a,c,hk,rfl,hs,x,z,m,hz,y,Z⟩:=hrel;by_cases b8:16*k<l.length
  .obtain⟨n,hne⟩:∃ n,l.length-16*k=n:=⟨_,rfl⟩;have a3:Hid (l.length-16*k=n):=hne;have c6:0<n:=by omega
   have c4:(0:Int)<(n:Int):=by omega
   rw[hne]at hs ⊢
   have b9:(l.drop (16*k)).length=n:=by rw[mo];exact hne
   obtain⟨n0,n1,n2,n3,n4,rfl,_⟩:=x.split;obtain⟨r0,Q,r2,r3,r4,rfl,_⟩:=hr.split;have E:=(cell_of_row _ _ 0 _ _ _ y).trans (At _ 0 (by simp));have F:=(cell_of_row _ _ 1 _ _ _ y).trans (At _ 1 (by simp));have G:=(cell_of_row _ _ 2 _ _ _ y).trans (At _ 2 (by simp));have H:=(cell_of_row _ _ 3 _ _ _ y).trans (At _ 3 (by simp));have I:=(cell_of_row _ _ 4 _ _ _ y).trans (At _ 4 (by simp));have J:=(cell_of_row _ _ 0 _ _ _ m).trans (At _ 0 (by simp));have K:=(cell_of_row _ _ 1 _ _ _ m).trans (At _ 1 (by simp));have L:=(cell_of_row _ _ 2 _ _ _ m).trans (At _ 2 (by simp));have M:=(cell_of_row _ _ 3 _ _ _ m).trans (At _ 3 (by simp));have N:=(cell_of_row _ _ 4 _ _ _ m).trans (At _ 4 (by simp));simp only[mE,mW]at E F G H I J K L M N;have i:w.heap.size+1+1<wr.heap.size:=(U'.1 y).1;have j:w.heap.size<wr.heap.size:=by omega
   have HN:Hid _:=y;have a4:Hid _:=m;have HZ:Hid _:=hz;have HB:Hid _:=Z;have a6:Hid (val [n0,n1,n2,n3,n4]%pp=Ku R l k%pp):=z;clear y m hz Z z hne;obtain⟨o,c3,B,f⟩:∃ o:Nat,(if(n:Int)<16 then(n:Int)else 16)=(o:Int)/\o<=n/\((o=16)\/(o=n/\n<16)):=by
    by_cases u:(n:Int)<16
    .exact⟨n,by rw[if_pos u],by omega,.inr ⟨rfl,by omega⟩⟩
    .exact⟨16,by rw[if_neg u];rfl,by omega,.inl rfl⟩
   obtain⟨a1,c1,a8,st⟩:=hs.ov o (by omega);obtain⟨a2,c2,c5,sd⟩:=hs.from o (by omega);have U:((l.drop (16*k)).take o).length<=16:=by rw[j'];omega
   have HP:Hid ((l.drop (16*k)).take o=piece l k):=by
    unfold Hid piece;rcases f with rfl|⟨rfl,u⟩
    .rfl
    .rw[mr (by omega),mr (by omega)]
   have HD:Hid ((l.drop (16*k)).drop o=l.drop (16*(k+1))/\n-o=l.length-16*(k+1)):=by
    unfold Hid;have:=a3.out;rw[oH];rcases f with rfl|⟨rfl,u⟩
    .exact⟨by congr 1,by omega⟩
    .refine⟨?_,by omega⟩;rw[na (by omega),na (by omega)]
   have a5:Hid (1<=o):=by unfold Hid;omega
   clear f;go_wp2_with fail
   apply Nq (λm1 S A W=>Lim 67108864 A/\val A%pp=Ku R l (k+1)%pp/\W.heap[w.heap.size]?=some (.cells (Ai [r0,Q,r2,r3,r4]) 221 (0,0))/\W.heap[w.heap.size+1]?=some (.cells (Ai [0,0,0,0,0]) 221 (0,0))/\W.heap[w.heap.size+1+1]?=some (.cells (Ai A) 221 (0,0))/\Bw w W)
   .intro K2 HK2
    go_region_with (first
     | (go_at_call 172;refine(QS _ _ _ (st.af HB.out.drew) U).mono ?_;rintro e w2 ⟨m1,rfl,b0,X,b⟩;have s:w.heap.size+1+1<w2.heap.size:=Z' i b.size;have g:w.heap.size<w2.heap.size:=Z' j b.size;have c9:=(b.cell (p:=⟨w.heap.size+1+1,0,none⟩) i).trans E;have d0:=(b.cell (p:=⟨w.heap.size+1+1,1,none⟩) i).trans F;have d3:=(b.cell (p:=⟨w.heap.size+1+1,2,none⟩) i).trans G;have d4:=(b.cell (p:=⟨w.heap.size+1+1,3,none⟩) i).trans H;have d5:=(b.cell (p:=⟨w.heap.size+1+1,4,none⟩) i).trans I;have b1:=(b.cell (p:=⟨w.heap.size,0,none⟩) j).trans J;have b2:=(b.cell (p:=⟨w.heap.size,1,none⟩) j).trans K;have b3:=(b.cell (p:=⟨w.heap.size,2,none⟩) j).trans L;have b4:=(b.cell (p:=⟨w.heap.size,3,none⟩) j).trans M;have b5:=(b.cell (p:=⟨w.heap.size,4,none⟩) j).trans N)
     | (go_at_call 171;refine(Zw [n0,n1,n2,n3,n4] m1 _ x b0).mono ?_;rintro e w3 ⟨S,rfl,b6,b7,d⟩;have C:w.heap.size+1+1<w3.heap.size:=Z' s d.size;have d6:=(d.cell (p:=⟨w.heap.size,0,none⟩) g).trans b1;have d7:=(d.cell (p:=⟨w.heap.size,1,none⟩) g).trans b2;have d8:=(d.cell (p:=⟨w.heap.size,2,none⟩) g).trans b3;have d9:=(d.cell (p:=⟨w.heap.size,3,none⟩) g).trans b4;have e0:=(d.cell (p:=⟨w.heap.size,4,none⟩) g).trans b5)
     | (go_at_call 173;refine(WY S [r0,Q,r2,r3,r4] _ b6 hr).mono ?_;rintro e w4 ⟨A,rfl,t,O,q⟩;have c8:=iT A ((q.block _ C).trans ((d.block _ s).trans ((b.block _ i).trans HN.out))) rfl t.1;have c7:(Ai A).size=5:=by rw[Ak];exact t.1))
    all_goals
     refine HK2.out m1 S A _ ⟨t,?_,?_,?_,?_,?_⟩
     .rw[HP.out]at X
      exact Xi a6.out X b7 HR.out O
     .exact(setRow_other _ _ _ _ (by omega)).trans ((q.block _ (by omega)).trans ((d.block _ (by omega)).trans ((b.block _ j).trans a4.out)))
     .exact(setRow_other _ _ _ _ (by omega)).trans ((q.block _ (by omega)).trans ((d.block _ (by omega)).trans ((b.block _ (Nat.lt_of_succ_lt i)).trans HZ.out)))
     .exact setRow_heap _ _ _ _ 221 _ ((q.block _ C).trans ((d.block _ s).trans ((b.block _ i).trans HN.out)))
     .exact Bl (((HB.out.drew.trans (b.mono (oB j))).trans (d.mono (oB g))).trans (q.mono (by omega))) (by omega) _
   intro m1 S A W hW;obtain⟨t,O,q1,q2,q3,q4⟩:=hW;clear E F G H I J K L M N st a8 U;go_wp2
   go_roundw
   case rel =>
    obtain⟨d1,d2⟩:=HD.out;rw[d1]at sd
    exact⟨k+1,A,a2,c2,by omega,by rw[d2],sd,t,O,q1,q2,q3,q4⟩
   case measure=>have:=a5.out;simp[jN];omega
  .have HK:Hid (k=Pq l):=by unfold Hid Pq;omega
   have D:l.length-16*k=0:=by omega
   rw[D];have B:=Dj x.1;have a9:w.heap.size+1<wr.heap.size:=(U'.1 hz).1;have HV:Hid (val P%pp=Ku R l k%pp):=z;clear z hs;go_wp2_with ((with_reducible (refine Ar ?_));(refine wpList_load_row rfl 221 _ rfl (w.heap.size+1+1) rfl 221 _ (0,0) _ y underlying221 rfl B ?_))
   refine(VS P wr x).mono ?_;rintro e w1 ⟨Q,rfl,l1,v1,T⟩;have V:=(T.block (w.heap.size+1) a9).trans hz;have a7:Bw w w1:=Z.trans (T.mono Z.size);have f:=Dj l1.1;go_wp2_with ((with_reducible (refine Ar ?_));(refine wpList_store_row rfl 221 _ _ rfl (w.heap.size+1) _ rfl rfl 221 _ V f (by rw[Ak,Ak,l1.1];rfl) (BG Q) ?_))
   refine bodyPost_ret (v:=.agg (Ai Q)) (results_cell_row rfl _ _ (w.heap.size+1) 221 _ (0,0) _ rfl (setRow_heap w1 (w.heap.size+1) _ _ 221 _ V) underlying221 rfl f) rfl ⟨Q,rfl,l1,?_,Bl a7 (by omega) _⟩;have hK:=HK.out;subst hK;rw[v1,HV.out];have:=RE R l (Pq l);exact Int.emod_eq_of_lt this.1 this.2
end
end
section
structure Lac where
 k:Int
 n:Int
 a:Int
 p:Int
 d:List Int
def Gf(k:Int):Bool:=decide (k=1\/k=2\/k=3\/k=9\/k=8)
def In(k:Int):Bool:=decide (4<=k/\k<=6)
def Io(k:Int):Bool:=decide (k=8)
def dj(x:Lac):Int :=
 if ¬ (1<=x.k/\x.k<=9)then 4
 else if(Gf x.k=true/\¬ (0<=x.n/\x.n<=4))\/(In x.k=true/\¬ (0<=x.a/\x.a<=1048576))\/(Io x.k=true/\¬ (0<=x.p/\x.p<=100000))then 2
 else if 2000<x.d.length then 1
 else if(Gf x.k=false/\x.n≠0)\/(In x.k=false/\x.a≠0)\/(Io x.k=false/\x.p≠0)\/(x.k≠1/\x.d≠[])then 3
 else 0
structure LacOk(x:Lac):Prop where
 k:1<=x.k/\x.k<=9
 n:Gf x.k=true->0<=x.n/\x.n<=4
 a:In x.k=true->0<=x.a/\x.a<=1048576
 p:Io x.k=true->0<=x.p/\x.p<=100000
 d:x.d.length<=2000
 n0:Gf x.k=false->x.n=0
 a0:In x.k=false->x.a=0
 p0:Io x.k=false->x.p=0
 d0:x.k≠1->x.d=[]
theorem DO{x:Lac}:dj x=0↔LacOk x:=by
 unfold dj;constructor
 .intro h;by_cases c:1<=x.k/\x.k<=9
  .rw[if_neg (λe=>e c)]at h
   by_cases b:(Gf x.k=true/\¬ (0<=x.n/\x.n<=4))\/(In x.k=true/\¬ (0<=x.a/\x.a<=1048576))\/(Io x.k=true/\¬ (0<=x.p/\x.p<=100000))
   .rw[if_pos b]at h;omega
   .rw[if_neg b]at h
    by_cases g:2000<x.d.length
    .rw[if_pos g]at h;omega
    .rw[if_neg g]at h
     by_cases f:(Gf x.k=false/\x.n≠0)\/(In x.k=false/\x.a≠0)\/(Io x.k=false/\x.p≠0)\/(x.k≠1/\x.d≠[])
     .rw[if_pos f]at h;omega
     .simp only[not_or,not_and,mh]at b f;exact⟨c,λe=>by have:=b.1 e;omega,λe=>by have:=b.2.1 e;omega,λe=>by have:=b.2.2 e;omega,by omega,f.1,f.2.1,f.2.2.1,f.2.2.2⟩
  .rw[if_pos c]at h;omega
 .intro h;rw[if_neg (λe=>e h.k),if_neg,if_neg (by have:=h.d;omega),if_neg]
  .rintro(⟨c,b⟩|⟨c,b⟩|⟨c,b⟩|⟨c,b⟩)
   .exact b (h.n0 c)
   .exact b (h.a0 c)
   .exact b (h.p0 c)
   .exact b (h.d0 c)
  .rintro(⟨c,b⟩|⟨c,b⟩|⟨c,b⟩)
   .exact b (h.n c)
   .exact b (h.a c)
   .exact b (h.p c)
def Ve(k:Int):List Int :=
 if k=1 then[115,117,98,109,105,116]else if k=2 then[108,101,97,100]else if k=3 then[115,116,101,112]else if k=4 then[99,97,114,114,121]else if k=5 then[108,111,115,101]
 else if k=6 then[100,111,117,98,108,101]else if k=7 then[97,108,108]else if k=8 then[99,114,97,115,104]else if k=9 then[115,116,97,114,116]else[]
end
end Go.Proofs.YtdjfdfpkkenjbacGreatDoor
