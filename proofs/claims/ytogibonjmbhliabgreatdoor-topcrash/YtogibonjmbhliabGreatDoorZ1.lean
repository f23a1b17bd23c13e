/- Part 1 of the walk. -/
import Derived.Test.YtogibonjmbhliabGreatDoorZ0
import Derived.WalkKit
import Derived.ProofKit
import Derived.Laws.AppendOwnNone
import Derived.Laws.BytesArg
import Derived.BigQuiet
import Derived.OpenShut
import Derived.StillTail
import Derived.Test.YtogibonjmbhliabGreatDoorProg
import Derived.Deep.QuietTactic
import Derived.BigRegion
import Derived.Laws.ResultCell
import Derived.Laws.CopyOwn
import Derived.Deep.RegionWith
import Derived.Deep.MidRow
import Derived.Laws.Tables
import Derived.Laws.Rows
import Derived.Deep.RegionLaw
import Derived.Deep.RegionHeld3
import Derived.Laws.CopyRow
import Derived.Deep.Cut
set_option maxRecDepth 100000
set_option maxHeartbeats 4000000
open Go.Proofs.Tryz
set_option linter.unusedVariables false
namespace Go.Proofs.YtogibonjmbhliabGreatDoor
section
open Go.RowKit Go.ChangeShapes Go.WideShapes Go.ChangeAt
section
abbrev Bw(w w':World):Prop:=Below w.heap.size w w'
abbrev zV5:Array Value:=#[.int .i64 0,.int .i64 0,.int .i64 0,.int .i64 0,.int .i64 0]
abbrev zV8:Array Value:=#[.int .i64 0,.int .i64 0,.int .i64 0,.int .i64 0,.int .i64 0,.int .i64 0,.int .i64 0,.int .i64 0]
structure Sl(w:World)(v:Value)(l:List Int):Prop where
 ex:∃ a cap,v=.slice a l.length cap/\l.length<=cap/\(a=none->cap=0)/\(l=[]\/∃ b off,a=some ⟨b,off,none⟩/\b<w.heap.size/\∀ i,i<l.length->w.cell? ⟨b,off+i,none⟩=some (.int .u8 (l.getD i 0)))
 len:l.length<=140737488351232
 byte:∀ x∈l,0<=x/\x<256
variable{P:Program}{base cap e g i n:Nat}{l:List Int}{v:Value}{w:World}
theorem Sl.af{f:World}(h:Sl w v l)(e:Below w.heap.size w f):Sl f v l:=by
 obtain⟨⟨a,c,rfl,k,n,d⟩,g,j⟩:=h;refine⟨⟨a,c,rfl,k,n,?_⟩,g,j⟩;rcases d with d|⟨b,off,ha,hbs,hcell⟩
 .exact .inl d
 .exact .inr ⟨b,off,ha,j' hbs e.size,λi m=>(e.cell (p:=⟨b,off+i,none⟩) hbs).trans (hcell i m)⟩
theorem Sl.nil(w:World)(a:Option Addr):Sl w (.slice a 0 0) []:=⟨⟨a,0,rfl,by simp,by simp,.inl rfl⟩,by simp,by simp⟩
theorem Sl.nr(h:w.ownsRow base e 1 v l.length (l.map (Value.int .u8)))(f:l.length<=140737488351232)(c:∀ x∈l,0<=x/\x<256):Sl w v l:=by
 refine⟨?_,f,c⟩;rcases h.2 with⟨rfl,h0⟩|⟨g,cap,cur,rfl,_,hg,hn,_,hcs,ht⟩
 .exact⟨none,0,by rw[h0],by omega,λ_=>rfl,.inl (Z' h0)⟩
 .refine⟨_,cap,rfl,hn,by simp,.inr ⟨g,0,rfl,(Q'.1 hg).1,λi d=>?_⟩⟩;have b:=h.cells (g:=g) rfl i (.int .u8 (l.getD i 0)) (by simp[List.getElem?_eq_getElem d,List.getD]);have a:(⟨g,0,none⟩:Addr).add i=⟨g,i,none⟩:=by unfold Addr.add;split<;>simp_all
  rw[a]at b
  simpa using b
theorem AY(a:i<l.length):l.getD i 0=l[i]:=by simp[List.getD,List.getElem?_eq_getElem a]
theorem He(a:l.length<=i):l.getD i 0=0:=by simp[List.getD,List.getElem?_eq_none a]
theorem Aj(h:∀ x∈l,0<=x/\x<256)(i:Nat):0<=l.getD i 0/\l.getD i 0<256:=by
 rcases nW i l.length with hi|hi
 .rw[AY hi];exact h _ (nM hi)
 .rw[He hi];omega
theorem Fo(l:List Int):∀ u∈l.map (Value.int .u8),u.oneCell'=true:=by
 intro u a;obtain⟨x,_,rfl⟩:=ny.1 a;rfl
theorem Ic(w:World)(c t x e:Nat)(A:P.underlying t=some (.slice e))(h:(P.info? e).map (λi=>(i.zero,i.size,i.bytes))=some (some (.int .u8 0),1,1))(v:Value)(l:List Int)(d:w.ownsRow c e 1 v l.length (l.map (Value.int .u8)))(u:Value)(m:List Int)(H:Sl w u m)(z:l.length+m.length<=140737488355328)(g:c<=w.heap.size) :
  ∃ v' w',(Builtin.append_ #[t,t] x #[v,u]).run P w=.ok v' w'/\w'.ownsRow c e 1 v' (l++m).length ((l++m).map (Value.int .u8))/\w.grownBy w' v.ownBlock:=by
 obtain⟨i,y,I,s,q⟩:=info_parts h;obtain⟨⟨a,p,rfl,J,E,B⟩,_,_⟩:=H;cases a with
 | none =>
  have r:=E rfl;subst r;have D:m=[]:=Z' (by omega);subst D;refine⟨v,w,?_,by simpa using d,⟨rfl,rfl,rfl,A' _,λ_ _ _=>rfl⟩⟩;exact run_append_owned_none (P:=P) (w:=w) c t x e i 1 A y v l.length _ d
 | some ad =>
  have f:∀ j u,(m.map (Value.int .u8))[j]?=some u->w.cell? (ad.add j)=some u:=by
   intro j u o;rcases B with rfl|⟨b,off,hab,_,hcell⟩
   .simp at o
   .obtain rfl:ad=⟨b,off,none⟩:=by simpa using hab
    have k:j<m.length:=by
     have:=(V'.1 o).1;simpa using this
    have n:(⟨b,off,none⟩:Addr).add j=⟨b,off+j,none⟩:=by unfold Addr.add;split<;>simp_all
    rw[n,hcell j k];simp[List.getElem?_eq_getElem k]at o
    rw[AY k,o]
  obtain⟨v',w',G,F,C,_⟩:=run_append_own (P:=P) w c t x e i (.int .u8 0) 1 1 A y I s q rfl (by decide) v l.length _ d ad m.length p (m.map (Value.int .u8)) (by simp) f (Fo m)
   (by unfold maxLen;omega) (by omega) g
  exact⟨v',w',G,by simpa using F,C⟩
theorem Aa(w:World){n:Array Oper}{c:List Oper}{o:Oper}{a:Act}{Q:Exit->Act->World->Prop}(p:o.guard=none)(s x:Operand)(t:TypeId)(r:o.op=.call { callee:=.builtin .append,args:=#[s,x],argTypes:=#[t,t] })(b e:Nat)(z:P.underlying t=some (.slice e))(f:(P.info? e).map (λi=>(i.zero,i.size,i.bytes))=some (some (.int .u8 0),1,1))(v u:Value)(y:a.eval s=v)(B:a.eval x=u)(l m:List Int)(j:w.ownsRow b e 1 v l.length (l.map (Value.int .u8)))(A:Sl w u m)(g:l.length+m.length<=140737488355328)(d:b<=w.heap.size)(h:∀ v' w',w'.ownsRow b e 1 v' (l++m).length ((l++m).map (Value.int .u8))->w.grownBy w' v.ownBlock->wpList P n Q c (a.put o.dst v') w'):wpList P n Q (o::c) a w:=by
 refine wpList_plain p λK q=>?_;obtain⟨v',w',k,C,D⟩:=Ic (P:=P) w b t o.type e z f v l j u m A g d;unfold Oper.wp execOp;simp only[r,resolve,invoke,builtin,Sem.run_bind,Sem.run_pure,Result.andThen_ok,pU,nK,oJ,y,B,k];exact q _ _ (h v' w' C D)
theorem Sl.take{a:Option Addr}(h:Sl w (.slice a n cap) l)(m:Nat)(s:m<=l.length):Sl w (.slice a m cap) (l.take m):=by
 obtain⟨⟨q,d,e,r,o,f⟩,k,c⟩:=h;simp only[Value.slice.injEq]at e;obtain⟨rfl,rfl,rfl⟩:=e;have j:(l.take m).length=m:=by rw[X'];omega
 refine⟨⟨a,cap,by rw[j],by omega,o,?_⟩,by omega,λx p=>c x (nu p)⟩;rcases f with rfl|⟨b,off,rfl,hb,hcell⟩
 .exact .inl (by simp)
 .refine .inr ⟨b,off,rfl,hb,λi g=>?_⟩;rw[hcell i (by omega),AY (by omega),AY g];simp
theorem Sl.drop{b off:Nat}(h:Sl w (.slice (some ⟨b,off,none⟩) n cap) l)(k:Nat)(s:k<=l.length)(a:Nat)(g:l.length<=a+k):Sl w (.slice (some ⟨b,off+k,none⟩) (l.length-k) a) (l.drop k):=by
 obtain⟨⟨q,d,e,r,t,f⟩,o,c⟩:=h;simp only[Value.slice.injEq]at e;obtain⟨rfl,rfl,rfl⟩:=e;have m:(l.drop k).length=l.length-k:=by rw[nc]
 refine⟨⟨_,a,by rw[m],by omega,by simp,?_⟩,by omega,λx p=>c x (oX p)⟩;rcases f with rfl|⟨b,off,e,hb,hcell⟩
 .exact .inl (by simp)
 .simp only[Y',Addr.mk.injEq,and_true]at e;obtain⟨rfl,rfl⟩:=e;refine .inr ⟨_,_,rfl,hb,λi j=>?_⟩;rw[oe,hcell (k+i) (by omega),AY (by omega),AY j];simp
theorem Eu(h:w.ownsRow base e 1 v l.length (l.map (Value.int .u8)))(c:l≠[]) :
  ∃ g cap,v=.slice (some ⟨g,0,none⟩) l.length cap/\base<=g/\g<w.heap.size/\l.length<=cap/\(∀ i,i<l.length->w.cell? ⟨g,i,none⟩=some (.int .u8 (l.getD i 0)))/\(∀ i,w.frozen? ⟨g,i,none⟩=false):=by
 rcases h.2 with⟨rfl,h0⟩|⟨g,cap,cur,rfl,hb,hg,hn,_,hcs,ht⟩
 .exact absurd (Z' h0) c
 .refine⟨g,cap,rfl,hb,(Q'.1 hg).1,hn,λi b=>?_,λi=>?_⟩
  .have hc:=h.cells (g:=g) rfl i (.int .u8 (l.getD i 0)) (by simp[List.getElem?_eq_getElem b,List.getD]);have a:(⟨g,0,none⟩:Addr).add i=⟨g,i,none⟩:=by unfold Addr.add;split<;>simp_all
   rwa [a]at hc
  .simp[World.frozen?,hg]
theorem Sl.built(w:World)(l:List Int)(e:TypeId)(b:g=w.heap.size)(d:l.length<=140737488351232)(a:∀ x∈l,0<=x/\x<256):Sl (w.alloc (.cells (l.map (Value.int .u8)).toArray e)) (.slice (some ⟨g,0,none⟩) l.length l.length) l:=by
 subst b;refine⟨⟨_,l.length,rfl,by simp,by simp,.inr ⟨w.heap.size,0,rfl,by simp,λi c=>?_⟩⟩,d,a⟩;rw[cell_of_row _ _ (0+i) _ _ _ (heap_alloc_new w _)];simp[List.getElem?_eq_getElem c,List.getD]
theorem Sl.one(w:World)(b:Int)(e:TypeId)(c:g=w.heap.size)(a:0<=b/\b<256):Sl (w.alloc (.cells #[.int .u8 b] e)) (.slice (some ⟨g,0,none⟩) 1 1) [b]:=by
 subst c;refine⟨⟨_,1,rfl,by simp,by simp,.inr ⟨w.heap.size,0,rfl,by simp,λi d=>?_⟩⟩,by simp,by simpa using a⟩;obtain rfl:i=0:=by simpa using d
 simp
theorem Sl.drew(h:Sl w v l):Sl w.drew v l:=h.af (Below.refl _ _).drew
theorem Am{a b:Bool}(h:a=b):Ending.returned (.bool a)=.returned (.bool b):=by rw[h]
theorem Aq{B:Nat}{a:World}(h:Below B a w)(n:Nat):Below B a (w.drewN n):=h.trans ⟨rfl,rfl,rfl,A' _,λ_ _=>rfl⟩
end
end
section
open Go.RowKit
section
def ZH:Value->Nat
 | .slice _ n _=>n
 | _=>0
variable{P:Program}{base n:Nat}{d l:List Int}{v:Value}{w:World}{xs:List Value}
theorem EH{e:Nat}(h:w.ownsRow base e 1 v n xs):∃ a cap,v=.slice a n cap:=by
 rcases h.2 with⟨rfl,rfl⟩|⟨g,cap,cur,rfl,_⟩
 .exact⟨none,0,rfl⟩
 .exact⟨_,cap,rfl⟩
theorem Bf{a:Nat}{e:TypeId}{b:Nat}(h:w.ownsRow base e b v n xs)(c:a<=base):w.ownsRow a e b v n xs:=by
 refine⟨h.1,?_⟩;rcases h.2 with h2|⟨g,cap,cur,hv,hg,hr⟩
 .exact .inl h2
 .exact .inr ⟨g,cap,cur,hv,mV c hg,hr⟩
theorem MF(l:List Int)(j:Nat):l++List.replicate j 0++[0]=l++List.replicate (j+1) 0:=by
 rw[mU,<- List.replicate_succ']
theorem Sl.shape(h:Sl w v l):∃ a cap,v=.slice a l.length cap:=by
 obtain⟨⟨a,cap,e,_⟩,_⟩:=h;exact⟨a,cap,e⟩
def AT(l:List Int):Array Value:=(l.map (Value.int .u8)).toArray
theorem AF(l:List Int):(AT l).size=l.length:=by simp[AT]
theorem L3(l:List Int):(AT l).all (·.oneCell')=true:=by simp[AT,Value.oneCell']
theorem Em(l:List Int)(i:Nat)(h:i<l.length):(AT l)[i]?=some (.int .u8 (l.getD i 0)):=by
 simp[AT,List.getD,List.getElem?_eq_getElem h]
theorem Yb(l:List Int)(i:Nat)(x:Int):(AT l).setIfInBounds i (.int .u8 x)=AT (l.set i x):=by
 apply pF;simp[AT,List.map_set]
def uw(x:BitVec 32):Int:=(x.toNat:Int)
theorem DV(x:BitVec 32):0<=uw x:=Int.natCast_nonneg _
theorem cG(x:BitVec 32):uw x<4294967296:=by unfold uw;have:=x.isLt;omega
theorem Ut{x y:BitVec 32}:uw x=uw y↔x=y:=by
 unfold uw;constructor
 .intro h;exact BitVec.eq_of_toNat_eq (by omega)
 .rintro rfl;rfl
theorem Ni(x y:BitVec 32):bits .and .u32 (uw x) (uw y)=uw (x &&& y):=by
 unfold uw;rw[u32_and_nat _ _ x.isLt y.isLt,BitVec.toNat_and]
theorem KC(x y:BitVec 32):bits .or .u32 (uw x) (uw y)=uw (x ||| y):=by
 unfold uw;rw[u32_or_nat _ _ x.isLt y.isLt,rD]
theorem DA(x y:BitVec 32):bits .xor .u32 (uw x) (uw y)=uw (x ^^^ y):=by
 unfold uw;rw[u32_xor_nat _ _ x.isLt y.isLt,BitVec.toNat_xor]
theorem mQ(x y:BitVec 32):IntKind.u32.wrap (uw x+uw y)=uw (x+y):=by
 unfold uw;rw[IntKind.wrap_u32',rp];omega
theorem Dv(a b:BitVec 32):(uw a+uw b)%(4294967296:Int)=uw (a+b):=by
 unfold uw;rw[rp];omega
theorem gg(a b c:BitVec 32):(uw a+uw b+uw c)%(4294967296:Int)=uw (a+b+c):=by
 rw[<- Dv,<- Dv];omega
theorem V4(a b c d:BitVec 32):(uw a+uw b+uw c+uw d)%(4294967296:Int)=uw (a+b+c+d):=by
 rw[<- Dv,<- gg];omega
theorem GQ(x:BitVec 32)(k:Nat):uw x*(2:Int)^k%(4294967296:Int)=uw (x <<< k):=by
 unfold uw;rw[BitVec.toNat_shiftLeft,Nat.shiftLeft_eq,rx,rE,pL];rfl
theorem PY(x:BitVec 32)(k:Nat):uw x/(2:Int)^k=uw (x >>> k):=by
 unfold uw;rw[BitVec.toNat_ushiftRight,Nat.shiftRight_eq_div_pow,Int.natCast_ediv,pL];rfl
theorem gf(x:BitVec 32):uw x/(8:Int)=uw (x >>> 3):=PY x 3
theorem cI(x:BitVec 32):uw x/(1024:Int)=uw (x >>> 10):=PY x 10
theorem jP(x:BitVec 32)(n:Nat)(a:1<=n)(b:n<=31):bits .or .u32 (uw x*2^(32-n)%4294967296) (uw x/2^(32-(32-n)))=uw (x.rotateRight n):=by
 rw[GQ,PY,KC,Ut];rw[show 32-(32-n)=n by omega,BitVec.rotateRight_def,qJ (by omega:n<32),BitVec.or_comm]
def F1(n:Nat):Nat:=(119-n%64)%64
def CR(n:Nat):List Int:=[((n*8/2^56%256:Nat):Int),((n*8/2^48%256:Nat):Int),((n*8/2^40%256:Nat):Int),((n*8/2^32%256:Nat):Int),
 ((n*8/2^24%256:Nat):Int),((n*8/2^16%256:Nat):Int),((n*8/2^8%256:Nat):Int),((n*8/2^0%256:Nat):Int)]
def CS(l:List Int)(j:Nat):List Int:=l++[128]++List.replicate j 0
def pad(l:List Int):List Int:=CS l (F1 l.length)++CR l.length
theorem Dt(l:List Int)(j:Nat):(CS l j).length=l.length+1+j:=by simp[CS];omega
theorem TF(l:List Int)(j:Nat):CS l j++[0]=CS l (j+1):=by
 simp only[CS,mU];rw[<- List.replicate_succ']
theorem KN(n:Nat):(CR n).length=8:=rfl
theorem TG(l:List Int):(pad l).length%64=0/\l.length<(pad l).length/\(pad l).length<=l.length+72:=by
 unfold pad;rw[H',Dt,KN];unfold F1;omega
theorem TE(h:∀ x∈l,0<=x/\x<256)(j:Nat):∀ x∈CS l j,0<=x/\x<256:=by
 intro x a;simp only[CS,U',G',p9]at a;rcases a with(a|rfl)|⟨_,rfl⟩
 .exact h x a
 .omega
 .omega
theorem NF(n:Nat):∀ x∈CR n,0<=x/\x<256:=by
 intro x a;simp only[CR,nf,P',or_false]at a;rcases a with rfl|rfl|rfl|rfl|rfl|rfl|rfl|rfl<;>omega
theorem aE(h:∀ x∈l,0<=x/\x<256):∀ x∈pad l,0<=x/\x<256:=by
 intro x a;rcases U'.1 a with h1|h1
 .exact TE h _ x h1
 .exact NF _ x h1
theorem Py(n s:Nat):((n*8/2^s%256:Nat):Int)=(n:Int)*8/2^s%256:=by
 rw[rx,Int.natCast_ediv,rE,pL];rfl
theorem NG(n k:Nat)(a:k<8):(CR n).take (k+1)=(CR n).take k++[(n:Int)*8/2^(56-8*k)%256]:=by
 rw[<- Py];obtain rfl|rfl|rfl|rfl|rfl|rfl|rfl|rfl:k=0\/k=1\/k=2\/k=3\/k=4\/k=5\/k=6\/k=7:=by omega
 all_goals rfl
def AA(ws:List (BitVec 32)):Array Value:=(ws.map λx=>Value.int .u32 (uw x)).toArray
theorem Bn(a:List (BitVec 32)):(AA a).size=a.length:=by simp[AA]
theorem Cb(a:List (BitVec 32))(i:Nat)(h:i<a.length):(AA a)[i]?=some (.int .u32 (uw (a.getD i 0#32))):=by
 simp[AA,List.getD,List.getElem?_eq_getElem h]
theorem Nl(a:List (BitVec 32))(i:Nat)(x:BitVec 32):(AA a).setIfInBounds i (.int .u32 (uw x))=AA (a.set i x):=by
 apply pF;simp[AA,List.map_set]
def CK(n:Int):BitVec 32:=BitVec.ofNat 32 n.toNat
def Ux(l:List Int)(i:Nat):BitVec 32:=CK (l.getD (4*i) 0) <<< 24 ||| CK (l.getD (4*i+1) 0) <<< 16 ||| CK (l.getD (4*i+2) 0) <<< 8 ||| CK (l.getD (4*i+3) 0)
def j9(x:BitVec 32):BitVec 32:=x.rotateRight 7 ^^^ x.rotateRight 18 ^^^ x >>> 3
def jA(x:BitVec 32):BitVec 32:=x.rotateRight 17 ^^^ x.rotateRight 19 ^^^ x >>> 10
def KS(l:List Int):Nat->List (BitVec 32)
 | 0=>List.replicate 64 0#32
 | k+1=>(KS l k).set k (Ux l k)
def ZV(ws:List (BitVec 32))(i:Nat):BitVec 32:=ws.getD (i-16) 0#32+j9 (ws.getD (i-15) 0#32)+ws.getD (i-7) 0#32+jA (ws.getD (i-2) 0#32)
def Gi(l:List Int):Nat->List (BitVec 32)
 | 0=>KS l 16
 | k+1=>(Gi l k).set (16+k) (ZV (Gi l k) (16+k))
def OL(l:List Int):List (BitVec 32):=Gi l 48
theorem GI(l:List Int)(k:Nat):(KS l k).length=64:=by
 induction k with
 | zero=>simp[KS]
 | succ k ih=>simp[KS,ih]
theorem EL(l:List Int)(k:Nat):(Gi l k).length=64:=by
 induction k with
 | zero=>exact GI l 16
 | succ k ih=>simp[Gi,ih]
theorem PM(l:List Int):(OL l).length=64:=EL l 48
theorem Ls(n:Int)(h:0<=n/\n<256):uw (CK n)=n:=by
 unfold uw CK;rw[qZ];omega
def Ti:List Int:=[1116352408,1899447441,3049323471,3921009573,961987163,1508970993,2453635748,2870763221,3624381080,310598401,607225278,1426881987,1925078388,2162078206,2614888103,3248222580,3835390401,4022224774,264347078,604807628,770255983,1249150122,1555081692,1996064986,2554220882,2821834349,2952996808,3210313671,3336571891,3584528711,113926993,338241895,666307205,773529912,1294757372,1396182291,1695183700,1986661051,2177026350,2456956037,2730485921,2820302411,3259730800,3345764771,3516065817,3600352804,4094571909,275423344,430227734,506948616,659060556,883997877,958139571,1322822218,1537002063,1747873779,1955562222,2024104815,2227730452,2361852424,2428436474,2756734187,3204031479,3329325298]
def kAt(i:Nat):BitVec 32:=BitVec.ofNat 32 (Ti.getD i 0).toNat
structure St where
 a:BitVec 32
 b:BitVec 32
 c:BitVec 32
 d:BitVec 32
 e:BitVec 32
 f:BitVec 32
 g:BitVec 32
 h:BitVec 32
def St.cells(s:St):Array Value:=#[.int .u32 (uw s.a),.int .u32 (uw s.b),.int .u32 (uw s.c),.int .u32 (uw s.d),.int .u32 (uw s.e),.int .u32 (uw s.f),.int .u32 (uw s.g),.int .u32 (uw s.h)]
def St.list(s:St):List (BitVec 32):=[s.a,s.b,s.c,s.d,s.e,s.f,s.g,s.h]
def Ss(e f g:BitVec 32):BitVec 32:=(e &&& f) ^^^ (~~~e &&& g)
def most(a b c:BitVec 32):BitVec 32:=(a &&& b) ^^^ (a &&& c) ^^^ (b &&& c)
def kq(e:BitVec 32):BitVec 32:=e.rotateRight 6 ^^^ e.rotateRight 11 ^^^ e.rotateRight 25
def ko(a:BitVec 32):BitVec 32:=a.rotateRight 2 ^^^ a.rotateRight 13 ^^^ a.rotateRight 22
def upS(s:St)(k w:BitVec 32):BitVec 32:=s.h+kq s.e+Ss s.e s.f s.g+k+w
def gD(s:St):BitVec 32:=ko s.a+most s.a s.b s.c
def bJ(s:St)(k w:BitVec 32):St:={ a:=upS s k w+gD s,b:=s.a,c:=s.b,d:=s.c,e:=s.d+upS s k w,f:=s.e,g:=s.f,h:=s.g }
def BT(ws:List (BitVec 32))(s:St):Nat->St
 | 0=>s
 | k+1=>bJ (BT ws s k) (kAt k) (ws.getD k 0#32)
def mt(s t:St):St:={ a:=s.a+t.a,b:=s.b+t.b,c:=s.c+t.c,d:=s.d+t.d,e:=s.e+t.e,f:=s.f+t.f,g:=s.g+t.g,h:=s.h+t.h }
def El(s t:St):Nat->List (BitVec 32)
 | 0=>s.list
 | i+1=>(El s t i).set i ((El s t i).getD i 0#32+t.list.getD i 0#32)
theorem F6(s t:St)(i:Nat):(El s t i).length=8:=by
 induction i with
 | zero=>rfl
 | succ i ih=>simp[El,ih]
def ZQ(s:St)(ws:List (BitVec 32)):St:=mt s (BT ws s 64)
def start:St:={ a:=1779033703#32,b:=3144134277#32,c:=1013904242#32,d:=2773480762#32,e:=1359893119#32,f:=2600822924#32,g:=528734635#32,h:=1541459225#32 }
def F7(x:BitVec 32):List Int:=[uw x/16777216%256,uw x/65536%256,uw x/256%256,uw x%256]
def CO:List (BitVec 32)->List Int
 | []=>[]
 | x::r=>F7 x++CO r
def Pf(s:St):List Int:=CO s.list
theorem Ke(x:BitVec 32):∀ n∈F7 x,0<=n/\n<256:=by
 intro n a;simp only[F7,nf,P',or_false]at a;rcases a with rfl|rfl|rfl|rfl<;>omega
theorem Qk(l:List (BitVec 32)):∀ n∈CO l,0<=n/\n<256:=by
 induction l with
 | nil=>intro n a;cases a
 | cons x r ih =>
  intro n a;rcases U'.1 a with h|h
  .exact Ke x n h
  .exact ih n h
theorem Ql(l:List (BitVec 32))(x:BitVec 32):CO (l++[x])=CO l++F7 x:=by
 induction l with
 | nil=>simp[CO]
 | cons y r ih=>simp[CO,ih]
theorem Hy(l:List (BitVec 32)):(CO l).length=4*l.length:=by
 induction l with
 | nil=>rfl
 | cons x r ih=>simp[CO,F7,ih];omega
def Po(l:List Int):Nat->St
 | 0=>start
 | k+1=>ZQ (Po l k) (OL ((l.drop (64*k)).take 64))
def dig(l:List Int):List Int:=Pf (Po (pad l) ((pad l).length/64))
theorem AB(l:List Int):(dig l).length=32:=rfl
theorem DJ(l:List Int):∀ n∈dig l,0<=n/\n<256:=Qk _
def NE(s:List (BitVec 32))(a b:Nat):List (BitVec 32):=s.set a (s.getD a 0#32+s.getD b 0#32)
def iR(s:List (BitVec 32))(a t n:Nat):List (BitVec 32):=s.set t ((s.getD t 0#32 ^^^ s.getD a 0#32).rotateLeft n)
def Kk(s:List (BitVec 32))(a b t n:Nat):List (BitVec 32):=iR (NE s a b) a t n
def My(s:List (BitVec 32))(a b c d:Nat):List (BitVec 32):=Kk (Kk (Kk (Kk s a b d 16) c d b 12) a b d 8) c d b 7
theorem Kj(s:List (BitVec 32))(a b:Nat):(NE s a b).length=s.length:=by simp[NE]
theorem QM(s:List (BitVec 32))(a t n:Nat):(iR s a t n).length=s.length:=by simp[iR]
theorem Cf(s:List (BitVec 32))(a b t n:Nat):(Kk s a b t n).length=s.length:=by rw[Kk,QM,Kj]
theorem NK(s:List (BitVec 32))(a b c d:Nat):(My s a b c d).length=s.length:=by simp only[My,Cf]
def Ft:List Nat:=[0,4,8,12,1,5,9,13,2,6,10,14,3,7,11,15,0,5,10,15,1,6,11,12,2,7,8,13,3,4,9,14]
def Ie(s:List (BitVec 32)):Nat->List (BitVec 32)
 | 0=>s
 | k+1=>My (Ie s k) (Ft.getD (4*k) 0) (Ft.getD (4*k+1) 0) (Ft.getD (4*k+2) 0) (Ft.getD (4*k+3) 0)
def DQ(s:List (BitVec 32)):Nat->List (BitVec 32)
 | 0=>s
 | k+1=>Ie (DQ s k) 8
theorem Js(s:List (BitVec 32))(k:Nat):(Ie s k).length=s.length:=by
 induction k with
 | zero=>rfl
 | succ k ih=>rw[Ie,NK,ih]
theorem If(s:List (BitVec 32))(k:Nat):(DQ s k).length=s.length:=by
 induction k with
 | zero=>rfl
 | succ k ih=>rw[DQ,Js,ih]
theorem Lo(i:Nat):Ft.getD i 0<16:=by
 have all:∀ j:Fin 32,Ft.getD j.val 0<16:=by decide
 rcases nW i 32 with h|h
 .exact all ⟨i,h⟩
 .rw[List.getD,oS (by simpa[Ft]using h)];decide
def L9(x:BitVec 32):List Int:=[uw x%256,uw x/256%256,uw x/65536%256,uw x/16777216%256]
def ij(s t:List (BitVec 32))(i:Nat):BitVec 32:=s.getD i 0#32+t.getD i 0#32
def T8(s t:List (BitVec 32)):Nat->List Int
 | 0=>[]
 | k+1=>T8 s t k++L9 (ij s t k)
theorem G4(s t:List (BitVec 32))(k:Nat):(T8 s t k).length=4*k:=by
 induction k with
 | zero=>rfl
 | succ k ih=>simp[T8,L9,ih];omega
theorem Qm(x:BitVec 32):∀ n∈L9 x,0<=n/\n<256:=by
 intro n a;simp only[L9,nf,P',or_false]at a;rcases a with rfl|rfl|rfl|rfl<;>omega
theorem WM(s t:List (BitVec 32))(k:Nat):∀ n∈T8 s t k,0<=n/\n<256:=by
 induction k with
 | zero=>intro n a;cases a
 | succ k ih =>
  intro n a;rcases U'.1 a with h|h
  .exact ih n h
  .exact Qm _ n h
def CN(s:List (BitVec 32)):List Int:=T8 (DQ s 10) s 16
theorem EU(s:List (BitVec 32)):(CN s).length=64:=G4 _ _ _
theorem Gk(s:List (BitVec 32)):∀ n∈CN s,0<=n/\n<256:=WM _ _ _
def cS(l:List Int)(i:Nat):BitVec 32:=CK (l.getD (4*i) 0) ||| CK (l.getD (4*i+1) 0) <<< 8 ||| CK (l.getD (4*i+2) 0) <<< 16 ||| CK (l.getD (4*i+3) 0) <<< 24
def DT(s:List (BitVec 32))(off:Nat)(l:List Int):Nat->List (BitVec 32)
 | 0=>s
 | k+1=>(DT s off l k).set (off+k) (cS l k)
theorem Eb(s:List (BitVec 32))(a:Nat)(l:List Int)(k:Nat):(DT s a l k).length=s.length:=by
 induction k with
 | zero=>rfl
 | succ k ih=>simp[DT,ih]
def Iz:List (BitVec 32):=[1634760805#32,857760878#32,2036477234#32,1797285236#32,0#32,0#32,0#32,0#32,0#32,0#32,0#32,0#32,0#32,0#32,0#32,0#32]
def Cd(key:List Int)(c:BitVec 32)(nonce:List Int):List (BitVec 32):=DT ((DT Iz 4 key 8).set 12 c) 13 nonce 3
theorem Hx(key:List Int)(c:BitVec 32)(a:List Int):(Cd key c a).length=16:=by
 simp[Cd,Eb,Iz]
def bx(x y:Int):Int:=((x.toNat ^^^ y.toNat:Nat):Int)
theorem Pe{x y:Int}(a:0<=x/\x<256)(b:0<=y/\y<256):0<=bx x y/\bx x y<256:=by
 unfold bx;have:x.toNat ^^^ y.toNat<2^8:=qb (by omega) (by omega);omega
def OO(s:List (BitVec 32))(i:Nat):Int:=(CN (s.set 12 (s.getD 12 0#32+BitVec.ofNat 32 (i/64)))).getD (i%64) 0
theorem Ul(s:List (BitVec 32))(i:Nat):0<=OO s i/\OO s i<256:=Aj (Gk _) _
def Ds(s:List (BitVec 32))(d:List Int):Nat->List Int
 | 0=>[]
 | k+1=>Ds s d k++[bx (OO s k) (d.getD k 0)]
def QY(s:List (BitVec 32))(d:List Int):List Int:=Ds s d d.length
theorem FI(s:List (BitVec 32))(d:List Int)(k:Nat):(Ds s d k).length=k:=by
 induction k with
 | zero=>rfl
 | succ k ih=>simp[Ds,ih]
theorem QZ(s:List (BitVec 32))(d:List Int):(QY s d).length=d.length:=FI _ _ _
theorem Ts(s:List (BitVec 32))(b:∀ x∈d,0<=x/\x<256)(k:Nat):∀ n∈Ds s d k,0<=n/\n<256:=by
 induction k with
 | zero=>intro n a;cases a
 | succ k ih =>
  intro n a;rcases U'.1 a with h|h
  .exact ih n h
  .obtain rfl:n=_:=by simpa using h
   exact Pe (Ul _ _) (Aj b k)
theorem JH(s:List (BitVec 32))(a:∀ x∈d,0<=x/\x<256):∀ n∈QY s d,0<=n/\n<256:=Ts s a _
theorem CB{c:Array Oper}{Q:Act->Prop}:∀ (l:List Oper) (a:Act),wpQuiet P c (λw'=>w'=w) Q l a->wpStill P c w Q l a
 | [],_,h=>h
 | o::rest,a,h=>by
  unfold wpQuiet at h;unfold wpStill;split
  .rename_i hw
   rw[if_pos hw]at h
   obtain⟨v,h1,h2⟩:=h;have b:=h1 w rfl;unfold Oper.quietAt at b;unfold Oper.still;generalize (execOp a.eval o).run P w=r at b ⊢;cases r with
   | ok n w' =>
    cases n<;>simp only[Oper.quietUpon]at b<;>simp only[Oper.stillUpon]
    case value u =>
     obtain⟨d,e⟩:=b;rw[e];exact⟨d,CB rest _ h2⟩
    case skip =>
     obtain⟨d,e⟩:=b;rw[<- e];exact⟨d,CB rest _ h2⟩
    case enter f args=>exact⟨b.1,v,b.2,CB rest _ h2⟩
   | halt x w'=>simp only[Oper.quietUpon]at b
  .rename_i hw
   rw[if_neg hw]at h
   exact CB rest _ h
theorem Av{d:Nat}{Q:Exit->Act->World->Prop}{a:Act}{l:List Oper}(n:Nat)(c:P.follows .mixedOrders=true)(b:Region.lexTailB .any l.toArray n=true)(h:wpQuiet P l.toArray (λw'=>w'=w.drew) (λa'=>wpList P l.toArray Q (l.drop n) a' w.drew) (l.take n) a):(Code.region d l.toArray true).wp P Q a w :=
 wp_region_still_tail n c b (CB _ _ h)
theorem aS{a b:Int}(h:a=b):Ending.returned (.int .u32 a)=.returned (.int .u32 b):=by rw[h]
theorem im(n:Nat)(a:n<=31):bits .and .u64 (n:Int) 31=(n:Int):=by
 rw[show(31:Int)=((31:Nat):Int)from rfl,u64_and_nat _ _ (by omega) (by omega),nat_mask5];omega
theorem ge(x:BitVec 32)(n:Nat)(a:1<=n)(b:n<=31):bits .or .u32 (uw x*2^n%4294967296) (uw x/2^(32-n))=uw (x.rotateLeft n):=by
 rw[GQ,PY,KC,Ut];rw[BitVec.rotateLeft_def,qJ (by omega:n<32)]
theorem aY(x:BitVec 32)(n:Nat)(w:World)(b:1<=n)(a:n<=31) :
  Calls prog 200 #[.int .u32 (uw x),.int .i64 (n:Int)] w λe w'=>e=.returned (.int .u32 (uw (x.rotateLeft n)))/\w'=w:=by
 have c:=DV x;have d:=cG x;have f:=im n a;go_enter func200,ntmps200
 go_wp2
 go_ret;exact⟨aS (ge x n b a),rfl⟩
theorem fC(v:Int)(x:BitVec 32)(c:v=uw x)(n:Nat)(w:World)(a:1<=n)(b:n<=31) :
  Calls prog 200 #[.int .u32 v,.int .i64 (n:Int)] w λe w'=>e=.returned (.int .u32 (uw (x.rotateLeft n)))/\w'=w:=by
 subst c;exact aY x n w a b
theorem Fv{g:Nat}{a:List (BitVec 32)}(h:w.heap[g]?=some (.cells (AA a) 255 (0,0)))(k:Nat)(x:BitVec 32) :
  (w.setCell ⟨g,k,none⟩ (.int .u32 (uw x))).heap[g]?=some (.cells (AA (a.set k x)) 255 (0,0)):=by
 rw[heap_setCell_same _ _ _ _ _ _ h,Nl]
theorem IK(g:Nat)(c:List (BitVec 32))(w:World)(i:w.heap[g]?=some (.cells (AA c) 255 (0,0)))(r:c.length=16)(a b t n:Nat)(D:a<16)(E:b<16)(F:t<16)(A:1<=n)(B:n<=31) :
  Calls prog 208 #[.pointer (some ⟨g,0,none⟩),.int .i64 a,.int .i64 b,.int .i64 t,.int .i64 n] w λe w'=>e=.returned (.tuple #[])/\w'.heap[g]?=some (.cells (AA (Kk c a b t n)) 255 (0,0))/\Below g w w':=by
 have l:=(cell_of_row w _ a _ _ _ i).trans (Cb c a (by omega));have q:=(cell_of_row w _ b _ _ _ i).trans (Cb c b (by omega));have z:=frozen_of_row w _ a _ _ i;have k:Hid (NE c a b=c.set a (c.getD a 0#32+c.getD b 0#32)):=rfl;have o:Hid _:=i;have m:Hid (c.length=16):=r;clear i r;generalize c.getD a 0#32=x at l k;generalize c.getD b 0#32=y at q k;go_enter func208,ntmps208
 go_wp2_with fail
 refine Av 13 (by kernel_rfl) (by kernel_rfl) ?_;simp only[ou,oF,oH,pg]
 repeat (go_big_quiet_step (fail))
 refine wpQuiet_nil ?_;go_wp2_with fail
 rw[Dv];generalize d:(w.setCell _ _).drew=W1;have f:W1.heap[g]?=some (.cells (AA (NE c a b)) 255 (0,0)):=by rw[<- d,k.out];exact Fv o.out a _
 have u:Below g w W1:=by rw[<- d];exact((Below.refl g w).setCell (p:=⟨g,a,none⟩) (A' _) _).drew
 have h:(NE c a b).length=16:=by rw[Kj];exact m.out
 have j:Hid (Kk c a b t n=(NE c a b).set t (((NE c a b).getD t 0#32 ^^^ (NE c a b).getD a 0#32).rotateLeft n)):=rfl;clear d k o m l q z;generalize NE c a b=vs at f h j;have l:=(cell_of_row W1 _ a _ _ _ f).trans (Cb vs a (by omega));have v:=(cell_of_row W1 _ t _ _ _ f).trans (Cb vs t (by omega));have C:=frozen_of_row W1 _ t _ _ f;generalize vs.getD a 0#32=x2 at l j;generalize vs.getD t 0#32=y2 at v j;have s:Hid _:=f;clear f h;refine Av 17 (by kernel_rfl) (by kernel_rfl) ?_;simp only[ou,oF,oH,pg]
 repeat (go_big_quiet_step (fail))
 go_big_quiet_want
 go_big_quiet_op
 refine⟨_,fC _ (y2 ^^^ x2) (DA y2 x2) n _ A B,?_⟩
 go_big_quiet_on
 repeat (go_big_quiet_step (fail))
 refine wpQuiet_nil ?_;go_wp2
 go_end0
 refine⟨rfl,?_,u.trans (((Below.refl g W1).setCell (p:=⟨g,t,none⟩) (A' _) _).drew)⟩;rw[j.out];exact Fv (w:=W1.drew) s.out t _
theorem Ry(g:Nat)(j:List (BitVec 32))(w:World)(q:w.heap[g]?=some (.cells (AA j) 255 (0,0)))(i:j.length=16)(a b c d:Nat)(k:a<16)(f:b<16)(l:c<16)(h:d<16) :
  Calls prog 201 #[.pointer (some ⟨g,0,none⟩),.int .i64 a,.int .i64 b,.int .i64 c,.int .i64 d] w λe w'=>e=.returned (.tuple #[])/\w'.heap[g]?=some (.cells (AA (My j a b c d)) 255 (0,0))/\Below g w w':=by
 go_enter func201,ntmps201
 go_wp2_with fail
 refine(IK g j w q i a b d 16 k f h (by omega) (by omega)).mono ?_;rintro e v ⟨rfl,r,m⟩;go_wp2_with fail
 refine(IK g _ v r (by rw[Cf];exact i) c d b 12 l h f (by omega) (by omega)).mono ?_;rintro e x ⟨rfl,s,n⟩;go_wp2_with fail
 refine(IK g _ x s (by rw[Cf,Cf];exact i) a b d 8 k f h (by omega) (by omega)).mono ?_;rintro e y ⟨rfl,t,o⟩;go_wp2_with fail
 refine(IK g _ y t (by rw[Cf,Cf,Cf];exact i) c d b 7 l h f (by omega) (by omega)).mono ?_;rintro e z ⟨rfl,u,p⟩;go_wp2
 go_end0
 exact⟨rfl,u,((m.trans n).trans o).trans p⟩
end
end
section
theorem Aw:(prog.info? 5).map (λi=>(i.zero,i.size,i.bytes))=some (some (.int .u8 0),1,1):=by kernel_rfl
end
section
open Go.RowKit
section
theorem JR(x:BitVec 32)(h:uw x<256):uw x*16777216=uw (x <<< 24)/\uw x*65536=uw (x <<< 16)/\uw x*256=uw (x <<< 8):=by
 have d:=DV x;have b:=GQ x 24;have a:=GQ x 16;have c:=GQ x 8;rw[<- b,<- a,<- c];refine⟨?_,?_,?_⟩
 .rw[show(2:Int)^24=16777216 from rfl];omega
 .rw[show(2:Int)^16=65536 from rfl];omega
 .rw[show(2:Int)^8=256 from rfl];omega
theorem Ib(g d n B:Nat)(r:List (BitVec 32))(v:Value)(l:List Int)(w:World)(J:w.heap[g]?=some (.cells (AA r) 255 (0,0)))(Y:r.length=16)(I:d+n<=16)(X:0<n)(h:Sl w v l)(C:l.length=4*n)(t:∀ b o m c,v=.slice (some ⟨b,o,none⟩) m c->b<g) :
  Calls prog 189 #[.slice (some ⟨g,d,none⟩) n B,v] w λe w'=>e=.returned (.tuple #[])/\w'.heap[g]?=some (.cells (AA (DT r d l n)) 255 (0,0))/\Below g w w':=by
 obtain⟨⟨a,E,rfl,S,W,R⟩,D,j⟩:=h;rcases R with rfl|⟨b,o,rfl,hb,hcell⟩
 .simp at C;omega
 have q:=t _ _ _ _ rfl;clear t;rw[C]at S D hcell ⊢
 have x:Hid (∀ i,i<4*n->w.cell? ⟨b,o+i,none⟩=some (.int .u8 (uw (CK (l.getD i 0))))):=λi U=>by rw[Ls _ (Aj j i)];exact hcell i U
 have u:Hid (∀ i,uw (CK (l.getD i 0))<256):=λi=>by rw[Ls _ (Aj j i)];exact(Aj j i).2
 clear C W hcell j;go_enter func189,ntmps189
 go_wp2_with fail
 go_loopw [7] (λi wr=>∃ k:Nat,k<=n/\i=.int .i64 k/\wr.heap[g]?=some (.cells (AA (DT r d l k)) 255 (0,0))/\Below g w wr) (λi _=>n-(intOf i).toNat)
 case atStart=>exact⟨0,by omega,rfl,J,Below.refl _ _⟩
 case round =>
  clear J;obtain⟨k,hk,rfl,z,f⟩:=hrel;by_cases V:k<n
  .have hfw:wr.frozen? ⟨g,d+k,none⟩=false:=frozen_of_row wr _ (d+k) _ _ z;have K:=Cb (DT r d l k) (d+k) (by rw[Eb];omega);have T:wr.cell? ⟨g,d+k,none⟩=some (.int .u32 (uw ((DT r d l k).getD (d+k) 0#32))):=(cell_of_row wr _ (d+k) _ _ _ z).trans K;have c0:=(f.cell (p:=⟨b,o+(4*k),none⟩) q).trans (x.out (4*k) (by omega));have c1:=(f.cell (p:=⟨b,o+(4*k+1),none⟩) q).trans (x.out (4*k+1) (by omega));have P:=(f.cell (p:=⟨b,o+(4*k+2),none⟩) q).trans (x.out (4*k+2) (by omega));have Q:=(f.cell (p:=⟨b,o+(4*k+3),none⟩) q).trans (x.out (4*k+3) (by omega));have Z:=u.out (4*k);have L:=u.out (4*k+1);have M:=u.out (4*k+2);have N:=u.out (4*k+3);obtain⟨A,s,O⟩:∃ A,Hid (A=cS l k)/\Hid (DT r d l (k+1)=(DT r d l k).set (d+k) A):=⟨_,rfl,rfl⟩;unfold cS at s;generalize CK (l.getD (4*k) 0)=x0 at c0 Z s;generalize CK (l.getD (4*k+1) 0)=x1 at c1 L s;generalize CK (l.getD (4*k+2) 0)=x2 at P M s;generalize CK (l.getD (4*k+3) 0)=x3 at Q N s;obtain⟨y1,s1,F⟩:∃ y,uw x1*256=uw y/\x1 <<< 8=y:=⟨_,(JR x1 L).2.2,rfl⟩;obtain⟨y2,s2,G⟩:∃ y,uw x2*65536=uw y/\x2 <<< 16=y:=⟨_,(JR x2 M).2.1,rfl⟩;obtain⟨y3,s3,H⟩:∃ y,uw x3*16777216=uw y/\x3 <<< 24=y:=⟨_,(JR x3 N).1,rfl⟩;rw[F,G,H]at s
   clear F G H;have z0:=DV x0;have z1:=DV x1;have z2:=DV x2;have z3:=DV x3;clear K;go_wp2_with fail
   refine Av 36 (by kernel_rfl) (by kernel_rfl) ?_;simp only[ou,oF,oH,pg]
   repeat (go_big_quiet_step (fail))
   refine wpQuiet_nil ?_;go_wp2
   rw[KC,KC,KC,<- s.out];go_roundw
   case rel=>exact⟨k+1,by omega,by go_num,by rw[O.out];exact Fv z (d+k) A,(f.setCell (p:=⟨g,d+k,none⟩) (A' _) _).drew⟩
   case measure=>simp[intOf];omega
  .have HK:Hid (k=n):=by unfold Hid;omega
   go_wp2
   go_end0
   exact⟨rfl,by rw[<- HK.out];exact z,f⟩
variable{B base cap e g i j k n:Nat}{P:Program}{Q:Exit->Act->World->Prop}{W w w':World}{a:Act}{b c o t x y:Int}{b0 b1 b2 b3 b4 b5 b6 b7:Bool}{fr:Nat × Nat}{h key l m nonce r:List Int}{ops:Array Oper}{ty:TypeId}{v:Value}{xs:List Value}
theorem CU{a:World}(h:Below B a w)(c:B<=g)(b:Array Value):Below B a (w.setRow g b) :=
 h.trans ⟨rfl,rfl,rfl,by simp,λk d=>setRow_other w g k b (by omega)⟩
theorem Og(G H:Value)(key d:List Int)(c:Nat)(w:World)(U:Sl w G key)(V:Sl w H d)(lk:key.length=32)(W:d.length=12)(Y:c<=2000000000) :
  Calls prog 177 #[G,.int .i64 c,H] w λe w'=>e=.returned (.agg (AA (Cd key (BitVec.ofNat 32 c) d)))/\Bw w w':=by
 have S:∀ b o m c,G=.slice (some ⟨b,o,none⟩) m c->b<w.heap.size:=by
  intro b o m c e;obtain⟨⟨a,N,rfl,_,_,O⟩,_,_⟩:=U;rcases O with rfl|⟨b',off',e',hb,_⟩
  .simp at lk
  .rw[e']at e
   simp only[Value.slice.injEq,Y',Addr.mk.injEq,and_true]at e;omega
 have T:∀ b o m c,H=.slice (some ⟨b,o,none⟩) m c->b<w.heap.size:=by
  intro b o m c e;obtain⟨⟨a,N,rfl,_,_,O⟩,_,_⟩:=V;rcases O with rfl|⟨b',off',e',hb,_⟩
  .simp at W
  .rw[e']at e
   simp only[Value.slice.injEq,Y',Addr.mk.injEq,and_true]at e;omega
 go_enter func177,ntmps177
 go_wp2_with fail
 generalize g:(w.alloc _).alloc _=W0;have D:W0.heap[w.heap.size+1]?=some (.cells (AA Iz) 255 (0,0)):=by rw[<- g];exact heap_alloc2_new _ _ _
 have z:W0.heap[w.heap.size]?=some (.cells (AA (List.replicate 16 0#32)) 255 (0,0)):=by rw[<- g];exact heap_alloc2_old _ _ _
 have l:Bw w W0:=by rw[<- g];exact((Below.refl _ _).alloc (A' _) _).alloc (by simp) _
 clear g;refine(Ib (w.heap.size+1) 4 8 12 Iz G key W0 D rfl (by omega) (by omega) (U.af l) lk (λb o m c e=>Nat.lt_succ_of_lt (S b o m c e))).mono ?_;rintro e I ⟨rfl,f,n⟩;have A:=(n.block w.heap.size (by omega)).trans z;have u:Bw w I:=l.trans (n.mono (by omega));have r:(DT Iz 4 key 8).length=16:=by rw[Eb];rfl
 have L:Hid (Cd key (BitVec.ofNat 32 c) d=DT ((DT Iz 4 key 8).set 12 (BitVec.ofNat 32 c)) 13 d 3):=rfl;have x:(c:Int)=uw (BitVec.ofNat 32 c):=by unfold uw;rw[qZ,qJ (by omega)]
 have J:Hid ((c:Int)=uw (BitVec.ofNat 32 c)):=x;clear D z l n x;generalize DT Iz 4 key 8=vs at f r L;have Q:=(cell_of_row I _ 12 _ _ _ f).trans (Cb vs 12 (by omega));have R:=frozen_of_row I _ 12 _ _ f;go_wp2_with fail
 rw[J.out];generalize j:BitVec.ofNat 32 c=cw at L ⊢;have K:Hid (BitVec.ofNat 32 c=cw):=j;clear j;generalize h:I.setCell _ _=W2;have E:W2.heap[w.heap.size+1]?=some (.cells (AA (vs.set 12 cw)) 255 (0,0)):=by rw[<- h];exact Fv f 12 cw
 have B:W2.heap[w.heap.size]?=some (.cells (AA (List.replicate 16 0#32)) 255 (0,0)):=by rw[<- h];exact(heap_setCell_other _ _ _ _ (by simp)).trans A
 have k:Bw w W2:=by rw[<- h];exact u.setCell (p:=⟨w.heap.size+1,12,none⟩) (by simp) _
 clear h f A u Q R;refine(Ib (w.heap.size+1) 13 3 3 (vs.set 12 cw) H d W2 E (by simpa using r) (by omega) (by omega) (V.af k) W (λb o m c e=>Nat.lt_succ_of_lt (T b o m c e))).mono ?_;rintro e X ⟨rfl,s,q⟩;have C:=(q.block w.heap.size (by omega)).trans B;have P:Bw w X:=k.trans (q.mono (by omega));have i:(DT (vs.set 12 cw) 13 d 3).length=16:=by rw[Eb];simpa using r
 clear E B k q;rw[<- L.out]at s i
 generalize F:Cd key cw d=us at s i;have M:Hid (Cd key cw d=us):=F;clear F;have t:(prog.info? 255).map (·.size)=some (AA us).size:=by rw[Bn,i];kernel_rfl
 have y:(AA us).all (·.oneCell')=true:=by simp[AA,Value.oneCell']
 go_wp2_with (first|(refine wpList_load_row rfl 255 _ rfl (w.heap.size+1) rfl 255 _ (0,0) _ s underlying255 rfl t ?_)|(refine wpList_store_row rfl 255 _ _ rfl w.heap.size _ rfl rfl 255 _ C t (by rw[Bn,Bn,i];rfl) y ?_))
 refine bodyPost_ret (v:=.agg (AA us)) (results_cell_row rfl _ _ w.heap.size 255 _ (0,0) _ rfl (setRow_heap X w.heap.size _ _ 255 _ C) underlying255 rfl t) rfl ⟨by rw[K.out,M.out],CU P (A' _) _⟩
def WW:Array Value:=(Ft.map λ(n:Nat)=>Value.int .i64 (n:Int)).toArray
def CW(w:World):Prop:=∃ t fr,w.heap[4]?=some (.cells WW t fr)
theorem CW.af(h:CW w)(a:4<B)(b:Below B w w'):CW w':=by
 obtain⟨t,fr,h⟩:=h;exact⟨t,fr,(b.block _ a).trans h⟩
theorem CW.pos(h:CW w):4<w.heap.size:=by
 obtain⟨t,fr,h⟩:=h;exact(Q'.1 h).1
theorem iT(j:Nat)(a:j<8):∀ w,(Instr.index 279 (.agg WW) (.int .i64 (j:Int))).run prog w=.ok (.agg #[.int .i64 ((Ft.getD (4*j) 0:Nat):Int),.int .i64 ((Ft.getD (4*j+1) 0:Nat):Int),.int .i64 ((Ft.getD (4*j+2) 0:Nat):Int),.int .i64 ((Ft.getD (4*j+3) 0:Nat):Int)]) w:=by
 intro w;obtain rfl|rfl|rfl|rfl|rfl|rfl|rfl|rfl:j=0\/j=1\/j=2\/j=3\/j=4\/j=5\/j=6\/j=7:=by omega
 all_goals kernel_rfl
theorem mP(w:World)(a b c:Obj)(h:((w.alloc a).alloc b).alloc c=W) :
  W.heap[w.heap.size]?=some a/\W.heap[w.heap.size+1]?=some b/\W.heap[w.heap.size+1+1]?=some c/\W.heap.size=w.heap.size+3/\Bw w W:=by
 subst h;refine⟨?_,?_,?_,by simp,(((Below.refl _ _).alloc (A' _) _).alloc (by simp) _).alloc (by simp;omega) _⟩
 .rw[heap_alloc_old _ _ (by simp;omega)];exact heap_alloc2_old w a b
 .rw[heap_alloc_old _ _ (by simp)];exact heap_alloc2_new w a b
 .have:=heap_alloc_new ((w.alloc a).alloc b) c;simpa using this
theorem iZ:∀ (S:List (BitVec 32)),S.length=16->∃ s0 s1 s2 s3 s4 s5 s6 s7 s8 s9 s10 s11 s12 s13 s14 s15,S=[s0,s1,s2,s3,s4,s5,s6,s7,s8,s9,s10,s11,s12,s13,s14,s15]
 | [s0,s1,s2,s3,s4,s5,s6,s7,s8,s9,s10,s11,s12,s13,s14,s15],_=>⟨s0,s1,s2,s3,s4,s5,s6,s7,s8,s9,s10,s11,s12,s13,s14,s15,rfl⟩
theorem ei(S:List (BitVec 32))(a:S.length=16)(j:Nat)(h:j<16):∀ w,(Instr.index 255 (.agg (AA S)) (.int .i64 (j:Int))).run prog w=.ok (.int .u32 (uw (S.getD j 0#32))) w:=by
 intro w;obtain⟨s0,i,k,s3,l,m,n,o,p,q,b,c,d,e,f,g,rfl⟩:=iZ S a;obtain rfl|rfl|rfl|rfl|rfl|rfl|rfl|rfl|rfl|rfl|rfl|rfl|rfl|rfl|rfl|rfl:j=0\/j=1\/j=2\/j=3\/j=4\/j=5\/j=6\/j=7\/j=8\/j=9\/j=10\/j=11\/j=12\/j=13\/j=14\/j=15:=by omega
 all_goals kernel_rfl
theorem Dl{l:List Oper}(h:wpList P ops Q l a w):wpList P ops Q l a w:=h
theorem Gd(w:World)(b c a:Obj):(((w.alloc b).alloc c).alloc a).heap[w.heap.size+1+1]?=some a:=by
 have:=heap_alloc_new ((w.alloc b).alloc c) a;simpa using this
theorem RC(w:World)(a b e:Obj)(d c:Array Value)(t:TypeId)(f:e=.cells c t (0,0))(h:(((w.alloc a).alloc b).alloc e).setRow (w.heap.size+1+1) d=W) :
  W.heap[w.heap.size]?=some a/\W.heap[w.heap.size+1]?=some b/\W.heap[w.heap.size+1+1]?=some (.cells d t (0,0))/\W.heap.size=w.heap.size+3/\Bw w W:=by
 subst h;subst f;have g:=Gd w a b (.cells c t (0,0));refine⟨?_,?_,setRow_heap _ _ _ _ t _ g,by simp,CU ((((Below.refl _ _).alloc (A' _) _).alloc (by simp) _).alloc (by simp;omega) _) (by omega) _⟩
 .rw[setRow_other _ _ _ _ (by omega),heap_alloc_old _ _ (by simp;omega)];exact heap_alloc2_old w a b
 .rw[setRow_other _ _ _ _ (by omega),heap_alloc_old _ _ (by simp)];exact heap_alloc2_new w a b
theorem mJ(A:List Int)(n:Nat)(f g h i a b c d:Int)(R:List Int)(e:A.length=n):((((A++f::g::h::i::R).set n a).set (n+1) b).set (n+2) c).set (n+3) d=A++[a,b,c,d]++R:=by
 subst e;rw[pf _ _ (A' _),pf _ _ (by omega),pf _ _ (by omega),pf _ _ (by omega)];simp
theorem Lg{t:TypeId}(h:w.heap[g]?=some (.cells (AT l) t (0,0)))(k:Nat)(x:Int) :
  (w.setCell ⟨g,k,none⟩ (.int .u8 x)).heap[g]?=some (.cells (AT (l.set k x)) t (0,0)):=by
 rw[heap_setCell_same _ _ _ _ _ _ h,Yb]
theorem LW(w:World)(G k:Nat)(h:k≠G)(a b c d:Nat)(x y z u:Value):((((w.setCell ⟨G,a,none⟩ x).setCell ⟨G,b,none⟩ y).setCell ⟨G,c,none⟩ z).setCell ⟨G,d,none⟩ u).heap[k]?=w.heap[k]?:=by
 rw[heap_setCell_other _ _ _ _ (by simpa using h),heap_setCell_other _ _ _ _ (by simpa using h),heap_setCell_other _ _ _ _ (by simpa using h),heap_setCell_other _ _ _ _ (by simpa using h)]
def Ew(s t:List (BitVec 32))(j:Nat):List Int:=T8 s t j++List.replicate (64-4*j) 0
theorem IY(s t:List (BitVec 32))(j:Nat)(a:j<=16):(Ew s t j).length=64:=by
 rw[Ew,H',G4,oT];omega
theorem TI(s t:List (BitVec 32))(j:Nat)(b:j<16)(x:BitVec 32)(a:ij s t j=x):((((Ew s t j).set (4*j) (uw x%256)).set (4*j+1) (uw x/256%256)).set (4*j+2) (uw x/65536%256)).set (4*j+3) (uw x/16777216%256)=Ew s t (j+1):=by
 have e:List.replicate (64-4*j) (0:Int)=0::0::0::0::List.replicate (64-4*(j+1)) 0:=by
  rw[show 64-4*j=64-4*(j+1)+1+1+1+1 by omega];rfl
 rw[Ew,e,mJ _ _ _ _ _ _ _ _ _ _ _ (G4 s t j),Ew,T8,L9,a]
theorem Id(b:List (BitVec 32))(w:World)(s:b.length=16)(ht:CW w) :
  Calls prog 188 #[.agg (AA b)] w λe w'=>e=.returned (.agg (AT (CN b)))/\Bw w w':=by
 have P:=ht.pos;have f:(prog.info? 255).map (·.size)=some (AA b).size:=by rw[Bn,s];kernel_rfl
 have h:(AA b).all (·.oneCell')=true:=by simp[AA,Value.oneCell']
 go_enter func188,ntmps188
 go_wp2_with ((with_reducible (refine Dl ?_));first
  | (refine wpList_load_row rfl 255 _ rfl w.heap.size rfl 255 _ (0,0) _ (heap_alloc2_old _ _ _) underlying255 rfl f ?_)
  | (refine wpList_store_row rfl 255 _ _ rfl (w.heap.size+1+1) _ rfl rfl 255 (AA (List.replicate 16 0#32)) (Gd _ _ _ _) f (by rw[Bn,Bn,s];rfl) h ?_))
 generalize L:World.setRow _ _ _=W0;obtain⟨E,q,g,a1,A⟩:=RC w _ _ _ _ (AA (List.replicate 16 0#32)) 255 rfl L;clear L;have q:W0.heap[w.heap.size+1]?=some (.cells (AT (List.replicate 64 0)) 224 (0,0)):=q;have Q:CW W0:=ht.af P A
 go_loopw [10] (λi wr=>∃ k:Nat,k<=10/\i=.int .i64 k/\wr.heap[w.heap.size+1+1]?=some (.cells (AA (DQ b k)) 255 (0,0))/\Below (w.heap.size+1+1) W0 wr) (λi _=>10-(intOf i).toNat)
 case atStart=>exact⟨0,by omega,rfl,g,Below.refl _ _⟩
 case round =>
  clear g;obtain⟨k,hk,rfl,g,a⟩:=hrel;by_cases a0:k<10
  .obtain⟨tq,frq,hq⟩:=Q.af (by omega) a;have o:(k:Int)<10:=by omega
   have n:=iT;have y:(prog.info? 279).map (·.size)=some WW.size:=by kernel_rfl
   generalize WW=qa at hq y n;have HT:Hid (DQ b (k+1)=Ie (DQ b k) 8):=rfl;have l:(DQ b k).length=16:=by rw[If];exact s
   generalize DQ b k=S at HT g l;go_wp2_with ((with_reducible (refine Dl ?_));refine wpList_load_row rfl 279 (.global 4) rfl 4 rfl tq _ frq _ hq underlying279 rfl y ?_)
   clear hq
   go_loopw [13] (λi wr=>∃ j:Nat,j<=8/\i=.int .i64 j/\wr.heap[w.heap.size+1+1]?=some (.cells (AA (Ie S j)) 255 (0,0))/\Below (w.heap.size+1+1) W0 wr) (λi _=>8-(intOf i).toNat)
   case atStart=>exact⟨0,by omega,rfl,g,a⟩
   case round =>
    clear g a;obtain⟨j,Y,rfl,g,a⟩:=hrel;have B:=a.size;by_cases Z:j<8
    .have d:=n j Z;have N:(j:Int)<8:=by omega
     have D:Hid (Ie S (j+1)=My (Ie S j) (Ft.getD (4*j) 0) (Ft.getD (4*j+1) 0) (Ft.getD (4*j+2) 0) (Ft.getD (4*j+3) 0)):=rfl;have l0:=Lo (4*j);have l1:=Lo (4*j+1);have l2:=Lo (4*j+2);have l3:=Lo (4*j+3);have O:(Ie S j).length=16:=by rw[Js];exact l
     generalize Ft.getD (4*j) 0=q0 at d D l0;generalize Ft.getD (4*j+1) 0=q1 at d D l1;generalize Ft.getD (4*j+2) 0=q2 at d D l2;generalize Ft.getD (4*j+3) 0=q3 at d D l3;generalize Ie S j=X at D g O;clear n;go_wp2_with fail
     refine(Ry (w.heap.size+1+1) X _ ((heap_alloc_old _ _ (by omega)).trans g) O q0 q1 q2 q3 l0 l1 l2 l3).mono ?_;rintro e w1 ⟨rfl,V,M⟩;have W:Below (w.heap.size+1+1) W0 w1:=(a.alloc (by omega) _).trans M;clear g a M B d;go_wp2
     go_roundw
     case rel=>exact⟨j+1,by omega,by go_num,by rw[D.out];exact V,W⟩
     case measure=>simp[intOf];omega
    .have HJ:Hid (j=8):=by unfold Hid;omega
     have N:¬ (j:Int)<8:=by omega
     go_wp2
     go_roundw
     case rel=>exact⟨k+1,by omega,by go_num,by rw[HT.out,<- HJ.out];exact g,a⟩
     case measure=>simp[intOf];omega
  .have HK:Hid (k=10):=by unfold Hid;omega
   have o:¬ (k:Int)<10:=by omega
   have HB:Hid (k=10->CN b=Ew (DQ b k) b 16):=by rintro rfl;simp[CN,Ew]
   have l:(DQ b k).length=16:=by rw[If];exact s
   generalize DQ b k=S at HB g l;have B:=a.size;have H:=(a.block w.heap.size (by omega)).trans E;have J:=(a.block (w.heap.size+1) (by omega)).trans q;have z:Bw w wr:=A.trans (a.mono (by omega));have u:(prog.info? 255).map (·.size)=some (AA S).size:=by rw[Bn,l];kernel_rfl
   clear E q A a Q;go_wp2_with ((with_reducible (refine Dl ?_));refine wpList_load_row rfl 255 _ rfl (w.heap.size+1+1) rfl 255 _ (0,0) _ ((heap_alloc_old _ _ (by omega)).trans g) underlying255 rfl u ?_)
   have U:w.heap.size+1<wr.heap.size:=by omega
   generalize m:wr.alloc _=W1;have c:W1.heap[wr.heap.size]?=some (.cells (AT (Ew S b 0)) 224 (0,0)):=by rw[<- m];exact heap_alloc_new _ _
   have I:W1.heap[w.heap.size]?=some (.cells (AA b) 255 (0,0)):=by rw[<- m];exact(heap_alloc_old _ _ (by omega)).trans H
   have K:W1.heap[w.heap.size+1]?=some (.cells (AT (List.replicate 64 0)) 224 (0,0)):=by rw[<- m];exact(heap_alloc_old _ _ (by omega)).trans J
   have F:Bw w W1:=by rw[<- m];exact z.alloc z.size _
   clear m H J z B g ht f u h o;generalize wr.heap.size=G at c U ⊢
   go_loopw [28] (λi wr=>∃ j:Nat,j<=16/\i=.int .i64 j/\wr.heap[G]?=some (.cells (AT (Ew S b j)) 224 (0,0))/\wr.heap[w.heap.size]?=some (.cells (AA b) 255 (0,0))/\wr.heap[w.heap.size+1]?=some (.cells (AT (List.replicate 64 0)) 224 (0,0))/\Bw w wr) (λi _=>16-(intOf i).toNat)
   case atStart=>exact⟨0,by omega,rfl,c,I,K,F⟩
   case round =>
    clear c I K F;obtain⟨j,Y,rfl,c,E,q,a⟩:=hrel;by_cases t:j<16
    .have C:(j:Int)<16:=by omega
     have d:=ei S l j t;have cf:=(cell_of_row wr _ j _ _ _ E).trans (Cb b j (by omega));have r:=IY S b j Y;have c0:=(cell_of_row wr _ (4*j) _ _ _ c).trans (Em _ (4*j) (by omega));have c1:=(cell_of_row wr _ (4*j+1) _ _ _ c).trans (Em _ (4*j+1) (by omega));have c2:=(cell_of_row wr _ (4*j+2) _ _ _ c).trans (Em _ (4*j+2) (by omega));have c3:=(cell_of_row wr _ (4*j+3) _ _ _ c).trans (Em _ (4*j+3) (by omega));have f0:=frozen_of_row wr _ (4*j) _ _ c;have f1:=frozen_of_row wr _ (4*j+1) _ _ c;have f2:=frozen_of_row wr _ (4*j+2) _ _ c;have f3:=frozen_of_row wr _ (4*j+3) _ _ c;obtain⟨x,hx,HX⟩:∃ x,(uw (S.getD j 0#32)+uw (b.getD j 0#32))%(4294967296:Int)=uw x/\Hid (ij S b j=x):=⟨_,Dv _ _,rfl⟩;generalize S.getD j 0#32=xa at d hx;generalize b.getD j 0#32=xb at cf hx;have nx:=DV x;have HN:Hid _:=c;have HF:Hid _:=E;have HR:Hid _:=q;have R:Hid _:=a;have T:Hid (((((Ew S b j).set (4*j) (uw x%256)).set (4*j+1) (uw x/256%256)).set (4*j+2) (uw x/65536%256)).set (4*j+3) (uw x/16777216)=Ew S b (j+1)):=by
      have h1:=TI S b j t x HX.out;rw[show uw x/16777216%256=uw x/16777216 by have:=cG x;omega]at h1
      exact h1
     clear c E q a r;go_wp2
     go_roundw
     case rel=>exact⟨j+1,by omega,by go_num,by rw[<- T.out];exact Lg (Lg (Lg (Lg HN.out _ _) _ _) _ _) _ _,(LW wr G _ (by omega) _ _ _ _ _ _ _ _).trans HF.out,(LW wr G _ (by omega) _ _ _ _ _ _ _ _).trans HR.out,
       (((R.out.setCell (p:=⟨G,_,none⟩) (by simp;omega) _).setCell (p:=⟨G,_,none⟩) (by simp;omega) _).setCell (p:=⟨G,_,none⟩) (by simp;omega) _).setCell (p:=⟨G,_,none⟩) (by simp;omega) _⟩
     case measure=>simp[intOf];omega
    .have HJ:Hid (j=16):=by unfold Hid;omega
     have C:¬ (j:Int)<16:=by omega
     have r:=IY S b j Y;have f:(prog.info? 224).map (·.size)=some (AT (Ew S b j)).size:=by rw[AF,r];kernel_rfl
     have h:(AT (Ew S b j)).all (·.oneCell')=true:=by simp[AT,Value.oneCell']
     go_wp2_with ((with_reducible (refine Dl ?_));first|(refine wpList_load_row rfl 224 _ rfl G rfl 224 _ (0,0) _ c underlying224 rfl f ?_)|(refine wpList_store_row rfl 224 _ _ rfl (w.heap.size+1) _ rfl rfl 224 _ q f (by rw[AF,AF,r];rfl) h ?_))
     refine bodyPost_ret (v:=.agg (AT (Ew S b j))) (results_cell_row rfl _ _ (w.heap.size+1) 224 _ (0,0) _ rfl (setRow_heap wr _ _ _ 224 _ q) underlying224 rfl f) rfl ⟨?_,CU a (by omega) _⟩;rw[HB.out HK.out,HJ.out]
def Eo(key nonce:List Int)(c:Int):Int:=if key.length≠32\/nonce.length≠12 then 1 else if c<0\/1073741824<c then 2 else 0
theorem Qs(h:key.length≠32\/nonce.length≠12):Eo key nonce c=1:=by unfold Eo;rw[if_pos h]
theorem Pg(a:key.length=32)(b:nonce.length=12)(h:c<0\/1073741824<c):Eo key nonce c=2:=by unfold Eo;rw[if_neg (by omega),if_pos h]
theorem J1(a:key.length=32)(b:nonce.length=12)(h:0<=c/\c<=1073741824):Eo key nonce c=0:=by unfold Eo;rw[if_neg (by omega),if_neg (by omega)]
theorem K5(g h:Value)(key a:List Int)(c:Int)(w:World)(i:Sl w g key)(j:Sl w h a) :
  Calls prog 175 #[g,.int .i64 c,h] w λe w'=>e=.returned (.int .i64 (Eo key a c))/\w'=w:=by
 obtain⟨⟨k,o,rfl,_,_,_⟩,lk,_⟩:=i;obtain⟨⟨l,p,rfl,_,_,_⟩,r,_⟩:=j;have b:Hid (key.length≠32\/a.length≠12->Eo key a c=1):=Qs;have d:Hid (key.length=32->a.length=12->(c<0\/1073741824<c)->Eo key a c=2):=Pg;have f:Hid (key.length=32->a.length=12->(0<=c/\c<=1073741824)->Eo key a c=0):=J1;generalize Eo key a c=E at b d f ⊢;generalize key.length=n at *;generalize a.length=m at *;go_enter func175,ntmps175
 by_cases q:(n:Int)=32
 .by_cases h2:(m:Int)=12
  .by_cases h3:c<0
   .go_wp2
    go_ret;exact⟨by rw[d.out (by omega) (by omega) (by omega)];rfl,rfl⟩
   .by_cases h4:1073741824<c
    .go_wp2
     go_ret;exact⟨by rw[d.out (by omega) (by omega) (by omega)];rfl,rfl⟩
    .go_wp2
     go_ret;exact⟨by rw[f.out (by omega) (by omega) (by omega)];rfl,rfl⟩
  .go_wp2
   go_ret;exact⟨by rw[b.out (by omega)];rfl,rfl⟩
 .go_wp2
  go_ret;exact⟨by rw[b.out (by omega)];rfl,rfl⟩
theorem J0(w:World)(l:List Int)(o:Obj)(t:TypeId)(a:Array Value)(c:o=.cells a t (0,0))(b:(w.alloc o).setRow w.heap.size (AT l)=W) :
  W.heap[w.heap.size]?=some (.cells (AT l) t (0,0))/\Bw w W/\W.heap.size=w.heap.size+1:=by
 subst b;subst c;exact⟨setRow_heap _ _ _ _ t _ (heap_alloc_new _ _),CU ((Below.refl _ _).alloc (A' _) _) (A' _) _,by simp⟩
theorem Sl.ofRow{t:TypeId}(h:w.heap[g]?=some (.cells (AT l) t fr))(c:l.length<=140737488351232)(a:∀ x∈l,0<=x/\x<256):Sl w (.slice (some ⟨g,0,none⟩) l.length l.length) l:=by
 refine⟨⟨_,l.length,rfl,by simp,by simp,.inr ⟨g,0,rfl,(Q'.1 h).1,λi b=>?_⟩⟩,c,a⟩;rw[nS];exact(cell_of_row w _ i _ _ _ h).trans (Em l i b)
structure Got(w w':World)(v:Value)(l:List Int):Prop where
 sl:Sl w' v l
 se:Bw w w'
 new:∀ b o n c,v=.slice (some ⟨b,o,none⟩) n c->w.heap.size<=b
theorem Yg(k l:Value)(key a:List Int)(c:Nat)(w:World)(t:Sl w k key)(v:Sl w l a)(lk:key.length=32)(y:a.length=12)(E:c<=1073741824)(x:CW w) :
  Calls prog 178 #[k,.int .i64 c,l] w λe w'=>∃ v',e=.returned (.tuple #[v',.int .i64 0])/\Got w w' v' (CN (Cd key (BitVec.ofNat 32 c) a)):=by
 go_enter func178,ntmps178
 go_wp2_with fail
 refine(K5 k l key a c w t v).mono ?_;rintro e C ⟨rfl,rfl⟩;rw[J1 lk y (by omega)];go_wp2_with fail
 refine(Og k l key a c C t v lk y (by omega)).mono ?_;rintro e D ⟨rfl,f⟩;have u:=Hx key (BitVec.ofNat 32 c) a;generalize j:Cd key (BitVec.ofNat 32 c) a=us at u;have p:Hid (Cd key (BitVec.ofNat 32 c) a=us):=j;clear j;go_wp2_with fail
 refine(Id us D u (x.af x.pos f)).mono ?_;rintro e z ⟨rfl,q⟩;have d:=EU us;have g:=Gk us;generalize h:CN us=bs at d g;have m:Hid (CN us=bs):=h;clear h;have s:(prog.info? 224).map (·.size)=some (AT bs).size:=by rw[AF,d];kernel_rfl
 have i:(AT bs).all (·.oneCell')=true:=by simp[AT,Value.oneCell']
 go_wp2_with ((with_reducible (refine Dl ?_));refine wpList_store_row rfl 224 _ _ rfl z.heap.size _ rfl rfl 224 (AT (List.replicate 64 0)) (heap_alloc_new _ _) s (by rw[AF,AF,d];rfl) i ?_)
 generalize r:World.setRow _ _ _=W4;obtain⟨B,A,_⟩:=J0 z bs _ 224 (AT (List.replicate 64 0)) rfl r
 go_ret2
 refine⟨_,rfl,?_,(f.trans (q.mono f.size)).trans (A.mono (mV f.size q.size)),λb o n c e=>?_⟩
 .rw[p.out,m.out];have:=Sl.ofRow B (by omega) g;rw[d]at this
  exact this
 .have:=mV f.size q.size;injection e with e1
  injection e1 with e2
  injection e2 with e3
  omega
theorem UA(c:0<=x/\x<256)(d:0<=y/\y<256):bits .xor .u8 x y=bx x y:=by
 obtain⟨a,rfl⟩:∃ a:Nat,x=a:=⟨x.toNat,by omega⟩;obtain⟨b,rfl⟩:∃ b:Nat,y=b:=⟨y.toNat,by omega⟩;rw[u8_xor_nat _ _ (by omega) (by omega)];rfl
theorem JL(h:w.ownsRow base e 1 v n xs){c:Array Value}{t:TypeId}(a:w.heap[g]?=some (.cells c t fr))(d:t≠e):v.ownBlock≠some g:=by
 intro b;rcases h.2 with⟨rfl,_⟩|⟨g',cap,cur,rfl,_,hg',_⟩
 .simp[Value.ownBlock]at b
 .simp only[Value.ownBlock,Y']at b;subst b;rw[hg']at a
  simp only[Y',Obj.cells.injEq]at a;exact d a.2.1.symm
theorem Fr(h:w.ownsRow base e 1 v n xs)(a:∀ k,v.ownBlock=some k->w'.heap[k]?=w.heap[k]?):w'.ownsRow base e 1 v n xs:=by
 refine⟨h.1,?_⟩;rcases h.2 with h2|⟨g,cap,cur,hv,hb,hg,hr⟩
 .exact .inl h2
 .exact .inr ⟨g,cap,cur,hv,hb,(a g (by rw[hv];rfl)).trans hg,hr⟩
theorem Sl.tN(w:World)(b a:Int)(e:TypeId)(f:g=w.heap.size)(c:0<=b/\b<256)(d:a=b):Sl (w.alloc (.cells #[.int .u8 a] e)) (.slice (some ⟨g,0,none⟩) 1 1) [b]:=by
 subst d;exact Sl.one w a e f c
theorem cH(x:BitVec 32):(uw x+1)%(4294967296:Int)=uw (x+1#32):=Dv x 1#32
theorem S8(c:BitVec 32)(q:Nat):c+BitVec.ofNat 32 q+1#32=c+BitVec.ofNat 32 (q+1):=by
 rw[BitVec.add_assoc]
 congr 1
 apply BitVec.eq_of_toNat_eq;simp[BitVec.toNat_add,BitVec.toNat_ofNat]
def EX(ws:List (BitVec 32))(q:Nat):List (BitVec 32):=ws.set 12 (ws.getD 12 0#32+BitVec.ofNat 32 q)
theorem Qv(a:List (BitVec 32))(q:Nat):(EX a q).length=a.length:=by simp[EX]
theorem VQ(a:List (BitVec 32))(h:a.length=16):EX a 0=a:=by
 unfold EX;rw[show BitVec.ofNat 32 0=0#32 from rfl,BitVec.add_zero,List.getD,E' (by omega),ry,List.set_getElem_self]
theorem dl(a:List (BitVec 32))(q:Nat)(h:a.length=16):(EX a q).getD 12 0#32=a.getD 12 0#32+BitVec.ofNat 32 q:=by
 unfold EX;simp[List.getD,h]
theorem VP(a:List (BitVec 32))(q:Nat)(h:a.length=16):(EX a q).set 12 ((EX a q).getD 12 0#32+1#32)=EX a (q+1):=by
 rw[dl a q h,S8];unfold EX;rw[List.set_set]
theorem RD(a:List (BitVec 32))(q j:Nat)(b:j<64):OO a (64*q+j)=(CN (EX a q)).getD j 0:=by
 unfold OO EX;rw[show(64*q+j)/64=q by omega,show(64*q+j)%64=j by omega]
theorem Sy(f:List (BitVec 32))(vd:Value)(d:List Int)(w:World)(b9:f.length=16)(hd:Sl w vd d)(hl:d.length<=100000)(ht:CW w) :
  Calls prog 176 #[.agg (AA f),vd] w λe w'=>∃ v',e=.returned v'/\w'.ownsRow w.heap.size 5 1 v' (QY f d).length ((QY f d).map (Value.int .u8))/\Bw w w':=by
 obtain⟨i0,hi,d1,d2,d3⟩:=info_parts Aw;have c4:=hd;obtain⟨⟨ad,d9,rfl,hc,hn,h1⟩,e3,c2⟩:=hd;have c9:=ht.pos;generalize c7:d.length=n at *;have HN:Hid (d.length=n):=c7;clear c7 h1 hn;go_enter func176,ntmps176
 go_wp2_with (at_make;refine wpList_make_own _ rfl _ _ 34 rfl w.heap.size 5 i0 (.int .u8 0) 1 underlying34 hi d1 d2 _ _ _ n rfl rfl (by omega) (by rw[d3];omega) (by unfold maxLen;omega) (by simp) ?_)
 intro w1 c8 b4;have b:w1.heap[w.heap.size]?=some (.cells (AA (EX f 0)) 255 (0,0)):=by
  rw[b4.block w.heap.size (by simp) (by simp),VQ f b9];exact heap_alloc_new _ _
 have c1:Bw w w1:=((Below.refl _ _).alloc (A' _) _).grown b4 (by simp) (by simp);have a1:w1.ownsRow w.heap.size 5 1 (.slice (some ⟨w.heap.size+1,0,none⟩) 0 n) (Ds f d 0).length ((Ds f d 0).map (Value.int .u8)):=c8;clear b4 c8 d1 d2 d3 hi;go_wp2_with fail
 go_loopw [5] (λv wr=>∃ (q m:Nat) (a:Option Addr) (z:Nat),m=min (64*q) n/\v=.slice a m z/\wr.ownsRow w.heap.size 5 1 v (Ds f d m).length ((Ds f d m).map (Value.int .u8))/\wr.heap[w.heap.size]?=some (.cells (AA (EX f q)) 255 (0,0))/\Bw w wr) (λv _=>n-ZH v)
 case atStart=>exact⟨0,0,_,_,by omega,rfl,a1,b,c1⟩
 case round =>
  clear a1 b c1;obtain⟨q,m,a,z,hm,rfl,c,b,h⟩:=hrel;have HM:Hid (m=min (64*q) n):=hm;have e0:m<=n:=by omega
  clear hm;have H:w.heap.size<wr.heap.size:=(Q'.1 b).1;by_cases c6:m<n
  .have hmni:(m:Int)<(n:Int):=by omega
   have M:Hid (m=64*q):=by have:=HM.out;unfold Hid;omega
   have b8:(EX f q).length=16:=by rw[Qv];exact b9
   have Y:Hid (∀ j,j<64->OO f (m+j)=(CN (EX f q)).getD j 0):=λj hj=>by rw[M.out];exact RD f q j hj
   have a0:(prog.info? 255).map (·.size)=some (AA (EX f q)).size:=by rw[Bn,b8];kernel_rfl
   have a6:Hid ((EX f q).set 12 ((EX f q).getD 12 0#32+1#32)=EX f (q+1)):=VP f q b9;generalize EX f q=us at b b8 Y a0 a6;go_wp2_with ((with_reducible (refine Dl ?_));refine wpList_load_row rfl 255 _ rfl w.heap.size rfl 255 _ (0,0) _ b underlying255 rfl a0 ?_)
   refine(Id us wr b8 (ht.af c9 h)).mono ?_;rintro e w2 ⟨rfl,b2⟩;have Z:=EU us;have a9:=Gk us;generalize CN us=bs at Z a9 Y;have J:(prog.info? 224).map (·.size)=some (AT bs).size:=by rw[AF,Z];kernel_rfl
   have I:(AT bs).all (·.oneCell')=true:=by simp[AT,Value.oneCell']
   have C:∀ k,Value.ownBlock (.slice a m z)=some k->k<wr.heap.size:=λk K=>(c.lt k K).2;by_cases e2:(64:Int)<=(n:Int)-(m:Int)
   .have a5:Hid (m+64=min (64*(q+1)) n):=by have:=M.out;unfold Hid;omega
    have d8:m+64<=n:=by omega
    have d0:64<=64:=by omega
    go_wp2_with ((with_reducible (refine Dl ?_));refine wpList_store_row rfl 224 _ _ rfl w2.heap.size _ rfl rfl 224 (AT (List.replicate 64 0)) (heap_alloc_new _ _) J (by rw[AF,AF,Z];rfl) I ?_)
    generalize Q:World.setRow _ _ _=W3;obtain⟨F,b3,b7⟩:=J0 w2 bs _ 224 (AT (List.replicate 64 0)) rfl Q;clear Q;have u:Bw wr W3:=b2.trans (b3.mono b2.size);have o:=(u.block w.heap.size H).trans b;have l:=Fr c (λk K=>u.block k (C k K));have R:Bw w W3:=h.trans (u.mono h.size);have b5:w.heap.size<w2.heap.size:=j' H b2.size;clear c b h b2 b3 u C b7 a0 J I c6 hmni;generalize w2.heap.size=g at F b5 ⊢
    go_loopw [5,27] (λv i wr=>∃ (j:Nat) (a:Option Addr) (z:Nat),j<=64/\i=.int .i64 j/\v=.slice a (m+j) z/\wr.ownsRow w.heap.size 5 1 v (Ds f d (m+j)).length ((Ds f d (m+j)).map (Value.int .u8))/\wr.heap[w.heap.size]?=some (.cells (AA us) 255 (0,0))/\wr.heap[g]?=some (.cells (AT bs) 224 (0,0))/\Bw w wr) (λ_ i _=>64-(intOf i).toNat)
    case atStart=>exact⟨0,a,z,by omega,rfl,rfl,l,o,F,R⟩
    case round =>
     clear l o F R;obtain⟨j,a2,P,hj,rfl,rfl,c,b,U,h⟩:=hrel;by_cases d6:j<64
     .have hjri:(j:Int)<(64:Int):=by omega
      have V:=c.lt;have cb:=(cell_of_row wr _ j _ _ _ U).trans (Em bs j (by omega));obtain⟨O,od,rfl,b0,S⟩:∃ O od,ad=some ⟨O,od,none⟩/\O<w.heap.size/\w.cell? ⟨O,od+(m+j),none⟩=some (.int .u8 (d.getD (m+j) 0)):=by
       obtain⟨⟨a',c0,e',_,_,A⟩,_,_⟩:=c4;rw[HN.out]at e' A
       simp only[Value.slice.injEq]at e';obtain⟨rfl,_,_⟩:=e';rcases A with A|⟨b',o',rfl,E,hc'⟩
       .have:=HN.out;rw[A]at this;simp at this;omega
       .exact⟨b',o',rfl,E,hc' (m+j) (by omega)⟩
      have cd:=(h.cell (p:=⟨O,od+(m+j),none⟩) b0).trans S;have y1:=Aj a9 j;have y2:=Aj c2 (m+j);have N:Hid (Ds f d (m+(j+1))=Ds f d (m+j)++[bx (bs.getD j 0) (d.getD (m+j) 0)]):=by
       unfold Hid;rw[<- Y.out j (by omega)];rfl
      have D:=FI f d (m+j);have L:=Pe y1 y2;have t:Hid (bits .xor .u8 (bs.getD j 0) (d.getD (m+j) 0)=bx (bs.getD j 0) (d.getD (m+j) 0)):=UA y1 y2;have s:Hid (0<=bx (bs.getD j 0) (d.getD (m+j) 0)/\bx (bs.getD j 0) (d.getD (m+j) 0)<256):=L;clear L S;generalize bs.getD j 0=x at cb y1 N t s;generalize d.getD (m+j) 0=y at cd y2 N t s;generalize bx x y=xy at N t s;generalize Ds f d (m+j)=pre at c D N;go_wp2_with (at_builtin;refine Aa _ rfl _ _ 34 rfl w.heap.size 5 underlying34 Aw _ _ rfl rfl pre [xy] (c.alloc _) (Sl.tN _ _ _ _ rfl s.out t.out) (by rw[D];simp;omega) (by have:=h.size;simp;omega) ?_)
      intro v' w' ho B;have W:w'.ownsRow w.heap.size 5 1 v' (pre++[xy]).length ((pre++[xy]).map (Value.int .u8)):=by simpa[D]using ho
      have E:Bw w w':=(h.alloc h.size _).grown B (by have:=h.size;simp;omega) (λk K=>(V k K).1);have n1:=JL c b (by decide);have n2:=JL c U (by decide);have a8:w.heap.size<wr.heap.size:=(Q'.1 b).1;have b6:g<wr.heap.size:=(Q'.1 U).1;have G:w'.heap[w.heap.size]?=some (.cells (AA us) 255 (0,0)):=((B.block w.heap.size (by simp;omega) n1.symm).trans (heap_alloc_old _ _ a8)).trans b;have b1:w'.heap[g]?=some (.cells (AT bs) 224 (0,0)):=((B.block g (by simp;omega) n2.symm).trans (heap_alloc_old _ _ b6)).trans U;obtain⟨a3,c3,X⟩:=EH W;rw[H',D,n7]at X
      subst X;clear ho B c V h b U cb cd n1 n2;go_wp2
      go_roundw
      case rel=>exact⟨j+1,a3,c3,by omega,by go_num,rfl,by rw[N.out];exact W,G,b1,E⟩
      case measure=>simp[intOf];omega
     .have hjri:¬ (j:Int)<(64:Int):=by omega
      have HJ:Hid (j=64):=by unfold Hid;omega
      have a7:=(cell_of_row wr _ 12 _ _ _ b).trans (Cb us 12 (by omega));have d5:=frozen_of_row wr _ 12 _ _ b;generalize T:us.getD 12 0#32=cw at a7;have a4:Hid (us.getD 12 0#32=cw):=T;clear T;have c5:=cH cw;have n1:=JL c b (by decide);go_wp2
      go_roundw
      case rel =>
       refine⟨q+1,m+j,a2,P,by rw[HJ.out];exact a5.out,rfl,Fr c (λk K=>heap_setCell_other _ _ _ _ (by simp;intro e;subst e;exact n1 K)),?_,h.setCell (p:=⟨w.heap.size,12,none⟩) (A' _) _⟩;rw[<- a6.out,a4.out];exact Fv b 12 _
      case measure=>simp[ZH];have:=HJ.out;omega
   .obtain⟨r,hrsub⟩:∃ r:Nat,(n:Int)-(m:Int)=(r:Int):=⟨n-m,by omega⟩;have a5:Hid (m+r=min (64*(q+1)) n):=by have:=M.out;unfold Hid;omega
    have d8:m+r<=n:=by omega
    have d0:r<=64:=by omega
    have d7:(r:Int)<=64:=by omega
    have e1:(0:Int)<=(r:Int):=by omega
    have e4:0<r:=by omega
    go_wp2_with ((with_reducible (refine Dl ?_));refine wpList_store_row rfl 224 _ _ rfl w2.heap.size _ rfl rfl 224 (AT (List.replicate 64 0)) (heap_alloc_new _ _) J (by rw[AF,AF,Z];rfl) I ?_)
    generalize Q:World.setRow _ _ _=W3;obtain⟨F,b3,b7⟩:=J0 w2 bs _ 224 (AT (List.replicate 64 0)) rfl Q;clear Q;have u:Bw wr W3:=b2.trans (b3.mono b2.size);have o:=(u.block w.heap.size H).trans b;have l:=Fr c (λk K=>u.block k (C k K));have R:Bw w W3:=h.trans (u.mono h.size);have b5:w.heap.size<w2.heap.size:=j' H b2.size;clear c b h b2 b3 u C b7 a0 J I c6 hmni;generalize w2.heap.size=g at F b5 ⊢
    go_loopw [5,27] (λv i wr=>∃ (j:Nat) (a:Option Addr) (z:Nat),j<=r/\i=.int .i64 j/\v=.slice a (m+j) z/\wr.ownsRow w.heap.size 5 1 v (Ds f d (m+j)).length ((Ds f d (m+j)).map (Value.int .u8))/\wr.heap[w.heap.size]?=some (.cells (AA us) 255 (0,0))/\wr.heap[g]?=some (.cells (AT bs) 224 (0,0))/\Bw w wr) (λ_ i _=>r-(intOf i).toNat)
    case atStart=>exact⟨0,a,z,by omega,rfl,rfl,l,o,F,R⟩
    case round =>
     clear l o F R;obtain⟨j,a2,P,hj,rfl,rfl,c,b,U,h⟩:=hrel;by_cases d6:j<r
     .have hjri:(j:Int)<(r:Int):=by omega
      have V:=c.lt;have cb:=(cell_of_row wr _ j _ _ _ U).trans (Em bs j (by omega));obtain⟨O,od,rfl,b0,S⟩:∃ O od,ad=some ⟨O,od,none⟩/\O<w.heap.size/\w.cell? ⟨O,od+(m+j),none⟩=some (.int .u8 (d.getD (m+j) 0)):=by
       obtain⟨⟨a',c0,e',_,_,A⟩,_,_⟩:=c4;rw[HN.out]at e' A
       simp only[Value.slice.injEq]at e';obtain⟨rfl,_,_⟩:=e';rcases A with A|⟨b',o',rfl,E,hc'⟩
       .have:=HN.out;rw[A]at this;simp at this;omega
       .exact⟨b',o',rfl,E,hc' (m+j) (by omega)⟩
      have cd:=(h.cell (p:=⟨O,od+(m+j),none⟩) b0).trans S;have y1:=Aj a9 j;have y2:=Aj c2 (m+j);have N:Hid (Ds f d (m+(j+1))=Ds f d (m+j)++[bx (bs.getD j 0) (d.getD (m+j) 0)]):=by
       unfold Hid;rw[<- Y.out j (by omega)];rfl
      have D:=FI f d (m+j);have L:=Pe y1 y2;have t:Hid (bits .xor .u8 (bs.getD j 0) (d.getD (m+j) 0)=bx (bs.getD j 0) (d.getD (m+j) 0)):=UA y1 y2;have s:Hid (0<=bx (bs.getD j 0) (d.getD (m+j) 0)/\bx (bs.getD j 0) (d.getD (m+j) 0)<256):=L;clear L S;generalize bs.getD j 0=x at cb y1 N t s;generalize d.getD (m+j) 0=y at cd y2 N t s;generalize bx x y=xy at N t s;generalize Ds f d (m+j)=pre at c D N;go_wp2_with (at_builtin;refine Aa _ rfl _ _ 34 rfl w.heap.size 5 underlying34 Aw _ _ rfl rfl pre [xy] (c.alloc _) (Sl.tN _ _ _ _ rfl s.out t.out) (by rw[D];simp;omega) (by have:=h.size;simp;omega) ?_)
      intro v' w' ho B;have W:w'.ownsRow w.heap.size 5 1 v' (pre++[xy]).length ((pre++[xy]).map (Value.int .u8)):=by simpa[D]using ho
      have E:Bw w w':=(h.alloc h.size _).grown B (by have:=h.size;simp;omega) (λk K=>(V k K).1);have n1:=JL c b (by decide);have n2:=JL c U (by decide);have a8:w.heap.size<wr.heap.size:=(Q'.1 b).1;have b6:g<wr.heap.size:=(Q'.1 U).1;have G:w'.heap[w.heap.size]?=some (.cells (AA us) 255 (0,0)):=((B.block w.heap.size (by simp;omega) n1.symm).trans (heap_alloc_old _ _ a8)).trans b;have b1:w'.heap[g]?=some (.cells (AT bs) 224 (0,0)):=((B.block g (by simp;omega) n2.symm).trans (heap_alloc_old _ _ b6)).trans U;obtain⟨a3,c3,X⟩:=EH W;rw[H',D,n7]at X
      subst X;clear ho B c V h b U cb cd n1 n2;go_wp2
      go_roundw
      case rel=>exact⟨j+1,a3,c3,by omega,by go_num,rfl,by rw[N.out];exact W,G,b1,E⟩
      case measure=>simp[intOf];omega
     .have hjri:¬ (j:Int)<(r:Int):=by omega
      have HJ:Hid (j=r):=by unfold Hid;omega
      have a7:=(cell_of_row wr _ 12 _ _ _ b).trans (Cb us 12 (by omega));have d5:=frozen_of_row wr _ 12 _ _ b;generalize T:us.getD 12 0#32=cw at a7;have a4:Hid (us.getD 12 0#32=cw):=T;clear T;have c5:=cH cw;have n1:=JL c b (by decide);go_wp2
      go_roundw
      case rel =>
       refine⟨q+1,m+j,a2,P,by rw[HJ.out];exact a5.out,rfl,Fr c (λk K=>heap_setCell_other _ _ _ _ (by simp;intro e;subst e;exact n1 K)),?_,h.setCell (p:=⟨w.heap.size,12,none⟩) (A' _) _⟩;rw[<- a6.out,a4.out];exact Fv b 12 _
      case measure=>simp[ZH];have:=HJ.out;omega
  .have hmni:¬ (m:Int)<(n:Int):=by omega
   have d4:Hid (n=m):=by unfold Hid;omega
   go_wp2
   go_ret;refine⟨_,rfl,?_,h⟩;unfold QY;rw[HN.out,d4.out];exact c
theorem eF(g h s:Value)(key a d:List Int)(c:Nat)(w:World)(n:Sl w g key)(p:Sl w h a)(m:Sl w s d)(lk:key.length=32)(r:a.length=12)(E:c<=1073741824)(F:d.length<=2000)(q:CW w) :
  Calls prog 152 #[g,.int .i64 c,h,s] w λe w'=>∃ v',e=.returned (.tuple #[v',.int .i64 0])/\w'.ownsRow w.heap.size 5 1 v' (QY (Cd key (BitVec.ofNat 32 c) a) d).length ((QY (Cd key (BitVec.ofNat 32 c) a) d).map (Value.int .u8))/\Bw w w':=by
 have j:=m;obtain⟨⟨ad,l,rfl,x,z,u⟩,y,v⟩:=m;clear u;have A:(d.length:Int)<=2000:=by omega
 go_enter func152,ntmps152
 go_wp2_with fail
 refine(K5 g h key a c w n p).mono ?_;rintro e C ⟨rfl,rfl⟩;rw[J1 lk r (by omega)];go_wp2_with fail
 refine(Og g h key a c C n p lk r (by omega)).mono ?_;rintro e D ⟨rfl,b⟩;have o:=Hx key (BitVec.ofNat 32 c) a;generalize f:Cd key (BitVec.ofNat 32 c) a=us at o;have i:Hid (Cd key (BitVec.ofNat 32 c) a=us):=f;clear f;go_wp2_with fail
 refine(Sy us _ d D o (j.af b) (by omega) (q.af q.pos b)).mono ?_;rintro e G ⟨B,rfl,k,t⟩;go_wp2
 go_ret2
 refine⟨B,rfl,?_,b.trans (t.mono b.size)⟩;rw[i.out];exact Bf k b.size
def Ai(l:List Int):Array Value:=(l.map (Value.int .u64)).toArray
theorem Ak(l:List Int):(Ai l).size=l.length:=by simp[Ai]
theorem Au(l:List Int)(i:Nat)(h:i<l.length):(Ai l)[i]?=some (.int .u64 (l.getD i 0)):=by
 simp[Ai,List.getD,List.getElem?_eq_getElem h]
theorem ZU(l:List Int)(i:Nat)(x:Int):(Ai l).setIfInBounds i (.int .u64 x)=Ai (l.set i x):=by
 apply pF;simp[Ai,List.map_set]
theorem EF{t:TypeId}(h:w.heap[g]?=some (.cells (Ai l) t (0,0)))(k:Nat)(x:Int) :
  (w.setCell ⟨g,k,none⟩ (.int .u64 x)).heap[g]?=some (.cells (Ai (l.set k x)) t (0,0)):=by
 rw[heap_setCell_same _ _ _ _ _ _ h,ZU]
theorem BL(l:List Int):(Ai l).all (·.oneCell')=true:=by simp[Ai,Value.oneCell']
theorem O6:∀ (S:List Int),S.length=5->∃ a b c d e,S=[a,b,c,d,e]
 | [a,b,c,d,e],_=>⟨a,b,c,d,e,rfl⟩
def val:List Int->Int
 | []=>0
 | x::l=>x+67108864*val l
def Lim(B:Int)(l:List Int):Prop:=l.length=5/\∀ j,0<=l.getD j 0/\l.getD j 0<B
theorem Lim.uf{B a d e:Int}(f:0<=a/\a<B)(g:0<=b/\b<B)(h:0<=c/\c<B)(i:0<=d/\d<B)(k:0<=e/\e<B):Lim B [a,b,c,d,e]:=by
 refine⟨rfl,λj=>?_⟩
 match j with
 | 0=>exact f
 | 1=>exact g
 | 2=>exact h
 | 3=>exact i
 | 4=>exact k
 | j+5=>simp[List.getD];omega
theorem Lim.split{B:Int}(h:Lim B l):∃ a b c d e,l=[a,b,c,d,e]/\(0<=a/\a<B)/\(0<=b/\b<B)/\(0<=c/\c<B)/\(0<=d/\d<B)/\(0<=e/\e<B):=by
 obtain⟨a,b,c,d,e,rfl⟩:=O6 l h.1;exact⟨a,b,c,d,e,rfl,h.2 0,h.2 1,h.2 2,h.2 3,h.2 4⟩
theorem Lim.mono{B C:Int}(h:Lim B l)(a:B<=C):Lim C l:=⟨h.1,λj=>⟨(h.2 j).1,by have:=(h.2 j).2;omega⟩⟩
theorem Dw(a b c d e:Int):val [a,b,c,d,e]=a+67108864*b+4503599627370496*c+302231454903657293676544*d+20282409603651670423947251286016*e:=by
 simp only[val];omega
structure Carr(l m:List Int)(k:Nat)(o:Int):Prop where
 len:m.length=5
 sum:val m+o*67108864^k=val l
 done:∀ j,j<k->0<=m.getD j 0/\m.getD j 0<67108864
 rest:∀ j,k<=j->m.getD j 0=l.getD j 0
 lo:0<=o
 hi:o<274877906944
theorem Carr.zero(h:l.length=5):Carr l l 0 0:=⟨h,by omega,λ_ h=>by omega,λ_ _=>rfl,by omega,by omega⟩
theorem Carr.succ(h:Carr l m k o)(z:Lim 9223372036854775808 l)(K:k<5) :
  Carr l (m.set k ((m.getD k 0+o)%67108864)) (k+1) ((m.getD k 0+o)/67108864):=by
 obtain⟨A,t,u,v,w,rfl,b0,B,C,D,E⟩:=z.split;obtain⟨d,e,g,q,x,rfl⟩:=O6 m h.len;have s:=h.sum;have b:=h.done;have a:=h.rest;have I:=h.lo;have J:=h.hi;rw[Dw]at s
 rw[Dw]at s
 obtain rfl|rfl|rfl|rfl|rfl:k=0\/k=1\/k=2\/k=3\/k=4:=by omega
 .have e0:d=A:=a 0 (by omega);have p:e=t:=a 1 (by omega);have F:g=u:=a 2 (by omega);have G:q=v:=a 3 (by omega);have H:x=w:=a 4 (by omega);simp only[ng,nI];refine⟨rfl,?_,λj c=>?_,λj c=>?_,by omega,by omega⟩
  .rw[Dw,Dw];omega
  .obtain rfl:j=0:=by omega
   simp only[nI];omega
  .obtain⟨j,rfl⟩:∃ i,j=i+1:=⟨j-1,by omega⟩;have:=a (j+1) (by omega);simpa using this
 .have p:e=t:=a 1 (by omega);have f:0<=d/\d<67108864:=b 0 (by omega);simp only[ng,nh,nI,nU];refine⟨rfl,?_,λj c=>?_,λj c=>?_,by omega,by omega⟩
  .rw[Dw,Dw];omega
  .obtain rfl|rfl:j=0\/j=1:=by omega
   .exact f
   .simp only[nI,nU];omega
  .obtain⟨j,rfl⟩:∃ i,j=i+2:=⟨j-2,by omega⟩;have:=a (j+2) (by omega);simpa using this
 .have p:g=u:=a 2 (by omega);have f:0<=d/\d<67108864:=b 0 (by omega);have n:0<=e/\e<67108864:=b 1 (by omega);simp only[ng,nh,nI,nU];refine⟨rfl,?_,λj c=>?_,λj c=>?_,by omega,by omega⟩
  .rw[Dw,Dw];omega
  .obtain rfl|rfl|rfl:j=0\/j=1\/j=2:=by omega
   .exact f
   .exact n
   .simp only[nI,nU];omega
  .obtain⟨j,rfl⟩:∃ i,j=i+3:=⟨j-3,by omega⟩;have:=a (j+3) (by omega);simpa using this
 .have p:q=v:=a 3 (by omega);have f:0<=d/\d<67108864:=b 0 (by omega);have n:0<=e/\e<67108864:=b 1 (by omega);have r:0<=g/\g<67108864:=b 2 (by omega);simp only[ng,nh,nI,nU];refine⟨rfl,?_,λj c=>?_,λj c=>?_,by omega,by omega⟩
  .rw[Dw,Dw];omega
  .obtain rfl|rfl|rfl|rfl:j=0\/j=1\/j=2\/j=3:=by omega
   .exact f
   .exact n
   .exact r
   .simp only[nI,nU];omega
  .obtain⟨j,rfl⟩:∃ i,j=i+4:=⟨j-4,by omega⟩;have:=a (j+4) (by omega);simpa using this
 .have p:x=w:=a 4 (by omega);have f:0<=d/\d<67108864:=b 0 (by omega);have n:0<=e/\e<67108864:=b 1 (by omega);have r:0<=g/\g<67108864:=b 2 (by omega);have y:0<=q/\q<67108864:=b 3 (by omega);simp only[ng,nh,nI,nU];refine⟨rfl,?_,λj c=>?_,λj c=>?_,by omega,by omega⟩
  .rw[Dw,Dw];omega
  .obtain rfl|rfl|rfl|rfl|rfl:j=0\/j=1\/j=2\/j=3\/j=4:=by omega
   .exact f
   .exact n
   .exact r
   .exact y
   .simp only[nI,nU];omega
  .obtain⟨j,rfl⟩:∃ i,j=i+5:=⟨j-5,by omega⟩;simp[List.getD]
theorem Carr.rU(h:Carr l m 5 o):Lim 67108864 m/\val m+1361129467683753853853498429727072845824*o=val l:=by
 refine⟨⟨h.len,λj=>?_⟩,?_⟩
 .by_cases hj:j<5
  .exact h.done j hj
  .rw[He (by have:=h.len;omega)];omega
 .have:=h.sum;omega
def pp:Int:=1361129467683753853853498429727072845819
theorem PZ(h:l.length=5)(t:Nat)(f:t<5)(y:Int):val (l.set t y)=val l+(y-l.getD t 0)*67108864^t:=by
 obtain⟨a,b,c,d,e,rfl⟩:=O6 l h;obtain rfl|rfl|rfl|rfl|rfl:t=0\/t=1\/t=2\/t=3\/t=4:=by omega
 all_goals
  simp only[ng,nh,nI,nU,Dw];omega
def pv(n:List Int):Nat->Int
 | 0=>0
 | k+1=>pv n k+n.getD k 0*67108864^k
theorem Vk{n:List Int}(h:n.length=5):pv n 5=val n:=by
 obtain⟨a,b,c,d,e,rfl⟩:=O6 n h;simp only[pv,nI,nU,Dw];omega
structure Adds(l m r:List Int)(k:Nat):Prop where
 len:r.length=5
 done:∀ j,j<k->r.getD j 0=l.getD j 0+m.getD j 0
 rest:∀ j,k<=j->r.getD j 0=l.getD j 0
theorem Adds.zero(h:l.length=5):Adds l m l 0:=⟨h,λ_ h=>by omega,λ_ _=>rfl⟩
theorem AM(h:k<l.length)(x:Int):(l.set k x).getD k 0=x:=by
 simp[List.getD,h]
theorem AC(h:k≠j)(x:Int):(l.set k x).getD j 0=l.getD j 0:=by
 simp[List.getD,List.getElem?_set_ne h]
theorem Adds.succ(h:Adds l m r k)(b:k<5):Adds l m (r.set k (r.getD k 0+m.getD k 0)) (k+1):=by
 refine⟨by simpa using h.len,λj a=>?_,λj a=>?_⟩
 .by_cases e:k=j
  .subst e;rw[AM (by rw[h.len];omega),h.rest k (by omega)]
  .rw[AC e];exact h.done j (by omega)
 .rw[AC (by omega)];exact h.rest j (by omega)
theorem Adds.rU(h:Adds l m r 5)(a:Lim 67108864 l)(b:Lim 67108864 m):Lim 134217728 r/\val r=val l+val m:=by
 obtain⟨c,d,e,f,g,rfl,b0,v,w,x,y⟩:=a.split;obtain⟨i,j,k,n,o,rfl,c0,c1,z,A,B⟩:=b.split;obtain⟨p,q,s,t,u,rfl⟩:=O6 r h.len;have C:p=c+i:=h.done 0 (by omega);have D:q=d+j:=h.done 1 (by omega);have E:s=e+k:=h.done 2 (by omega);have F:t=f+n:=h.done 3 (by omega);have G:u=g+o:=h.done 4 (by omega);exact⟨Lim.uf (by omega) (by omega) (by omega) (by omega) (by omega),by rw[Dw,Dw,Dw];omega⟩
structure Prods(n m r:List Int)(i j:Nat):Prop where
 len:r.length=5
 sum:val r%pp=(pv n i*val m+n.getD i 0*67108864^i*pv m j)%pp
 low:∀ t,0<=r.getD t 0
 high:∀ t,r.getD t 0<=(5*(i:Int)+(j:Int))*45035996273704960
theorem Prods.zero(n m:List Int):Prods n m [0,0,0,0,0] 0 0:=by
 refine⟨rfl,?_,λt=>?_,λt=>?_⟩
 .simp[pv,val]
 .match t with
  | 0|1|2|3|4=>simp
  | t+5=>simp[List.getD]
 .match t with
  | 0|1|2|3|4=>simp
  | t+5=>simp[List.getD]
theorem Iw(b:0<=x/\x<134217728)(a:0<=y/\y<67108864):0<=x*y/\x*y<=9007199254740992:=by
 refine⟨rM b.1 a.1,?_⟩;have c:=rO (qv b.2) (qv a.2) a.1 (by omega);omega
theorem Prods.te{n:List Int}(h:Prods n m r i j)(c:Lim 134217728 n)(b:Lim 67108864 m)(a:i+j<5) :
  Prods n m (r.set (i+j) (r.getD (i+j) 0+n.getD i 0*m.getD j 0)) i (j+1):=by
 have g:=Iw (c.2 i) (b.2 j);have d:=h.low (i+j);have f:=h.high (i+j);refine⟨by simpa using h.len,?_,λt=>?_,λt=>?_⟩
 .rw[PZ h.len _ a,qx,h.sum,<- qx]
  congr 1
  rw[pY];simp only[pv]
  grind
 .by_cases e:i+j=t
  .subst e;rw[AM (by rw[h.len];omega)];omega
  .rw[AC e];exact h.low t
 .by_cases e:i+j=t
  .subst e;rw[AM (by rw[h.len];omega)];omega
  .rw[AC e];have:=h.high t;omega
theorem Prods.sV{n:List Int}(h:Prods n m r i j)(d:Lim 134217728 n)(c:Lim 67108864 m)(b:5<=i+j)(l:i<5)(o:j<5) :
  Prods n m (r.set (i+j-5) (r.getD (i+j-5) 0+n.getD i 0*m.getD j 0*5)) i (j+1):=by
 have k:=Iw (d.2 i) (c.2 j);have f:=h.low (i+j-5);have g:=h.high (i+j-5);refine⟨by simpa using h.len,?_,λt=>?_,λt=>?_⟩
 .rw[PZ h.len _ (by omega),qx,h.sum,<- qx];have e:(67108864:Int)^i*67108864^j=67108864^(i+j-5)*(pp+5):=by
   rw[<- pY,show pp+5=(67108864:Int)^5 by unfold pp;rfl,<- pY];congr 1;omega
  have a:pv n i*val m+n.getD i 0*67108864^i*pv m (j+1)=pv n i*val m+n.getD i 0*67108864^i*pv m j+(r.getD (i+j-5) 0+n.getD i 0*m.getD j 0*5-r.getD (i+j-5) 0)*67108864^(i+j-5)+pp*(n.getD i 0*m.getD j 0*67108864^(i+j-5)):=by
   simp only[pv]
   grind
  rw[a,qX]
 .by_cases e:i+j-5=t
  .subst e;rw[AM (by rw[h.len];omega)];omega
  .rw[AC e];exact h.low t
 .by_cases e:i+j-5=t
  .subst e;rw[AM (by rw[h.len];omega)];omega
  .rw[AC e];have:=h.high t;omega
theorem Prods.row{n:List Int}(h:Prods n m r i 5)(a:m.length=5):Prods n m r (i+1) 0:=by
 refine⟨h.len,?_,h.low,λt=>?_⟩
 .rw[h.sum,Vk a]
  congr 1
  simp only[pv]
  grind
 .have:=h.high t;omega
theorem Prods.rU{n:List Int}(h:Prods n m r 5 0)(a:n.length=5):Lim 1152921504606846976 r/\val r%pp=(val n*val m)%pp:=by
 refine⟨⟨h.len,λt=>⟨h.low t,?_⟩⟩,?_⟩
 .have:=h.high t;omega
 .rw[h.sum,Vk a];congr 1;simp only[pv];grind
theorem To{n:List Int}(q:Lim 67108864 n)(p:Carr (n.set 0 (n.getD 0 0+5)) m 5 o):Lim 67108864 m/\(0<o->val m=val n%pp)/\(¬ 0<o->val n=val n%pp):=by
 obtain⟨k,l⟩:=p.rU;refine⟨k,?_⟩;have z:=p.lo;obtain⟨a,b,c,d,e,rfl,b0,s,t,u,v⟩:=q.split;obtain⟨f,g,h,i,j,rfl,c0,c1,w,x,y⟩:=k.split;simp only[ng,nI]at l;have r:val [a+5,b,c,d,e]=val [a,b,c,d,e]+5:=by rw[Dw,Dw];omega
 have A:0<=val [a,b,c,d,e]/\val [a,b,c,d,e]<1361129467683753853853498429727072845824:=by rw[Dw];omega
 have B:0<=val [f,g,h,i,j]/\val [f,g,h,i,j]<1361129467683753853853498429727072845824:=by rw[Dw];omega
 rw[r]at l
 generalize val [a,b,c,d,e]=V at *;generalize val [f,g,h,i,j]=M at *;unfold pp;constructor
 .intro ho;obtain rfl:o=1:=by omega
  omega
 .intro ho;obtain rfl:o=0:=by omega
  omega
def leP(l:List Int):Nat->Int
 | 0=>0
 | k+1=>leP l k+l.getD k 0*256^k
def leN(l:List Int):Int:=leP l l.length
theorem ZE(k:Nat)(h:l.length<=k):leP l k=leN l:=by
 obtain⟨d,rfl⟩:∃ d,k=l.length+d:=⟨k-l.length,by omega⟩;clear h;induction d with
 | zero=>rfl
 | succ d ih=>rw[<- oe,leP,ih,He (by omega)];omega
theorem Wx(k:Nat)(h:∀ j,j<k->l.getD j 0=m.getD j 0):leP l k=leP m k:=by
 induction k with
 | zero=>rfl
 | succ k ih=>rw[leP,leP,ih (λj a=>h j (by omega)),h k (by omega)]
theorem Tm(k:Nat):leP (l++m) (l.length+k)=leN l+256^l.length*leP m k:=by
 induction k with
 | zero =>
  simp only[py,leP,Int.mul_zero,Int.add_zero];unfold leN;exact Wx _ (λj a=>by simp[List.getD,List.getElem?_append_left a])
 | succ k ih =>
  rw[<- oe,leP,ih,leP,Int.mul_add,pY];have:(l++m).getD (l.length+k) 0=m.getD k 0:=by simp[List.getD,List.getElem?_append_right]
  rw[this]
  grind
theorem Tl(l m:List Int):leN (l++m)=leN l+256^l.length*leN m:=by
 have h:=Tm (l:=l) (m:=m) m.length;rw[<- H']at h
 exact h
theorem Ww(n:Nat):leN (List.replicate n 0)=0:=by
 unfold leN;generalize (List.replicate n (0:Int)).length=k;induction k with
 | zero=>rfl
 | succ k ih =>
  rw[leP,ih];have:(List.replicate n (0:Int)).getD k 0=0:=by
   rcases nW k n with h|h
   .simp[List.getD,h]
   .exact He (by simpa using h)
  rw[this];omega
structure Reads(b r:List Int)(k:Nat):Prop where
 len:r.length=5
 sum:val r=leP b k
 low:∀ t,0<=r.getD t 0
 high:∀ t,r.getD t 0<=(k:Int)*17179869184
theorem Reads.zero(b:List Int):Reads b [0,0,0,0,0] 0:=by
 refine⟨rfl,rfl,λt=>?_,λt=>?_⟩
 .match t with
  | 0|1|2|3|4=>simp
  | t+5=>simp[List.getD]
 .match t with
  | 0|1|2|3|4=>simp
  | t+5=>simp[List.getD]
theorem Reads.succ{b:List Int}(h:Reads b r k)(c:0<=b.getD k 0/\b.getD k 0<256)(q:Nat)(m:Int)(f:q<5)(a:0<=m/\m<=33554432)(d:m*67108864^q=256^k):Reads b (r.set q (r.getD q 0+b.getD k 0*m)) (k+1):=by
 have g:0<=b.getD k 0*m:=rM c.1 a.1;have i:b.getD k 0*m<=256*33554432:=rO (by omega) a.2 a.1 (by omega);refine⟨by simpa using h.len,?_,λt=>?_,λt=>?_⟩
 .rw[PZ h.len q f,h.sum,leP,<- d]
  grind
 .have:=h.low q;by_cases e:q=t
  .subst e;rw[AM (by rw[h.len];omega)];omega
  .rw[AC e];exact h.low t
 .have:=h.high q;by_cases e:q=t
  .subst e;rw[AM (by rw[h.len];omega)];omega
  .rw[AC e];have:=h.high t;omega
def piece(l:List Int)(k:Nat):List Int:=(l.drop (16*k)).take 16
def KE(R:Int)(l:List Int):Nat->Int
 | 0=>0
 | k+1=>(KE R l k+leN (piece l k++[1]))*R%pp
def P9(l:List Int):Nat:=(l.length+15)/16
def hY(R:Int)(l:List Int):Int:=KE R l (P9 l)
theorem TU:0<pp:=by unfold pp;omega
theorem Sa(R:Int)(l:List Int)(k:Nat):0<=KE R l k/\KE R l k<pp:=by
 cases k with
 | zero=>exact⟨by simp[KE],TU⟩
 | succ k=>exact⟨rF _ (by have:=TU;omega),q' _ TU⟩
theorem XK{n s t:List Int}{R:Int}(b:val n%pp=KE R l k%pp)(a:val m%pp=leN (piece l k++[1])%pp)(d:val s=val n+val m)(c:val r%pp=R%pp)(e:val t%pp=(val s*val r)%pp) :
  val t%pp=KE R l (k+1)%pp:=by
 rw[e,KE,Int.emod_emod_of_dvd _ (Int.dvd_refl _),Int.mul_emod,d,qx,b,a,c,<- qx,<- Int.mul_emod]
theorem Dq(l:List Int)(n i:Nat):(l.drop n).getD i 0=l.getD (n+i) 0:=by simp[List.getD]
theorem BF(l:List Int)(n i:Nat)(h:i<n):(l.take n).getD i 0=l.getD i 0:=by simp[List.getD,h]
theorem Sl.ss{a:Option Addr}(h:Sl w (.slice a n cap) l)(d c:Nat)(m:d<=c)(g:c<=l.length):Sl w (sliced a d c cap 1) ((l.take c).drop d):=by
 have A:=(h.take c g).len;have q:=h.byte;obtain⟨⟨v,o,e,z,t,p⟩,s,r⟩:=h;simp only[Value.slice.injEq]at e;obtain⟨rfl,rfl,rfl⟩:=e;have k:((l.take c).drop d).length=c-d:=by rw[nc,X'];omega
 have f:∀ x∈(l.take c).drop d,0<=x/\x<256:=λx u=>q x (nu (oX u));cases a with
 | none =>
  have c0:=t rfl;subst c0;have y:l.length=0:=by omega
  refine⟨⟨_,_,by rw[k];rfl,by omega,λ_=>by omega,.inl (Z' (by omega))⟩,by omega,f⟩
 | some ad =>
  refine⟨⟨_,_,by rw[k];rfl,by omega,(by intro h;split at h<;>simp at h),?_⟩,by omega,f⟩;rcases Nat.eq_or_lt_of_le m with he|hlt
  .exact .inl (Z' (by omega))
  .rcases p with rfl|⟨b,off,e2,hbs,hcell⟩
   .simp at g;omega
   .simp only[Y']at e2;subst e2;refine .inr ⟨b,off+d,?_,hbs,λi j=>?_⟩
    .rw[if_neg (by omega)];simp[Addr.add]
    .rw[k]at j
     rw[oe,hcell (d+i) (by omega),Dq,BF _ _ _ (by omega)]
theorem I0(w:World):(Go.sizeOf 5).run prog w=.ok 1 w:=by
 obtain⟨i,b,_,a,_⟩:=info_parts Aw;simp[sizeOf,typeInfo,b,a]
theorem Sl.rN{a:Option Addr}(h:Sl w (.slice a n cap) l)(b:Nat)(c:b<=l.length) :
  ∃ a' c',(∀ W,(Instr.slice 34 (.slice a n cap) none (some (.int .i64 (b:Int))) none).run prog W=.ok (.slice a' b c') W)/\Sl w (.slice a' b c') (l.take b):=by
 have i:=h.ss 0 b (by omega) c;obtain⟨⟨a',d,e,k,m,j⟩,g,f⟩:=h;simp only[Value.slice.injEq]at e;obtain⟨rfl,rfl,rfl⟩:=e;refine⟨_,_,λW=>?_,by simpa[sliced]using i⟩;rw[run_slice_h (P:=prog) W 34 a _ cap underlying34 .i64 _ (by omega) (by omega)];have e:prog.elem 34=5:=by kernel_rfl
 rw[e,I0];simp[Result.andThen,sliced]
theorem Sl.from{a:Option Addr}(h:Sl w (.slice a n cap) l)(b:Nat)(c:b<=l.length) :
  ∃ a' c',(∀ W,(Instr.slice 34 (.slice a n cap) (some (.int .i64 (b:Int))) none none).run prog W=.ok (.slice a' (n-b) c') W)/\Sl w (.slice a' (n-b) c') (l.drop b):=by
 have i:=h.ss b l.length c (A' _);obtain⟨⟨a',d,e,k,m,j⟩,g,f⟩:=h;simp only[Value.slice.injEq]at e;obtain⟨rfl,rfl,rfl⟩:=e;refine⟨_,_,λW=>?_,by simpa[sliced]using i⟩;rw[run_slice_l (P:=prog) W 34 a _ cap underlying34 .i64 _ (by omega) (by omega)];have e:prog.elem 34=5:=by kernel_rfl
 rw[e,I0];simp[Result.andThen,sliced]
theorem kl(x:Int)(a:0<=x)(b:x<18446744073709551616):bits .and .u64 x 67108863=x%67108864:=by
 obtain⟨n,rfl⟩:=nL a;rw[show(67108863:Int)=((67108863:Nat):Int)from rfl,u64_and_nat _ _ (by omega) (by omega),show(67108863:Nat)=2^26-1 from rfl,qy];omega
theorem Dh(h:l.length=5):(prog.info? 272).map (·.size)=some (Ai l).size:=by rw[Ak,h];kernel_rfl
theorem Bl{a:World}(h:Below B a w)(c:B<=g)(b:Array Value):Below B a (w.setRow g b) :=
 h.trans ⟨rfl,rfl,rfl,by simp,λk d=>setRow_other w g k b (by omega)⟩
theorem GC{P:Program}{f:Func}{p u:Tmp}{c:TypeId}(h:f.results=#[.cell p c,.tmp u])(a:Array Value)(w:World)(g:Nat)(t:TypeId)(b:Array Value)(fr:Nat × Nat)(d:TypeDesc)(l:a.getD p undef=.pointer (some ⟨g,0,none⟩))(j:w.heap[g]?=some (.cells b t fr))(m:P.underlying c=some d)(i:(match d with|.struct _|.array _ _=>true|_=>false)=true)(k:(P.info? c).map (·.size)=some b.size){v:Value}(n:a.getD u undef=v) :
  (results f a).run P w=.ok (.tuple #[.agg b,v]) w:=by
 have e:a[p]?.getD undef=.pointer (some ⟨g,0,none⟩):=by simpa using l
 rw[results_cell_tmp h,n];simp[e,asAddr,run_loadVar_row w g t c b fr d j m i k]
theorem At{l:List Oper}(h:wpList P ops Q l a w):wpList P ops Q l a w:=h
theorem Ri(l:List Int)(w:World)(j:Lim 9223372036854775808 l) :
  Calls prog 210 #[.agg (Ai l)] w λe w'=>∃ m o,e=.returned (.tuple #[.agg (Ai m),.int .u64 o])/\Carr l m 5 o/\Bw w w':=by
 have s:=j.1;have z:=Dh s;go_enter func210,ntmps210
 go_wp2_with fail
 go_loopw [4,6] (λo i wr=>∃ (k:Nat) (m:List Int) (b:Int),k<=5/\i=.int .i64 k/\o=.int .u64 b/\Carr l m k b/\wr.heap[w.heap.size]?=some (.cells (Ai m) 272 (0,0))/\wr.heap[w.heap.size+1]?=some (.cells (Ai [0,0,0,0,0]) 272 (0,0))/\Bw w wr) (λ_ i _=>5-(intOf i).toNat)
 case atStart=>
  refine⟨0,l,0,by omega,rfl,rfl,Carr.zero s,?_,?_,?_⟩
  .exact heap_alloc2_old _ _ _
  .exact heap_alloc2_new _ _ _
  .exact((Below.refl _ _).alloc (A' _) _).alloc (by simp) _
 case round =>
  obtain⟨k,m,b,D,rfl,rfl,c,f,n,t⟩:=hrel;by_cases g:k<5
  .have h:(k:Int)<5:=by omega
   have y:=(cell_of_row wr _ k _ _ _ f).trans (Au m k (by rw[c.len];omega));have B:=frozen_of_row wr _ k _ _ f;have u:=c.succ j g;have E:=c.lo;have F:=c.hi;have r:m.getD k 0=l.getD k 0:=c.rest k (by omega);have d:=j.2 k;rw[<- r]at d
   have q:Hid (Carr l (m.set k ((m.getD k 0+b)%67108864)) (k+1) ((m.getD k 0+b)/67108864)):=u;clear u c r;generalize m.getD k 0=x at y q d;obtain⟨d,A⟩:=d;have C:=kl (x+b) (by omega) (by omega);go_wp2
   go_roundw
   case rel =>
    refine⟨k+1,_,_,by omega,by go_num,rfl,q.out,?_,?_,?_⟩
    .have h1:=EF (EF f k (x+b)) k ((x+b)%67108864);rw[List.set_set]at h1
     exact h1
    .rw[heap_setCell_other _ _ _ _ (by simp),heap_setCell_other _ _ _ _ (by simp)];exact n
    .exact(t.setCell (p:=⟨w.heap.size,k,none⟩) (A' _) _).setCell (p:=⟨w.heap.size,k,none⟩) (A' _) _
   case measure=>simp[intOf];omega
  .have HK:Hid (k=5):=by unfold Hid;omega
   have h:¬ (k:Int)<5:=by omega
   have a:=Dh c.len;go_wp2_with ((with_reducible (refine At ?_));first
    | (refine wpList_load_row rfl 272 _ rfl w.heap.size rfl 272 _ (0,0) _ f underlying272 rfl a ?_)
    | (refine wpList_store_row rfl 272 _ _ rfl (w.heap.size+1) _ rfl rfl 272 _ n a (by rw[Ak,Ak,c.len];rfl) (BL m) ?_))
   refine bodyPost_ret (v:=.tuple #[.agg (Ai m),.int .u64 b]) (GC rfl _ _ (w.heap.size+1) 272 _ (0,0) _ rfl (setRow_heap wr (w.heap.size+1) _ _ 272 _ n) underlying272 rfl a rfl) rfl ⟨m,b,rfl,by have:=HK.out;subst this;exact c,Bl t (by omega) _⟩
def RZ:Nat->List Int->Prop
 | 0,m=>Lim 1152921504606846976 m
 | 1,m=>Lim 274877906944 m/\val m<1361129467683753853853498429727072845824+274877906944
 | 2,m=>Lim 274877906944 m/\val m<1361129467683753853853498429727072845824
 | _,m=>Lim 67108864 m
theorem RZ.uz:∀ {k:Nat} {m:List Int},RZ k m->Lim 9223372036854775808 m
 | 0,_,h=>Lim.mono h (by omega)
 | 1,_,h=>Lim.mono h.1 (by omega)
 | 2,_,h=>Lim.mono h.1 (by omega)
 | _+3,_,h=>Lim.mono (B:=67108864) h (by omega)
theorem je(a b o:Int)(h:a+1361129467683753853853498429727072845824*o=b):(a+5*o)%pp=b%pp:=by
 rw[<- h,show a+1361129467683753853853498429727072845824*o=a+5*o+pp*o by unfold pp;omega,qX]
theorem RZ.succ(h:RZ k l)(E:k<3)(b:Carr l m 5 o):RZ (k+1) (m.set 0 (m.getD 0 0+o*5))/\val (m.set 0 (m.getD 0 0+o*5))%pp=val l%pp/\0<=m.getD 0 0/\m.getD 0 0<67108864/\0<=o/\o<274877906944:=by
 obtain⟨r,a⟩:=b.rU;obtain⟨d,f,g,i,j,rfl,b0,A,B,C,D⟩:=r.split;have y:=b.lo;have z:=b.hi;simp only[ng,nI];have c:=je _ _ _ a;rw[Dw]at a
 have e:val [d+o*5,f,g,i,j]=val [d,f,g,i,j]+5*o:=by rw[Dw,Dw];omega
 rw[<- e]at c
 refine⟨?_,c,b0.1,b0.2,y,z⟩;obtain rfl|rfl|rfl:k=0\/k=1\/k=2:=by omega
 .obtain⟨t,u,v,w,x,rfl,c0,c1,n,p,q⟩:=Lim.split h;rw[Dw]at a
  refine⟨Lim.uf (by omega) (by omega) (by omega) (by omega) (by omega),?_⟩;rw[Dw];omega
 .obtain⟨h3,h4⟩:=h;obtain⟨t,u,v,w,x,rfl,c0,c1,n,p,q⟩:=Lim.split h3;rw[Dw]at a h4
  refine⟨Lim.uf (by omega) (by omega) (by omega) (by omega) (by omega),?_⟩;rw[Dw];omega
 .obtain⟨h3,h4⟩:=h;have s:o=0:=by omega
  subst s;show Lim 67108864 _;exact Lim.uf (by omega) (by omega) (by omega) (by omega) (by omega)
theorem Kf(l:List Int)(w:World)(I:Lim 1152921504606846976 l) :
  Calls prog 209 #[.agg (Ai l)] w λe w'=>∃ m,e=.returned (.agg (Ai m))/\Lim 67108864 m/\val m%pp=val l%pp/\Bw w w':=by
 have M:=I.1;have N:=Dh M;go_enter func209,ntmps209
 go_wp2_with fail
 go_loopw [4] (λi wr=>∃ (k:Nat) (m:List Int),k<=3/\i=.int .i64 k/\RZ k m/\val m%pp=val l%pp/\wr.heap[w.heap.size]?=some (.cells (Ai m) 272 (0,0))/\wr.heap[w.heap.size+1]?=some (.cells (Ai [0,0,0,0,0]) 272 (0,0))/\w.heap.size+2<=wr.heap.size/\Bw w wr) (λi _=>3-(intOf i).toNat)
 case atStart=>
  refine⟨0,l,by omega,rfl,I,rfl,?_,?_,by simp,?_⟩
  .exact heap_alloc2_old _ _ _
  .exact heap_alloc2_new _ _ _
  .exact((Below.refl _ _).alloc (A' _) _).alloc (by simp) _
 case round =>
  obtain⟨k,m,T,rfl,n,K,B,C,U,E⟩:=hrel;have f:=n.uz.1;have b:=Dh f;by_cases G:k<3
  .have hki:(k:Int)<3:=by omega
   go_wp2_with ((with_reducible (refine At ?_));refine wpList_load_row rfl 272 _ rfl w.heap.size rfl 272 _ (0,0) _ B underlying272 rfl b ?_)
   refine(Ri m wr n.uz).mono ?_;rintro e h ⟨a,o,rfl,d,c⟩;obtain⟨J,A,Q,R,V,W⟩:=n.succ G d;have q:=d.len;have y:=Dh q;have r:=(c.block w.heap.size (by omega)).trans B;have s:=(c.block (w.heap.size+1) (by omega)).trans C;have O:=c.size;have j:Bw w h:=E.trans (c.mono (by omega));have g:=setRow_heap h w.heap.size (Ai m) (Ai a) 272 (0,0) r;have H:(h.setRow w.heap.size (Ai a)).heap[w.heap.size+1]?=some (.cells (Ai [0,0,0,0,0]) 272 (0,0)):=(setRow_other _ _ _ _ (by omega)).trans s;have D:Bw w (h.setRow w.heap.size (Ai a)):=Bl j (A' _) _;have P:(h.setRow w.heap.size (Ai a)).heap.size=h.heap.size:=by simp
   have L:=(cell_of_row _ _ 0 _ _ _ g).trans (Au a 0 (by omega));have S:=frozen_of_row _ _ 0 _ _ g;have t:Hid (RZ (k+1) (a.set 0 (a.getD 0 0+o*5))):=J;have z:Hid (val (a.set 0 (a.getD 0 0+o*5))%pp=val m%pp):=A;have u:Hid (((h.setRow w.heap.size (Ai a)).setCell ⟨w.heap.size,0,none⟩ (.int .u64 (a.getD 0 0+o*5))).heap[w.heap.size]?=some (.cells (Ai (a.set 0 (a.getD 0 0+o*5))) 272 (0,0))):=EF g 0 _;clear E B C c s j n d J A;generalize a.getD 0 0=x at L t z u Q R;go_wp2_with ((with_reducible (refine At ?_));refine wpList_store_row rfl 272 _ _ rfl w.heap.size _ rfl rfl 272 _ r y (by rw[Ak,Ak,q,f]) (BL a) ?_)
   go_roundw
   case rel =>
    refine⟨k+1,_,by omega,by go_num,t.out,z.out.trans K,u.out,?_,?_,?_⟩
    .rw[heap_setCell_other _ _ _ _ (by simp)];exact H
    .simp;omega
    .exact D.setCell (p:=⟨w.heap.size,0,none⟩) (A' _) _
   case measure=>simp[intOf];omega
  .have hki:¬ (k:Int)<3:=by omega
   have F:Lim 67108864 m:=by
    obtain rfl:k=3:=by omega
    exact n
   go_wp2_with ((with_reducible (refine At ?_));first
    | (refine wpList_load_row rfl 272 _ rfl w.heap.size rfl 272 _ (0,0) _ B underlying272 rfl b ?_)
    | (refine wpList_store_row rfl 272 _ _ rfl (w.heap.size+1) _ rfl rfl 272 _ C b (by rw[Ak,Ak,f];rfl) (BL m) ?_))
   refine bodyPost_ret (v:=.agg (Ai m)) (results_cell_row rfl _ _ (w.heap.size+1) 272 _ (0,0) _ rfl (setRow_heap wr (w.heap.size+1) _ _ 272 _ C) underlying272 rfl b) rfl ⟨m,rfl,F,K,Bl E (by omega) _⟩
theorem Ns(n:Int):IntKind.u64.wrap n=n%18446744073709551616:=by simp[IntKind.wrap,IntKind.bits,IntKind.signed]
theorem Tc(S:List Int)(f:S.length=5)(j:Nat)(g:j<5):∀ w,(Instr.index 272 (.agg (Ai S)) (.int .i64 (j:Int))).run prog w=.ok (.int .u64 (S.getD j 0)) w:=by
 intro w;obtain⟨a,b,c,d,e,rfl⟩:=O6 S f;obtain rfl|rfl|rfl|rfl|rfl:j=0\/j=1\/j=2\/j=3\/j=4:=by omega
 all_goals kernel_rfl
theorem Gj(w:World)(a b c:Obj):(((w.alloc a).alloc b).alloc c).heap[w.heap.size]?=some a/\(((w.alloc a).alloc b).alloc c).heap[w.heap.size+1]?=some b/\(((w.alloc a).alloc b).alloc c).heap[w.heap.size+1+1]?=some c/\Bw w (((w.alloc a).alloc b).alloc c):=by
 refine⟨?_,?_,?_,(((Below.refl _ _).alloc (A' _) _).alloc (by simp) _).alloc (by simp;omega) _⟩
 .rw[heap_alloc_old _ _ (by simp;omega)];exact heap_alloc2_old w a b
 .rw[heap_alloc_old _ _ (by simp)];exact heap_alloc2_new w a b
 .have:=heap_alloc_new ((w.alloc a).alloc b) c;simpa using this
theorem Ly(w:World)(a b c d:Obj):((((w.alloc a).alloc b).alloc c).alloc d).heap[w.heap.size]?=some a/\((((w.alloc a).alloc b).alloc c).alloc d).heap[w.heap.size+1]?=some b/\((((w.alloc a).alloc b).alloc c).alloc d).heap[w.heap.size+1+1]?=some c/\((((w.alloc a).alloc b).alloc c).alloc d).heap[w.heap.size+1+1+1]?=some d/\Bw w ((((w.alloc a).alloc b).alloc c).alloc d):=by
 obtain⟨e,f,g,h⟩:=Gj w a b c;refine⟨?_,?_,?_,?_,h.alloc (by simp;omega) _⟩
 .rw[heap_alloc_old _ _ (by simp;omega)];exact e
 .rw[heap_alloc_old _ _ (by simp)];exact f
 .rw[heap_alloc_old _ _ (by simp)];exact g
 .have:=heap_alloc_new (((w.alloc a).alloc b).alloc c) d;simpa using this
theorem aJ(l m:List Int)(w:World)(n:Lim 67108864 l)(d:Lim 67108864 m) :
  Calls prog 203 #[.agg (Ai l),.agg (Ai m)] w λe w'=>∃ r,e=.returned (.agg (Ai r))/\Lim 134217728 r/\val r=val l+val m/\Bw w w':=by
 have C:=n.1;have g:=Dh d.1;go_enter func203,ntmps203
 go_wp2_with ((with_reducible (refine At ?_));(refine wpList_load_row rfl 272 _ rfl (w.heap.size+1) rfl 272 _ (0,0) _ (Gj w _ _ _).2.1 underlying272 rfl g ?_))
 go_loopw [8] (λi wr=>∃ (k:Nat) (r:List Int),k<=5/\i=.int .i64 k/\Adds l m r k/\wr.heap[w.heap.size]?=some (.cells (Ai r) 272 (0,0))/\wr.heap[w.heap.size+1+1]?=some (.cells (Ai [0,0,0,0,0]) 272 (0,0))/\Bw w wr) (λi _=>5-(intOf i).toNat)
 case atStart=>exact⟨0,l,by omega,rfl,Adds.zero C,(Gj w _ _ _).1,(Gj w _ _ _).2.2.1,(Gj w _ _ _).2.2.2⟩
 case round =>
  obtain⟨k,r,G,rfl,j,o,z,A⟩:=hrel;have f:=j.len;by_cases c:k<5
  .have u:(k:Int)<5:=by omega
   have t:=Tc m d.1 k c;have B:=(cell_of_row wr _ k _ _ _ o).trans (Au r k (by omega));have F:=frozen_of_row wr _ k _ _ o;have q:Hid (Adds l m (r.set k (r.getD k 0+m.getD k 0)) (k+1)):=j.succ c;have h:=n.2 k;rw[<- j.rest k (by omega)]at h
   have s:=d.2 k;generalize r.getD k 0=x at B q h;generalize m.getD k 0=y at t q s;obtain⟨h,D⟩:=h;obtain⟨s,E⟩:=s;go_wp2
   go_roundw
   case rel =>
    refine⟨k+1,_,by omega,by go_num,q.out,EF o k _,?_,?_⟩
    .rw[heap_setCell_other _ _ _ _ (by simp;omega)];exact z
    .exact A.setCell (p:=⟨w.heap.size,k,none⟩) (A' _) _
   case measure=>simp[intOf];omega
  .have HK:Hid (k=5):=by unfold Hid;omega
   have u:¬ (k:Int)<5:=by omega
   have a:=Dh f;go_wp2_with ((with_reducible (refine At ?_));first
    | (refine wpList_load_row rfl 272 _ rfl (w.heap.size) rfl 272 _ (0,0) _ o underlying272 rfl a ?_)
    | (refine wpList_store_row rfl 272 _ _ rfl (w.heap.size+1+1) _ rfl rfl 272 _ z a (by rw[Ak,Ak,f];rfl) (BL r) ?_))
   have b:Adds l m r 5:=by have:=HK.out;subst this;exact j
   refine bodyPost_ret (v:=.agg (Ai r)) (results_cell_row rfl _ _ (w.heap.size+1+1) 272 _ (0,0) _ rfl (setRow_heap wr (w.heap.size+1+1) _ _ 272 _ z) underlying272 rfl a) rfl ⟨r,rfl,(b.rU n d).1,(b.rU n d).2,Bl A (by omega) _⟩
theorem X7(n m:List Int)(w:World)(u:Lim 134217728 n)(s:Lim 67108864 m) :
  Calls prog 205 #[.agg (Ai n),.agg (Ai m)] w λe w'=>∃ r,e=.returned (.agg (Ai r))/\Lim 67108864 r/\val r%pp=(val n*val m)%pp/\Bw w w':=by
 have G:=Dh u.1;have F:=Dh s.1;go_enter func205,ntmps205
 go_wp2_with ((with_reducible (refine At ?_));(refine wpList_load_row rfl 272 _ rfl (w.heap.size) rfl 272 _ (0,0) _ (Ly w _ _ _ _).1 underlying272 rfl G ?_))
 go_loopw [11] (λi wr=>∃ (k:Nat) (r:List Int),k<=5/\i=.int .i64 k/\Prods n m r k 0/\wr.heap[w.heap.size+1]?=some (.cells (Ai m) 272 (0,0))/\wr.heap[w.heap.size+1+1]?=some (.cells (Ai [0,0,0,0,0]) 272 (0,0))/\wr.heap[w.heap.size+1+1+1]?=some (.cells (Ai r) 272 (0,0))/\Bw w wr) (λi _=>5-(intOf i).toNat)
 case atStart=>exact⟨0,_,by omega,rfl,Prods.zero n m,(Ly w _ _ _ _).2.1,(Ly w _ _ _ _).2.2.1,(Ly w _ _ _ _).2.2.2.1,(Ly w _ _ _ _).2.2.2.2⟩
 case round =>
  obtain⟨k,r,hk,rfl,b,a,o,d,h⟩:=hrel;have q:=b.len;by_cases D:k<5
  .have O:(k:Int)<5:=by omega
   have c:=Tc n u.1 k D;obtain⟨x,Q⟩:∃ x,n.getD k 0=x:=⟨_,rfl⟩;rw[Q]at c
   have J:Hid (n.getD k 0=x):=Q;clear Q;go_wp2_with ((with_reducible (refine At ?_));(refine wpList_load_row rfl 272 _ rfl (w.heap.size+1) rfl 272 _ (0,0) _ a underlying272 rfl F ?_))
   go_loopw [16] (λi wr=>∃ (j:Nat) (r:List Int),j<=5/\i=.int .i64 j/\Prods n m r k j/\wr.heap[w.heap.size+1]?=some (.cells (Ai m) 272 (0,0))/\wr.heap[w.heap.size+1+1]?=some (.cells (Ai [0,0,0,0,0]) 272 (0,0))/\wr.heap[w.heap.size+1+1+1]?=some (.cells (Ai r) 272 (0,0))/\Bw w wr) (λi _=>5-(intOf i).toNat)
   case atStart=>exact⟨0,r,by omega,rfl,b,a,o,d,h⟩
   case round =>
    clear c;clear b a o d h q;obtain⟨j,r,hj,rfl,b,a,o,d,h⟩:=hrel;have q:=b.len;by_cases C:j<5
    .have N:(j:Int)<5:=by omega
     have c:=Tc m s.1 j C;have f:=Iw (u.2 k) (s.2 j);rw[J.out]at f
     by_cases hs:k+j<5
     .have hsi:(k:Int)+(j:Int)<5:=by omega
      have I:=(cell_of_row _ _ (k+j) _ _ _ d).trans (Au r (k+j) (by omega));have W:=frozen_of_row _ _ (k+j) _ _ d;have g:Hid (Prods n m (r.set (k+j) (r.getD (k+j) 0+x*m.getD j 0)) k (j+1)):=by rw[<- J.out];exact b.te u s hs
      have K:=b.low (k+j);have L:r.getD (k+j) 0<=1152921504606846976:=by have:=b.high (k+j);omega
      generalize r.getD (k+j) 0=z at I g K L;generalize m.getD j 0=y at c g f;obtain⟨U,V⟩:=f;have Y:IntKind.u64.wrap (x*y)=x*y:=by rw[Ns];omega
      have Z:IntKind.u64.wrap (z+x*y)=z+x*y:=by rw[Ns];omega
      clear b;go_wp2
      go_roundw
      case rel =>
       refine⟨j+1,_,by omega,by go_num,g.out,?_,?_,EF d (k+j) _,?_⟩
       .rw[heap_setCell_other _ _ _ _ (by simp)];exact a
       .rw[heap_setCell_other _ _ _ _ (by simp)];exact o
       .exact h.setCell (p:=⟨w.heap.size+1+1+1,k+j,none⟩) (by simp;omega) _
      case measure=>simp[intOf];omega
     .have hsi:¬ (k:Int)+(j:Int)<5:=by omega
      have I:=(cell_of_row _ _ (k+j-5) _ _ _ d).trans (Au r (k+j-5) (by omega));have W:=frozen_of_row _ _ (k+j-5) _ _ d;have g:Hid (Prods n m (r.set (k+j-5) (r.getD (k+j-5) 0+x*m.getD j 0*5)) k (j+1)):=by rw[<- J.out];exact b.sV u s (by omega) D C
      have K:=b.low (k+j-5);have L:r.getD (k+j-5) 0<=1152921504606846976:=by have:=b.high (k+j-5);omega
      generalize r.getD (k+j-5) 0=z at I g K L;generalize m.getD j 0=y at c g f;obtain⟨U,V⟩:=f;have Y:IntKind.u64.wrap (x*y)=x*y:=by rw[Ns];omega
      have e3:IntKind.u64.wrap (x*y*5)=x*y*5:=by rw[Ns];omega
      have Z:IntKind.u64.wrap (z+x*y*5)=z+x*y*5:=by rw[Ns];omega
      clear b;obtain⟨t,ht⟩:∃ t:Nat,k+j=t+5:=⟨k+j-5,by omega⟩;have e4:(k:Int)+(j:Int)-5=(t:Int):=by omega
      have P:k+j-5=t:=by omega
      rw[P]at I W g
      go_wp2
      go_roundw
      case rel =>
       refine⟨j+1,_,by omega,by go_num,g.out,?_,?_,EF d t _,?_⟩
       .rw[heap_setCell_other _ _ _ _ (by simp)];exact a
       .rw[heap_setCell_other _ _ _ _ (by simp)];exact o
       .exact h.setCell (p:=⟨w.heap.size+1+1+1,t,none⟩) (by simp;omega) _
      case measure=>simp[intOf];omega
    .have HJ:Hid (j=5):=by unfold Hid;omega
     have N:¬ (j:Int)<5:=by omega
     go_wp2
     go_roundw
     case rel=>exact⟨k+1,r,by omega,by go_num,by have:=HJ.out;subst this;exact b.row s.1,a,o,d,h⟩
     case measure=>simp[intOf];omega
  .have HK:Hid (k=5):=by unfold Hid;omega
   have O:¬ (k:Int)<5:=by omega
   have E:=Dh q;have B:Prods n m r 5 0:=by have:=HK.out;subst this;exact b
   obtain⟨l5,v5⟩:=B.rU u.1;have R:w.heap.size+1+1<wr.heap.size:=(Q'.1 o).1;clear b B a;go_wp2_with ((with_reducible (refine At ?_));(refine wpList_load_row rfl 272 _ rfl (w.heap.size+1+1+1) rfl 272 _ (0,0) _ d underlying272 rfl E ?_))
   refine(Kf r wr l5).mono ?_;rintro e X ⟨T,rfl,S,v1,A⟩;have H:=(A.block (w.heap.size+1+1) R).trans o;have M:Bw w X:=h.trans (A.mono h.size);have l:=Dh S.1;go_wp2_with ((with_reducible (refine At ?_));(refine wpList_store_row rfl 272 _ _ rfl (w.heap.size+1+1) _ rfl rfl 272 _ H l (by rw[Ak,Ak,S.1];rfl) (BL T) ?_))
   refine bodyPost_ret (v:=.agg (Ai T)) (results_cell_row rfl _ _ (w.heap.size+1+1) 272 _ (0,0) _ rfl (setRow_heap X (w.heap.size+1+1) _ _ 272 _ H) underlying272 rfl l) rfl ⟨T,rfl,S,v1.trans v5,Bl M (by omega) _⟩
theorem QS(w:World)(n:List Int)(_hn:n.length=5){A:World}(e:A=((w.alloc (.cells (Ai n) 272 (0,0))).alloc (.cells (Ai [0,0,0,0,0]) 272 (0,0))).alloc (.cells (Ai [0,0,0,0,0]) 272 (0,0)))(f:A.setRow (w.heap.size+1+1) (Ai n)=W) :
  W.heap[w.heap.size]?=some (.cells (Ai n) 272 (0,0))/\W.heap[w.heap.size+1]?=some (.cells (Ai [0,0,0,0,0]) 272 (0,0))/\W.heap[w.heap.size+1+1]?=some (.cells (Ai n) 272 (0,0))/\Bw w W:=by
 obtain⟨a,b,c,d⟩:=Gj w (.cells (Ai n) 272 (0,0)) (.cells (Ai [0,0,0,0,0]) 272 (0,0)) (.cells (Ai [0,0,0,0,0]) 272 (0,0));rw[<- e]at a b c d
 subst f;refine⟨?_,?_,setRow_heap _ _ _ _ 272 _ c,Bl d (by omega) _⟩
 .rw[setRow_other _ _ _ _ (by omega)];exact a
 .rw[setRow_other _ _ _ _ (by omega)];exact b
theorem Wy(n:List Int)(w:World)(u:Lim 67108864 n) :
  Calls prog 206 #[.agg (Ai n)] w λe w'=>∃ r,e=.returned (.agg (Ai r))/\Lim 67108864 r/\val r=val n%pp/\Bw w w':=by
 have t:=u.1;have c:=Dh t;have S:=u.2 0;have a:(n.set 0 (n.getD 0 0+5)).length=5:=by simpa using t
 have q:Lim 9223372036854775808 (n.set 0 (n.getD 0 0+5)):=by
  refine⟨a,λj=>?_⟩;by_cases e:0=j
  .subst e;rw[AM (by omega)];omega
  .rw[AC e];have:=u.2 j;omega
 have s:=Dh a;have B:Hid (∀ m o,Carr (n.set 0 (n.getD 0 0+5)) m 5 o->Lim 67108864 m/\(0<o->val m=val n%pp)/\(¬ 0<o->val n=val n%pp)):=λm o h=>To u h;have g:Hid (∀ W:World,W.heap[w.heap.size+1+1]?=some (.cells (Ai n) 272 (0,0))->(W.setCell ⟨w.heap.size+1+1,0,none⟩ (.int .u64 (n.getD 0 0+5))).heap[w.heap.size+1+1]?=some (.cells (Ai (n.set 0 (n.getD 0 0+5))) 272 (0,0))):=λW h=>EF h 0 _;have E:Hid (∀ W:World,W.heap[w.heap.size+1+1]?=some (.cells (Ai n) 272 (0,0))->W.cell? ⟨w.heap.size+1+1,0,none⟩=some (.int .u64 (n.getD 0 0))):=λW h=>(cell_of_row W _ 0 _ _ _ h).trans (Au n 0 (by omega));generalize n.set 0 (n.getD 0 0+5)=m0 at q B s g a;generalize n.getD 0 0=x at S g E;obtain⟨x1,x2⟩:=S;obtain⟨A,I⟩:∃ A,A=((w.alloc (.cells (Ai n) 272 (0,0))).alloc (.cells (Ai [0,0,0,0,0]) 272 (0,0))).alloc (.cells (Ai [0,0,0,0,0]) 272 (0,0)):=⟨_,rfl⟩;obtain⟨l,i⟩:∃ W,A.setRow (w.heap.size+1+1) (Ai n)=W:=⟨_,rfl⟩;obtain⟨M,N,s3,O⟩:=QS w n t I i;rw[I]at i
 clear I;have c0:=E.out l s3;have L:=frozen_of_row l _ 0 _ _ s3;have C:=g.out l s3;have P:(l.setCell ⟨w.heap.size+1+1,0,none⟩ (.int .u64 (x+5))).heap[w.heap.size]?=some (.cells (Ai n) 272 (0,0)):=by rw[heap_setCell_other _ _ _ _ (by simp;omega)];exact M
 have Q:(l.setCell ⟨w.heap.size+1+1,0,none⟩ (.int .u64 (x+5))).heap[w.heap.size+1]?=some (.cells (Ai [0,0,0,0,0]) 272 (0,0)):=by rw[heap_setCell_other _ _ _ _ (by simp)];exact N
 have J:Bw w (l.setCell ⟨w.heap.size+1+1,0,none⟩ (.int .u64 (x+5))):=O.setCell (p:=⟨w.heap.size+1+1,0,none⟩) (by simp;omega) _;have U:w.heap.size+1+1<(l.setCell ⟨w.heap.size+1+1,0,none⟩ (.int .u64 (x+5))).heap.size:=(Q'.1 C).1;have F:Hid _:=i;clear i M N s3 O g E;go_enter func206,ntmps206
 go_wp2_with ((with_reducible (refine At ?_));first
  | (refine wpList_load_row rfl 272 _ rfl (w.heap.size) rfl 272 _ (0,0) _ (heap_alloc2_old _ _ _) underlying272 rfl c ?_)
  | (refine wpList_store_row rfl 272 _ _ rfl (w.heap.size+1+1) _ rfl rfl 272 (Ai [0,0,0,0,0]) (Gj w _ _ _).2.2.1 c (by rw[Ak,Ak,t];rfl) (BL n) ?_;refine(congrArg (wpList _ _ _ _ _) F.out).mpr ?_)
  | (refine wpList_load_row rfl 272 _ rfl (w.heap.size+1+1) rfl 272 _ (0,0) _ C underlying272 rfl s ?_))
 refine(Ri m0 _ q).mono ?_;rintro e z ⟨f,o,rfl,k,d⟩;obtain⟨y,G,H⟩:=B.out f o k;have o1:=k.lo;generalize l.setCell _ _=W2 at d P Q C J U;have V:=(d.block w.heap.size (by omega)).trans P;have X:=(d.block (w.heap.size+1) (by omega)).trans Q;have K:=(d.block (w.heap.size+1+1) (by omega)).trans C;have Y:Bw w z:=J.trans (d.mono J.size);have Z:(z.setRow (w.heap.size+1+1) (Ai f)).heap[w.heap.size]?=some (.cells (Ai n) 272 (0,0)):=(setRow_other _ _ _ _ (by omega)).trans V;have D:(z.setRow (w.heap.size+1+1) (Ai f)).heap[w.heap.size+1]?=some (.cells (Ai [0,0,0,0,0]) 272 (0,0)):=(setRow_other _ _ _ _ (by omega)).trans X;have v3:=setRow_heap z (w.heap.size+1+1) _ (Ai f) 272 _ K;have R:Bw w (z.setRow (w.heap.size+1+1) (Ai f)):=Bl Y (by omega) _;have b:=Dh y.1;by_cases T:0<o
 .have g1':=G T;clear G H k B c0 L F;go_wp2_with ((with_reducible (refine At ?_));first
   | (refine wpList_store_row rfl 272 _ _ rfl (w.heap.size+1+1) _ rfl rfl 272 _ K b (by rw[Ak,Ak,y.1,a]) (BL f) ?_)
   | (refine wpList_load_row rfl 272 _ rfl (w.heap.size+1+1) rfl 272 _ (0,0) _ v3 underlying272 rfl b ?_)
   | (refine wpList_store_row rfl 272 _ _ rfl (w.heap.size+1) _ rfl rfl 272 _ D b (by rw[Ak,Ak,y.1];rfl) (BL f) ?_))
  exact bodyPost_ret (v:=.agg (Ai f)) (results_cell_row rfl _ _ (w.heap.size+1) 272 _ (0,0) _ rfl (setRow_heap _ (w.heap.size+1) _ _ 272 _ D) underlying272 rfl b) rfl ⟨f,rfl,y,g1',Bl R (by omega) _⟩
 .have g2':=H (by omega);clear G H k B c0 L F;go_wp2_with ((with_reducible (refine At ?_));first
   | (refine wpList_store_row rfl 272 _ _ rfl (w.heap.size+1+1) _ rfl rfl 272 _ K b (by rw[Ak,Ak,y.1,a]) (BL f) ?_)
   | (refine wpList_load_row rfl 272 _ rfl (w.heap.size) rfl 272 _ (0,0) _ Z underlying272 rfl c ?_)
   | (refine wpList_store_row rfl 272 _ _ rfl (w.heap.size+1) _ rfl rfl 272 _ D c (by rw[Ak,Ak,t];rfl) (BL n) ?_))
  exact bodyPost_ret (v:=.agg (Ai n)) (results_cell_row rfl _ _ (w.heap.size+1) 272 _ (0,0) _ rfl (setRow_heap _ (w.heap.size+1) _ _ 272 _ D) underlying272 rfl c) rfl ⟨n,rfl,u,g2',Bl R (by omega) _⟩
theorem WR(k q a:Nat)(h:a+26*q=8*k)(c:a<26):(0:Int)<=2^a/\(2:Int)^a<=33554432/\(2:Int)^a*67108864^q=256^k:=by
 refine⟨qv (Int.pow_pos (by omega)),?_,?_⟩
 .have h1:(2:Nat)^a<=2^25:=Nat.pow_le_pow_right (by omega) (by omega);have b:(((2:Nat)^a:Nat):Int)<=((2^25:Nat):Int):=Int.ofNat_le.2 h1;rw[pL]at b
  exact b
 .rw[show(67108864:Int)=2^26 from rfl,show(256:Int)=2^8 from rfl,<- Int.pow_mul,<- Int.pow_mul,<- pY,h]
theorem R1(v:Value)(b:List Int)(w:World)(h:Sl w v b)(hl:b.length<=17) :
  Calls prog 207 #[v] w λe w'=>∃ r,e=.returned (.agg (Ai r))/\Lim 67108864 r/\val r%pp=leN b%pp/\Bw w w':=by
 obtain⟨⟨a,a0,rfl,hc,hn,L⟩,W,C⟩:=h;have f:∃ B c,(b≠[]->a=some ⟨B,c,none⟩)/\(b≠[]->B<w.heap.size)/\∀ i,i<b.length->w.cell? ⟨B,c+i,none⟩=some (.int .u8 (b.getD i 0)):=by
  rcases L with rfl|⟨B,c,rfl,s,f⟩
  .exact⟨0,0,λh=>absurd rfl h,λh=>absurd rfl h,λi hi=>by simp at hi⟩
  .exact⟨B,c,λ_=>rfl,λ_=>s,f⟩
 clear L;obtain⟨B,c,ha,hB,u⟩:=f;have HC:Hid (∀ i,i<b.length->w.cell? ⟨B,c+i,none⟩=some (.int .u8 (b.getD i 0))):=u;have HA:Hid (b≠[]->a=some ⟨B,c,none⟩):=ha;have HB:Hid (b≠[]->B<w.heap.size):=hB;have N:Hid (∀ x∈b,0<=x/\x<256):=C;obtain⟨n,K⟩:∃ n,Hid (b.length=n):=⟨_,rfl⟩;rw[K.out]at hl hc W ⊢
 clear u ha hB C hn;go_enter func207,ntmps207
 go_wp2_with fail
 go_loopw [8] (λi wr=>∃ (k:Nat) (r:List Int),k<=n/\i=.int .i64 k/\Reads b r k/\wr.heap[w.heap.size]?=some (.cells (Ai [0,0,0,0,0]) 272 (0,0))/\wr.heap[w.heap.size+1]?=some (.cells (Ai r) 272 (0,0))/\Bw w wr) (λi _=>n-(intOf i).toNat)
 case atStart=>exact⟨0,_,by omega,rfl,Reads.zero b,heap_alloc2_old _ _ _,heap_alloc2_new _ _ _,((Below.refl _ _).alloc (A' _) _).alloc (by simp) _⟩
 case round =>
  obtain⟨k,r,hk,rfl,g,X,M,s⟩:=hrel;have G:=g.len;by_cases V:k<n
  .have U:(k:Int)<(n:Int):=by omega
   have E:b≠[]:=by intro e;have:=K.out;rw[e]at this;simp at this;omega
   have hA:=HA.out E;subst hA;have T:=HB.out E;have ck:=(s.cell (p:=⟨B,c+k,none⟩) T).trans (HC.out k (by rw[K.out];exact V));have l:=Aj N.out k;have O:Hid (∀ (q:Nat) (m:Int),q<5->0<=m/\m<=33554432->m*67108864^q=256^k->Reads b (r.set q (r.getD q 0+b.getD k 0*m)) (k+1)):=λq m L Q R=>g.succ l q m L Q R;have HR:Hid (∀ t,0<=r.getD t 0/\r.getD t 0<=300000000000):=λt=>⟨g.low t,by have:=g.high t;omega⟩;have J:Hid (∀ t,t<5->wr.cell? ⟨w.heap.size+1,t,none⟩=some (.int .u64 (r.getD t 0))):=λt ht=>(cell_of_row _ _ t _ _ _ M).trans (Au r t (by omega));have HF:Hid (∀ t,wr.frozen? ⟨w.heap.size+1,t,none⟩=false):=λt=>frozen_of_row _ _ t _ _ M;have P:Hid (∀ t x,(wr.setCell ⟨w.heap.size+1,t,none⟩ (.int .u64 x)).heap[w.heap.size+1]?=some (.cells (Ai (r.set t x)) 272 (0,0))):=λt x=>EF M t x;generalize b.getD k 0=x at ck O l;obtain⟨x1,x2⟩:=l;clear g;obtain⟨q,hq⟩:∃ q,8*k/26=q:=⟨_,rfl⟩;have F:q<5:=by omega
   have cq:=J.out q F;have fq:=HF.out q;have rq:=HR.out q;have z:Hid (∀ (m:Int),0<=m/\m<=33554432->m*67108864^q=256^k->Reads b (r.set q (r.getD q 0+x*m)) (k+1)):=λm Q R=>O.out q m F Q R;generalize r.getD q 0=y at cq rq z;obtain⟨y1,y2⟩:=rq;obtain⟨d,a1⟩:∃ d,8*k%26=d:=⟨_,rfl⟩;have o:d<26:=by omega
   have i1:(8*(k:Int))/26=(q:Int):=by omega
   have i2:(8*(k:Int))%26=(d:Int):=by omega
   have i3:Int.tdiv (8*(k:Int)) 26=(q:Int):=by rw[qY (by omega)];exact i1
   have i4:Int.tmod (8*(k:Int)) 26=(d:Int):=by rw[Int.tmod_eq_emod_of_nonneg (by omega)];exact i2
   have HP:Hid ((0:Int)<=2^d/\(2:Int)^d<=33554432/\(2:Int)^d*67108864^q=256^k):=WR k q d (by omega) o;clear hq J HF HR O;go_wp2_with fail
   refine Av 13 (by kernel_rfl) (by kernel_rfl) ?_;simp only[ou,oF,oH,pg]
   repeat (go_big_quiet_step (fail))
   refine wpQuiet_nil ?_;go_wp2
   obtain⟨p1,p2,p3⟩:=HP.out;have q1:0<=x*2^d:=rM x1 p1;have q2:x*2^d<=256*33554432:=rO (by omega) p2 p1 (by omega);rw[show IntKind.u64.wrap (x*2^d)=x*2^d by rw[Ns];omega,show IntKind.u64.wrap (y+x*2^d)=y+x*2^d by rw[Ns];omega];go_roundw
   case rel =>
    refine⟨k+1,_,by omega,by go_num,z.out (2^d) ⟨p1,p2⟩ p3,?_,P.out q _,?_⟩
    .exact(heap_setCell_other _ _ _ _ (by simp)).trans X
    .exact(s.setCell (p:=⟨w.heap.size+1,q,none⟩) (by simp) _).drew
   case measure=>simp[intOf];omega
  .have J:Hid (k=n):=by unfold Hid;omega
   have U:¬ (k:Int)<(n:Int):=by omega
   have H:=Dh G;have D:Lim 1152921504606846976 r:=⟨G,λt=>⟨g.low t,by have:=g.high t;omega⟩⟩;have HV:Hid (val r=leN b):=by
    unfold Hid;rw[g.sum,J.out,<- K.out];rfl
   have Y:w.heap.size<wr.heap.size:=(Q'.1 X).1;clear g;go_wp2_with ((with_reducible (refine At ?_));(refine wpList_load_row rfl 272 _ rfl (w.heap.size+1) rfl 272 _ (0,0) _ M underlying272 rfl H ?_))
   refine(Kf r wr D).mono ?_;rintro e w1 ⟨r1,rfl,Z,v1,A⟩;have I:=(A.block w.heap.size Y).trans X;have S:Bw w w1:=s.trans (A.mono s.size);have j:=Dh Z.1;go_wp2_with ((with_reducible (refine At ?_));(refine wpList_store_row rfl 272 _ _ rfl (w.heap.size) _ rfl rfl 272 _ I j (by rw[Ak,Ak,Z.1];rfl) (BL r1) ?_))
   exact bodyPost_ret (v:=.agg (Ai r1)) (results_cell_row rfl _ _ (w.heap.size) 272 _ (0,0) _ rfl (setRow_heap w1 (w.heap.size) _ _ 272 _ I) underlying272 rfl j) rfl ⟨r1,rfl,Z,by rw[v1,HV.out],Bl S (A' _) _⟩
def byA(l:List Int):Array Value:=(l.map (Value.int .u8)).toArray
theorem dg(l:List Int)(i:Nat)(x:Int):(byA l).setIfInBounds i (.int .u8 x)=byA (l.set i x):=by
 apply pF;simp[byA,List.map_set]
theorem GX{t:TypeId}(h:w.heap[g]?=some (.cells (byA l) t (0,0)))(k:Nat)(x:Int) :
  (w.setCell ⟨g,k,none⟩ (.int .u8 x)).heap[g]?=some (.cells (byA (l.set k x)) t (0,0)):=by
 rw[heap_setCell_same _ _ _ _ _ _ h,dg]
theorem IC(l:List Int)(i:Nat)(h:i<l.length):(byA l)[i]?=some (.int .u8 (l.getD i 0)):=by
 simp[byA,List.getD,List.getElem?_eq_getElem h]
theorem Zm:(prog.info? 5).map (·.size)=some 1:=by kernel_rfl
theorem Jk(l:List Int)(n:Nat):splice ((List.replicate n (0:Int)).map (Value.int .u8)) 0 (l.map (Value.int .u8))=(l++List.replicate (n-l.length) 0).map (Value.int .u8):=by
 have e:(List.replicate n (0:Int)).map (Value.int .u8)=List.replicate n (Value.int .u8 0):=qd;rw[e];simp only[splice,oF,oU,nw,nS,List.drop_replicate,nE,qd]
theorem Sl.src{i:Option Addr}{c:Nat}(h:Sl w (.slice i n c) l)(q:0<l.length):∃ ad,i=some ad/\∀ (j:Nat) (v:Value),(l.map (Value.int .u8))[j]?=some v->w.cell? (ad.add j)=some v:=by
 obtain⟨⟨a,k,e,r,s,m⟩,p,o⟩:=h;simp only[Value.slice.injEq]at e;obtain⟨rfl,rfl,rfl⟩:=e;rcases m with rfl|⟨b,off,rfl,_,hcell⟩
 .simp at q
 .refine⟨_,rfl,λj v g=>?_⟩;have d:j<l.length:=by
   have:=(V'.1 g).1;simpa using this
  have f:(⟨b,off,none⟩:Addr).add j=⟨b,off+j,none⟩:=by unfold Addr.add;split<;>simp_all
  rw[f,hcell j d];simp[List.getElem?_eq_getElem d]at g
  rw[AY d,g]
theorem Sl.ug{t:TypeId}(h:w.heap[g]?=some (.cells (byA l) t fr))(c:l.length<=140737488351232)(a:∀ x∈l,0<=x/\x<256):Sl w (.slice (some ⟨g,0,none⟩) l.length l.length) l:=by
 refine⟨⟨_,l.length,rfl,by simp,by simp,.inr ⟨g,0,rfl,(Q'.1 h).1,λi b=>?_⟩⟩,c,a⟩;rw[cell_of_row _ _ (0+i) _ _ _ h,nS,IC l i b]
theorem Sl.rowOf{t:TypeId}(h:w.heap[g]?=some (.cells (byA l) t fr))(c:l.length=n)(b:l.length<=140737488351232)(a:∀ x∈l,0<=x/\x<256):Sl w (.slice (some ⟨g,0,none⟩) n n) l:=by
 subst c;exact Sl.ug h b a
theorem ZO(l:List Int)(h:l.length<=16):(l++List.replicate (17-l.length) 0).set l.length 1=l++[1]++List.replicate (16-l.length) 0:=by
 rw[pf _ _ (A' _),show 17-l.length=16-l.length+1 by omega,List.replicate_succ];simp
theorem ZN(l:List Int)(n:Nat):leN (l++[1]++List.replicate n 0)=leN (l++[1]):=by
 rw[Tl,Ww];omega
theorem Rq(v:Value)(l:List Int)(w:World)(h:Sl w v l)(N:l.length<=16) :
  Calls prog 204 #[v] w λe w'=>∃ r,e=.returned (.agg (Ai r))/\Lim 67108864 r/\val r%pp=leN (l++[1])%pp/\Bw w w':=by
 have H:=h;obtain⟨⟨a,J,rfl,T,P,M⟩,O,q⟩:=h;have u:Hid (∀ x∈l,0<=x/\x<256):=q;have E:=ZO l N;have k:=ZN l (16-l.length);clear M q P;go_enter func204,ntmps204
 go_wp2_with (refine wpList_copy_splice rfl _ _ 34 34 rfl 5 underlying34 Zm _ _ _ _ _ _ rfl rfl (w.heap.size+1) 0 ((List.replicate 17 (0:Int)).map (Value.int .u8)) 287 (heap_alloc2_new _ _ _) (l.map (Value.int .u8)) (by rw[nw];exact(oG (show l.length<=17 by omega)).symm) (λQ=>⟨rfl,(H.af (((Below.refl _ _).alloc (A' _) _).alloc (by simp) _)).src (by simpa using Q)⟩) (by rw[nw,nw,oT];omega) (Fo _) (w.heap.size+1) _ (Below.refl _ _) (A' _) ?_)
 intro f D g;have c:f.heap[w.heap.size+1]?=some (.cells (byA (l++List.replicate (17-l.length) 0)) 287 (0,0)):=by
  have F:f.heap[w.heap.size+1]?=some (.cells (splice ((List.replicate 17 (0:Int)).map (Value.int .u8)) 0 (l.map (Value.int .u8))).toArray 287 (0,0)):=D.out;rw[Jk]at F
  exact F
 have y:Bw w f:=(((Below.refl _ _).alloc (A' _) _).alloc (by simp) _).trans (g.mono (by omega));have A:f.heap[w.heap.size]?=some (.cells (Ai [0,0,0,0,0]) 272 (0,0)):=by
  rw[g.block _ (by omega)];exact heap_alloc2_old _ _ _
 clear D g;have G:(l++List.replicate (17-l.length) (0:Int)).length=17:=by simp;omega
 have K:=(cell_of_row _ _ l.length _ _ _ c).trans (IC _ l.length (by omega));have fl:=frozen_of_row _ _ l.length _ _ c;have i:=GX c l.length 1;rw[E]at i
 have s:(f.setCell ⟨w.heap.size+1,l.length,none⟩ (.int .u8 1)).heap[w.heap.size]?=some (.cells (Ai [0,0,0,0,0]) 272 (0,0)):=(heap_setCell_other _ _ _ _ (by simp)).trans A;have n:Bw w (f.setCell ⟨w.heap.size+1,l.length,none⟩ (.int .u8 1)):=y.setCell (p:=⟨w.heap.size+1,l.length,none⟩) (by simp) _;have B:w.heap.size<(f.setCell ⟨w.heap.size+1,l.length,none⟩ (.int .u8 1)).heap.size:=(Q'.1 s).1;have s3:Sl (f.setCell ⟨w.heap.size+1,l.length,none⟩ (.int .u8 1)) (.slice (some ⟨w.heap.size+1,0,none⟩) 17 17) (l++[1]++List.replicate (16-l.length) 0):=by
  refine Sl.rowOf i (by simp;omega) (by simp;omega) ?_;intro x R;rcases U'.1 R with h|h
  .rcases U'.1 h with h|h
   .exact u.out x h
   .simp at h;omega
  .rw[(p9.1 h).2];omega
 have b:(l++[1]++List.replicate (16-l.length) (0:Int)).length<=17:=by simp;omega
 have m:Hid _:=s3;have j:Hid (leN (l++[1]++List.replicate (16-l.length) 0)=leN (l++[1])):=k;clear i c E k s3 H;generalize l++[1]++List.replicate (16-l.length) 0=L at m b j;generalize (l++List.replicate (17-l.length) (0:Int)).getD l.length 0=c0 at K;go_wp2_with fail
 refine(R1 _ L _ m.out b).mono ?_;rintro e I ⟨r,rfl,C,S,o⟩;have t:=(o.block w.heap.size B).trans s;have z:Bw w I:=n.trans (o.mono n.size);have d:=Dh C.1;go_wp2_with ((with_reducible (refine At ?_));(refine wpList_store_row rfl 272 _ _ rfl (w.heap.size) _ rfl rfl 272 _ t d (by rw[Ak,Ak,C.1];rfl) (BL r) ?_))
 exact bodyPost_ret (v:=.agg (Ai r)) (results_cell_row rfl _ _ (w.heap.size) 272 _ (0,0) _ rfl (setRow_heap I (w.heap.size) _ _ 272 _ t) underlying272 rfl d) rfl ⟨r,rfl,C,by rw[S,j.out],Bl z (A' _) _⟩
def kO:Value->Nat
 | .slice _ n _=>n
 | _=>0
theorem jD{a:Array Value}(t:List Int)(c:w.heap[g]?=some (.cells a 272 (0,0)))(d:a.size=5)(e:t.length=5):(storeCells ⟨g,0,none⟩ (Ai t).toList).run prog w=.ok () (w.setRow g (Ai t)):=by
 have:=run_storeCells_from (P:=prog) g 272 (Ai t).toList 0 a w c (by simp[Ak];omega) (λv b=>by simp[Ai]at b;obtain⟨x,_,rfl⟩:=b;rfl);rw[this];simp[Ai]
theorem NQ{d:Nat}{K:Act->World->Prop}(R:List Int->List Int->List Int->World->Prop){A:List Int->List Int->List Int->Act}(c:∀ K':Act->World->Prop,Hid (∀ x y z W2,R x y z W2->K' (A x y z) W2)->(Code.region d ops true).wp P (Exit.then K' Q) a w)(b:∀ x y z W2,R x y z W2->K (A x y z) W2):(Code.region d ops true).wp P (Exit.then K Q) a w:=c K b
theorem Pu(rl:List Int)(R:Int)(v:Value)(l:List Int)(w:World)(h:Sl w v l)(hl:l.length<=4000)(hr:Lim 67108864 rl)(hR:val rl%pp=R%pp) :
  Calls prog 191 #[.agg (Ai rl),v] w λe w'=>∃ r,e=.returned (.agg (Ai r))/\Lim 67108864 r/\val r=hY R l/\Bw w w':=by
 obtain⟨a0,c0,rfl⟩:∃ a c,v=.slice a l.length c:=by
  obtain⟨⟨a,c,e,_⟩,_⟩:=h;exact⟨a,c,e⟩
 have HR:Hid (val rl%pp=R%pp):=hR;clear hR;go_enter func191,ntmps191
 go_wp2_with fail
 go_loopw [1] (λY wr=>∃ (k:Nat) (P:List Int) (a:Option Addr) (c:Nat),16*k<=l.length+15/\Y=.slice a (l.length-16*k) c/\Sl w Y (l.drop (16*k))/\Lim 67108864 P/\val P%pp=KE R l k%pp/\wr.heap[w.heap.size]?=some (.cells (Ai rl) 272 (0,0))/\wr.heap[w.heap.size+1]?=some (.cells (Ai [0,0,0,0,0]) 272 (0,0))/\wr.heap[w.heap.size+1+1]?=some (.cells (Ai P) 272 (0,0))/\Bw w wr) (λY _=>kO Y)
 case atStart =>
  obtain⟨S,s2,s3,s4⟩:=Gj w (.cells (Ai rl) 272 (0,0)) (.cells (Ai [0,0,0,0,0]) 272 (0,0)) (.cells (Ai [0,0,0,0,0]) 272 (0,0));exact⟨0,[0,0,0,0,0],a0,c0,by omega,rfl,h,Lim.uf (by omega) (by omega) (by omega) (by omega) (by omega),rfl,S,s2,s3,s4⟩
 case round =>
  clear h;obtain⟨k,P,a,c,hk,rfl,hs,x,z,m,hz,y,Z⟩:=hrel;by_cases b8:16*k<l.length
  .obtain⟨n,hne⟩:∃ n,l.length-16*k=n:=⟨_,rfl⟩;have a3:Hid (l.length-16*k=n):=hne;have c6:0<n:=by omega
   have c4:(0:Int)<(n:Int):=by omega
   rw[hne]at hs ⊢
   have b9:(l.drop (16*k)).length=n:=by rw[nc];exact hne
   obtain⟨n0,n1,n2,n3,n4,rfl,_⟩:=x.split;obtain⟨r0,Q,r2,r3,r4,rfl,_⟩:=hr.split;have E:=(cell_of_row _ _ 0 _ _ _ y).trans (Au _ 0 (by simp));have F:=(cell_of_row _ _ 1 _ _ _ y).trans (Au _ 1 (by simp));have G:=(cell_of_row _ _ 2 _ _ _ y).trans (Au _ 2 (by simp));have H:=(cell_of_row _ _ 3 _ _ _ y).trans (Au _ 3 (by simp));have I:=(cell_of_row _ _ 4 _ _ _ y).trans (Au _ 4 (by simp));have J:=(cell_of_row _ _ 0 _ _ _ m).trans (Au _ 0 (by simp));have K:=(cell_of_row _ _ 1 _ _ _ m).trans (Au _ 1 (by simp));have L:=(cell_of_row _ _ 2 _ _ _ m).trans (Au _ 2 (by simp));have M:=(cell_of_row _ _ 3 _ _ _ m).trans (Au _ 3 (by simp));have N:=(cell_of_row _ _ 4 _ _ _ m).trans (Au _ 4 (by simp));simp only[nI,nU]at E F G H I J K L M N;have i:w.heap.size+1+1<wr.heap.size:=(Q'.1 y).1;have j:w.heap.size<wr.heap.size:=by omega
   have HN:Hid _:=y;have a4:Hid _:=m;have HZ:Hid _:=hz;have HB:Hid _:=Z;have a6:Hid (val [n0,n1,n2,n3,n4]%pp=KE R l k%pp):=z;clear y m hz Z z hne;obtain⟨o,c3,B,f⟩:∃ o:Nat,(if(n:Int)<16 then(n:Int)else 16)=(o:Int)/\o<=n/\((o=16)\/(o=n/\n<16)):=by
    by_cases u:(n:Int)<16
    .exact⟨n,by rw[if_pos u],by omega,.inr ⟨rfl,by omega⟩⟩
    .exact⟨16,by rw[if_neg u];rfl,by omega,.inl rfl⟩
   obtain⟨a1,c1,a8,st⟩:=hs.rN o (by omega);obtain⟨a2,c2,c5,sd⟩:=hs.from o (by omega);have U:((l.drop (16*k)).take o).length<=16:=by rw[X'];omega
   have HP:Hid ((l.drop (16*k)).take o=piece l k):=by
    unfold Hid piece;rcases f with rfl|⟨rfl,u⟩
    .rfl
    .rw[np (by omega),np (by omega)]
   have HD:Hid ((l.drop (16*k)).drop o=l.drop (16*(k+1))/\n-o=l.length-16*(k+1)):=by
    unfold Hid;have:=a3.out;rw[pG];rcases f with rfl|⟨rfl,u⟩
    .exact⟨by congr 1,by omega⟩
    .refine⟨?_,by omega⟩;rw[nN (by omega),nN (by omega)]
   have a5:Hid (1<=o):=by unfold Hid;omega
   clear f;go_wp2_with fail
   apply NQ (λm1 S A W=>Lim 67108864 A/\val A%pp=KE R l (k+1)%pp/\W.heap[w.heap.size]?=some (.cells (Ai [r0,Q,r2,r3,r4]) 272 (0,0))/\W.heap[w.heap.size+1]?=some (.cells (Ai [0,0,0,0,0]) 272 (0,0))/\W.heap[w.heap.size+1+1]?=some (.cells (Ai A) 272 (0,0))/\Bw w W)
   .intro K2 HK2
    go_region_with (first
     | (go_at_call 204;refine(Rq _ _ _ (st.af HB.out.drew) U).mono ?_;rintro e w2 ⟨m1,rfl,b0,X,b⟩;have s:w.heap.size+1+1<w2.heap.size:=j' i b.size;have g:w.heap.size<w2.heap.size:=j' j b.size;have c9:=(b.cell (p:=⟨w.heap.size+1+1,0,none⟩) i).trans E;have d0:=(b.cell (p:=⟨w.heap.size+1+1,1,none⟩) i).trans F;have d3:=(b.cell (p:=⟨w.heap.size+1+1,2,none⟩) i).trans G;have d4:=(b.cell (p:=⟨w.heap.size+1+1,3,none⟩) i).trans H;have d5:=(b.cell (p:=⟨w.heap.size+1+1,4,none⟩) i).trans I;have b1:=(b.cell (p:=⟨w.heap.size,0,none⟩) j).trans J;have b2:=(b.cell (p:=⟨w.heap.size,1,none⟩) j).trans K;have b3:=(b.cell (p:=⟨w.heap.size,2,none⟩) j).trans L;have b4:=(b.cell (p:=⟨w.heap.size,3,none⟩) j).trans M;have b5:=(b.cell (p:=⟨w.heap.size,4,none⟩) j).trans N)
     | (go_at_call 203;refine(aJ [n0,n1,n2,n3,n4] m1 _ x b0).mono ?_;rintro e w3 ⟨S,rfl,b6,b7,d⟩;have C:w.heap.size+1+1<w3.heap.size:=j' s d.size;have d6:=(d.cell (p:=⟨w.heap.size,0,none⟩) g).trans b1;have d7:=(d.cell (p:=⟨w.heap.size,1,none⟩) g).trans b2;have d8:=(d.cell (p:=⟨w.heap.size,2,none⟩) g).trans b3;have d9:=(d.cell (p:=⟨w.heap.size,3,none⟩) g).trans b4;have e0:=(d.cell (p:=⟨w.heap.size,4,none⟩) g).trans b5)
     | (go_at_call 205;refine(X7 S [r0,Q,r2,r3,r4] _ b6 hr).mono ?_;rintro e w4 ⟨A,rfl,t,O,q⟩;have c8:=jD A ((q.block _ C).trans ((d.block _ s).trans ((b.block _ i).trans HN.out))) rfl t.1;have c7:(Ai A).size=5:=by rw[Ak];exact t.1))
    all_goals
     refine HK2.out m1 S A _ ⟨t,?_,?_,?_,?_,?_⟩
     .rw[HP.out]at X
      exact XK a6.out X b7 HR.out O
     .exact(setRow_other _ _ _ _ (by omega)).trans ((q.block _ (by omega)).trans ((d.block _ (by omega)).trans ((b.block _ j).trans a4.out)))
     .exact(setRow_other _ _ _ _ (by omega)).trans ((q.block _ (by omega)).trans ((d.block _ (by omega)).trans ((b.block _ (Nat.lt_of_succ_lt i)).trans HZ.out)))
     .exact setRow_heap _ _ _ _ 272 _ ((q.block _ C).trans ((d.block _ s).trans ((b.block _ i).trans HN.out)))
     .exact Bl (((HB.out.drew.trans (b.mono (pz j))).trans (d.mono (pz g))).trans (q.mono (by omega))) (by omega) _
   intro m1 S A W hW;obtain⟨t,O,q1,q2,q3,q4⟩:=hW;clear E F G H I J K L M N st a8 U;go_wp2
   go_roundw
   case rel =>
    obtain⟨d1,d2⟩:=HD.out;rw[d1]at sd
    exact⟨k+1,A,a2,c2,by omega,by rw[d2],sd,t,O,q1,q2,q3,q4⟩
   case measure=>have:=a5.out;simp[kO];omega
  .have HK:Hid (k=P9 l):=by unfold Hid P9;omega
   have D:l.length-16*k=0:=by omega
   rw[D];have B:=Dh x.1;have a9:w.heap.size+1<wr.heap.size:=(Q'.1 hz).1;have HV:Hid (val P%pp=KE R l k%pp):=z;clear z hs;go_wp2_with ((with_reducible (refine At ?_));(refine wpList_load_row rfl 272 _ rfl (w.heap.size+1+1) rfl 272 _ (0,0) _ y underlying272 rfl B ?_))
   refine(Wy P wr x).mono ?_;rintro e w1 ⟨Q,rfl,l1,v1,T⟩;have V:=(T.block (w.heap.size+1) a9).trans hz;have a7:Bw w w1:=Z.trans (T.mono Z.size);have f:=Dh l1.1;go_wp2_with ((with_reducible (refine At ?_));(refine wpList_store_row rfl 272 _ _ rfl (w.heap.size+1) _ rfl rfl 272 _ V f (by rw[Ak,Ak,l1.1];rfl) (BL Q) ?_))
   refine bodyPost_ret (v:=.agg (Ai Q)) (results_cell_row rfl _ _ (w.heap.size+1) 272 _ (0,0) _ rfl (setRow_heap w1 (w.heap.size+1) _ _ 272 _ V) underlying272 rfl f) rfl ⟨Q,rfl,l1,?_,Bl a7 (by omega) _⟩;have hK:=HK.out;subst hK;rw[v1,HV.out];have:=Sa R l (P9 l);exact Int.emod_eq_of_lt this.1 this.2
theorem BM{a:Int}(h:a=b):Ending.returned (.int .i64 a)=.returned (.int .i64 b):=by rw[h]
def chA(k:Value)(s t:Int)(l:List Bool):Array Value:=(k::.int .i64 s::.int .i64 t::l.map Value.bool).toArray
theorem Gp(k:Value)(s t:Int)(l:List Bool):(chA k s t l).size=l.length+3:=by simp[chA]
theorem UC(k:Value)(s t:Int)(l:List Bool):(chA k s t l)[0]?=some k:=by simp[chA]
theorem Qp(k:Value)(s t:Int)(l:List Bool):(chA k s t l)[1]?=some (.int .i64 s):=by simp[chA]
theorem H6(l:List Bool)(a:l.length=8):∃ b0 b1 b2 b3 b4 b5 b6 b7,l=[b0,b1,b2,b3,b4,b5,b6,b7]:=by
 match l,a with
 | [b0,b1,b2,b3,b4,b5,b6,b7],_=>exact⟨b0,b1,b2,b3,b4,b5,b6,b7,rfl⟩
theorem VL{k:Value}{s:Int}(h:w.heap[g]?=some (.cells (chA k s t [b0,b1,b2,b3,b4,b5,b6,b7]) ty fr)) :
  w.cell? ⟨g,0,none⟩=some k/\w.cell? ⟨g,1,none⟩=some (.int .i64 s)/\w.cell? ⟨g,2,none⟩=some (.int .i64 t)/\w.cell? ⟨g,3,none⟩=some (.bool b0)/\w.cell? ⟨g,4,none⟩=some (.bool b1)/\w.cell? ⟨g,5,none⟩=some (.bool b2)/\w.cell? ⟨g,6,none⟩=some (.bool b3)/\w.cell? ⟨g,7,none⟩=some (.bool b4)/\w.cell? ⟨g,8,none⟩=some (.bool b5)/\w.cell? ⟨g,9,none⟩=some (.bool b6)/\w.cell? ⟨g,10,none⟩=some (.bool b7) :=
 ⟨cell_of_row _ _ 0 _ _ _ h,cell_of_row _ _ 1 _ _ _ h,cell_of_row _ _ 2 _ _ _ h,cell_of_row _ _ 3 _ _ _ h,cell_of_row _ _ 4 _ _ _ h,cell_of_row _ _ 5 _ _ _ h,cell_of_row _ _ 6 _ _ _ h,cell_of_row _ _ 7 _ _ _ h,cell_of_row _ _ 8 _ _ _ h,cell_of_row _ _ 9 _ _ _ h,cell_of_row _ _ 10 _ _ _ h⟩
def wA(t:Int)(l:List Bool):Array Value:=(.int .i64 t::l.map Value.bool).toArray
theorem Ed(t:Int)(l:List Bool):(wA t l).size=l.length+1:=by simp[wA]
theorem jV(t:Int)(l:List Bool):(wA t l)[0]?=some (.int .i64 t):=by simp[wA]
theorem Lu(t:Int)(l:List Bool)(i:Nat)(a:i<l.length):(wA t l)[1+i]?=some (.bool (l.getD i false)):=by
 rw[rG];simp[wA,List.getD,List.getElem?_eq_getElem a]
theorem Qb(t:Int)(l:List Bool):(wA t l).all (·.oneCell')=true:=by simp[wA,Value.oneCell']
theorem Nk(h:w.heap[g]?=some (.cells (wA t [b0,b1,b2,b3,b4,b5,b6,b7]) ty fr)) :
  w.cell? ⟨g,0,none⟩=some (.int .i64 t)/\w.cell? ⟨g,1,none⟩=some (.bool b0)/\w.cell? ⟨g,2,none⟩=some (.bool b1)/\w.cell? ⟨g,3,none⟩=some (.bool b2)/\w.cell? ⟨g,4,none⟩=some (.bool b3)/\w.cell? ⟨g,5,none⟩=some (.bool b4)/\w.cell? ⟨g,6,none⟩=some (.bool b5)/\w.cell? ⟨g,7,none⟩=some (.bool b6)/\w.cell? ⟨g,8,none⟩=some (.bool b7) :=
 ⟨cell_of_row _ _ 0 _ _ _ h,cell_of_row _ _ 1 _ _ _ h,cell_of_row _ _ 2 _ _ _ h,cell_of_row _ _ 3 _ _ _ h,cell_of_row _ _ 4 _ _ _ h,cell_of_row _ _ 5 _ _ _ h,cell_of_row _ _ 6 _ _ _ h,cell_of_row _ _ 7 _ _ _ h,cell_of_row _ _ 8 _ _ _ h⟩
def QW(t:Int)(l:List Bool)(x:Int):Bool:=decide (t-8<=x)&&decide (x<t)&&l.getD (x-(t-8)).toNat false
theorem P3(t:Int)(l:List Bool)(k:Nat)(a:k<8):QW t l (t-8+k)=l.getD k false:=by
 unfold QW;rw[M' (by omega),M' (by omega),show(t-8+(k:Int)-(t-8)).toNat=k by omega];simp
theorem Vd{l:List Bool}(h:t<=x):QW t l x=false:=by
 unfold QW;rw[D' (show ¬ x<t by omega)];simp
structure OkC(key:List Int)(s t:Int)(l:List Bool):Prop where
 key:key.length=32
 s0:0<=s
 s1:s<=1073741824
 t0:0<=t
 t1:t<=1073741824
 low:∀ i:Nat,i<8->l.getD i false=true->0<=t-8+(i:Int)
 top:t=0\/l.getD 7 false=true
theorem eO(key:List Int)(s t:Int)(l:List Bool):OkC key s t l↔(key.length=32/\0<=s/\s<=1073741824/\0<=t/\t<=1073741824/\(∀ i,i<8->l.getD i false=true->0<=t-8+(i:Int))/\(t=0\/l.getD 7 false=true)) :=
 ⟨λh=>⟨h.1,h.2,h.3,h.4,h.5,h.6,h.7⟩,λh=>⟨h.1,h.2.1,h.2.2.1,h.2.2.2.1,h.2.2.2.2.1,h.2.2.2.2.2.1,h.2.2.2.2.2.2⟩⟩
instance (key:List Int) (s t:Int) (l:List Bool):Decidable (OkC key s t l):=decidable_of_iff _ (eO key s t l).symm
def Tr(t:Int)(l:List Bool):Bool:=((List.range 8).all λi=>!l.getD i false||decide (0<=t-8+(i:Int)))&&(decide (t=0)||l.getD 7 false)
theorem G3(t:Int)(l:List Bool):Tr t l=true↔((∀ i:Nat,i<8->l.getD i false=true->0<=t-8+(i:Int))/\(t=0\/l.getD 7 false=true)):=by
 unfold Tr;rw[nC,pM,oB];constructor
 .rintro⟨h1,h2⟩;refine⟨λi b a=>?_,h2.imp nG id⟩;have h:=h1 i (oK.2 b);rw[a]at h
  simpa using h
 .rintro⟨h1,h2⟩;refine⟨λi b=>?_,h2.imp M' id⟩;cases a:l.getD i false with
  | true=>simpa using h1 i (oK.1 b) a
  | false=>rfl
def EW(key:List Int)(s t:Int)(l:List Bool):Int:=if OkC key s t l then 0 else 5
def Is(t:Int)(l:List Bool)(n:Int):Bool:=decide (n<t)&&(decide (n<t-8)||QW t l n)
def Ht(t n:Int):Int:=if t<=n then n+1 else t
def KW(t:Int)(l:List Bool)(n:Int):List Bool:=(List.range 8).map λk:Nat=>decide (Ht t n-8+(k:Int)=n)||QW t l (Ht t n-8+(k:Int))
theorem EP(t:Int)(l:List Bool)(n:Int):(KW t l n).length=8:=by simp[KW]
theorem Vv(t:Int)(l:List Bool)(n:Int)(k:Nat)(a:k<8):(KW t l n).getD k false=(decide (Ht t n-8+(k:Int)=n)||QW t l (Ht t n-8+(k:Int))):=by
 simp[KW,List.getD,a]
def noB:List Bool:=List.replicate 8 false
theorem Iq:noB.length=8:=rfl
theorem ji(k:Nat):noB.getD k false=false:=by
 rw[noB,nT,List.getElem?_replicate];split<;>rfl
theorem OkC.new(c:key.length=32)(s:Int)(a:0<=s)(b:s<=1073741824):OkC key s 0 noB :=
 ⟨c,a,b,by omega,by omega,(λi _ h=>by rw[ji]at h;exact absurd h (by simp)),.inl rfl⟩
theorem Vg{l:List Bool}{n:Int}(h:t<=n):Is t l n=false:=by unfold Is;rw[D' (by omega)];simp
theorem eQ{l:List Bool}{n:Int}(h:t-8<=n):Is t l n=QW t l n:=by
 by_cases a:n<t
 .unfold Is;rw[M' a,D' (show ¬ n<t-8 by omega)];simp
 .rw[Vg (by omega),Vd (by omega)]
theorem Rh{l:List Bool}{n:Int}(h:n<t-8):Is t l n=true:=by unfold Is;rw[M' (show n<t by omega),M' h];simp
def Ad(n:Int):List Int:=[n/16777216%256,n/65536%256,n/256%256,n%256]
def BI(h:List Int):List Int:=List.replicate 8 0++h
def FM(h:List Int):Int:=16777216*h.getD 0 0+65536*h.getD 1 0+256*h.getD 2 0+h.getD 3 0
theorem CH(n:Int):(Ad n).length=4:=rfl
theorem Bd(n:Int):∀ x∈Ad n,0<=x/\x<256:=by
 intro x a;simp only[Ad,nf,P',or_false]at a;rcases a with rfl|rfl|rfl|rfl<;>omega
theorem H7(a:h.length=4):(BI h).length=12:=by simp[BI,a]
theorem Rf(a:∀ x∈h,0<=x/\x<256):∀ x∈BI h,0<=x/\x<256:=by
 intro x b;rcases U'.1 b with h1|h1
 .rw[(p9.1 h1).2];omega
 .exact a x h1
theorem my(h:List Int)(e:h.length=4):∃ a b c d,h=[a,b,c,d]:=by
 match h,e with
 | [a,b,c,d],_=>exact⟨a,b,c,d,rfl⟩
theorem Mp(f:h.length=4)(e:∀ x∈h,0<=x/\x<256):0<=FM h/\FM h<4294967296:=by
 obtain⟨a,b,c,d,rfl⟩:=my h f;have g:=e a (by simp);have i:=e b (by simp);have j:=e c (by simp);have k:=e d (by simp);show 0<=16777216*a+65536*b+256*c+d/\16777216*a+65536*b+256*c+d<4294967296;omega
theorem KD{l:List Bool}(a:l.length=8):(prog.info? 228).map (·.size)=some (wA t l).size:=by rw[Ed,a];kernel_rfl
theorem Jf{P:Program}{f:Func}{p u:Tmp}{c:TypeId}(h:f.results=#[.cell p c,.tmp u])(a:Array Value)(w:World)(g:Nat)(t:TypeId)(b:Array Value)(fr:Nat × Nat)(d:TypeDesc)(l:a.getD p undef=.pointer (some ⟨g,0,none⟩))(j:w.heap[g]?=some (.cells b t fr))(m:P.underlying c=some d)(i:(match d with|.struct _|.array _ _=>true|_=>false)=true)(k:(P.info? c).map (·.size)=some b.size) :
  (results f a).run P w=.ok (.tuple #[.agg b,a.getD u undef]) w:=by
 have e:a[p]?.getD undef=.pointer (some ⟨g,0,none⟩):=by simpa using l
 simp[results,h,e,asAddr,run_loadVar_row w g t c b fr d j m i k]
theorem FS{P:Program}{f:Func}{p u v:Tmp}{c:TypeId}(h:f.results=#[.cell p c,.tmp u,.tmp v])(a:Array Value)(w:World)(g:Nat)(t:TypeId)(b:Array Value)(fr:Nat × Nat)(d:TypeDesc)(l:a.getD p undef=.pointer (some ⟨g,0,none⟩))(j:w.heap[g]?=some (.cells b t fr))(m:P.underlying c=some d)(i:(match d with|.struct _|.array _ _=>true|_=>false)=true)(k:(P.info? c).map (·.size)=some b.size) :
  (results f a).run P w=.ok (.tuple #[.agg b,a.getD u undef,a.getD v undef]) w:=by
 have e:a[p]?.getD undef=.pointer (some ⟨g,0,none⟩):=by simpa using l
 simp[results,h,e,asAddr,run_loadVar_row w g t c b fr d j m i k]
def blA(l:List Bool):Array Value:=(l.map Value.bool).toArray
theorem to8(h:j<8):j=0\/j=1\/j=2\/j=3\/j=4\/j=5\/j=6\/j=7:=by omega
theorem Yd(S:List Bool)(a:S.length=8)(j:Nat)(b:j<8):∀ w,(Instr.index 87 (.agg (blA S)) (.int .i64 (j:Int))).run prog w=.ok (.bool (S.getD j false)) w:=by
 intro w;obtain⟨b0,c,d,e,f,g,h,i,rfl⟩:=H6 S a;rcases to8 b with rfl|rfl|rfl|rfl|rfl|rfl|rfl|rfl;all_goals kernel_rfl
theorem Ga(k:Value)(s t:Int)(l:List Bool)(w:World)(i:l.length=8) :
  Calls prog 149 #[.agg (chA k s t l)] w λe w'=>e=.returned (.agg (wA t l))/\Bw w w':=by
 obtain⟨b0,a,b,c,d,f,g,h,rfl⟩:=H6 l i;simp only[chA,wA,List.map];go_enter func149,ntmps149
 go_wp2
 exact bodyPost_ret (v:=.agg (wA t [b0,a,b,c,d,f,g,h])) (results_cell_row rfl _ _ (w.heap.size+1) 228 _ (0,0) _ rfl (heap_alloc2_new _ _ _) underlying228 rfl (KD rfl)) rfl ⟨rfl,((Below.refl _ _).alloc (A' _) _).alloc (by simp) _⟩
theorem Er(t:Int)(l:List Bool)(w:World)(a:l.length=8)(j:-1000<=t)(k:t<=4611686018427387904) :
  Calls prog 174 #[.agg (wA t l)] w λe w'=>e=.returned (.int .i64 (t-8))/\Bw w w':=by
 obtain⟨b0,b,c,d,f,g,h,i,rfl⟩:=H6 l a;simp only[wA,List.map];go_enter func174,ntmps174
 go_wp2
 go_ret;exact⟨rfl,(Below.refl _ _).alloc (A' _) _⟩
theorem Wq(t n:Int)(l:List Bool)(w:World)(v:l.length=8)(P:0<=t)(Q:t<=1073741824)(N:0<=n)(O:n<1073741824) :
  Calls prog 197 #[.agg (wA t l),.int .i64 n] w λe w'=>e=.returned (.bool (Is t l n))/\Bw w w':=by
 have K:=v;obtain⟨b0,b,d,f,g,h,j,k,rfl⟩:=H6 l v;simp only[wA,List.map];by_cases H:t<=n
 .have m:Hid (false=Is t [b0,b,d,f,g,h,j,k] n):=(Vg H).symm;go_enter func197,ntmps197
  go_wp2
  go_ret;exact⟨Am m.out,(Below.refl _ _).alloc (A' _) _⟩
 .have hb:Bw w (w.alloc (.cells (wA t [b0,b,d,f,g,h,j,k]) 228)):=(Below.refl _ _).alloc (A' _) _;go_enter func197,ntmps197
  go_wp2_with fail
  have a:(w.alloc (.cells (wA t [b0,b,d,f,g,h,j,k]) 228)).heap[w.heap.size]?=some (.cells (wA t [b0,b,d,f,g,h,j,k]) 228 (0,0)):=heap_alloc_new _ _;refine(Er t [b0,b,d,f,g,h,j,k] _ rfl (by omega) (by omega)).mono ?_;rintro e x ⟨rfl,c1⟩;have q:Bw w x:=hb.trans (c1.mono (by simp));replace a:=(c1.block w.heap.size (by simp)).trans a;clear hb c1;by_cases I:n<t-8
  .have m:Hid (true=Is t [b0,b,d,f,g,h,j,k] n):=(Rh I).symm;go_wp2
   go_ret;exact⟨Am m.out,q⟩
  .have h3:n<t:=by omega
   obtain⟨i,u,s⟩:∃ i:Nat,i<8/\n=t-8+(i:Int):=⟨(n-(t-8)).toNat,by omega,by omega⟩;have m:Hid (Is t [b0,b,d,f,g,h,j,k] n=[b0,b,d,f,g,h,j,k].getD i false):=by
    unfold Hid;rw[eQ (by omega),s,P3 _ _ _ u]
   have y:Hid (n=t-8+(i:Int)):=s;have o:=(cell_of_row _ _ (1+i) _ _ _ a).trans (Lu t _ i u);obtain⟨c0,c1,z,A,B,C,D,E,F⟩:=Nk a;have L:w.heap.size<x.heap.size:=(Q'.1 a).1;clear s;generalize [b0,b,d,f,g,h,j,k].getD i false=c at o m;go_wp2_with fail
   refine(Er t [b0,b,d,f,g,h,j,k] _ rfl (by omega) (by omega)).mono ?_;rintro e M ⟨rfl,r⟩;have G:Bw w M:=q.trans (r.mono q.size);replace o:=(r.cell (p:=⟨w.heap.size,1+i,none⟩) L).trans o;have J:n-(t-8)=(i:Int):=by have:=y.out;omega
   clear c0 c1 z A B C D E F a r;go_wp2
   go_ret;exact⟨Am (by rw[m.out,D' (by omega),qe]),G⟩
theorem W9(t:Int)(l:List Bool)(w:World)(C:l.length=8)(T:0<=t)(U:t<=1073741824) :
  Calls prog 150 #[.agg (wA t l)] w λe w'=>e=.returned (.bool (Tr t l))/\Bw w w':=by
 have u:Hid (∀ i:Nat,i<8->∀ w,(Instr.index 87 (.agg (blA l)) (.int .i64 (i:Int))).run prog w=.ok (.bool (l.getD i false)) w):=λi A=>Yd l C i A;obtain⟨b0,b,c,d,f,g,k,b7,rfl⟩:=H6 l C;simp only[wA,blA,List.map]at u ⊢;go_enter func150,ntmps150
 go_wp2_with fail
 have o:(w.alloc (.cells (wA t [b0,b,c,d,f,g,k,b7]) 228)).heap[w.heap.size]?=some (.cells (wA t [b0,b,c,d,f,g,k,b7]) 228 (0,0)):=heap_alloc_new _ _;have s:(w.alloc (.cells (wA t [b0,b,c,d,f,g,k,b7]) 228)).heap.size=w.heap.size+1:=by simp
 have q:Bw w (w.alloc (.cells (wA t [b0,b,c,d,f,g,k,b7]) 228)):=(Below.refl _ _).alloc (A' _) _;simp only[wA,List.map]at o s q;generalize w.alloc (.cells #[.int .i64 t,.bool b0,.bool b,.bool c,.bool d,.bool f,.bool g,.bool k,.bool b7] 228)=W0 at o s q ⊢;generalize (#[.bool b0,.bool b,.bool c,.bool d,.bool f,.bool g,.bool k,.bool b7]:Array Value)=S at u ⊢
 go_loopw [7] (λiv wr=>∃ i:Nat,i<=8/\iv=.int .i64 i/\Hid (∀ j:Nat,j<i->[b0,b,c,d,f,g,k,b7].getD j false=true->0<=t-8+(j:Int))/\Below (w.heap.size+1) W0 wr) (λiv _=>8-(intOf iv).toNat)
 case atStart=>exact⟨0,by omega,rfl,λj B=>by omega,Below.refl _ _⟩
 case round =>
  obtain⟨i,A,rfl,n,a⟩:=hrel;have v:=(a.block w.heap.size (by omega)).trans o;obtain⟨c0,c1,H,I,J,K,L,M,N⟩:=Nk v;have x:Bw w wr:=q.trans (a.mono (by omega));have R:=a.size;by_cases r:i<8
  .have hii:(i:Int)<8:=by omega
   have E:=u.out i r;cases hb:[b0,b,c,d,f,g,k,b7].getD i false with
   | true =>
    rw[hb]at E
    have p:Hid ([b0,b,c,d,f,g,k,b7].getD i false=true):=hb;clear hb v;go_wp2_with fail
    refine(Er t [b0,b,c,d,f,g,k,b7] _ rfl (by omega) (by omega)).mono ?_;rintro e F ⟨rfl,y⟩;have O:Bw w F:=x.trans (y.mono x.size);have z:Below (w.heap.size+1) W0 F:=a.trans (y.mono (by omega));clear c0 c1 H I J K L M N y a;by_cases D:t-8+(i:Int)<0
    .have HF:Hid (false=Tr t [b0,b,c,d,f,g,k,b7]):=by
      unfold Hid;symm;rw[pR];intro P;have:=((G3 _ _).1 P).1 i r p.out;omega
     go_wp2
     go_ret;exact⟨Am HF.out,O⟩
    .go_wp2
     go_roundw
     case rel =>
      refine⟨i+1,by omega,by go_num,?_,z⟩;intro j B m;rcases nW j i with h|h
      .exact n.out j h m
      .obtain rfl:j=i:=by omega
       omega
     case measure=>simp[intOf];omega
   | false =>
    rw[hb]at E
    have p:Hid ([b0,b,c,d,f,g,k,b7].getD i false=false):=hb;clear hb v;go_wp2
    go_roundw
    case rel =>
     refine⟨i+1,by omega,by go_num,?_,a⟩;intro j B m;rcases nW j i with h|h
     .exact n.out j h m
     .obtain rfl:j=i:=by omega
      rw[p.out]at m
      cases m
    case measure=>simp[intOf];omega
  .obtain rfl:i=8:=by omega
   rw[show((8:Nat):Int)=8 from rfl];have G:Hid ((decide (t=0)||b7)=Tr t [b0,b,c,d,f,g,k,b7]):=by
    unfold Hid;rw[rH,G3,pM];constructor
    .intro h;exact⟨n.out,h.imp nG id⟩
    .intro h;exact h.2.imp M' id
   clear v u;go_wp2
   all_goals
    rename_i Q
    go_ret;refine⟨Am ?_,x⟩;rw[<- G.out];simp[Q]
theorem Zl:(prog.info? 4).map (·.size)=some 1:=by kernel_rfl
theorem jC(w:World):(Go.sizeOf 4).run prog w=.ok 1 w:=by
 have h:=Zl;cases hi:prog.info? 4 with
 | none=>rw[hi]at h;cases h
 | some i =>
  rw[hi]at h
  simp only[nZ,Y']at h;simp[sizeOf,typeInfo,hi,h]
theorem XX(B d:Nat)(b:d<=8):∃ ad,(∀ W,(Instr.sliceAt 87 (.pointer (some ⟨B,1,none⟩)) (some (.int .i64 (d:Int))) none none).run prog W=.ok (.slice (some ad) (8-d) (8-d)) W)/\(0<8-d->ad=⟨B,1+d,none⟩):=by
 refine⟨if 8=d then⟨B,1,none⟩else(⟨B,1,none⟩:Addr).add (d*1),λW=>?_,λh=>?_⟩
 .have e1:prog.arrayLen 87=8:=by kernel_rfl
  have a:prog.elem 87=4:=by kernel_rfl
  rw[run_sliceAt_array_l (P:=prog) W 87 _ underlying87 .i64 _ (by omega) (by rw[e1];omega),e1,a,jC];simp[Result.andThen,slicedAt]
 .rw[if_neg (by omega),Nat.mul_one];exact Addr.add_mid B 1 d
theorem Zf(w:World)(a b c:Obj):(((w.alloc a).alloc b).alloc c).heap[w.heap.size]?=some a/\(((w.alloc a).alloc b).alloc c).heap[w.heap.size+1]?=some b/\(((w.alloc a).alloc b).alloc c).heap[w.heap.size+1+1]?=some c:=by
 have d:Below ((w.alloc a).alloc b).heap.size ((w.alloc a).alloc b) (((w.alloc a).alloc b).alloc c):=(Below.refl _ _).alloc (A' _) _;have f:((w.alloc a).alloc b).heap.size=w.heap.size+1+1:=by simp
 have e:=heap_alloc_new ((w.alloc a).alloc b) c;rw[f]at e d
 exact⟨(d.block _ (by omega)).trans (heap_alloc2_old _ _ _),(d.block _ (by omega)).trans (heap_alloc2_new _ _ _),e⟩
theorem XF(n:Int)(l:List Bool)(a:l.length=8)(d:Nat)(j:1<=d)(k:d<=8):(splice [.int .i64 n,.bool false,.bool false,.bool false,.bool false,.bool false,.bool false,.bool false,.bool false] 1 ((l.drop d).map Value.bool)).toArray=wA n (l.drop d++List.replicate d false):=by
 obtain⟨b0,b,c,e,f,g,h,i,rfl⟩:=H6 l a;have:d=1\/d=2\/d=3\/d=4\/d=5\/d=6\/d=7\/d=8:=by omega
 rcases this with rfl|rfl|rfl|rfl|rfl|rfl|rfl|rfl<;>rfl
theorem TX(t n:Int)(l:List Bool)(w:World)(N:l.length=8)(X:0<=t)(Y:t<=1073741824)(V:t<n)(W:n<=1073741824)(d:Nat)(L:d=min (n-t).toNat 8) :
  Calls prog 199 #[.agg (wA t l),.int .i64 n] w λe w'=>e=.returned (.agg (wA n (l.drop d++List.replicate d false)))/\Bw w w':=by
 obtain⟨b0,a,b,c,f,g,h,i,rfl⟩:=H6 l N;simp only[wA,List.map];go_enter func199,ntmps199
 have S:(if 8<n-t then 8 else n-t)=(d:Int):=by split<;>omega
 have Q:IntKind.i64.wrap (n-t)=n-t:=by rw[IntKind.wrap_i64];omega
 have o:1<=d/\d<=8:=by omega
 obtain⟨ad,O,r⟩:=XX w.heap.size d (by omega);clear L;have B:Hid (∀ w':World,Below (w.heap.size+1+1) (((w.alloc (.cells (wA t [b0,a,b,c,f,g,h,i]) 228)).alloc (.cells (wA 0 [false,false,false,false,false,false,false,false]) 228)).alloc (.cells (wA n [false,false,false,false,false,false,false,false]) 228)).drew w'->Bw w w'/\w'.heap[w.heap.size+1]?=some (.cells (wA 0 [false,false,false,false,false,false,false,false]) 228 (0,0))):=by
  intro w' E;obtain⟨_,J,_⟩:=Zf w (.cells (wA t [b0,a,b,c,f,g,h,i]) 228) (.cells (wA 0 [false,false,false,false,false,false,false,false]) 228) (.cells (wA n [false,false,false,false,false,false,false,false]) 228);refine⟨((((Below.refl _ _).alloc (A' _) _).alloc (by simp) _).alloc (by simp;omega) _).drew.trans (E.mono (by omega)),?_⟩;exact(E.block (w.heap.size+1) (by omega)).trans J
 have z:Hid (∀ j v,(([b0,a,b,c,f,g,h,i].drop d).map Value.bool)[j]?=some v->(((w.alloc (.cells (wA t [b0,a,b,c,f,g,h,i]) 228)).alloc (.cells (wA 0 [false,false,false,false,false,false,false,false]) 228)).alloc (.cells (wA n [false,false,false,false,false,false,false,false]) 228)).drew.cell? (ad.add j)=some v):=by
  intro j v u;have M:j<8-d:=by simpa using(V'.1 u).1
  rw[r (by omega),Addr.add_mid];obtain⟨I,_,_⟩:=Zf w (.cells (wA t [b0,a,b,c,f,g,h,i]) 228) (.cells (wA 0 [false,false,false,false,false,false,false,false]) 228) (.cells (wA n [false,false,false,false,false,false,false,false]) 228);have K:=(cell_of_row _ _ (1+(d+j)) _ _ _ I).trans (Lu t _ (d+j) (by simp;omega));rw[oe];refine Eq.trans K ?_;rw[nR,nY]at u
  rw[<- u,List.getD,E' (show d+j<[b0,a,b,c,f,g,h,i].length by simp;omega)];rfl
 obtain⟨_,_,C⟩:=Zf w (.cells (wA t [b0,a,b,c,f,g,h,i]) 228) (.cells (wA 0 [false,false,false,false,false,false,false,false]) 228) (.cells (wA n [false,false,false,false,false,false,false,false]) 228);have A:Hid _:=C;clear C;go_wp2_with fail
 go_region_law (refine step_copy_splice rfl (.tmp 9) (.tmp 16) 285 285 rfl 4 underlying285 Zl _ _ _ _ _ _ rfl rfl (w.heap.size+1+1) 1 [.int .i64 n,.bool false,.bool false,.bool false,.bool false,.bool false,.bool false,.bool false,.bool false] 228 A.out (([b0,a,b,c,f,g,h,i].drop d).map Value.bool) (by simp) (λT=>⟨rfl,ad,rfl,z.out⟩) (by simp;omega) (by intro v P;obtain⟨x,_,rfl⟩:=ny.1 P;rfl) (w.heap.size+1+1) _ (Below.refl _ _) (A' _) ?_;intro G y m)
 obtain⟨H,F⟩:=B.out G m;have k:([b0,a,b,c,f,g,h,i].drop d++List.replicate d false).length=8:=by simp;omega
 have p:=y.out;rw[XF n _ rfl d o.1 o.2]at p
 generalize D:[b0,a,b,c,f,g,h,i].drop d++List.replicate d false=R at k p;have q:Hid ([b0,a,b,c,f,g,h,i].drop d++List.replicate d false=R):=D;clear D;have s:=KD (t:=n) k;have U:=(Q'.1 p).1;clear B z A m y;go_wp2_with (first
  | (refine wpList_load_row rfl 228 _ rfl (w.heap.size+1+1) rfl 228 _ (0,0) _ p underlying228 rfl s ?_)
  | (refine wpList_store_row rfl 228 _ _ rfl (w.heap.size+1) _ rfl rfl 228 _ F s (by rw[Ed,Ed,k];rfl) (Qb n R) ?_))
 exact bodyPost_ret (v:=.agg (wA n R)) (results_cell_row rfl _ _ (w.heap.size+1) 228 _ (0,0) _ rfl (setRow_heap G (w.heap.size+1) _ _ 228 _ F) underlying228 rfl s) rfl ⟨by rw[<- q.out];rfl,below_setRow H (by omega) _⟩
theorem jU(t:Int)(l:List Bool)(i:Nat)(x:Bool):(wA t l).setIfInBounds (1+i) (.bool x)=wA t (l.set i x):=by
 apply pF;rw[rG];simp[wA,List.map_set]
theorem RV{l:List Bool}(h:w.heap[g]?=some (.cells (wA t l) ty (0,0)))(k:Nat)(x:Bool) :
  (w.setCell ⟨g,1+k,none⟩ (.bool x)).heap[g]?=some (.cells (wA t (l.set k x)) ty (0,0)):=by
 rw[heap_setCell_same _ _ _ _ _ _ h,jU]
theorem QT{a b:List Bool}(e:a.length=8)(f:b.length=8)(h:∀ k,k<8->a.getD k false=b.getD k false):a=b:=by
 apply pa (by omega);intro k c d;have:=h k (by omega);simpa[List.getD,List.getElem?_eq_getElem c,List.getElem?_eq_getElem d]using this
theorem R9(l:List Bool)(i k:Nat)(x:Bool)(a:i<l.length):(l.set i x).getD k false=if k=i then x else l.getD k false:=by
 rw[List.getD,List.getElem?_set,List.getD];by_cases h:i=k
 .subst h;simp[a]
 .rw[if_neg h,if_neg (λe=>h e.symm)]
theorem cc(t n:Int)(l:List Bool)(c:l.length=8)(d:n<t)(i:Nat)(e:i<8)(f:n=t-8+(i:Int)):KW t l n=l.set i true/\Ht t n=t:=by
 have a:Ht t n=t:=by unfold Ht;rw[if_neg (by omega)]
 refine⟨QT (EP _ _ _) (by simp[c]) λk b=>?_,a⟩;rw[Vv _ _ _ _ b,a,P3 t l k b,R9 _ _ _ _ (by omega)];by_cases h:k=i
 .rw[if_pos h,M' (by omega)];rfl
 .rw[if_neg h,D' (by omega)];rfl
theorem TW(l:List Bool)(c:l.length=8)(d k:Nat)(b:k<8)(a:d<=8):(l.drop d++List.replicate d false).getD k false=if d+k<8 then l.getD (d+k) false else false:=by
 by_cases h:d+k<8
 .rw[if_pos h,List.getD,nm (by simp;omega),nY,List.getD]
 .rw[if_neg h,List.getD,nt (by simp;omega),List.getElem?_replicate];split<;>rfl
theorem Xz(t n:Int)(l:List Bool)(f:l.length=8)(e:t<=n)(d:Nat)(g:d=min (n+1-t).toNat 8):KW t l n=(l.drop d++List.replicate d false).set 7 true/\Ht t n=n+1:=by
 have b:Ht t n=n+1:=by unfold Ht;rw[if_pos e]
 refine⟨QT (EP _ _ _) (by simp;omega) λk c=>?_,b⟩;rw[Vv _ _ _ _ c,b,R9 _ _ _ _ (by simp;omega),TW l f d k c (by omega)];by_cases h:k=7
 .rw[if_pos h,M' (by omega)];rfl
 .rw[if_neg h,D' (by omega),qe];by_cases a:d+k<8
  .rw[if_pos a,show n+1-8+(k:Int)=t-8+((d+k:Nat):Int)by omega,P3 _ _ _ a]
  .rw[if_neg a,Vd (by omega)]
end
end
section
structure Lac where
 k:Int
 n:Int
 a:Int
 p:Int
 d:List Int
def FZ(k:Int):Bool:=decide (k=1\/k=2\/k=3\/k=9\/k=8)
def Hv(k:Int):Bool:=decide (4<=k/\k<=6)
def Hw(k:Int):Bool:=decide (k=8)
def Zv(x:Lac):Int :=
 if ¬ (1<=x.k/\x.k<=9)then 4
 else if(FZ x.k=true/\¬ (0<=x.n/\x.n<=4))\/(Hv x.k=true/\¬ (0<=x.a/\x.a<=1048576))\/(Hw x.k=true/\¬ (0<=x.p/\x.p<=100000))then 2
 else if 2000<x.d.length then 1
 else if(FZ x.k=false/\x.n≠0)\/(Hv x.k=false/\x.a≠0)\/(Hw x.k=false/\x.p≠0)\/(x.k≠1/\x.d≠[])then 3
 else 0
structure LacOk(x:Lac):Prop where
 k:1<=x.k/\x.k<=9
 n:FZ x.k=true->0<=x.n/\x.n<=4
 a:Hv x.k=true->0<=x.a/\x.a<=1048576
 p:Hw x.k=true->0<=x.p/\x.p<=100000
 d:x.d.length<=2000
 n0:FZ x.k=false->x.n=0
 a0:Hv x.k=false->x.a=0
 p0:Hw x.k=false->x.p=0
 d0:x.k≠1->x.d=[]
theorem Dr{x:Lac}:Zv x=0↔LacOk x:=by
 unfold Zv;constructor
 .intro h;by_cases c:1<=x.k/\x.k<=9
  .rw[if_neg (λe=>e c)]at h
   by_cases b:(FZ x.k=true/\¬ (0<=x.n/\x.n<=4))\/(Hv x.k=true/\¬ (0<=x.a/\x.a<=1048576))\/(Hw x.k=true/\¬ (0<=x.p/\x.p<=100000))
   .rw[if_pos b]at h;omega
   .rw[if_neg b]at h
    by_cases g:2000<x.d.length
    .rw[if_pos g]at h;omega
    .rw[if_neg g]at h
     by_cases f:(FZ x.k=false/\x.n≠0)\/(Hv x.k=false/\x.a≠0)\/(Hw x.k=false/\x.p≠0)\/(x.k≠1/\x.d≠[])
     .rw[if_pos f]at h;omega
     .simp only[not_or,not_and,mX]at b f;exact⟨c,λe=>by have:=b.1 e;omega,λe=>by have:=b.2.1 e;omega,λe=>by have:=b.2.2 e;omega,by omega,f.1,f.2.1,f.2.2.1,f.2.2.2⟩
  .rw[if_pos c]at h;omega
 .intro h;rw[if_neg (λe=>e h.k),if_neg,if_neg (by have:=h.d;omega),if_neg]
  .rintro(⟨c,b⟩|⟨c,b⟩|⟨c,b⟩|⟨c,b⟩)
   .exact b (h.n0 c)
   .exact b (h.a0 c)
   .exact b (h.p0 c)
   .exact b (h.d0 c)
  .rintro(⟨c,b⟩|⟨c,b⟩|⟨c,b⟩)
   .exact b (h.n c)
   .exact b (h.a c)
   .exact b (h.p c)
def VB(k:Int):List Int :=
 if k=1 then[115,117,98,109,105,116]else if k=2 then[108,101,97,100]else if k=3 then[115,116,101,112]else if k=4 then[99,97,114,114,121]else if k=5 then[108,111,115,101]
 else if k=6 then[100,111,117,98,108,101]else if k=7 then[97,108,108]else if k=8 then[99,114,97,115,104]else if k=9 then[115,116,97,114,116]else[]
end
section
open Go.RowKit
section
variable{P:Program}{md:Region.Mode}{ops:Array Oper}{Q:Exit->Act->World->Prop}{S:World->Prop}
section
variable{K:Act->World->Prop}{L:Array Bool}{a:Act}{d fuel i:Nat}{o:Oper}{v:Value}{w:World}
theorem am{c:World}(g:ops[i]?=some o)(j:Region.wanted o (yielded ops a.tmps)=true)(f:o.dst=some d)(b:(execOp a.eval o).run P w=.ok (.value v) c)(h:K (a.put (some d) v) c):wpOp P ops Q i K a w :=
 wpOp_step g λk e=>by
  rw[if_pos j];unfold Oper.wp;rw[b,Oper.upon_value];exact e _ _ (by rw[f];exact h)
theorem P7{f:FuncId}{args:Array Value}(k:ops[i]?=some o)(m:Region.wanted o (yielded ops a.tmps)=true)(g:o.dst=some d)(b:(execOp a.eval o).run P w=.ok (.enter f args) w)(h:Calls P f args w λe w'=>∃ v,e=.returned v/\K (a.put (some d) v) w'):wpOp P ops Q i K a w :=
 wpOp_step k λn c=>by
  rw[if_pos m];unfold Oper.wp;rw[b,Oper.upon_enter];refine h.mono λe w' j=>?_;obtain⟨v,rfl,l⟩:=j;exact c _ _ (by rw[g];exact l)
theorem Vi(n:ops[i]?=some o)(p:Region.wanted o (yielded ops a.tmps)=true)(k:o.dst=none)(e:TypeId)(x y:Operand)(d:o.op=.store e x y)(g:Nat)(cells:Array Value)(q:a.eval x=.pointer (some ⟨g,0,none⟩))(r:a.eval y=.agg cells)(t:TypeId)(b:Array Value)(l:w.heap[g]?=some (.cells b t (0,0)))(m:(P.info? e).map (·.size)=some cells.size)(c:b.size=cells.size)(f:cells.all (·.oneCell')=true)(h:K a (w.setRow g cells)):wpOp P ops Q i K a w :=
 wpOp_step n λs j=>by
  rw[if_pos p];exact wp_store_row e x y d g cells q r t b l m c f (j _ _ (by rw[k];exact h))
theorem DY(c:Region.ready md ops L=[i])(h:wpOp P ops Q i (λa' w'=>S w'/\wpAnyH P md ops Q S fuel (L.setIfInBounds i true) a' w') a w):wpAnyH P md ops Q S (fuel+1) L a w :=
 wpAnyH_all c (by simp) (λj b=>by
  obtain rfl:j=i:=by simpa using b
  exact h)
theorem ec{i':Nat}(d:Region.ready md ops L=[i,i'])(h:wpOp P ops Q i (λa' w'=>S w'/\wpAnyH P md ops Q S fuel (L.setIfInBounds i true) a' w') a w)(b:wpOp P ops Q i' (λa' w'=>S w'/\wpAnyH P md ops Q S fuel (L.setIfInBounds i' true) a' w') a w):wpAnyH P md ops Q S (fuel+1) L a w :=
 wpAnyH_all d (by simp) (λj c=>by
  rcases(show j=i\/j=i' by simpa using c)with rfl|rfl
  .exact h
  .exact b)
theorem Ba(d:Nat){e:Oper}{b:Array Bool}(l:ops[i]?=some e)(f:e.dst=some d)(n:Region.noSelect ops=true)(k:Region.free md ops b i=true)(m:(Region.ready md ops b).contains i=true)(g:∀ c a w,Q (.panic c) (a.put (some d) v) w->Q (.panic c) a w)(o:YieldsIf P ops S e v a)(j:S w)(h:wpAnyH P md ops Q S fuel (b.setIfInBounds i true) (a.put (some d) v) w):wpAnyH P md ops Q S (fuel+1) b a w :=
 wpAnyH_take l n k m (by rw[f];exact g) o j (by rw[f];exact h)
theorem XH{op:Oper}(j:Region.wanted op (yielded ops a.tmps)=true)(c:TypeId)(x:Operand)(h:op.op=.load c x)(d:TypeDesc)(i:P.underlying c=some d)(l:d.isRow=false)(p:Addr)(k:a.eval x=.pointer (some p))(v:Value)(f:∀ w,S w->w.cell? p=some v):YieldsIf P ops S op v a :=
 .inl ⟨j,λw e=>by
  have b:(isAgg c).run P w=.ok false w:=by
   unfold isAgg;rw[Sem.run_bind,run_underlying i w];cases d<;>simp_all[TypeDesc.isRow]
  have g:(loadVar c p).run P w=.ok v w:=by simp[loadVar,b,f w e,go_sem]
  unfold execOp;simp only[h,k,Instr.loadAt,Instr.sureAddr,Sem.run_bind,Sem.run_pure,Result.andThen_ok,g]⟩
end
end
section
variable{K:Act->World->Prop}{P:Program}{Q:Exit->Act->World->Prop}{a:Act}{base e g id k8 n:Nat}{cs:Array Value}{fr:Nat × Nat}{o:Oper}{ops:Array Oper}{rest:List Oper}{t:TypeId}{v:Value}{w:World}{xs:List Value}
theorem Fd{l:List Oper}(h:wpList P ops Q l a w):wpList P ops Q l a w:=h
theorem Dc{B:Nat}{a:World}(h:Below B a w)(c:B<=g)(b:Array Value):Below B a (w.setRow g b) :=
 h.trans ⟨rfl,rfl,rfl,by simp,λk d=>setRow_other w g k b (by omega)⟩
theorem FX{b a:Nat}(h:w.ownsRow b e k8 v n xs)(c:a<=b):w.ownsRow a e k8 v n xs:=by
 refine⟨h.1,?_⟩;rcases h.2 with h2|⟨g,cap,cur,hv,hbg,hr⟩
 .exact .inl h2
 .exact .inr ⟨g,cap,cur,hv,mV c hbg,hr⟩
theorem D9{a:World}(h:w.ownsRow base e k8 v n xs)(b:∀ k,v.ownBlock=some k->a.heap[k]?=w.heap[k]?):a.ownsRow base e k8 v n xs:=by
 refine⟨h.1,?_⟩;rcases h.2 with h2|⟨g,cap,cur,hv,hb,hg,hr⟩
 .exact .inl h2
 .exact .inr ⟨g,cap,cur,hv,hb,(b g (by rw[hv];rfl)).trans hg,hr⟩
theorem bW{P:Program}{f:Func}{p:Tmp}{c:TypeId}(h:f.results=#[.cell p c])(a:Array Value)(w:World)(g:Nat)(t:TypeId)(b:Array Value)(fr:Nat × Nat)(d:TypeDesc)(l:a.getD p undef=.pointer (some ⟨g,0,none⟩))(j:w.heap[g]?=some (.cells b t fr))(m:P.underlying c=some d)(i:(match d with|.struct _|.array _ _=>true|_=>false)=true)(k:(P.info? c).map (·.size)=some b.size) :
  (results f a).run P w=.ok (.agg b) w:=by
 have e:a[p]?.getD undef=.pointer (some ⟨g,0,none⟩):=by simpa using l
 simp[results,h,e,asAddr,run_loadVar_row w g t c b fr d j m i k]
theorem Vu{P:Program}{f:Func}{p u:Tmp}{c:TypeId}(h:f.results=#[.cell p c,.tmp u])(a:Array Value)(w:World)(g:Nat)(t:TypeId)(b:Array Value)(fr:Nat × Nat)(d:TypeDesc)(l:a.getD p undef=.pointer (some ⟨g,0,none⟩))(j:w.heap[g]?=some (.cells b t fr))(m:P.underlying c=some d)(i:(match d with|.struct _|.array _ _=>true|_=>false)=true)(k:(P.info? c).map (·.size)=some b.size) :
  (results f a).run P w=.ok (.tuple #[.agg b,a.getD u undef]) w:=by
 have e:a[p]?.getD undef=.pointer (some ⟨g,0,none⟩):=by simpa using l
 simp[results,h,e,asAddr,run_loadVar_row w g t c b fr d j m i k]
theorem Sl.sh{l:List Int}(h:Sl w v l):∃ a cap,v=.slice a l.length cap:=by
 obtain⟨⟨a,cap,e,_⟩,_,_⟩:=h;exact⟨a,cap,e⟩
theorem Sl.tK{ad:Addr}{g:Nat}{m:List Int}(h:Sl w (.slice (some ad) n g) m):∀ j u,(m.map (Value.int .u8))[j]?=some u->w.cell? (ad.add j)=some u:=by
 intro j u f;obtain⟨⟨a,k,e,l,o,i⟩,_⟩:=h;simp only[Value.slice.injEq]at e;obtain⟨rfl,rfl,rfl⟩:=e;rcases i with rfl|⟨b,off,hab,_,hcell⟩
 .simp at f
 .obtain rfl:ad=⟨b,off,none⟩:=by simpa using hab
  have c:j<m.length:=by
   have:=(V'.1 f).1;simpa using this
  have d:(⟨b,off,none⟩:Addr).add j=⟨b,off+j,none⟩:=by unfold Addr.add;split<;>simp_all
  rw[d,hcell j c];simp[List.getElem?_eq_getElem c]at f
  rw[AY c,f]
theorem R6(w:World)(c x F G e:Nat)(y:P.underlying x=some (.slice e))(q:(P.info? e).map (·.size)=some 1)(g n:Nat)(H:List Value)(h:w.ownsRow c e 1 (.slice (some ⟨g,0,none⟩) n n) n H)(u:Value)(m:List Int)(D:n<=m.length)(z:Sl w u m) :
  ∃ w',(Builtin.copy_ #[x,F] G #[.slice (some ⟨g,0,none⟩) n n,u]).run P w=.ok (goInt n) w'/\w'.ownsRow c e 1 (.slice (some ⟨g,0,none⟩) n n) n ((m.take n).map (Value.int .u8))/\Below g w w':=by
 obtain⟨i,l,B⟩:∃ i,P.info? e=some i/\i.size=1:=by
  cases l:P.info? e with
  | none=>rw[l]at q;cases q
  | some i=>rw[l]at q;exact⟨i,rfl,by simpa using q⟩
 rcases h.2 with⟨h0,_⟩|⟨g',cap,cur,hvv,hbg,hg,hnc,hcm,hcs,ht⟩
 .cases h0
 .simp only[Value.slice.injEq,Y',Addr.mk.injEq]at hvv;obtain⟨⟨rfl,_⟩,_,rfl⟩:=hvv;have t:=z;obtain⟨⟨a,A,rfl,J,E,I⟩,_⟩:=z;have f:Nat.min m.length n=n:=Nat.min_eq_right D;cases a with
  | none =>
   have r:=E rfl;subst r;have s:n=0:=by omega
   subst s;refine⟨w,?_,⟨by simp,.inr ⟨g,0,cur,rfl,hbg,hg,hnc,hcm,hcs,by simp⟩⟩,Below.refl _ _⟩;simp[Builtin.copy_,run_underlying y,Builtin.lenOf,Builtin.firstCells,sizeOf,typeInfo,l,storeCells]
  | some ad =>
   have b:((m.take n).map (Value.int .u8)).length=n:=by simp;omega
   have C:=run_firstCells_some (P:=P) w 1 n ad m.length A ((m.take n).map (Value.int .u8)) (by rw[b];omega) (λj v p=>t.tK j v (by
    rw[qP,ol]at p
    split at p
    .exact p
    .cases p))
   have o:=run_storeCells_at P g 0 e ((m.take n).map (Value.int .u8)) 0 cur w hg (by rw[b];omega) (Fo (m.take n));have d:(cur.toList.take (0+0)++(m.take n).map (Value.int .u8)++cur.toList.drop (0+0+((m.take n).map (Value.int .u8)).length))=(m.take n).map (Value.int .u8):=by
    rw[b,nN (by rw[oI];omega)];simp
   rw[d]at o
   refine⟨w.setRow g ((m.take n).map (Value.int .u8)).toArray,?_,⟨by rw[b];omega,.inr ⟨g,n,((m.take n).map (Value.int .u8)).toArray,rfl,hbg,setRow_heap w g cur _ e _ hg,A' _,hcm,by rw[pl,b];omega,?_⟩⟩,?_⟩
   .simp[-List.map_take,Builtin.copy_,run_underlying y,Builtin.lenOf,sizeOf,typeInfo,l,B,f,C,o]
   .rw[np (by show((m.take n).map (Value.int .u8)).length<=_;rw[b];omega)]
   .exact⟨rfl,rfl,rfl,by simp,λk K=>setRow_other w g k _ (by omega)⟩
theorem No(w:World)(j:o.guard=none)(d s:Operand)(i p:TypeId)(y:o.op=.call { callee:=.builtin .copy,args:=#[d,s],argTypes:=#[i,p] })(b e:Nat)(A:P.underlying i=some (.slice e))(z:(P.info? e).map (·.size)=some 1)(g n:Nat)(q:List Value)(v:a.eval d=.slice (some ⟨g,0,none⟩) n n)(c:w.ownsRow b e 1 (.slice (some ⟨g,0,none⟩) n n) n q)(u:Value)(l:a.eval s=u)(m:List Int)(x:n<=m.length)(B:Sl w u m)(t:List Int)(k:t=m.take n)(h:∀ w',w'.ownsRow b e 1 (.slice (some ⟨g,0,none⟩) n n) n (t.map (Value.int .u8))->Below g w w'->wpList P ops Q rest (a.put o.dst (goInt n)) w'):wpList P ops Q (o::rest) a w:=by
 subst k;refine wpList_plain j λK r=>?_;obtain⟨w',f,C,D⟩:=R6 (P:=P) w b i p o.type e A z g n q c u m x B;unfold Oper.wp execOp;simp only[y,resolve,invoke,builtin,Sem.run_bind,Sem.run_pure,Result.andThen_ok,pU,nK,oJ,v,l,f];exact r _ _ (h w' C D)
theorem Nq(w:World)(s:o.guard=none)(l c:Operand)(t:TypeId)(f:o.op=Op.makeSlice t l c)(b:Nat)(e:TypeId)(p:P.underlying t=some (.slice e))(d:(P.info? e).map (λi=>(i.zero,i.size,i.bytes))=some (some (.int .u8 0),1,1))(n:Nat)(v:a.eval l=.int .i64 (n:Int))(r:a.eval c=.int .i64 (n:Int))(z:n<=140737488351232)(k:b<=w.heap.size)(q:∀ w',Hid (∃ xs,w'.ownsRow b e 1 (.slice (some ⟨w.heap.size,0,none⟩) n n) n xs)->w.grownBy w' none->wpList P ops Q rest (a.put o.dst (.slice (some ⟨w.heap.size,0,none⟩) n n)) w'):wpList P ops Q (o::rest) a w:=by
 obtain⟨x,u,g,h,j⟩:=info_parts d;refine wpList_make_full w s l c t f b e x (.int .u8 0) 1 p u g h _ _ _ _ n v r rfl rfl (by rw[j];omega) (by unfold maxLen;omega) k (λw' y m=>q w' ⟨_,y⟩ m)
theorem E5(w:World)(a:Obj):(w.alloc a).heap[w.heap.size]?=some a:=heap_alloc_new w a
theorem Cq(w:World)(a:Obj):Bw w (w.alloc a):=(Below.refl _ _).alloc (A' _) _
theorem Uo(w:World)(a b:Obj):((w.alloc a).alloc b).heap[w.heap.size]?=some a:=heap_alloc2_old w a b
theorem Up(w:World)(b a:Obj):((w.alloc b).alloc a).heap[w.heap.size+1]?=some a:=heap_alloc2_new w b a
theorem Xu(w:World)(a b:Obj):Bw w ((w.alloc a).alloc b):=((Below.refl _ _).alloc (A' _) _).alloc (by simp) _
theorem EO(h:w.ownsRow base e k8 v n xs):∃ g c,v=.slice g n c:=by
 rcases h.2 with⟨rfl,h0⟩|⟨g,cap,cur,hv,_⟩
 .exact⟨none,0,by rw[h0]⟩
 .exact⟨_,_,hv⟩
theorem bX(R:World->Prop){A:Act}(c:∀ K':Act->World->Prop,Hid (∀ W2,R W2->K' A W2)->(Code.region id ops true).wp P (Exit.then K' Q) a w)(b:∀ W2,R W2->K A W2):(Code.region id ops true).wp P (Exit.then K Q) a w:=c K b
theorem bY(R:Option Addr->Nat->World->Prop){A:Option Addr->Nat->Act}(d:∀ K':Act->World->Prop,Hid (∀ g c W2,R g c W2->K' (A g c) W2)->(Code.region id ops true).wp P (Exit.then K' Q) a w)(b:∀ g c W2,R g c W2->K (A g c) W2):(Code.region id ops true).wp P (Exit.then K Q) a w:=d K b
theorem MR{cs:List Value}(h:w.heap[g]?=some (.cells cs.toArray t fr)):w.rangeAt g 0 cs:=λj u a=>by
 rw[cell_of_row _ _ (0+j) _ _ _ h];simpa using a
theorem MT(h:w.ownsRow base 5 k8 v n xs)(c:w.heap[g]?=some (.cells cs t fr))(d:t≠5):∀ k,v.ownBlock=some k->k≠g:=by
 intro k a e;rcases h.2 with⟨h1,_⟩|⟨q,cap,cur,h1,_,h2,_⟩
 .rw[h1]at a;cases a
 .rw[h1]at a
  have b:q=k:=by simpa[Value.ownBlock]using a
  rw[b,e,c]at h2
  simp only[Y',Obj.cells.injEq]at h2;exact d h2.2.1
theorem Xt(h:w.ownsRow base 5 k8 v n xs)(b:w.heap[g]?=some (.cells cs t fr))(d:t≠5)(a:Array Value):(w.setRow g a).ownsRow base 5 k8 v n xs :=
 D9 h (λk c=>setRow_other _ _ _ _ (MT h b d k c))
theorem kr:(prog.info? 5).map (·.size)=some 1:=by kernel_rfl
end
end
end Go.Proofs.YtogibonjmbhliabGreatDoor
