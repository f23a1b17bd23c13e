/- Part 1 of the walk. -/
import Derived.Test.YthohlalejhgbmaaGreatDoorZ0
import Derived.WalkKit
import Derived.ProofKit
import Derived.Laws.AppendOwnNone
import Derived.Laws.BytesArg
import Derived.BigQuiet
import Derived.OpenShut
import Derived.StillTail
import Derived.Test.YthohlalejhgbmaaGreatDoorProg
import Derived.Deep.QuietTactic
import Derived.BigRegion
import Derived.Laws.ResultCell
import Derived.Laws.CopyOwn
import Derived.Deep.RegionWith
set_option maxRecDepth 100000
set_option maxHeartbeats 4000000
open Go.Proofs.Tryz
namespace Go.Proofs.YthohlalejhgbmaaGreatDoor
section
open Go.RowKit Go.ChangeShapes Go.WideShapes Go.ChangeAt
section
abbrev Bw(w w':World):Prop:=Below w.heap.size w w'
abbrev zV5:Array Value:=#[.int .i64 0,.int .i64 0,.int .i64 0,.int .i64 0,.int .i64 0]
abbrev zV8:Array Value:=#[.int .i64 0,.int .i64 0,.int .i64 0,.int .i64 0,.int .i64 0,.int .i64 0,.int .i64 0,.int .i64 0]
structure Sl(w:World)(v:Value)(l:List Int):Prop where
 ex:∃ a cap,v=.slice a l.length cap/\l.length<=cap/\(a=none->cap=0)/\(l=[]\/∃ b off,a=some ⟨b,off,none⟩/\b<w.heap.size/\∀ i,i<l.length->w.cell? ⟨b,off+i,none⟩=some (.int .u8 (l.getD i 0)))
 len:l.length<=140737488351232
 byte:∀ x∈l,0<=x/\x<256
variable{P:Program}{base cap e i n:Nat}{l:List Int}{v:Value}{w:World}
theorem Sl.ab{f:World}(h:Sl w v l)(e:Below w.heap.size w f):Sl f v l:=by
 obtain⟨⟨a,c,rfl,k,n,d⟩,g,j⟩:=h;refine⟨⟨a,c,rfl,k,n,?_⟩,g,j⟩;rcases d with d|⟨b,off,ha,hbs,hcell⟩
 .exact .inl d
 .exact .inr ⟨b,off,ha,Y' hbs e.size,λi m=>(e.cell (p:=⟨b,off+i,none⟩) hbs).trans (hcell i m)⟩
theorem Sl.nil(w:World)(a:Option Addr):Sl w (.slice a 0 0) []:=⟨⟨a,0,rfl,by simp,by simp,.inl rfl⟩,by simp,by simp⟩
theorem Sl.kc(h:w.ownsRow base e 1 v l.length (l.map (Value.int .u8)))(f:l.length<=140737488351232)(c:∀ x∈l,0<=x/\x<256):Sl w v l:=by
 refine⟨?_,f,c⟩;rcases h.2 with⟨rfl,h0⟩|⟨g,cap,cur,rfl,_,hg,hn,_,hcs,ht⟩
 .exact⟨none,0,by rw[h0],by omega,λ_=>rfl,.inl (Z' h0)⟩
 .refine⟨_,cap,rfl,hn,by simp,.inr ⟨g,0,rfl,(H'.1 hg).1,λi d=>?_⟩⟩;have b:=h.cells (g:=g) rfl i (.int .u8 (l.getD i 0)) (by simp[List.getElem?_eq_getElem d,List.getD]);have a:(⟨g,0,none⟩:Addr).add i=⟨g,i,none⟩:=by unfold Addr.add;split<;>simp_all
  rw[a]at b
  simpa using b
theorem AO(a:i<l.length):l.getD i 0=l[i]:=by simp[List.getD,List.getElem?_eq_getElem a]
theorem Gn(a:l.length<=i):l.getD i 0=0:=by simp[List.getD,List.getElem?_eq_none a]
theorem Ai(h:∀ x∈l,0<=x/\x<256)(i:Nat):0<=l.getD i 0/\l.getD i 0<256:=by
 rcases kt i l.length with hi|hi
 .rw[AO hi];exact h _ (km hi)
 .rw[Gn hi];omega
theorem EA(l:List Int):∀ u∈l.map (Value.int .u8),u.oneCell'=true:=by
 intro u a;obtain⟨x,_,rfl⟩:=kn.1 a;rfl
theorem GH(w:World)(c t x e:Nat)(A:P.underlying t=some (.slice e))(h:(P.info? e).map (λi=>(i.zero,i.size,i.bytes))=some (some (.int .u8 0),1,1))(v:Value)(l:List Int)(d:w.ownsRow c e 1 v l.length (l.map (Value.int .u8)))(u:Value)(m:List Int)(H:Sl w u m)(z:l.length+m.length<=140737488355328)(g:c<=w.heap.size) :
  ∃ v' w',(Builtin.append_ #[t,t] x #[v,u]).run P w=.ok v' w'/\w'.ownsRow c e 1 v' (l++m).length ((l++m).map (Value.int .u8))/\w.grownBy w' v.ownBlock:=by
 obtain⟨i,y,I,s,q⟩:=info_parts h;obtain⟨⟨a,p,rfl,J,E,B⟩,_,_⟩:=H;cases a with
 | none =>
  have r:=E rfl;subst r;have D:m=[]:=Z' (by omega);subst D;refine⟨v,w,?_,by simpa using d,⟨rfl,rfl,rfl,A' _,λ_ _ _=>rfl⟩⟩;exact run_append_owned_none (P:=P) (w:=w) c t x e i 1 A y v l.length _ d
 | some ad =>
  have f:∀ j u,(m.map (Value.int .u8))[j]?=some u->w.cell? (ad.add j)=some u:=by
   intro j u o;rcases B with rfl|⟨b,off,hab,_,hcell⟩
   .simp at o
   .obtain rfl:ad=⟨b,off,none⟩:=by simpa using hab
    have k:j<m.length:=by
     have:=(U'.1 o).1;simpa using this
    have n:(⟨b,off,none⟩:Addr).add j=⟨b,off+j,none⟩:=by unfold Addr.add;split<;>simp_all
    rw[n,hcell j k];simp[List.getElem?_eq_getElem k]at o
    rw[AO k,o]
  obtain⟨v',w',G,F,C,_⟩:=run_append_own (P:=P) w c t x e i (.int .u8 0) 1 1 A y I s q rfl (by decide) v l.length _ d ad m.length p (m.map (Value.int .u8)) (by simp) f (EA m)
   (by unfold maxLen;omega) (by omega) g
  exact⟨v',w',G,by simpa using F,C⟩
theorem Aa(w:World){n:Array Oper}{c:List Oper}{o:Oper}{a:Act}{Q:Exit->Act->World->Prop}(p:o.guard=none)(s x:Operand)(t:TypeId)(r:o.op=.call { callee:=.builtin .append,args:=#[s,x],argTypes:=#[t,t] })(b e:Nat)(z:P.underlying t=some (.slice e))(f:(P.info? e).map (λi=>(i.zero,i.size,i.bytes))=some (some (.int .u8 0),1,1))(v u:Value)(y:a.eval s=v)(B:a.eval x=u)(l m:List Int)(j:w.ownsRow b e 1 v l.length (l.map (Value.int .u8)))(A:Sl w u m)(g:l.length+m.length<=140737488355328)(d:b<=w.heap.size)(h:∀ v' w',w'.ownsRow b e 1 v' (l++m).length ((l++m).map (Value.int .u8))->w.grownBy w' v.ownBlock->wpList P n Q c (a.put o.dst v') w'):wpList P n Q (o::c) a w:=by
 refine wpList_plain p λK q=>?_;obtain⟨v',w',k,C,D⟩:=GH (P:=P) w b t o.type e z f v l j u m A g d;unfold Oper.wp execOp;simp only[r,resolve,invoke,builtin,Sem.run_bind,Sem.run_pure,Result.andThen_ok,mn,kf,lh,y,B,k];exact q _ _ (h v' w' C D)
theorem As(w:World)(src c e:TypeId)(g:P.underlying src=some (.slice e))(f:P.underlying e=some (.int .u8))(d:P.underlying c=some .string)(v:Value)(l:List Int)(h:Sl w v l):(convert src c v).run P w=.ok (.string (strOfNums l)) w:=by
 obtain⟨⟨a,i,rfl,k,m,j⟩,_,_⟩:=h;rcases j with rfl|⟨b,off,rfl,_,hcell⟩
 .cases a with
  | none=>exact run_convert_bytes_nil w src e g f _ _ c d
  | some ad =>
   rw[run_convert_bytes_string w src c e _ _ _ g f d,run_bytesToString w ad _ _ [] (by simpa using run_loadCells_list (P:=P) w ad [] (by simp))];rfl
 .exact run_convert_bytes_arg w src e g f b off _ _ l rfl hcell c d
theorem Sl.take{a:Option Addr}(h:Sl w (.slice a n cap) l)(m:Nat)(s:m<=l.length):Sl w (.slice a m cap) (l.take m):=by
 obtain⟨⟨q,d,e,r,o,f⟩,k,c⟩:=h;simp only[Value.slice.injEq]at e;obtain⟨rfl,rfl,rfl⟩:=e;have j:(l.take m).length=m:=by rw[X'];omega
 refine⟨⟨a,cap,by rw[j],by omega,o,?_⟩,by omega,λx p=>c x (jU p)⟩;rcases f with rfl|⟨b,off,rfl,hb,hcell⟩
 .exact .inl (by simp)
 .refine .inr ⟨b,off,rfl,hb,λi g=>?_⟩;rw[hcell i (by omega),AO (by omega),AO g];simp
theorem Sl.drop{b off:Nat}(h:Sl w (.slice (some ⟨b,off,none⟩) n cap) l)(k:Nat)(s:k<=l.length)(a:Nat)(g:l.length<=a+k):Sl w (.slice (some ⟨b,off+k,none⟩) (l.length-k) a) (l.drop k):=by
 obtain⟨⟨q,d,e,r,t,f⟩,o,c⟩:=h;simp only[Value.slice.injEq]at e;obtain⟨rfl,rfl,rfl⟩:=e;have m:(l.drop k).length=l.length-k:=by rw[jL]
 refine⟨⟨_,a,by rw[m],by omega,by simp,?_⟩,by omega,λx p=>c x (lP p)⟩;rcases f with rfl|⟨b,off,e,hb,hcell⟩
 .exact .inl (by simp)
 .simp only[V',Addr.mk.injEq,and_true]at e;obtain⟨rfl,rfl⟩:=e;refine .inr ⟨_,_,rfl,hb,λi j=>?_⟩;rw[kM,hcell (k+i) (by omega),AO (by omega),AO j];simp
theorem DM(h:w.ownsRow base e 1 v l.length (l.map (Value.int .u8)))(c:l≠[]) :
  ∃ g cap,v=.slice (some ⟨g,0,none⟩) l.length cap/\base<=g/\g<w.heap.size/\l.length<=cap/\(∀ i,i<l.length->w.cell? ⟨g,i,none⟩=some (.int .u8 (l.getD i 0)))/\(∀ i,w.frozen? ⟨g,i,none⟩=false):=by
 rcases h.2 with⟨rfl,h0⟩|⟨g,cap,cur,rfl,hb,hg,hn,_,hcs,ht⟩
 .exact absurd (Z' h0) c
 .refine⟨g,cap,rfl,hb,(H'.1 hg).1,hn,λi b=>?_,λi=>?_⟩
  .have hc:=h.cells (g:=g) rfl i (.int .u8 (l.getD i 0)) (by simp[List.getElem?_eq_getElem b,List.getD]);have a:(⟨g,0,none⟩:Addr).add i=⟨g,i,none⟩:=by unfold Addr.add;split<;>simp_all
   rwa [a]at hc
  .simp[World.frozen?,hg]
theorem Sl.built(w:World)(l:List Int)(e:TypeId){g:Nat}(b:g=w.heap.size)(d:l.length<=140737488351232)(a:∀ x∈l,0<=x/\x<256):Sl (w.alloc (.cells (l.map (Value.int .u8)).toArray e)) (.slice (some ⟨g,0,none⟩) l.length l.length) l:=by
 subst b;refine⟨⟨_,l.length,rfl,by simp,by simp,.inr ⟨w.heap.size,0,rfl,by simp,λi c=>?_⟩⟩,d,a⟩;rw[cell_of_row _ _ (0+i) _ _ _ (heap_alloc_new w _)];simp[List.getElem?_eq_getElem c,List.getD]
theorem Sl.one(w:World)(b:Int)(e:TypeId){g:Nat}(c:g=w.heap.size)(a:0<=b/\b<256):Sl (w.alloc (.cells #[.int .u8 b] e)) (.slice (some ⟨g,0,none⟩) 1 1) [b]:=by
 subst c;refine⟨⟨_,1,rfl,by simp,by simp,.inr ⟨w.heap.size,0,rfl,by simp,λi d=>?_⟩⟩,by simp,by simpa using a⟩;obtain rfl:i=0:=by simpa using d
 simp
theorem Sl.drew(h:Sl w v l):Sl w.drew v l:=h.ab (Below.refl _ _).drew
theorem Al{a b:Bool}(h:a=b):Ending.returned (.bool a)=.returned (.bool b):=by rw[h]
theorem Am{B:Nat}{a:World}(h:Below B a w)(n:Nat):Below B a (w.drewN n):=h.trans ⟨rfl,rfl,rfl,A' _,λ_ _=>rfl⟩
end
end
section
open Go.RowKit
section
def X3:Value->Nat
 | .slice _ n _=>n
 | _=>0
variable{P:Program}{base n:Nat}{l:List Int}{v:Value}{w:World}{xs:List Value}
theorem Ed{e:Nat}(h:w.ownsRow base e 1 v n xs):∃ a cap,v=.slice a n cap:=by
 rcases h.2 with⟨rfl,rfl⟩|⟨g,cap,cur,rfl,_⟩
 .exact⟨none,0,rfl⟩
 .exact⟨_,cap,rfl⟩
theorem AJ{a:Nat}{e:TypeId}{b:Nat}(h:w.ownsRow base e b v n xs)(c:a<=base):w.ownsRow a e b v n xs:=by
 refine⟨h.1,?_⟩;rcases h.2 with h2|⟨g,cap,cur,hv,hg,hr⟩
 .exact .inl h2
 .exact .inr ⟨g,cap,cur,hv,jG c hg,hr⟩
theorem LA(l:List Int)(j:Nat):l++List.replicate j 0++[0]=l++List.replicate (j+1) 0:=by
 rw[jI,<- List.replicate_succ']
theorem Sl.shape(h:Sl w v l):∃ a cap,v=.slice a l.length cap:=by
 obtain⟨⟨a,cap,e,_⟩,_⟩:=h;exact⟨a,cap,e⟩
def AM(l:List Int):Array Value:=(l.map (Value.int .u8)).toArray
theorem AA(l:List Int):(AM l).size=l.length:=by simp[AM]
theorem K6(l:List Int):(AM l).all (·.oneCell')=true:=by simp[AM,Value.oneCell']
theorem DF(l:List Int)(i:Nat)(h:i<l.length):(AM l)[i]?=some (.int .u8 (l.getD i 0)):=by
 simp[AM,List.getD,List.getElem?_eq_getElem h]
theorem VQ(l:List Int)(i:Nat)(x:Int):(AM l).setIfInBounds i (.int .u8 x)=AM (l.set i x):=by
 apply lZ;simp[AM,List.map_set]
def uw(x:BitVec 32):Int:=(x.toNat:Int)
theorem D3(x:BitVec 32):0<=uw x:=Int.natCast_nonneg _
theorem YW(x:BitVec 32):uw x<4294967296:=by unfold uw;have:=x.isLt;omega
theorem SA{x y:BitVec 32}:uw x=uw y↔x=y:=by
 unfold uw;constructor
 .intro h;exact BitVec.eq_of_toNat_eq (by omega)
 .rintro rfl;rfl
theorem Ma(x y:BitVec 32):bits .and .u32 (uw x) (uw y)=uw (x &&& y):=by
 unfold uw;rw[u32_and_nat _ _ x.isLt y.isLt,BitVec.toNat_and]
theorem JA(x y:BitVec 32):bits .or .u32 (uw x) (uw y)=uw (x ||| y):=by
 unfold uw;rw[u32_or_nat _ _ x.isLt y.isLt,nF]
theorem Dl(x y:BitVec 32):bits .xor .u32 (uw x) (uw y)=uw (x ^^^ y):=by
 unfold uw;rw[u32_xor_nat _ _ x.isLt y.isLt,BitVec.toNat_xor]
theorem jD(x y:BitVec 32):IntKind.u32.wrap (uw x+uw y)=uw (x+y):=by
 unfold uw;rw[IntKind.wrap_u32',ny];omega
theorem Da(a b:BitVec 32):(uw a+uw b)%(4294967296:Int)=uw (a+b):=by
 unfold uw;rw[ny];omega
theorem cX(a b c:BitVec 32):(uw a+uw b+uw c)%(4294967296:Int)=uw (a+b+c):=by
 rw[<- Da,<- Da];omega
theorem TB(a b c d:BitVec 32):(uw a+uw b+uw c+uw d)%(4294967296:Int)=uw (a+b+c+d):=by
 rw[<- Da,<- cX];omega
theorem FZ(x:BitVec 32)(k:Nat):uw x*(2:Int)^k%(4294967296:Int)=uw (x <<< k):=by
 unfold uw;rw[BitVec.toNat_shiftLeft,Nat.shiftLeft_eq,nz,m5,me];rfl
theorem OF(x:BitVec 32)(k:Nat):uw x/(2:Int)^k=uw (x >>> k):=by
 unfold uw;rw[BitVec.toNat_ushiftRight,Nat.shiftRight_eq_div_pow,Int.natCast_ediv,me];rfl
theorem cW(x:BitVec 32):uw x/(8:Int)=uw (x >>> 3):=OF x 3
theorem YY(x:BitVec 32):uw x/(1024:Int)=uw (x >>> 10):=OF x 10
theorem gm(x:BitVec 32)(n:Nat)(a:1<=n)(b:n<=31):bits .or .u32 (uw x*2^(32-n)%4294967296) (uw x/2^(32-(32-n)))=uw (x.rotateRight n):=by
 rw[FZ,OF,JA,SA];rw[show 32-(32-n)=n by omega,BitVec.rotateRight_def,mU (by omega:n<32),BitVec.or_comm]
def EN(n:Nat):Nat:=(119-n%64)%64
def Cy(n:Nat):List Int:=[((n*8/2^56%256:Nat):Int),((n*8/2^48%256:Nat):Int),((n*8/2^40%256:Nat):Int),((n*8/2^32%256:Nat):Int),
 ((n*8/2^24%256:Nat):Int),((n*8/2^16%256:Nat):Int),((n*8/2^8%256:Nat):Int),((n*8/2^0%256:Nat):Int)]
def C6(l:List Int)(j:Nat):List Int:=l++[128]++List.replicate j 0
def pad(l:List Int):List Int:=C6 l (EN l.length)++Cy l.length
theorem CX(l:List Int)(j:Nat):(C6 l j).length=l.length+1+j:=by simp[C6];omega
theorem RZ(l:List Int)(j:Nat):C6 l j++[0]=C6 l (j+1):=by
 simp only[C6,jI];rw[<- List.replicate_succ']
theorem JO(n:Nat):(Cy n).length=8:=rfl
theorem Sa(l:List Int):(pad l).length%64=0/\l.length<(pad l).length/\(pad l).length<=l.length+72:=by
 unfold pad;rw[M',CX,JO];unfold EN;omega
theorem RY(h:∀ x∈l,0<=x/\x<256)(j:Nat):∀ x∈C6 l j,0<=x/\x<256:=by
 intro x a;simp only[C6,Q',G',mx]at a;rcases a with(a|rfl)|⟨_,rfl⟩
 .exact h x a
 .omega
 .omega
theorem Mv(n:Nat):∀ x∈Cy n,0<=x/\x<256:=by
 intro x a;simp only[Cy,jQ,N',or_false]at a;rcases a with rfl|rfl|rfl|rfl|rfl|rfl|rfl|rfl<;>omega
theorem XW(h:∀ x∈l,0<=x/\x<256):∀ x∈pad l,0<=x/\x<256:=by
 intro x a;rcases Q'.1 a with h1|h1
 .exact RY h _ x h1
 .exact Mv _ x h1
theorem Om(n s:Nat):((n*8/2^s%256:Nat):Int)=(n:Int)*8/2^s%256:=by
 rw[nz,Int.natCast_ediv,m5,me];rfl
theorem Mw(n k:Nat)(a:k<8):(Cy n).take (k+1)=(Cy n).take k++[(n:Int)*8/2^(56-8*k)%256]:=by
 rw[<- Om];obtain rfl|rfl|rfl|rfl|rfl|rfl|rfl|rfl:k=0\/k=1\/k=2\/k=3\/k=4\/k=5\/k=6\/k=7:=by omega
 all_goals rfl
def Aw(ws:List (BitVec 32)):Array Value:=(ws.map λx=>Value.int .u32 (uw x)).toArray
theorem AY(a:List (BitVec 32)):(Aw a).size=a.length:=by simp[Aw]
theorem BF(a:List (BitVec 32))(i:Nat)(h:i<a.length):(Aw a)[i]?=some (.int .u32 (uw (a.getD i 0#32))):=by
 simp[Aw,List.getD,List.getElem?_eq_getElem h]
theorem Md(a:List (BitVec 32))(i:Nat)(x:BitVec 32):(Aw a).setIfInBounds i (.int .u32 (uw x))=Aw (a.set i x):=by
 apply lZ;simp[Aw,List.map_set]
def Cn(n:Int):BitVec 32:=BitVec.ofNat 32 n.toNat
def SG(l:List Int)(i:Nat):BitVec 32:=Cn (l.getD (4*i) 0) <<< 24 ||| Cn (l.getD (4*i+1) 0) <<< 16 ||| Cn (l.getD (4*i+2) 0) <<< 8 ||| Cn (l.getD (4*i+3) 0)
def fY(x:BitVec 32):BitVec 32:=x.rotateRight 7 ^^^ x.rotateRight 18 ^^^ x >>> 3
def fZ(x:BitVec 32):BitVec 32:=x.rotateRight 17 ^^^ x.rotateRight 19 ^^^ x >>> 10
def JW(l:List Int):Nat->List (BitVec 32)
 | 0=>List.replicate 64 0#32
 | k+1=>(JW l k).set k (SG l k)
def XH(ws:List (BitVec 32))(i:Nat):BitVec 32:=ws.getD (i-16) 0#32+fY (ws.getD (i-15) 0#32)+ws.getD (i-7) 0#32+fZ (ws.getD (i-2) 0#32)
def F0(l:List Int):Nat->List (BitVec 32)
 | 0=>JW l 16
 | k+1=>(F0 l k).set (16+k) (XH (F0 l k) (16+k))
def Nx(l:List Int):List (BitVec 32):=F0 l 48
theorem FT(l:List Int)(k:Nat):(JW l k).length=64:=by
 induction k with
 | zero=>simp[JW]
 | succ k ih=>simp[JW,ih]
theorem Ef(l:List Int)(k:Nat):(F0 l k).length=64:=by
 induction k with
 | zero=>exact FT l 16
 | succ k ih=>simp[F0,ih]
theorem O4(l:List Int):(Nx l).length=64:=Ef l 48
theorem Kv(n:Int)(h:0<=n/\n<256):uw (Cn n)=n:=by
 unfold uw Cn;rw[m9];omega
def R6:List Int:=[1116352408,1899447441,3049323471,3921009573,961987163,1508970993,2453635748,2870763221,3624381080,310598401,607225278,1426881987,1925078388,2162078206,2614888103,3248222580,3835390401,4022224774,264347078,604807628,770255983,1249150122,1555081692,1996064986,2554220882,2821834349,2952996808,3210313671,3336571891,3584528711,113926993,338241895,666307205,773529912,1294757372,1396182291,1695183700,1986661051,2177026350,2456956037,2730485921,2820302411,3259730800,3345764771,3516065817,3600352804,4094571909,275423344,430227734,506948616,659060556,883997877,958139571,1322822218,1537002063,1747873779,1955562222,2024104815,2227730452,2361852424,2428436474,2756734187,3204031479,3329325298]
def kAt(i:Nat):BitVec 32:=BitVec.ofNat 32 (R6.getD i 0).toNat
structure St where
 a:BitVec 32
 b:BitVec 32
 c:BitVec 32
 d:BitVec 32
 e:BitVec 32
 f:BitVec 32
 g:BitVec 32
 h:BitVec 32
def St.cells(s:St):Array Value:=#[.int .u32 (uw s.a),.int .u32 (uw s.b),.int .u32 (uw s.c),.int .u32 (uw s.d),.int .u32 (uw s.e),.int .u32 (uw s.f),.int .u32 (uw s.g),.int .u32 (uw s.h)]
def St.list(s:St):List (BitVec 32):=[s.a,s.b,s.c,s.d,s.e,s.f,s.g,s.h]
def QP(e f g:BitVec 32):BitVec 32:=(e &&& f) ^^^ (~~~e &&& g)
def most(a b c:BitVec 32):BitVec 32:=(a &&& b) ^^^ (a &&& c) ^^^ (b &&& c)
def gP(e:BitVec 32):BitVec 32:=e.rotateRight 6 ^^^ e.rotateRight 11 ^^^ e.rotateRight 25
def gO(a:BitVec 32):BitVec 32:=a.rotateRight 2 ^^^ a.rotateRight 13 ^^^ a.rotateRight 22
def upS(s:St)(k w:BitVec 32):BitVec 32:=s.h+gP s.e+QP s.e s.f s.g+k+w
def du(s:St):BitVec 32:=gO s.a+most s.a s.b s.c
def YC(s:St)(k w:BitVec 32):St:={ a:=upS s k w+du s,b:=s.a,c:=s.b,d:=s.c,e:=s.d+upS s k w,f:=s.e,g:=s.f,h:=s.g }
def BB(ws:List (BitVec 32))(s:St):Nat->St
 | 0=>s
 | k+1=>YC (BB ws s k) (kAt k) (ws.getD k 0#32)
def jp(s t:St):St:={ a:=s.a+t.a,b:=s.b+t.b,c:=s.c+t.c,d:=s.d+t.d,e:=s.e+t.e,f:=s.f+t.f,g:=s.g+t.g,h:=s.h+t.h }
def DE(s t:St):Nat->List (BitVec 32)
 | 0=>s.list
 | i+1=>(DE s t i).set i ((DE s t i).getD i 0#32+t.list.getD i 0#32)
theorem EQ(s t:St)(i:Nat):(DE s t i).length=8:=by
 induction i with
 | zero=>rfl
 | succ i ih=>simp[DE,ih]
def XC(s:St)(ws:List (BitVec 32)):St:=jp s (BB ws s 64)
def start:St:={ a:=1779033703#32,b:=3144134277#32,c:=1013904242#32,d:=2773480762#32,e:=1359893119#32,f:=2600822924#32,g:=528734635#32,h:=1541459225#32 }
def ER(x:BitVec 32):List Int:=[uw x/16777216%256,uw x/65536%256,uw x/256%256,uw x%256]
def Ct:List (BitVec 32)->List Int
 | []=>[]
 | x::r=>ER x++Ct r
def NU(s:St):List Int:=Ct s.list
theorem Jk(x:BitVec 32):∀ n∈ER x,0<=n/\n<256:=by
 intro n a;simp only[ER,jQ,N',or_false]at a;rcases a with rfl|rfl|rfl|rfl<;>omega
theorem OQ(l:List (BitVec 32)):∀ n∈Ct l,0<=n/\n<256:=by
 induction l with
 | nil=>intro n a;cases a
 | cons x r ih =>
  intro n a;rcases Q'.1 a with h|h
  .exact Jk x n h
  .exact ih n h
theorem OR(l:List (BitVec 32))(x:BitVec 32):Ct (l++[x])=Ct l++ER x:=by
 induction l with
 | nil=>simp[Ct]
 | cons y r ih=>simp[Ct,ih]
theorem G7(l:List (BitVec 32)):(Ct l).length=4*l.length:=by
 induction l with
 | nil=>rfl
 | cons x r ih=>simp[Ct,ER,ih];omega
def Oa(l:List Int):Nat->St
 | 0=>start
 | k+1=>XC (Oa l k) (Nx ((l.drop (64*k)).take 64))
def dig(l:List Int):List Int:=NU (Oa (pad l) ((pad l).length/64))
theorem Ao(l:List Int):(dig l).length=32:=rfl
theorem CT(l:List Int):∀ n∈dig l,0<=n/\n<256:=OQ _
def Mu(s:List (BitVec 32))(a b:Nat):List (BitVec 32):=s.set a (s.getD a 0#32+s.getD b 0#32)
def eV(s:List (BitVec 32))(a t n:Nat):List (BitVec 32):=s.set t ((s.getD t 0#32 ^^^ s.getD a 0#32).rotateLeft n)
def Jq(s:List (BitVec 32))(a b t n:Nat):List (BitVec 32):=eV (Mu s a b) a t n
def Lz(s:List (BitVec 32))(a b c d:Nat):List (BitVec 32):=Jq (Jq (Jq (Jq s a b d 16) c d b 12) a b d 8) c d b 7
theorem Jp(s:List (BitVec 32))(a b:Nat):(Mu s a b).length=s.length:=by simp[Mu]
theorem Pz(s:List (BitVec 32))(a t n:Nat):(eV s a t n).length=s.length:=by simp[eV]
theorem BM(s:List (BitVec 32))(a b t n:Nat):(Jq s a b t n).length=s.length:=by rw[Jq,Pz,Jp]
theorem Mz(s:List (BitVec 32))(a b c d:Nat):(Lz s a b c d).length=s.length:=by simp only[Lz,BM]
def EE:List Nat:=[0,4,8,12,1,5,9,13,2,6,10,14,3,7,11,15,0,5,10,15,1,6,11,12,2,7,8,13,3,4,9,14]
def GJ(s:List (BitVec 32)):Nat->List (BitVec 32)
 | 0=>s
 | k+1=>Lz (GJ s k) (EE.getD (4*k) 0) (EE.getD (4*k+1) 0) (EE.getD (4*k+2) 0) (EE.getD (4*k+3) 0)
def Dz(s:List (BitVec 32)):Nat->List (BitVec 32)
 | 0=>s
 | k+1=>GJ (Dz s k) 8
theorem I1(s:List (BitVec 32))(k:Nat):(GJ s k).length=s.length:=by
 induction k with
 | zero=>rfl
 | succ k ih=>rw[GJ,Mz,ih]
theorem GL(s:List (BitVec 32))(k:Nat):(Dz s k).length=s.length:=by
 induction k with
 | zero=>rfl
 | succ k ih=>rw[Dz,I1,ih]
theorem Kr(i:Nat):EE.getD i 0<16:=by
 have all:∀ j:Fin 32,EE.getD j.val 0<16:=by decide
 rcases kt i 32 with h|h
 .exact all ⟨i,h⟩
 .rw[List.getD,lC (by simpa[EE]using h)];decide
def K9(x:BitVec 32):List Int:=[uw x%256,uw x/256%256,uw x/65536%256,uw x/16777216%256]
def eb(s t:List (BitVec 32))(i:Nat):BitVec 32:=s.getD i 0#32+t.getD i 0#32
def RS(s t:List (BitVec 32)):Nat->List Int
 | 0=>[]
 | k+1=>RS s t k++K9 (eb s t k)
theorem FK(s t:List (BitVec 32))(k:Nat):(RS s t k).length=4*k:=by
 induction k with
 | zero=>rfl
 | succ k ih=>simp[RS,K9,ih];omega
theorem OS(x:BitVec 32):∀ n∈K9 x,0<=n/\n<256:=by
 intro n a;simp only[K9,jQ,N',or_false]at a;rcases a with rfl|rfl|rfl|rfl<;>omega
theorem US(s t:List (BitVec 32))(k:Nat):∀ n∈RS s t k,0<=n/\n<256:=by
 induction k with
 | zero=>intro n a;cases a
 | succ k ih =>
  intro n a;rcases Q'.1 a with h|h
  .exact ih n h
  .exact OS _ n h
def Cr(s:List (BitVec 32)):List Int:=RS (Dz s 10) s 16
theorem Eo(s:List (BitVec 32)):(Cr s).length=64:=FK _ _ _
theorem F5(s:List (BitVec 32)):∀ n∈Cr s,0<=n/\n<256:=US _ _ _
def Zi(l:List Int)(i:Nat):BitVec 32:=Cn (l.getD (4*i) 0) ||| Cn (l.getD (4*i+1) 0) <<< 8 ||| Cn (l.getD (4*i+2) 0) <<< 16 ||| Cn (l.getD (4*i+3) 0) <<< 24
def D2(s:List (BitVec 32))(off:Nat)(l:List Int):Nat->List (BitVec 32)
 | 0=>s
 | k+1=>(D2 s off l k).set (off+k) (Zi l k)
theorem D7(s:List (BitVec 32))(a:Nat)(l:List Int)(k:Nat):(D2 s a l k).length=s.length:=by
 induction k with
 | zero=>rfl
 | succ k ih=>simp[D2,ih]
def Hd:List (BitVec 32):=[1634760805#32,857760878#32,2036477234#32,1797285236#32,0#32,0#32,0#32,0#32,0#32,0#32,0#32,0#32,0#32,0#32,0#32,0#32]
def BK(key:List Int)(c:BitVec 32)(nonce:List Int):List (BitVec 32):=D2 ((D2 Hd 4 key 8).set 12 c) 13 nonce 3
theorem G4(key:List Int)(c:BitVec 32)(a:List Int):(BK key c a).length=16:=by
 simp[BK,D7,Hd]
def bx(x y:Int):Int:=((x.toNat ^^^ y.toNat:Nat):Int)
theorem NT{x y:Int}(a:0<=x/\x<256)(b:0<=y/\y<256):0<=bx x y/\bx x y<256:=by
 unfold bx;have:x.toNat ^^^ y.toNat<2^8:=my (by omega) (by omega);omega
def N1(s:List (BitVec 32))(i:Nat):Int:=(Cr (s.set 12 (s.getD 12 0#32+BitVec.ofNat 32 (i/64)))).getD (i%64) 0
theorem S2(s:List (BitVec 32))(i:Nat):0<=N1 s i/\N1 s i<256:=Ai (F5 _) _
def CW(s:List (BitVec 32))(d:List Int):Nat->List Int
 | 0=>[]
 | k+1=>CW s d k++[bx (N1 s k) (d.getD k 0)]
def PD(s:List (BitVec 32))(d:List Int):List Int:=CW s d d.length
theorem EZ(s:List (BitVec 32))(d:List Int)(k:Nat):(CW s d k).length=k:=by
 induction k with
 | zero=>rfl
 | succ k ih=>simp[CW,ih]
theorem PE(s:List (BitVec 32))(d:List Int):(PD s d).length=d.length:=EZ _ _ _
theorem RG(s:List (BitVec 32)){d:List Int}(b:∀ x∈d,0<=x/\x<256)(k:Nat):∀ n∈CW s d k,0<=n/\n<256:=by
 induction k with
 | zero=>intro n a;cases a
 | succ k ih =>
  intro n a;rcases Q'.1 a with h|h
  .exact ih n h
  .obtain rfl:n=_:=by simpa using h
   exact NT (S2 _ _) (Ai b k)
theorem IL(s:List (BitVec 32)){d:List Int}(a:∀ x∈d,0<=x/\x<256):∀ n∈PD s d,0<=n/\n<256:=RG s a _
theorem Cc{c:Array Oper}{Q:Act->Prop}:∀ (l:List Oper) (a:Act),wpQuiet P c (λw'=>w'=w) Q l a->wpStill P c w Q l a
 | [],_,h=>h
 | o::rest,a,h=>by
  unfold wpQuiet at h;unfold wpStill;split
  .rename_i hw
   rw[if_pos hw]at h
   obtain⟨v,h1,h2⟩:=h;have b:=h1 w rfl;unfold Oper.quietAt at b;unfold Oper.still;generalize (execOp a.eval o).run P w=r at b ⊢;cases r with
   | ok n w' =>
    cases n<;>simp only[Oper.quietUpon]at b<;>simp only[Oper.stillUpon]
    case value u =>
     obtain⟨d,e⟩:=b;rw[e];exact⟨d,Cc rest _ h2⟩
    case skip =>
     obtain⟨d,e⟩:=b;rw[<- e];exact⟨d,Cc rest _ h2⟩
    case enter f args=>exact⟨b.1,v,b.2,Cc rest _ h2⟩
   | halt x w'=>simp only[Oper.quietUpon]at b
  .rename_i hw
   rw[if_neg hw]at h
   exact Cc rest _ h
theorem Ar{d:Nat}{Q:Exit->Act->World->Prop}{a:Act}{l:List Oper}(n:Nat)(c:P.follows .mixedOrders=true)(b:Region.lexTailB .any l.toArray n=true)(h:wpQuiet P l.toArray (λw'=>w'=w.drew) (λa'=>wpList P l.toArray Q (l.drop n) a' w.drew) (l.take n) a):(Code.region d l.toArray true).wp P Q a w :=
 wp_region_still_tail n c b (Cc _ _ h)
theorem Yj{a b:Int}(h:a=b):Ending.returned (.int .u32 a)=.returned (.int .u32 b):=by rw[h]
theorem ej(n:Nat)(a:n<=31):bits .and .u64 (n:Int) 31=(n:Int):=by
 rw[show(31:Int)=((31:Nat):Int)from rfl,u64_and_nat _ _ (by omega) (by omega),nat_mask5];omega
theorem cV(x:BitVec 32)(n:Nat)(a:1<=n)(b:n<=31):bits .or .u32 (uw x*2^n%4294967296) (uw x/2^(32-n))=uw (x.rotateLeft n):=by
 rw[FZ,OF,JA,SA];rw[BitVec.rotateLeft_def,mU (by omega:n<32)]
theorem Yq(x:BitVec 32)(n:Nat)(w:World)(b:1<=n)(a:n<=31) :
  Calls prog 178 #[.int .u32 (uw x),.int .i64 (n:Int)] w λe w'=>e=.returned (.int .u32 (uw (x.rotateLeft n)))/\w'=w:=by
 have c:=D3 x;have d:=YW x;have f:=ej n a;go_enter func178,ntmps178
 go_wp2
 go_ret;exact⟨Yj (cV x n b a),rfl⟩
theorem cc(v:Int)(x:BitVec 32)(c:v=uw x)(n:Nat)(w:World)(a:1<=n)(b:n<=31) :
  Calls prog 178 #[.int .u32 v,.int .i64 (n:Int)] w λe w'=>e=.returned (.int .u32 (uw (x.rotateLeft n)))/\w'=w:=by
 subst c;exact Yq x n w a b
theorem EI{g:Nat}{a:List (BitVec 32)}(h:w.heap[g]?=some (.cells (Aw a) 275 (0,0)))(k:Nat)(x:BitVec 32) :
  (w.setCell ⟨g,k,none⟩ (.int .u32 (uw x))).heap[g]?=some (.cells (Aw (a.set k x)) 275 (0,0)):=by
 rw[heap_setCell_same _ _ _ _ _ _ h,Md]
theorem Hx(g:Nat)(c:List (BitVec 32))(w:World)(i:w.heap[g]?=some (.cells (Aw c) 275 (0,0)))(r:c.length=16)(a b t n:Nat)(D:a<16)(E:b<16)(F:t<16)(A:1<=n)(B:n<=31) :
  Calls prog 210 #[.pointer (some ⟨g,0,none⟩),.int .i64 a,.int .i64 b,.int .i64 t,.int .i64 n] w λe w'=>e=.returned (.tuple #[])/\w'.heap[g]?=some (.cells (Aw (Jq c a b t n)) 275 (0,0))/\Below g w w':=by
 have l:=(cell_of_row w _ a _ _ _ i).trans (BF c a (by omega));have q:=(cell_of_row w _ b _ _ _ i).trans (BF c b (by omega));have z:=frozen_of_row w _ a _ _ i;have k:Hid (Mu c a b=c.set a (c.getD a 0#32+c.getD b 0#32)):=rfl;have o:Hid _:=i;have m:Hid (c.length=16):=r;clear i r;generalize c.getD a 0#32=x at l k;generalize c.getD b 0#32=y at q k;go_enter func210,ntmps210
 go_wp2_with fail
 refine Ar 13 (by kernel_rfl) (by kernel_rfl) ?_;simp only[kL,kZ,k9,lM]
 repeat (go_big_quiet_step (fail))
 refine wpQuiet_nil ?_;go_wp2_with fail
 rw[Da];generalize d:(w.setCell _ _).drew=W1;have f:W1.heap[g]?=some (.cells (Aw (Mu c a b)) 275 (0,0)):=by rw[<- d,k.out];exact EI o.out a _
 have u:Below g w W1:=by rw[<- d];exact((Below.refl g w).setCell (p:=⟨g,a,none⟩) (A' _) _).drew
 have h:(Mu c a b).length=16:=by rw[Jp];exact m.out
 have j:Hid (Jq c a b t n=(Mu c a b).set t (((Mu c a b).getD t 0#32 ^^^ (Mu c a b).getD a 0#32).rotateLeft n)):=rfl;clear d k o m l q z;generalize Mu c a b=vs at f h j;have l:=(cell_of_row W1 _ a _ _ _ f).trans (BF vs a (by omega));have v:=(cell_of_row W1 _ t _ _ _ f).trans (BF vs t (by omega));have C:=frozen_of_row W1 _ t _ _ f;generalize vs.getD a 0#32=x2 at l j;generalize vs.getD t 0#32=y2 at v j;have s:Hid _:=f;clear f h;refine Ar 17 (by kernel_rfl) (by kernel_rfl) ?_;simp only[kL,kZ,k9,lM]
 repeat (go_big_quiet_step (fail))
 go_big_quiet_want
 go_big_quiet_op
 refine⟨_,cc _ (y2 ^^^ x2) (Dl y2 x2) n _ A B,?_⟩
 go_big_quiet_on
 repeat (go_big_quiet_step (fail))
 refine wpQuiet_nil ?_;go_wp2
 go_end0
 refine⟨rfl,?_,u.trans (((Below.refl g W1).setCell (p:=⟨g,t,none⟩) (A' _) _).drew)⟩;rw[j.out];exact EI (w:=W1.drew) s.out t _
theorem Qa(g:Nat)(j:List (BitVec 32))(w:World)(q:w.heap[g]?=some (.cells (Aw j) 275 (0,0)))(i:j.length=16)(a b c d:Nat)(k:a<16)(f:b<16)(l:c<16)(h:d<16) :
  Calls prog 203 #[.pointer (some ⟨g,0,none⟩),.int .i64 a,.int .i64 b,.int .i64 c,.int .i64 d] w λe w'=>e=.returned (.tuple #[])/\w'.heap[g]?=some (.cells (Aw (Lz j a b c d)) 275 (0,0))/\Below g w w':=by
 go_enter func203,ntmps203
 go_wp2_with fail
 refine(Hx g j w q i a b d 16 k f h (by omega) (by omega)).mono ?_;rintro e v ⟨rfl,r,m⟩;go_wp2_with fail
 refine(Hx g _ v r (by rw[BM];exact i) c d b 12 l h f (by omega) (by omega)).mono ?_;rintro e x ⟨rfl,s,n⟩;go_wp2_with fail
 refine(Hx g _ x s (by rw[BM,BM];exact i) a b d 8 k f h (by omega) (by omega)).mono ?_;rintro e y ⟨rfl,t,o⟩;go_wp2_with fail
 refine(Hx g _ y t (by rw[BM,BM,BM];exact i) c d b 7 l h f (by omega) (by omega)).mono ?_;rintro e z ⟨rfl,u,p⟩;go_wp2
 go_end0
 exact⟨rfl,u,((m.trans n).trans o).trans p⟩
end
end
section
theorem Aq:(prog.info? 5).map (λi=>(i.zero,i.size,i.bytes))=some (some (.int .u8 0),1,1):=by kernel_rfl
end
section
open Go.RowKit
section
theorem IX(x:BitVec 32)(h:uw x<256):uw x*16777216=uw (x <<< 24)/\uw x*65536=uw (x <<< 16)/\uw x*256=uw (x <<< 8):=by
 have d:=D3 x;have b:=FZ x 24;have a:=FZ x 16;have c:=FZ x 8;rw[<- b,<- a,<- c];refine⟨?_,?_,?_⟩
 .rw[show(2:Int)^24=16777216 from rfl];omega
 .rw[show(2:Int)^16=65536 from rfl];omega
 .rw[show(2:Int)^8=256 from rfl];omega
theorem GF(g d n B:Nat)(r:List (BitVec 32))(v:Value)(l:List Int)(w:World)(J:w.heap[g]?=some (.cells (Aw r) 275 (0,0)))(Y:r.length=16)(I:d+n<=16)(X:0<n)(h:Sl w v l)(C:l.length=4*n)(t:∀ b o m c,v=.slice (some ⟨b,o,none⟩) m c->b<g) :
  Calls prog 197 #[.slice (some ⟨g,d,none⟩) n B,v] w λe w'=>e=.returned (.tuple #[])/\w'.heap[g]?=some (.cells (Aw (D2 r d l n)) 275 (0,0))/\Below g w w':=by
 obtain⟨⟨a,E,rfl,S,W,R⟩,D,j⟩:=h;rcases R with rfl|⟨b,o,rfl,hb,hcell⟩
 .simp at C;omega
 have q:=t _ _ _ _ rfl;clear t;rw[C]at S D hcell ⊢
 have x:Hid (∀ i,i<4*n->w.cell? ⟨b,o+i,none⟩=some (.int .u8 (uw (Cn (l.getD i 0))))):=λi U=>by rw[Kv _ (Ai j i)];exact hcell i U
 have u:Hid (∀ i,uw (Cn (l.getD i 0))<256):=λi=>by rw[Kv _ (Ai j i)];exact(Ai j i).2
 clear C W hcell j;go_enter func197,ntmps197
 go_wp2_with fail
 go_loopw [7] (λi wr=>∃ k:Nat,k<=n/\i=.int .i64 k/\wr.heap[g]?=some (.cells (Aw (D2 r d l k)) 275 (0,0))/\Below g w wr) (λi _=>n-(intOf i).toNat)
 case atStart=>exact⟨0,by omega,rfl,J,Below.refl _ _⟩
 case round =>
  clear J;obtain⟨k,hk,rfl,z,f⟩:=hrel;by_cases V:k<n
  .have hfw:wr.frozen? ⟨g,d+k,none⟩=false:=frozen_of_row wr _ (d+k) _ _ z;have K:=BF (D2 r d l k) (d+k) (by rw[D7];omega);have T:wr.cell? ⟨g,d+k,none⟩=some (.int .u32 (uw ((D2 r d l k).getD (d+k) 0#32))):=(cell_of_row wr _ (d+k) _ _ _ z).trans K;have c0:=(f.cell (p:=⟨b,o+(4*k),none⟩) q).trans (x.out (4*k) (by omega));have c1:=(f.cell (p:=⟨b,o+(4*k+1),none⟩) q).trans (x.out (4*k+1) (by omega));have P:=(f.cell (p:=⟨b,o+(4*k+2),none⟩) q).trans (x.out (4*k+2) (by omega));have Q:=(f.cell (p:=⟨b,o+(4*k+3),none⟩) q).trans (x.out (4*k+3) (by omega));have Z:=u.out (4*k);have L:=u.out (4*k+1);have M:=u.out (4*k+2);have N:=u.out (4*k+3);obtain⟨A,s,O⟩:∃ A,Hid (A=Zi l k)/\Hid (D2 r d l (k+1)=(D2 r d l k).set (d+k) A):=⟨_,rfl,rfl⟩;unfold Zi at s;generalize Cn (l.getD (4*k) 0)=x0 at c0 Z s;generalize Cn (l.getD (4*k+1) 0)=x1 at c1 L s;generalize Cn (l.getD (4*k+2) 0)=x2 at P M s;generalize Cn (l.getD (4*k+3) 0)=x3 at Q N s;obtain⟨y1,s1,F⟩:∃ y,uw x1*256=uw y/\x1 <<< 8=y:=⟨_,(IX x1 L).2.2,rfl⟩;obtain⟨y2,s2,G⟩:∃ y,uw x2*65536=uw y/\x2 <<< 16=y:=⟨_,(IX x2 M).2.1,rfl⟩;obtain⟨y3,s3,H⟩:∃ y,uw x3*16777216=uw y/\x3 <<< 24=y:=⟨_,(IX x3 N).1,rfl⟩;rw[F,G,H]at s
   clear F G H;have z0:=D3 x0;have z1:=D3 x1;have z2:=D3 x2;have z3:=D3 x3;clear K;go_wp2_with fail
   refine Ar 36 (by kernel_rfl) (by kernel_rfl) ?_;simp only[kL,kZ,k9,lM]
   repeat (go_big_quiet_step (fail))
   refine wpQuiet_nil ?_;go_wp2
   rw[JA,JA,JA,<- s.out];go_roundw
   case rel=>exact⟨k+1,by omega,by go_num,by rw[O.out];exact EI z (d+k) A,(f.setCell (p:=⟨g,d+k,none⟩) (A' _) _).drew⟩
   case measure=>simp[intOf];omega
  .have HK:Hid (k=n):=by unfold Hid;omega
   go_wp2
   go_end0
   exact⟨rfl,by rw[<- HK.out];exact z,f⟩
variable{B base cap e g i j k n:Nat}{P:Program}{Q:Exit->Act->World->Prop}{a:Act}{c o x y:Int}{fr:Nat × Nat}{key l m nonce r:List Int}{ops:Array Oper}{t:TypeId}{v:Value}{w w':World}{xs:List Value}
theorem CB{a:World}(h:Below B a w){g:Nat}(c:B<=g)(b:Array Value):Below B a (w.setRow g b) :=
 h.trans ⟨rfl,rfl,rfl,by simp,λk d=>setRow_other w g k b (by omega)⟩
theorem MK(G H:Value)(key d:List Int)(c:Nat)(w:World)(U:Sl w G key)(V:Sl w H d)(lk:key.length=32)(W:d.length=12)(Y:c<=2000000000) :
  Calls prog 187 #[G,.int .i64 c,H] w λe w'=>e=.returned (.agg (Aw (BK key (BitVec.ofNat 32 c) d)))/\Bw w w':=by
 have S:∀ b o m c,G=.slice (some ⟨b,o,none⟩) m c->b<w.heap.size:=by
  intro b o m c e;obtain⟨⟨a,N,rfl,_,_,O⟩,_,_⟩:=U;rcases O with rfl|⟨b',off',e',hb,_⟩
  .simp at lk
  .rw[e']at e
   simp only[Value.slice.injEq,V',Addr.mk.injEq,and_true]at e;omega
 have T:∀ b o m c,H=.slice (some ⟨b,o,none⟩) m c->b<w.heap.size:=by
  intro b o m c e;obtain⟨⟨a,N,rfl,_,_,O⟩,_,_⟩:=V;rcases O with rfl|⟨b',off',e',hb,_⟩
  .simp at W
  .rw[e']at e
   simp only[Value.slice.injEq,V',Addr.mk.injEq,and_true]at e;omega
 go_enter func187,ntmps187
 go_wp2_with fail
 generalize g:(w.alloc _).alloc _=W0;have D:W0.heap[w.heap.size+1]?=some (.cells (Aw Hd) 275 (0,0)):=by rw[<- g];exact heap_alloc2_new _ _ _
 have z:W0.heap[w.heap.size]?=some (.cells (Aw (List.replicate 16 0#32)) 275 (0,0)):=by rw[<- g];exact heap_alloc2_old _ _ _
 have l:Bw w W0:=by rw[<- g];exact((Below.refl _ _).alloc (A' _) _).alloc (by simp) _
 clear g;refine(GF (w.heap.size+1) 4 8 12 Hd G key W0 D rfl (by omega) (by omega) (U.ab l) lk (λb o m c e=>Nat.lt_succ_of_lt (S b o m c e))).mono ?_;rintro e I ⟨rfl,f,n⟩;have A:=(n.block w.heap.size (by omega)).trans z;have u:Bw w I:=l.trans (n.mono (by omega));have r:(D2 Hd 4 key 8).length=16:=by rw[D7];rfl
 have L:Hid (BK key (BitVec.ofNat 32 c) d=D2 ((D2 Hd 4 key 8).set 12 (BitVec.ofNat 32 c)) 13 d 3):=rfl;have x:(c:Int)=uw (BitVec.ofNat 32 c):=by unfold uw;rw[m9,mU (by omega)]
 have J:Hid ((c:Int)=uw (BitVec.ofNat 32 c)):=x;clear D z l n x;generalize D2 Hd 4 key 8=vs at f r L;have Q:=(cell_of_row I _ 12 _ _ _ f).trans (BF vs 12 (by omega));have R:=frozen_of_row I _ 12 _ _ f;go_wp2_with fail
 rw[J.out];generalize j:BitVec.ofNat 32 c=cw at L ⊢;have K:Hid (BitVec.ofNat 32 c=cw):=j;clear j;generalize h:I.setCell _ _=W2;have E:W2.heap[w.heap.size+1]?=some (.cells (Aw (vs.set 12 cw)) 275 (0,0)):=by rw[<- h];exact EI f 12 cw
 have B:W2.heap[w.heap.size]?=some (.cells (Aw (List.replicate 16 0#32)) 275 (0,0)):=by rw[<- h];exact(heap_setCell_other _ _ _ _ (by simp)).trans A
 have k:Bw w W2:=by rw[<- h];exact u.setCell (p:=⟨w.heap.size+1,12,none⟩) (by simp) _
 clear h f A u Q R;refine(GF (w.heap.size+1) 13 3 3 (vs.set 12 cw) H d W2 E (by simpa using r) (by omega) (by omega) (V.ab k) W (λb o m c e=>Nat.lt_succ_of_lt (T b o m c e))).mono ?_;rintro e X ⟨rfl,s,q⟩;have C:=(q.block w.heap.size (by omega)).trans B;have P:Bw w X:=k.trans (q.mono (by omega));have i:(D2 (vs.set 12 cw) 13 d 3).length=16:=by rw[D7];simpa using r
 clear E B k q;rw[<- L.out]at s i
 generalize F:BK key cw d=us at s i;have M:Hid (BK key cw d=us):=F;clear F;have t:(prog.info? 275).map (·.size)=some (Aw us).size:=by rw[AY,i];kernel_rfl
 have y:(Aw us).all (·.oneCell')=true:=by simp[Aw,Value.oneCell']
 go_wp2_with (first|(refine wpList_load_row rfl 275 _ rfl (w.heap.size+1) rfl 275 _ (0,0) _ s underlying275 rfl t ?_)|(refine wpList_store_row rfl 275 _ _ rfl w.heap.size _ rfl rfl 275 _ C t (by rw[AY,AY,i];rfl) y ?_))
 refine bodyPost_ret (v:=.agg (Aw us)) (results_cell_row rfl _ _ w.heap.size 275 _ (0,0) _ rfl (setRow_heap X w.heap.size _ _ 275 _ C) underlying275 rfl t) rfl ⟨by rw[K.out,M.out],CB P (A' _) _⟩
def Va:Array Value:=(EE.map λ(n:Nat)=>Value.int .i64 (n:Int)).toArray
def Cp(w:World):Prop:=∃ t fr,w.heap[4]?=some (.cells Va t fr)
theorem Cp.ab(h:Cp w){B:Nat}(a:4<B)(b:Below B w w'):Cp w':=by
 obtain⟨t,fr,h⟩:=h;exact⟨t,fr,(b.block _ a).trans h⟩
theorem Cp.pos(h:Cp w):4<w.heap.size:=by
 obtain⟨t,fr,h⟩:=h;exact(H'.1 h).1
theorem eY(j:Nat)(a:j<8):∀ w,(Instr.index 291 (.agg Va) (.int .i64 (j:Int))).run prog w=.ok (.agg #[.int .i64 ((EE.getD (4*j) 0:Nat):Int),.int .i64 ((EE.getD (4*j+1) 0:Nat):Int),.int .i64 ((EE.getD (4*j+2) 0:Nat):Int),.int .i64 ((EE.getD (4*j+3) 0:Nat):Int)]) w:=by
 intro w;obtain rfl|rfl|rfl|rfl|rfl|rfl|rfl|rfl:j=0\/j=1\/j=2\/j=3\/j=4\/j=5\/j=6\/j=7:=by omega
 all_goals kernel_rfl
theorem jC(w:World)(a b c:Obj){W:World}(h:((w.alloc a).alloc b).alloc c=W) :
  W.heap[w.heap.size]?=some a/\W.heap[w.heap.size+1]?=some b/\W.heap[w.heap.size+1+1]?=some c/\W.heap.size=w.heap.size+3/\Bw w W:=by
 subst h;refine⟨?_,?_,?_,by simp,(((Below.refl _ _).alloc (A' _) _).alloc (by simp) _).alloc (by simp;omega) _⟩
 .rw[heap_alloc_old _ _ (by simp;omega)];exact heap_alloc2_old w a b
 .rw[heap_alloc_old _ _ (by simp)];exact heap_alloc2_new w a b
 .have:=heap_alloc_new ((w.alloc a).alloc b) c;simpa using this
theorem fd:∀ (S:List (BitVec 32)),S.length=16->∃ s0 s1 s2 s3 s4 s5 s6 s7 s8 s9 s10 s11 s12 s13 s14 s15,S=[s0,s1,s2,s3,s4,s5,s6,s7,s8,s9,s10,s11,s12,s13,s14,s15]
 | [s0,s1,s2,s3,s4,s5,s6,s7,s8,s9,s10,s11,s12,s13,s14,s15],_=>⟨s0,s1,s2,s3,s4,s5,s6,s7,s8,s9,s10,s11,s12,s13,s14,s15,rfl⟩
theorem aM(S:List (BitVec 32))(a:S.length=16)(j:Nat)(h:j<16):∀ w,(Instr.index 275 (.agg (Aw S)) (.int .i64 (j:Int))).run prog w=.ok (.int .u32 (uw (S.getD j 0#32))) w:=by
 intro w;obtain⟨s0,i,k,s3,l,m,n,o,p,q,b,c,d,e,f,g,rfl⟩:=fd S a;obtain rfl|rfl|rfl|rfl|rfl|rfl|rfl|rfl|rfl|rfl|rfl|rfl|rfl|rfl|rfl|rfl:j=0\/j=1\/j=2\/j=3\/j=4\/j=5\/j=6\/j=7\/j=8\/j=9\/j=10\/j=11\/j=12\/j=13\/j=14\/j=15:=by omega
 all_goals kernel_rfl
theorem CO{l:List Oper}(h:wpList P ops Q l a w):wpList P ops Q l a w:=h
theorem Fv(w:World)(b c a:Obj):(((w.alloc b).alloc c).alloc a).heap[w.heap.size+1+1]?=some a:=by
 have:=heap_alloc_new ((w.alloc b).alloc c) a;simpa using this
theorem Ql(w:World)(a b e:Obj)(d c:Array Value)(t:TypeId)(f:e=.cells c t (0,0)){W:World}(h:(((w.alloc a).alloc b).alloc e).setRow (w.heap.size+1+1) d=W) :
  W.heap[w.heap.size]?=some a/\W.heap[w.heap.size+1]?=some b/\W.heap[w.heap.size+1+1]?=some (.cells d t (0,0))/\W.heap.size=w.heap.size+3/\Bw w W:=by
 subst h;subst f;have g:=Fv w a b (.cells c t (0,0));refine⟨?_,?_,setRow_heap _ _ _ _ t _ g,by simp,CB ((((Below.refl _ _).alloc (A' _) _).alloc (by simp) _).alloc (by simp;omega) _) (by omega) _⟩
 .rw[setRow_other _ _ _ _ (by omega),heap_alloc_old _ _ (by simp;omega)];exact heap_alloc2_old w a b
 .rw[setRow_other _ _ _ _ (by omega),heap_alloc_old _ _ (by simp)];exact heap_alloc2_new w a b
theorem j7(A:List Int)(n:Nat)(f g h i a b c d:Int)(R:List Int)(e:A.length=n):((((A++f::g::h::i::R).set n a).set (n+1) b).set (n+2) c).set (n+3) d=A++[a,b,c,d]++R:=by
 subst e;rw[lL _ _ (A' _),lL _ _ (by omega),lL _ _ (by omega),lL _ _ (by omega)];simp
theorem Ki(h:w.heap[g]?=some (.cells (AM l) t (0,0)))(k:Nat)(x:Int) :
  (w.setCell ⟨g,k,none⟩ (.int .u8 x)).heap[g]?=some (.cells (AM (l.set k x)) t (0,0)):=by
 rw[heap_setCell_same _ _ _ _ _ _ h,VQ]
theorem KX(w:World)(G k:Nat)(h:k≠G)(a b c d:Nat)(x y z u:Value):((((w.setCell ⟨G,a,none⟩ x).setCell ⟨G,b,none⟩ y).setCell ⟨G,c,none⟩ z).setCell ⟨G,d,none⟩ u).heap[k]?=w.heap[k]?:=by
 rw[heap_setCell_other _ _ _ _ (by simpa using h),heap_setCell_other _ _ _ _ (by simpa using h),heap_setCell_other _ _ _ _ (by simpa using h),heap_setCell_other _ _ _ _ (by simpa using h)]
def DN(s t:List (BitVec 32))(j:Nat):List Int:=RS s t j++List.replicate (64-4*j) 0
theorem Ie(s t:List (BitVec 32))(j:Nat)(a:j<=16):(DN s t j).length=64:=by
 rw[DN,M',FK,lD];omega
theorem Sc(s t:List (BitVec 32))(j:Nat)(b:j<16)(x:BitVec 32)(a:eb s t j=x):((((DN s t j).set (4*j) (uw x%256)).set (4*j+1) (uw x/256%256)).set (4*j+2) (uw x/65536%256)).set (4*j+3) (uw x/16777216%256)=DN s t (j+1):=by
 have e:List.replicate (64-4*j) (0:Int)=0::0::0::0::List.replicate (64-4*(j+1)) 0:=by
  rw[show 64-4*j=64-4*(j+1)+1+1+1+1 by omega];rfl
 rw[DN,e,j7 _ _ _ _ _ _ _ _ _ _ _ (FK s t j),DN,RS,K9,a]
theorem GI(b:List (BitVec 32))(w:World)(s:b.length=16)(ht:Cp w) :
  Calls prog 196 #[.agg (Aw b)] w λe w'=>e=.returned (.agg (AM (Cr b)))/\Bw w w':=by
 have P:=ht.pos;have f:(prog.info? 275).map (·.size)=some (Aw b).size:=by rw[AY,s];kernel_rfl
 have h:(Aw b).all (·.oneCell')=true:=by simp[Aw,Value.oneCell']
 go_enter func196,ntmps196
 go_wp2_with ((with_reducible (refine CO ?_));first
  | (refine wpList_load_row rfl 275 _ rfl w.heap.size rfl 275 _ (0,0) _ (heap_alloc2_old _ _ _) underlying275 rfl f ?_)
  | (refine wpList_store_row rfl 275 _ _ rfl (w.heap.size+1+1) _ rfl rfl 275 (Aw (List.replicate 16 0#32)) (Fv _ _ _ _) f (by rw[AY,AY,s];rfl) h ?_))
 generalize L:World.setRow _ _ _=W0;obtain⟨E,q,g,a1,A⟩:=Ql w _ _ _ _ (Aw (List.replicate 16 0#32)) 275 rfl L;clear L;have q:W0.heap[w.heap.size+1]?=some (.cells (AM (List.replicate 64 0)) 257 (0,0)):=q;have Q:Cp W0:=ht.ab P A
 go_loopw [10] (λi wr=>∃ k:Nat,k<=10/\i=.int .i64 k/\wr.heap[w.heap.size+1+1]?=some (.cells (Aw (Dz b k)) 275 (0,0))/\Below (w.heap.size+1+1) W0 wr) (λi _=>10-(intOf i).toNat)
 case atStart=>exact⟨0,by omega,rfl,g,Below.refl _ _⟩
 case round =>
  clear g;obtain⟨k,hk,rfl,g,a⟩:=hrel;by_cases a0:k<10
  .obtain⟨tq,frq,hq⟩:=Q.ab (by omega) a;have o:(k:Int)<10:=by omega
   have n:=eY;have y:(prog.info? 291).map (·.size)=some Va.size:=by kernel_rfl
   generalize Va=qa at hq y n;have HT:Hid (Dz b (k+1)=GJ (Dz b k) 8):=rfl;have l:(Dz b k).length=16:=by rw[GL];exact s
   generalize Dz b k=S at HT g l;go_wp2_with ((with_reducible (refine CO ?_));refine wpList_load_row rfl 291 (.global 4) rfl 4 rfl tq _ frq _ hq underlying291 rfl y ?_)
   clear hq
   go_loopw [13] (λi wr=>∃ j:Nat,j<=8/\i=.int .i64 j/\wr.heap[w.heap.size+1+1]?=some (.cells (Aw (GJ S j)) 275 (0,0))/\Below (w.heap.size+1+1) W0 wr) (λi _=>8-(intOf i).toNat)
   case atStart=>exact⟨0,by omega,rfl,g,a⟩
   case round =>
    clear g a;obtain⟨j,Y,rfl,g,a⟩:=hrel;have B:=a.size;by_cases Z:j<8
    .have d:=n j Z;have N:(j:Int)<8:=by omega
     have D:Hid (GJ S (j+1)=Lz (GJ S j) (EE.getD (4*j) 0) (EE.getD (4*j+1) 0) (EE.getD (4*j+2) 0) (EE.getD (4*j+3) 0)):=rfl;have l0:=Kr (4*j);have l1:=Kr (4*j+1);have l2:=Kr (4*j+2);have l3:=Kr (4*j+3);have O:(GJ S j).length=16:=by rw[I1];exact l
     generalize EE.getD (4*j) 0=q0 at d D l0;generalize EE.getD (4*j+1) 0=q1 at d D l1;generalize EE.getD (4*j+2) 0=q2 at d D l2;generalize EE.getD (4*j+3) 0=q3 at d D l3;generalize GJ S j=X at D g O;clear n;go_wp2_with fail
     refine(Qa (w.heap.size+1+1) X _ ((heap_alloc_old _ _ (by omega)).trans g) O q0 q1 q2 q3 l0 l1 l2 l3).mono ?_;rintro e w1 ⟨rfl,V,M⟩;have W:Below (w.heap.size+1+1) W0 w1:=(a.alloc (by omega) _).trans M;clear g a M B d;go_wp2
     go_roundw
     case rel=>exact⟨j+1,by omega,by go_num,by rw[D.out];exact V,W⟩
     case measure=>simp[intOf];omega
    .have HJ:Hid (j=8):=by unfold Hid;omega
     have N:¬ (j:Int)<8:=by omega
     go_wp2
     go_roundw
     case rel=>exact⟨k+1,by omega,by go_num,by rw[HT.out,<- HJ.out];exact g,a⟩
     case measure=>simp[intOf];omega
  .have HK:Hid (k=10):=by unfold Hid;omega
   have o:¬ (k:Int)<10:=by omega
   have HB:Hid (k=10->Cr b=DN (Dz b k) b 16):=by rintro rfl;simp[Cr,DN]
   have l:(Dz b k).length=16:=by rw[GL];exact s
   generalize Dz b k=S at HB g l;have B:=a.size;have H:=(a.block w.heap.size (by omega)).trans E;have J:=(a.block (w.heap.size+1) (by omega)).trans q;have z:Bw w wr:=A.trans (a.mono (by omega));have u:(prog.info? 275).map (·.size)=some (Aw S).size:=by rw[AY,l];kernel_rfl
   clear E q A a Q;go_wp2_with ((with_reducible (refine CO ?_));refine wpList_load_row rfl 275 _ rfl (w.heap.size+1+1) rfl 275 _ (0,0) _ ((heap_alloc_old _ _ (by omega)).trans g) underlying275 rfl u ?_)
   have U:w.heap.size+1<wr.heap.size:=by omega
   generalize m:wr.alloc _=W1;have c:W1.heap[wr.heap.size]?=some (.cells (AM (DN S b 0)) 257 (0,0)):=by rw[<- m];exact heap_alloc_new _ _
   have I:W1.heap[w.heap.size]?=some (.cells (Aw b) 275 (0,0)):=by rw[<- m];exact(heap_alloc_old _ _ (by omega)).trans H
   have K:W1.heap[w.heap.size+1]?=some (.cells (AM (List.replicate 64 0)) 257 (0,0)):=by rw[<- m];exact(heap_alloc_old _ _ (by omega)).trans J
   have F:Bw w W1:=by rw[<- m];exact z.alloc z.size _
   clear m H J z B g ht f u h o;generalize wr.heap.size=G at c U ⊢
   go_loopw [28] (λi wr=>∃ j:Nat,j<=16/\i=.int .i64 j/\wr.heap[G]?=some (.cells (AM (DN S b j)) 257 (0,0))/\wr.heap[w.heap.size]?=some (.cells (Aw b) 275 (0,0))/\wr.heap[w.heap.size+1]?=some (.cells (AM (List.replicate 64 0)) 257 (0,0))/\Bw w wr) (λi _=>16-(intOf i).toNat)
   case atStart=>exact⟨0,by omega,rfl,c,I,K,F⟩
   case round =>
    clear c I K F;obtain⟨j,Y,rfl,c,E,q,a⟩:=hrel;by_cases t:j<16
    .have C:(j:Int)<16:=by omega
     have d:=aM S l j t;have cf:=(cell_of_row wr _ j _ _ _ E).trans (BF b j (by omega));have r:=Ie S b j Y;have c0:=(cell_of_row wr _ (4*j) _ _ _ c).trans (DF _ (4*j) (by omega));have c1:=(cell_of_row wr _ (4*j+1) _ _ _ c).trans (DF _ (4*j+1) (by omega));have c2:=(cell_of_row wr _ (4*j+2) _ _ _ c).trans (DF _ (4*j+2) (by omega));have c3:=(cell_of_row wr _ (4*j+3) _ _ _ c).trans (DF _ (4*j+3) (by omega));have f0:=frozen_of_row wr _ (4*j) _ _ c;have f1:=frozen_of_row wr _ (4*j+1) _ _ c;have f2:=frozen_of_row wr _ (4*j+2) _ _ c;have f3:=frozen_of_row wr _ (4*j+3) _ _ c;obtain⟨x,hx,HX⟩:∃ x,(uw (S.getD j 0#32)+uw (b.getD j 0#32))%(4294967296:Int)=uw x/\Hid (eb S b j=x):=⟨_,Da _ _,rfl⟩;generalize S.getD j 0#32=xa at d hx;generalize b.getD j 0#32=xb at cf hx;have nx:=D3 x;have HN:Hid _:=c;have HF:Hid _:=E;have HR:Hid _:=q;have R:Hid _:=a;have T:Hid (((((DN S b j).set (4*j) (uw x%256)).set (4*j+1) (uw x/256%256)).set (4*j+2) (uw x/65536%256)).set (4*j+3) (uw x/16777216)=DN S b (j+1)):=by
      have h1:=Sc S b j t x HX.out;rw[show uw x/16777216%256=uw x/16777216 by have:=YW x;omega]at h1
      exact h1
     clear c E q a r;go_wp2
     go_roundw
     case rel=>exact⟨j+1,by omega,by go_num,by rw[<- T.out];exact Ki (Ki (Ki (Ki HN.out _ _) _ _) _ _) _ _,(KX wr G _ (by omega) _ _ _ _ _ _ _ _).trans HF.out,(KX wr G _ (by omega) _ _ _ _ _ _ _ _).trans HR.out,
       (((R.out.setCell (p:=⟨G,_,none⟩) (by simp;omega) _).setCell (p:=⟨G,_,none⟩) (by simp;omega) _).setCell (p:=⟨G,_,none⟩) (by simp;omega) _).setCell (p:=⟨G,_,none⟩) (by simp;omega) _⟩
     case measure=>simp[intOf];omega
    .have HJ:Hid (j=16):=by unfold Hid;omega
     have C:¬ (j:Int)<16:=by omega
     have r:=Ie S b j Y;have f:(prog.info? 257).map (·.size)=some (AM (DN S b j)).size:=by rw[AA,r];kernel_rfl
     have h:(AM (DN S b j)).all (·.oneCell')=true:=by simp[AM,Value.oneCell']
     go_wp2_with ((with_reducible (refine CO ?_));first|(refine wpList_load_row rfl 257 _ rfl G rfl 257 _ (0,0) _ c underlying257 rfl f ?_)|(refine wpList_store_row rfl 257 _ _ rfl (w.heap.size+1) _ rfl rfl 257 _ q f (by rw[AA,AA,r];rfl) h ?_))
     refine bodyPost_ret (v:=.agg (AM (DN S b j))) (results_cell_row rfl _ _ (w.heap.size+1) 257 _ (0,0) _ rfl (setRow_heap wr _ _ _ 257 _ q) underlying257 rfl f) rfl ⟨?_,CB a (by omega) _⟩;rw[HB.out HK.out,HJ.out]
def DH(key nonce:List Int)(c:Int):Int:=if key.length≠32\/nonce.length≠12 then 1 else if c<0\/1073741824<c then 2 else 0
theorem OY(h:key.length≠32\/nonce.length≠12):DH key nonce c=1:=by unfold DH;rw[if_pos h]
theorem NV(a:key.length=32)(b:nonce.length=12)(h:c<0\/1073741824<c):DH key nonce c=2:=by unfold DH;rw[if_neg (by omega),if_pos h]
theorem I8(a:key.length=32)(b:nonce.length=12)(h:0<=c/\c<=1073741824):DH key nonce c=0:=by unfold DH;rw[if_neg (by omega),if_neg (by omega)]
theorem J3(g h:Value)(key a:List Int)(c:Int)(w:World)(i:Sl w g key)(j:Sl w h a) :
  Calls prog 185 #[g,.int .i64 c,h] w λe w'=>e=.returned (.int .i64 (DH key a c))/\w'=w:=by
 obtain⟨⟨k,o,rfl,_,_,_⟩,lk,_⟩:=i;obtain⟨⟨l,p,rfl,_,_,_⟩,r,_⟩:=j;have b:Hid (key.length≠32\/a.length≠12->DH key a c=1):=OY;have d:Hid (key.length=32->a.length=12->(c<0\/1073741824<c)->DH key a c=2):=NV;have f:Hid (key.length=32->a.length=12->(0<=c/\c<=1073741824)->DH key a c=0):=I8;generalize DH key a c=E at b d f ⊢;generalize key.length=n at *;generalize a.length=m at *;go_enter func185,ntmps185
 by_cases q:(n:Int)=32
 .by_cases h2:(m:Int)=12
  .by_cases h3:c<0
   .go_wp2
    go_ret;exact⟨by rw[d.out (by omega) (by omega) (by omega)];rfl,rfl⟩
   .by_cases h4:1073741824<c
    .go_wp2
     go_ret;exact⟨by rw[d.out (by omega) (by omega) (by omega)];rfl,rfl⟩
    .go_wp2
     go_ret;exact⟨by rw[f.out (by omega) (by omega) (by omega)];rfl,rfl⟩
  .go_wp2
   go_ret;exact⟨by rw[b.out (by omega)];rfl,rfl⟩
 .go_wp2
  go_ret;exact⟨by rw[b.out (by omega)];rfl,rfl⟩
theorem I7(w:World)(l:List Int)(o:Obj)(t:TypeId)(a:Array Value)(c:o=.cells a t (0,0)){W:World}(b:(w.alloc o).setRow w.heap.size (AM l)=W) :
  W.heap[w.heap.size]?=some (.cells (AM l) t (0,0))/\Bw w W/\W.heap.size=w.heap.size+1:=by
 subst b;subst c;exact⟨setRow_heap _ _ _ _ t _ (heap_alloc_new _ _),CB ((Below.refl _ _).alloc (A' _) _) (A' _) _,by simp⟩
theorem Sl.ofRow(h:w.heap[g]?=some (.cells (AM l) t fr))(c:l.length<=140737488351232)(a:∀ x∈l,0<=x/\x<256):Sl w (.slice (some ⟨g,0,none⟩) l.length l.length) l:=by
 refine⟨⟨_,l.length,rfl,by simp,by simp,.inr ⟨g,0,rfl,(H'.1 h).1,λi b=>?_⟩⟩,c,a⟩;rw[kl];exact(cell_of_row w _ i _ _ _ h).trans (DF l i b)
structure Got(w w':World)(v:Value)(l:List Int):Prop where
 sl:Sl w' v l
 nY:Bw w w'
 new:∀ b o n c,v=.slice (some ⟨b,o,none⟩) n c->w.heap.size<=b
theorem VW(k l:Value)(key a:List Int)(c:Nat)(w:World)(t:Sl w k key)(v:Sl w l a)(lk:key.length=32)(y:a.length=12)(E:c<=1073741824)(x:Cp w) :
  Calls prog 188 #[k,.int .i64 c,l] w λe w'=>∃ v',e=.returned (.tuple #[v',.int .i64 0])/\Got w w' v' (Cr (BK key (BitVec.ofNat 32 c) a)):=by
 go_enter func188,ntmps188
 go_wp2_with fail
 refine(J3 k l key a c w t v).mono ?_;rintro e C ⟨rfl,rfl⟩;rw[I8 lk y (by omega)];go_wp2_with fail
 refine(MK k l key a c C t v lk y (by omega)).mono ?_;rintro e D ⟨rfl,f⟩;have u:=G4 key (BitVec.ofNat 32 c) a;generalize j:BK key (BitVec.ofNat 32 c) a=us at u;have p:Hid (BK key (BitVec.ofNat 32 c) a=us):=j;clear j;go_wp2_with fail
 refine(GI us D u (x.ab x.pos f)).mono ?_;rintro e z ⟨rfl,q⟩;have d:=Eo us;have g:=F5 us;generalize h:Cr us=bs at d g;have m:Hid (Cr us=bs):=h;clear h;have s:(prog.info? 257).map (·.size)=some (AM bs).size:=by rw[AA,d];kernel_rfl
 have i:(AM bs).all (·.oneCell')=true:=by simp[AM,Value.oneCell']
 go_wp2_with ((with_reducible (refine CO ?_));refine wpList_store_row rfl 257 _ _ rfl z.heap.size _ rfl rfl 257 (AM (List.replicate 64 0)) (heap_alloc_new _ _) s (by rw[AA,AA,d];rfl) i ?_)
 generalize r:World.setRow _ _ _=W4;obtain⟨B,A,_⟩:=I7 z bs _ 257 (AM (List.replicate 64 0)) rfl r
 go_ret2
 refine⟨_,rfl,?_,(f.trans (q.mono f.size)).trans (A.mono (jG f.size q.size)),λb o n c e=>?_⟩
 .rw[p.out,m.out];have:=Sl.ofRow B (by omega) g;rw[d]at this
  exact this
 .have:=jG f.size q.size;injection e with e1
  injection e1 with e2
  injection e2 with e3
  omega
theorem SK(c:0<=x/\x<256)(d:0<=y/\y<256):bits .xor .u8 x y=bx x y:=by
 obtain⟨a,rfl⟩:∃ a:Nat,x=a:=⟨x.toNat,by omega⟩;obtain⟨b,rfl⟩:∃ b:Nat,y=b:=⟨y.toNat,by omega⟩;rw[u8_xor_nat _ _ (by omega) (by omega)];rfl
theorem IQ(h:w.ownsRow base e 1 v n xs){g:Nat}{c:Array Value}{t:TypeId}{fr:Nat × Nat}(a:w.heap[g]?=some (.cells c t fr))(d:t≠e):v.ownBlock≠some g:=by
 intro b;rcases h.2 with⟨rfl,_⟩|⟨g',cap,cur,rfl,_,hg',_⟩
 .simp[Value.ownBlock]at b
 .simp only[Value.ownBlock,V']at b;subst b;rw[hg']at a
  simp only[V',Obj.cells.injEq]at a;exact d a.2.1.symm
theorem EC(h:w.ownsRow base e 1 v n xs)(a:∀ k,v.ownBlock=some k->w'.heap[k]?=w.heap[k]?):w'.ownsRow base e 1 v n xs:=by
 refine⟨h.1,?_⟩;rcases h.2 with h2|⟨g,cap,cur,hv,hb,hg,hr⟩
 .exact .inl h2
 .exact .inr ⟨g,cap,cur,hv,hb,(a g (by rw[hv];rfl)).trans hg,hr⟩
theorem Sl.pB(w:World)(b a:Int)(e:TypeId){g:Nat}(f:g=w.heap.size)(c:0<=b/\b<256)(d:a=b):Sl (w.alloc (.cells #[.int .u8 a] e)) (.slice (some ⟨g,0,none⟩) 1 1) [b]:=by
 subst d;exact Sl.one w a e f c
theorem YX(x:BitVec 32):(uw x+1)%(4294967296:Int)=uw (x+1#32):=Da x 1#32
theorem QZ(c:BitVec 32)(q:Nat):c+BitVec.ofNat 32 q+1#32=c+BitVec.ofNat 32 (q+1):=by
 rw[BitVec.add_assoc]
 congr 1
 apply BitVec.eq_of_toNat_eq;simp[BitVec.toNat_add,BitVec.toNat_ofNat]
def Es(ws:List (BitVec 32))(q:Nat):List (BitVec 32):=ws.set 12 (ws.getD 12 0#32+BitVec.ofNat 32 q)
theorem Pd(a:List (BitVec 32))(q:Nat):(Es a q).length=a.length:=by simp[Es]
theorem Uc(a:List (BitVec 32))(h:a.length=16):Es a 0=a:=by
 unfold Es;rw[show BitVec.ofNat 32 0=0#32 from rfl,BitVec.add_zero,List.getD,E' (by omega),mV,List.set_getElem_self]
theorem ZI(a:List (BitVec 32))(q:Nat)(h:a.length=16):(Es a q).getD 12 0#32=a.getD 12 0#32+BitVec.ofNat 32 q:=by
 unfold Es;simp[List.getD,h]
theorem Ub(a:List (BitVec 32))(q:Nat)(h:a.length=16):(Es a q).set 12 ((Es a q).getD 12 0#32+1#32)=Es a (q+1):=by
 rw[ZI a q h,QZ];unfold Es;rw[List.set_set]
theorem Qm(a:List (BitVec 32))(q j:Nat)(b:j<64):N1 a (64*q+j)=(Cr (Es a q)).getD j 0:=by
 unfold N1 Es;rw[show(64*q+j)/64=q by omega,show(64*q+j)%64=j by omega]
theorem QT(f:List (BitVec 32))(vd:Value)(d:List Int)(w:World)(b9:f.length=16)(hd:Sl w vd d)(hl:d.length<=100000)(ht:Cp w) :
  Calls prog 186 #[.agg (Aw f),vd] w λe w'=>∃ v',e=.returned v'/\w'.ownsRow w.heap.size 5 1 v' (PD f d).length ((PD f d).map (Value.int .u8))/\Bw w w':=by
 obtain⟨i0,hi,d1,d2,d3⟩:=info_parts Aq;have c4:=hd;obtain⟨⟨ad,d9,rfl,hc,hn,h1⟩,e3,c2⟩:=hd;have c9:=ht.pos;generalize c7:d.length=n at *;have HN:Hid (d.length=n):=c7;clear c7 h1 hn;go_enter func186,ntmps186
 go_wp2_with (at_make;refine wpList_make_own _ rfl _ _ 48 rfl w.heap.size 5 i0 (.int .u8 0) 1 underlying48 hi d1 d2 _ _ _ n rfl rfl (by omega) (by rw[d3];omega) (by unfold maxLen;omega) (by simp) ?_)
 intro w1 c8 b4;have b:w1.heap[w.heap.size]?=some (.cells (Aw (Es f 0)) 275 (0,0)):=by
  rw[b4.block w.heap.size (by simp) (by simp),Uc f b9];exact heap_alloc_new _ _
 have c1:Bw w w1:=((Below.refl _ _).alloc (A' _) _).grown b4 (by simp) (by simp);have a1:w1.ownsRow w.heap.size 5 1 (.slice (some ⟨w.heap.size+1,0,none⟩) 0 n) (CW f d 0).length ((CW f d 0).map (Value.int .u8)):=c8;clear b4 c8 d1 d2 d3 hi;go_wp2_with fail
 go_loopw [5] (λv wr=>∃ (q m:Nat) (a:Option Addr) (z:Nat),m=min (64*q) n/\v=.slice a m z/\wr.ownsRow w.heap.size 5 1 v (CW f d m).length ((CW f d m).map (Value.int .u8))/\wr.heap[w.heap.size]?=some (.cells (Aw (Es f q)) 275 (0,0))/\Bw w wr) (λv _=>n-X3 v)
 case atStart=>exact⟨0,0,_,_,by omega,rfl,a1,b,c1⟩
 case round =>
  clear a1 b c1;obtain⟨q,m,a,z,hm,rfl,c,b,h⟩:=hrel;have HM:Hid (m=min (64*q) n):=hm;have e0:m<=n:=by omega
  clear hm;have H:w.heap.size<wr.heap.size:=(H'.1 b).1;by_cases c6:m<n
  .have hmni:(m:Int)<(n:Int):=by omega
   have M:Hid (m=64*q):=by have:=HM.out;unfold Hid;omega
   have b8:(Es f q).length=16:=by rw[Pd];exact b9
   have Y:Hid (∀ j,j<64->N1 f (m+j)=(Cr (Es f q)).getD j 0):=λj hj=>by rw[M.out];exact Qm f q j hj
   have a0:(prog.info? 275).map (·.size)=some (Aw (Es f q)).size:=by rw[AY,b8];kernel_rfl
   have a6:Hid ((Es f q).set 12 ((Es f q).getD 12 0#32+1#32)=Es f (q+1)):=Ub f q b9;generalize Es f q=us at b b8 Y a0 a6;go_wp2_with ((with_reducible (refine CO ?_));refine wpList_load_row rfl 275 _ rfl w.heap.size rfl 275 _ (0,0) _ b underlying275 rfl a0 ?_)
   refine(GI us wr b8 (ht.ab c9 h)).mono ?_;rintro e w2 ⟨rfl,b2⟩;have Z:=Eo us;have a9:=F5 us;generalize Cr us=bs at Z a9 Y;have J:(prog.info? 257).map (·.size)=some (AM bs).size:=by rw[AA,Z];kernel_rfl
   have I:(AM bs).all (·.oneCell')=true:=by simp[AM,Value.oneCell']
   have C:∀ k,Value.ownBlock (.slice a m z)=some k->k<wr.heap.size:=λk K=>(c.lt k K).2;by_cases e2:(64:Int)<=(n:Int)-(m:Int)
   .have a5:Hid (m+64=min (64*(q+1)) n):=by have:=M.out;unfold Hid;omega
    have d8:m+64<=n:=by omega
    have d0:64<=64:=by omega
    go_wp2_with ((with_reducible (refine CO ?_));refine wpList_store_row rfl 257 _ _ rfl w2.heap.size _ rfl rfl 257 (AM (List.replicate 64 0)) (heap_alloc_new _ _) J (by rw[AA,AA,Z];rfl) I ?_)
    generalize Q:World.setRow _ _ _=W3;obtain⟨F,b3,b7⟩:=I7 w2 bs _ 257 (AM (List.replicate 64 0)) rfl Q;clear Q;have u:Bw wr W3:=b2.trans (b3.mono b2.size);have o:=(u.block w.heap.size H).trans b;have l:=EC c (λk K=>u.block k (C k K));have R:Bw w W3:=h.trans (u.mono h.size);have b5:w.heap.size<w2.heap.size:=Y' H b2.size;clear c b h b2 b3 u C b7 a0 J I c6 hmni;generalize w2.heap.size=g at F b5 ⊢
    go_loopw [5,27] (λv i wr=>∃ (j:Nat) (a:Option Addr) (z:Nat),j<=64/\i=.int .i64 j/\v=.slice a (m+j) z/\wr.ownsRow w.heap.size 5 1 v (CW f d (m+j)).length ((CW f d (m+j)).map (Value.int .u8))/\wr.heap[w.heap.size]?=some (.cells (Aw us) 275 (0,0))/\wr.heap[g]?=some (.cells (AM bs) 257 (0,0))/\Bw w wr) (λ_ i _=>64-(intOf i).toNat)
    case atStart=>exact⟨0,a,z,by omega,rfl,rfl,l,o,F,R⟩
    case round =>
     clear l o F R;obtain⟨j,a2,P,hj,rfl,rfl,c,b,U,h⟩:=hrel;by_cases d6:j<64
     .have hjri:(j:Int)<(64:Int):=by omega
      have V:=c.lt;have cb:=(cell_of_row wr _ j _ _ _ U).trans (DF bs j (by omega));obtain⟨O,od,rfl,b0,S⟩:∃ O od,ad=some ⟨O,od,none⟩/\O<w.heap.size/\w.cell? ⟨O,od+(m+j),none⟩=some (.int .u8 (d.getD (m+j) 0)):=by
       obtain⟨⟨a',c0,e',_,_,A⟩,_,_⟩:=c4;rw[HN.out]at e' A
       simp only[Value.slice.injEq]at e';obtain⟨rfl,_,_⟩:=e';rcases A with A|⟨b',o',rfl,E,hc'⟩
       .have:=HN.out;rw[A]at this;simp at this;omega
       .exact⟨b',o',rfl,E,hc' (m+j) (by omega)⟩
      have cd:=(h.cell (p:=⟨O,od+(m+j),none⟩) b0).trans S;have y1:=Ai a9 j;have y2:=Ai c2 (m+j);have N:Hid (CW f d (m+(j+1))=CW f d (m+j)++[bx (bs.getD j 0) (d.getD (m+j) 0)]):=by
       unfold Hid;rw[<- Y.out j (by omega)];rfl
      have D:=EZ f d (m+j);have L:=NT y1 y2;have t:Hid (bits .xor .u8 (bs.getD j 0) (d.getD (m+j) 0)=bx (bs.getD j 0) (d.getD (m+j) 0)):=SK y1 y2;have s:Hid (0<=bx (bs.getD j 0) (d.getD (m+j) 0)/\bx (bs.getD j 0) (d.getD (m+j) 0)<256):=L;clear L S;generalize bs.getD j 0=x at cb y1 N t s;generalize d.getD (m+j) 0=y at cd y2 N t s;generalize bx x y=xy at N t s;generalize CW f d (m+j)=pre at c D N;go_wp2_with (at_builtin;refine Aa _ rfl _ _ 48 rfl w.heap.size 5 underlying48 Aq _ _ rfl rfl pre [xy] (c.alloc _) (Sl.pB _ _ _ _ rfl s.out t.out) (by rw[D];simp;omega) (by have:=h.size;simp;omega) ?_)
      intro v' w' ho B;have W:w'.ownsRow w.heap.size 5 1 v' (pre++[xy]).length ((pre++[xy]).map (Value.int .u8)):=by simpa[D]using ho
      have E:Bw w w':=(h.alloc h.size _).grown B (by have:=h.size;simp;omega) (λk K=>(V k K).1);have n1:=IQ c b (by decide);have n2:=IQ c U (by decide);have a8:w.heap.size<wr.heap.size:=(H'.1 b).1;have b6:g<wr.heap.size:=(H'.1 U).1;have G:w'.heap[w.heap.size]?=some (.cells (Aw us) 275 (0,0)):=((B.block w.heap.size (by simp;omega) n1.symm).trans (heap_alloc_old _ _ a8)).trans b;have b1:w'.heap[g]?=some (.cells (AM bs) 257 (0,0)):=((B.block g (by simp;omega) n2.symm).trans (heap_alloc_old _ _ b6)).trans U;obtain⟨a3,c3,X⟩:=Ed W;rw[M',D,mf]at X
      subst X;clear ho B c V h b U cb cd n1 n2;go_wp2
      go_roundw
      case rel=>exact⟨j+1,a3,c3,by omega,by go_num,rfl,by rw[N.out];exact W,G,b1,E⟩
      case measure=>simp[intOf];omega
     .have hjri:¬ (j:Int)<(64:Int):=by omega
      have HJ:Hid (j=64):=by unfold Hid;omega
      have a7:=(cell_of_row wr _ 12 _ _ _ b).trans (BF us 12 (by omega));have d5:=frozen_of_row wr _ 12 _ _ b;generalize T:us.getD 12 0#32=cw at a7;have a4:Hid (us.getD 12 0#32=cw):=T;clear T;have c5:=YX cw;have n1:=IQ c b (by decide);go_wp2
      go_roundw
      case rel =>
       refine⟨q+1,m+j,a2,P,by rw[HJ.out];exact a5.out,rfl,EC c (λk K=>heap_setCell_other _ _ _ _ (by simp;intro e;subst e;exact n1 K)),?_,h.setCell (p:=⟨w.heap.size,12,none⟩) (A' _) _⟩;rw[<- a6.out,a4.out];exact EI b 12 _
      case measure=>simp[X3];have:=HJ.out;omega
   .obtain⟨r,hrsub⟩:∃ r:Nat,(n:Int)-(m:Int)=(r:Int):=⟨n-m,by omega⟩;have a5:Hid (m+r=min (64*(q+1)) n):=by have:=M.out;unfold Hid;omega
    have d8:m+r<=n:=by omega
    have d0:r<=64:=by omega
    have d7:(r:Int)<=64:=by omega
    have e1:(0:Int)<=(r:Int):=by omega
    have e4:0<r:=by omega
    go_wp2_with ((with_reducible (refine CO ?_));refine wpList_store_row rfl 257 _ _ rfl w2.heap.size _ rfl rfl 257 (AM (List.replicate 64 0)) (heap_alloc_new _ _) J (by rw[AA,AA,Z];rfl) I ?_)
    generalize Q:World.setRow _ _ _=W3;obtain⟨F,b3,b7⟩:=I7 w2 bs _ 257 (AM (List.replicate 64 0)) rfl Q;clear Q;have u:Bw wr W3:=b2.trans (b3.mono b2.size);have o:=(u.block w.heap.size H).trans b;have l:=EC c (λk K=>u.block k (C k K));have R:Bw w W3:=h.trans (u.mono h.size);have b5:w.heap.size<w2.heap.size:=Y' H b2.size;clear c b h b2 b3 u C b7 a0 J I c6 hmni;generalize w2.heap.size=g at F b5 ⊢
    go_loopw [5,27] (λv i wr=>∃ (j:Nat) (a:Option Addr) (z:Nat),j<=r/\i=.int .i64 j/\v=.slice a (m+j) z/\wr.ownsRow w.heap.size 5 1 v (CW f d (m+j)).length ((CW f d (m+j)).map (Value.int .u8))/\wr.heap[w.heap.size]?=some (.cells (Aw us) 275 (0,0))/\wr.heap[g]?=some (.cells (AM bs) 257 (0,0))/\Bw w wr) (λ_ i _=>r-(intOf i).toNat)
    case atStart=>exact⟨0,a,z,by omega,rfl,rfl,l,o,F,R⟩
    case round =>
     clear l o F R;obtain⟨j,a2,P,hj,rfl,rfl,c,b,U,h⟩:=hrel;by_cases d6:j<r
     .have hjri:(j:Int)<(r:Int):=by omega
      have V:=c.lt;have cb:=(cell_of_row wr _ j _ _ _ U).trans (DF bs j (by omega));obtain⟨O,od,rfl,b0,S⟩:∃ O od,ad=some ⟨O,od,none⟩/\O<w.heap.size/\w.cell? ⟨O,od+(m+j),none⟩=some (.int .u8 (d.getD (m+j) 0)):=by
       obtain⟨⟨a',c0,e',_,_,A⟩,_,_⟩:=c4;rw[HN.out]at e' A
       simp only[Value.slice.injEq]at e';obtain⟨rfl,_,_⟩:=e';rcases A with A|⟨b',o',rfl,E,hc'⟩
       .have:=HN.out;rw[A]at this;simp at this;omega
       .exact⟨b',o',rfl,E,hc' (m+j) (by omega)⟩
      have cd:=(h.cell (p:=⟨O,od+(m+j),none⟩) b0).trans S;have y1:=Ai a9 j;have y2:=Ai c2 (m+j);have N:Hid (CW f d (m+(j+1))=CW f d (m+j)++[bx (bs.getD j 0) (d.getD (m+j) 0)]):=by
       unfold Hid;rw[<- Y.out j (by omega)];rfl
      have D:=EZ f d (m+j);have L:=NT y1 y2;have t:Hid (bits .xor .u8 (bs.getD j 0) (d.getD (m+j) 0)=bx (bs.getD j 0) (d.getD (m+j) 0)):=SK y1 y2;have s:Hid (0<=bx (bs.getD j 0) (d.getD (m+j) 0)/\bx (bs.getD j 0) (d.getD (m+j) 0)<256):=L;clear L S;generalize bs.getD j 0=x at cb y1 N t s;generalize d.getD (m+j) 0=y at cd y2 N t s;generalize bx x y=xy at N t s;generalize CW f d (m+j)=pre at c D N;go_wp2_with (at_builtin;refine Aa _ rfl _ _ 48 rfl w.heap.size 5 underlying48 Aq _ _ rfl rfl pre [xy] (c.alloc _) (Sl.pB _ _ _ _ rfl s.out t.out) (by rw[D];simp;omega) (by have:=h.size;simp;omega) ?_)
      intro v' w' ho B;have W:w'.ownsRow w.heap.size 5 1 v' (pre++[xy]).length ((pre++[xy]).map (Value.int .u8)):=by simpa[D]using ho
      have E:Bw w w':=(h.alloc h.size _).grown B (by have:=h.size;simp;omega) (λk K=>(V k K).1);have n1:=IQ c b (by decide);have n2:=IQ c U (by decide);have a8:w.heap.size<wr.heap.size:=(H'.1 b).1;have b6:g<wr.heap.size:=(H'.1 U).1;have G:w'.heap[w.heap.size]?=some (.cells (Aw us) 275 (0,0)):=((B.block w.heap.size (by simp;omega) n1.symm).trans (heap_alloc_old _ _ a8)).trans b;have b1:w'.heap[g]?=some (.cells (AM bs) 257 (0,0)):=((B.block g (by simp;omega) n2.symm).trans (heap_alloc_old _ _ b6)).trans U;obtain⟨a3,c3,X⟩:=Ed W;rw[M',D,mf]at X
      subst X;clear ho B c V h b U cb cd n1 n2;go_wp2
      go_roundw
      case rel=>exact⟨j+1,a3,c3,by omega,by go_num,rfl,by rw[N.out];exact W,G,b1,E⟩
      case measure=>simp[intOf];omega
     .have hjri:¬ (j:Int)<(r:Int):=by omega
      have HJ:Hid (j=r):=by unfold Hid;omega
      have a7:=(cell_of_row wr _ 12 _ _ _ b).trans (BF us 12 (by omega));have d5:=frozen_of_row wr _ 12 _ _ b;generalize T:us.getD 12 0#32=cw at a7;have a4:Hid (us.getD 12 0#32=cw):=T;clear T;have c5:=YX cw;have n1:=IQ c b (by decide);go_wp2
      go_roundw
      case rel =>
       refine⟨q+1,m+j,a2,P,by rw[HJ.out];exact a5.out,rfl,EC c (λk K=>heap_setCell_other _ _ _ _ (by simp;intro e;subst e;exact n1 K)),?_,h.setCell (p:=⟨w.heap.size,12,none⟩) (A' _) _⟩;rw[<- a6.out,a4.out];exact EI b 12 _
      case measure=>simp[X3];have:=HJ.out;omega
  .have hmni:¬ (m:Int)<(n:Int):=by omega
   have d4:Hid (n=m):=by unfold Hid;omega
   go_wp2
   go_ret;refine⟨_,rfl,?_,h⟩;unfold PD;rw[HN.out,d4.out];exact c
theorem aY(g h s:Value)(key a d:List Int)(c:Nat)(w:World)(n:Sl w g key)(p:Sl w h a)(m:Sl w s d)(lk:key.length=32)(r:a.length=12)(E:c<=1073741824)(F:d.length<=2000)(q:Cp w) :
  Calls prog 176 #[g,.int .i64 c,h,s] w λe w'=>∃ v',e=.returned (.tuple #[v',.int .i64 0])/\w'.ownsRow w.heap.size 5 1 v' (PD (BK key (BitVec.ofNat 32 c) a) d).length ((PD (BK key (BitVec.ofNat 32 c) a) d).map (Value.int .u8))/\Bw w w':=by
 have j:=m;obtain⟨⟨ad,l,rfl,x,z,u⟩,y,v⟩:=m;clear u;have A:(d.length:Int)<=2000:=by omega
 go_enter func176,ntmps176
 go_wp2_with fail
 refine(J3 g h key a c w n p).mono ?_;rintro e C ⟨rfl,rfl⟩;rw[I8 lk r (by omega)];go_wp2_with fail
 refine(MK g h key a c C n p lk r (by omega)).mono ?_;rintro e D ⟨rfl,b⟩;have o:=G4 key (BitVec.ofNat 32 c) a;generalize f:BK key (BitVec.ofNat 32 c) a=us at o;have i:Hid (BK key (BitVec.ofNat 32 c) a=us):=f;clear f;go_wp2_with fail
 refine(QT us _ d D o (j.ab b) (by omega) (q.ab q.pos b)).mono ?_;rintro e G ⟨B,rfl,k,t⟩;go_wp2
 go_ret2
 refine⟨B,rfl,?_,b.trans (t.mono b.size)⟩;rw[i.out];exact AJ k b.size
def Ag(l:List Int):Array Value:=(l.map (Value.int .u64)).toArray
theorem Aj(l:List Int):(Ag l).size=l.length:=by simp[Ag]
theorem Ap(l:List Int)(i:Nat)(h:i<l.length):(Ag l)[i]?=some (.int .u64 (l.getD i 0)):=by
 simp[Ag,List.getD,List.getElem?_eq_getElem h]
theorem XG(l:List Int)(i:Nat)(x:Int):(Ag l).setIfInBounds i (.int .u64 x)=Ag (l.set i x):=by
 apply lZ;simp[Ag,List.map_set]
theorem Eb(h:w.heap[g]?=some (.cells (Ag l) t (0,0)))(k:Nat)(x:Int) :
  (w.setCell ⟨g,k,none⟩ (.int .u64 x)).heap[g]?=some (.cells (Ag (l.set k x)) t (0,0)):=by
 rw[heap_setCell_same _ _ _ _ _ _ h,XG]
theorem Bq(l:List Int):(Ag l).all (·.oneCell')=true:=by simp[Ag,Value.oneCell']
theorem Nh:∀ (S:List Int),S.length=5->∃ a b c d e,S=[a,b,c,d,e]
 | [a,b,c,d,e],_=>⟨a,b,c,d,e,rfl⟩
def val:List Int->Int
 | []=>0
 | x::l=>x+67108864*val l
def Lim(B:Int)(l:List Int):Prop:=l.length=5/\∀ j,0<=l.getD j 0/\l.getD j 0<B
theorem Lim.pN{B a b d e:Int}(f:0<=a/\a<B)(g:0<=b/\b<B)(h:0<=c/\c<B)(i:0<=d/\d<B)(k:0<=e/\e<B):Lim B [a,b,c,d,e]:=by
 refine⟨rfl,λj=>?_⟩
 match j with
 | 0=>exact f
 | 1=>exact g
 | 2=>exact h
 | 3=>exact i
 | 4=>exact k
 | j+5=>simp[List.getD];omega
theorem Lim.split{B:Int}(h:Lim B l):∃ a b c d e,l=[a,b,c,d,e]/\(0<=a/\a<B)/\(0<=b/\b<B)/\(0<=c/\c<B)/\(0<=d/\d<B)/\(0<=e/\e<B):=by
 obtain⟨a,b,c,d,e,rfl⟩:=Nh l h.1;exact⟨a,b,c,d,e,rfl,h.2 0,h.2 1,h.2 2,h.2 3,h.2 4⟩
theorem Lim.mono{B C:Int}(h:Lim B l)(a:B<=C):Lim C l:=⟨h.1,λj=>⟨(h.2 j).1,by have:=(h.2 j).2;omega⟩⟩
theorem Db(a b c d e:Int):val [a,b,c,d,e]=a+67108864*b+4503599627370496*c+302231454903657293676544*d+20282409603651670423947251286016*e:=by
 simp only[val];omega
structure Carr(l m:List Int)(k:Nat)(o:Int):Prop where
 len:m.length=5
 sum:val m+o*67108864^k=val l
 done:∀ j,j<k->0<=m.getD j 0/\m.getD j 0<67108864
 rest:∀ j,k<=j->m.getD j 0=l.getD j 0
 lo:0<=o
 hi:o<274877906944
theorem Carr.zero(h:l.length=5):Carr l l 0 0:=⟨h,by omega,λ_ h=>by omega,λ_ _=>rfl,by omega,by omega⟩
theorem Carr.succ(h:Carr l m k o)(z:Lim 9223372036854775808 l)(K:k<5) :
  Carr l (m.set k ((m.getD k 0+o)%67108864)) (k+1) ((m.getD k 0+o)/67108864):=by
 obtain⟨A,t,u,v,w,rfl,b0,B,C,D,E⟩:=z.split;obtain⟨d,e,g,q,x,rfl⟩:=Nh m h.len;have s:=h.sum;have b:=h.done;have a:=h.rest;have I:=h.lo;have J:=h.hi;rw[Db]at s
 rw[Db]at s
 obtain rfl|rfl|rfl|rfl|rfl:k=0\/k=1\/k=2\/k=3\/k=4:=by omega
 .have e0:d=A:=a 0 (by omega);have p:e=t:=a 1 (by omega);have F:g=u:=a 2 (by omega);have G:q=v:=a 3 (by omega);have H:x=w:=a 4 (by omega);simp only[jM,jZ];refine⟨rfl,?_,λj c=>?_,λj c=>?_,by omega,by omega⟩
  .rw[Db,Db];omega
  .obtain rfl:j=0:=by omega
   simp only[jZ];omega
  .obtain⟨j,rfl⟩:∃ i,j=i+1:=⟨j-1,by omega⟩;have:=a (j+1) (by omega);simpa using this
 .have p:e=t:=a 1 (by omega);have f:0<=d/\d<67108864:=b 0 (by omega);simp only[jM,jN,jZ,kq];refine⟨rfl,?_,λj c=>?_,λj c=>?_,by omega,by omega⟩
  .rw[Db,Db];omega
  .obtain rfl|rfl:j=0\/j=1:=by omega
   .exact f
   .simp only[jZ,kq];omega
  .obtain⟨j,rfl⟩:∃ i,j=i+2:=⟨j-2,by omega⟩;have:=a (j+2) (by omega);simpa using this
 .have p:g=u:=a 2 (by omega);have f:0<=d/\d<67108864:=b 0 (by omega);have n:0<=e/\e<67108864:=b 1 (by omega);simp only[jM,jN,jZ,kq];refine⟨rfl,?_,λj c=>?_,λj c=>?_,by omega,by omega⟩
  .rw[Db,Db];omega
  .obtain rfl|rfl|rfl:j=0\/j=1\/j=2:=by omega
   .exact f
   .exact n
   .simp only[jZ,kq];omega
  .obtain⟨j,rfl⟩:∃ i,j=i+3:=⟨j-3,by omega⟩;have:=a (j+3) (by omega);simpa using this
 .have p:q=v:=a 3 (by omega);have f:0<=d/\d<67108864:=b 0 (by omega);have n:0<=e/\e<67108864:=b 1 (by omega);have r:0<=g/\g<67108864:=b 2 (by omega);simp only[jM,jN,jZ,kq];refine⟨rfl,?_,λj c=>?_,λj c=>?_,by omega,by omega⟩
  .rw[Db,Db];omega
  .obtain rfl|rfl|rfl|rfl:j=0\/j=1\/j=2\/j=3:=by omega
   .exact f
   .exact n
   .exact r
   .simp only[jZ,kq];omega
  .obtain⟨j,rfl⟩:∃ i,j=i+4:=⟨j-4,by omega⟩;have:=a (j+4) (by omega);simpa using this
 .have p:x=w:=a 4 (by omega);have f:0<=d/\d<67108864:=b 0 (by omega);have n:0<=e/\e<67108864:=b 1 (by omega);have r:0<=g/\g<67108864:=b 2 (by omega);have y:0<=q/\q<67108864:=b 3 (by omega);simp only[jM,jN,jZ,kq];refine⟨rfl,?_,λj c=>?_,λj c=>?_,by omega,by omega⟩
  .rw[Db,Db];omega
  .obtain rfl|rfl|rfl|rfl|rfl:j=0\/j=1\/j=2\/j=3\/j=4:=by omega
   .exact f
   .exact n
   .exact r
   .exact y
   .simp only[jZ,kq];omega
  .obtain⟨j,rfl⟩:∃ i,j=i+5:=⟨j-5,by omega⟩;simp[List.getD]
theorem Carr.nT(h:Carr l m 5 o):Lim 67108864 m/\val m+1361129467683753853853498429727072845824*o=val l:=by
 refine⟨⟨h.len,λj=>?_⟩,?_⟩
 .by_cases hj:j<5
  .exact h.done j hj
  .rw[Gn (by have:=h.len;omega)];omega
 .have:=h.sum;omega
def pp:Int:=1361129467683753853853498429727072845819
theorem OG(h:l.length=5)(t:Nat)(f:t<5)(y:Int):val (l.set t y)=val l+(y-l.getD t 0)*67108864^t:=by
 obtain⟨a,b,c,d,e,rfl⟩:=Nh l h;obtain rfl|rfl|rfl|rfl|rfl:t=0\/t=1\/t=2\/t=3\/t=4:=by omega
 all_goals
  simp only[jM,jN,jZ,kq,Db];omega
def pv(n:List Int):Nat->Int
 | 0=>0
 | k+1=>pv n k+n.getD k 0*67108864^k
theorem Tu{n:List Int}(h:n.length=5):pv n 5=val n:=by
 obtain⟨a,b,c,d,e,rfl⟩:=Nh n h;simp only[pv,jZ,kq,Db];omega
structure Adds(l m r:List Int)(k:Nat):Prop where
 len:r.length=5
 done:∀ j,j<k->r.getD j 0=l.getD j 0+m.getD j 0
 rest:∀ j,k<=j->r.getD j 0=l.getD j 0
theorem Adds.zero(h:l.length=5):Adds l m l 0:=⟨h,λ_ h=>by omega,λ_ _=>rfl⟩
theorem AH(h:k<l.length)(x:Int):(l.set k x).getD k 0=x:=by
 simp[List.getD,h]
theorem Ay(h:k≠j)(x:Int):(l.set k x).getD j 0=l.getD j 0:=by
 simp[List.getD,List.getElem?_set_ne h]
theorem Adds.succ(h:Adds l m r k)(b:k<5):Adds l m (r.set k (r.getD k 0+m.getD k 0)) (k+1):=by
 refine⟨by simpa using h.len,λj a=>?_,λj a=>?_⟩
 .by_cases e:k=j
  .subst e;rw[AH (by rw[h.len];omega),h.rest k (by omega)]
  .rw[Ay e];exact h.done j (by omega)
 .rw[Ay (by omega)];exact h.rest j (by omega)
theorem Adds.nT(h:Adds l m r 5)(a:Lim 67108864 l)(b:Lim 67108864 m):Lim 134217728 r/\val r=val l+val m:=by
 obtain⟨c,d,e,f,g,rfl,b0,v,w,x,y⟩:=a.split;obtain⟨i,j,k,n,o,rfl,c0,c1,z,A,B⟩:=b.split;obtain⟨p,q,s,t,u,rfl⟩:=Nh r h.len;have C:p=c+i:=h.done 0 (by omega);have D:q=d+j:=h.done 1 (by omega);have E:s=e+k:=h.done 2 (by omega);have F:t=f+n:=h.done 3 (by omega);have G:u=g+o:=h.done 4 (by omega);exact⟨Lim.pN (by omega) (by omega) (by omega) (by omega) (by omega),by rw[Db,Db,Db];omega⟩
structure Prods(n m r:List Int)(i j:Nat):Prop where
 len:r.length=5
 sum:val r%pp=(pv n i*val m+n.getD i 0*67108864^i*pv m j)%pp
 low:∀ t,0<=r.getD t 0
 high:∀ t,r.getD t 0<=(5*(i:Int)+(j:Int))*45035996273704960
theorem Prods.zero(n m:List Int):Prods n m [0,0,0,0,0] 0 0:=by
 refine⟨rfl,?_,λt=>?_,λt=>?_⟩
 .simp[pv,val]
 .match t with
  | 0|1|2|3|4=>simp
  | t+5=>simp[List.getD]
 .match t with
  | 0|1|2|3|4=>simp
  | t+5=>simp[List.getD]
theorem Ha(b:0<=x/\x<134217728)(a:0<=y/\y<67108864):0<=x*y/\x*y<=9007199254740992:=by
 refine⟨nN b.1 a.1,?_⟩;have c:=nO (mO b.2) (mO a.2) a.1 (by omega);omega
theorem Prods.pa{n:List Int}(h:Prods n m r i j)(c:Lim 134217728 n)(b:Lim 67108864 m)(a:i+j<5) :
  Prods n m (r.set (i+j) (r.getD (i+j) 0+n.getD i 0*m.getD j 0)) i (j+1):=by
 have g:=Ha (c.2 i) (b.2 j);have d:=h.low (i+j);have f:=h.high (i+j);refine⟨by simpa using h.len,?_,λt=>?_,λt=>?_⟩
 .rw[OG h.len _ a,mP,h.sum,<- mP]
  congr 1
  rw[mt];simp only[pv]
  grind
 .by_cases e:i+j=t
  .subst e;rw[AH (by rw[h.len];omega)];omega
  .rw[Ay e];exact h.low t
 .by_cases e:i+j=t
  .subst e;rw[AH (by rw[h.len];omega)];omega
  .rw[Ay e];have:=h.high t;omega
theorem Prods.oW{n:List Int}(h:Prods n m r i j)(d:Lim 134217728 n)(c:Lim 67108864 m)(b:5<=i+j)(l:i<5)(o:j<5) :
  Prods n m (r.set (i+j-5) (r.getD (i+j-5) 0+n.getD i 0*m.getD j 0*5)) i (j+1):=by
 have k:=Ha (d.2 i) (c.2 j);have f:=h.low (i+j-5);have g:=h.high (i+j-5);refine⟨by simpa using h.len,?_,λt=>?_,λt=>?_⟩
 .rw[OG h.len _ (by omega),mP,h.sum,<- mP];have e:(67108864:Int)^i*67108864^j=67108864^(i+j-5)*(pp+5):=by
   rw[<- mt,show pp+5=(67108864:Int)^5 by unfold pp;rfl,<- mt];congr 1;omega
  have a:pv n i*val m+n.getD i 0*67108864^i*pv m (j+1)=pv n i*val m+n.getD i 0*67108864^i*pv m j+(r.getD (i+j-5) 0+n.getD i 0*m.getD j 0*5-r.getD (i+j-5) 0)*67108864^(i+j-5)+pp*(n.getD i 0*m.getD j 0*67108864^(i+j-5)):=by
   simp only[pv]
   grind
  rw[a,m7]
 .by_cases e:i+j-5=t
  .subst e;rw[AH (by rw[h.len];omega)];omega
  .rw[Ay e];exact h.low t
 .by_cases e:i+j-5=t
  .subst e;rw[AH (by rw[h.len];omega)];omega
  .rw[Ay e];have:=h.high t;omega
theorem Prods.row{n:List Int}(h:Prods n m r i 5)(a:m.length=5):Prods n m r (i+1) 0:=by
 refine⟨h.len,?_,h.low,λt=>?_⟩
 .rw[h.sum,Tu a]
  congr 1
  simp only[pv]
  grind
 .have:=h.high t;omega
theorem Prods.nT{n:List Int}(h:Prods n m r 5 0)(a:n.length=5):Lim 1152921504606846976 r/\val r%pp=(val n*val m)%pp:=by
 refine⟨⟨h.len,λt=>⟨h.low t,?_⟩⟩,?_⟩
 .have:=h.high t;omega
 .rw[h.sum,Tu a];congr 1;simp only[pv];grind
theorem RC{n:List Int}(q:Lim 67108864 n)(p:Carr (n.set 0 (n.getD 0 0+5)) m 5 o):Lim 67108864 m/\(0<o->val m=val n%pp)/\(¬ 0<o->val n=val n%pp):=by
 obtain⟨k,l⟩:=p.nT;refine⟨k,?_⟩;have z:=p.lo;obtain⟨a,b,c,d,e,rfl,b0,s,t,u,v⟩:=q.split;obtain⟨f,g,h,i,j,rfl,c0,c1,w,x,y⟩:=k.split;simp only[jM,jZ]at l;have r:val [a+5,b,c,d,e]=val [a,b,c,d,e]+5:=by rw[Db,Db];omega
 have A:0<=val [a,b,c,d,e]/\val [a,b,c,d,e]<1361129467683753853853498429727072845824:=by rw[Db];omega
 have B:0<=val [f,g,h,i,j]/\val [f,g,h,i,j]<1361129467683753853853498429727072845824:=by rw[Db];omega
 rw[r]at l
 generalize val [a,b,c,d,e]=V at *;generalize val [f,g,h,i,j]=M at *;unfold pp;constructor
 .intro ho;obtain rfl:o=1:=by omega
  omega
 .intro ho;obtain rfl:o=0:=by omega
  omega
def leP(l:List Int):Nat->Int
 | 0=>0
 | k+1=>leP l k+l.getD k 0*256^k
def leN(l:List Int):Int:=leP l l.length
theorem X0(k:Nat)(h:l.length<=k):leP l k=leN l:=by
 obtain⟨d,rfl⟩:∃ d,k=l.length+d:=⟨k-l.length,by omega⟩;clear h;induction d with
 | zero=>rfl
 | succ d ih=>rw[<- kM,leP,ih,Gn (by omega)];omega
theorem UB(k:Nat)(h:∀ j,j<k->l.getD j 0=m.getD j 0):leP l k=leP m k:=by
 induction k with
 | zero=>rfl
 | succ k ih=>rw[leP,leP,ih (λj a=>h j (by omega)),h k (by omega)]
theorem RA(k:Nat):leP (l++m) (l.length+k)=leN l+256^l.length*leP m k:=by
 induction k with
 | zero =>
  simp only[lU,leP,Int.mul_zero,Int.add_zero];unfold leN;exact UB _ (λj a=>by simp[List.getD,List.getElem?_append_left a])
 | succ k ih =>
  rw[<- kM,leP,ih,leP,Int.mul_add,mt];have:(l++m).getD (l.length+k) 0=m.getD k 0:=by simp[List.getD,List.getElem?_append_right]
  rw[this]
  grind
theorem R9(l m:List Int):leN (l++m)=leN l+256^l.length*leN m:=by
 have h:=RA (l:=l) (m:=m) m.length;rw[<- M']at h
 exact h
theorem UA(n:Nat):leN (List.replicate n 0)=0:=by
 unfold leN;generalize (List.replicate n (0:Int)).length=k;induction k with
 | zero=>rfl
 | succ k ih =>
  rw[leP,ih];have:(List.replicate n (0:Int)).getD k 0=0:=by
   rcases kt k n with h|h
   .simp[List.getD,h]
   .exact Gn (by simpa using h)
  rw[this];omega
structure Reads(b r:List Int)(k:Nat):Prop where
 len:r.length=5
 sum:val r=leP b k
 low:∀ t,0<=r.getD t 0
 high:∀ t,r.getD t 0<=(k:Int)*17179869184
theorem Reads.zero(b:List Int):Reads b [0,0,0,0,0] 0:=by
 refine⟨rfl,rfl,λt=>?_,λt=>?_⟩
 .match t with
  | 0|1|2|3|4=>simp
  | t+5=>simp[List.getD]
 .match t with
  | 0|1|2|3|4=>simp
  | t+5=>simp[List.getD]
theorem Reads.succ{b:List Int}(h:Reads b r k)(c:0<=b.getD k 0/\b.getD k 0<256)(q:Nat)(m:Int)(f:q<5)(a:0<=m/\m<=33554432)(d:m*67108864^q=256^k):Reads b (r.set q (r.getD q 0+b.getD k 0*m)) (k+1):=by
 have g:0<=b.getD k 0*m:=nN c.1 a.1;have i:b.getD k 0*m<=256*33554432:=nO (by omega) a.2 a.1 (by omega);refine⟨by simpa using h.len,?_,λt=>?_,λt=>?_⟩
 .rw[OG h.len q f,h.sum,leP,<- d]
  grind
 .have:=h.low q;by_cases e:q=t
  .subst e;rw[AH (by rw[h.len];omega)];omega
  .rw[Ay e];exact h.low t
 .have:=h.high q;by_cases e:q=t
  .subst e;rw[AH (by rw[h.len];omega)];omega
  .rw[Ay e];have:=h.high t;omega
def piece(l:List Int)(k:Nat):List Int:=(l.drop (16*k)).take 16
def JD(R:Int)(l:List Int):Nat->Int
 | 0=>0
 | k+1=>(JD R l k+leN (piece l k++[1]))*R%pp
def Ox(l:List Int):Nat:=(l.length+15)/16
def dQ(R:Int)(l:List Int):Int:=JD R l (Ox l)
theorem Sj:0<pp:=by unfold pp;omega
theorem QB(R:Int)(l:List Int)(k:Nat):0<=JD R l k/\JD R l k<pp:=by
 cases k with
 | zero=>exact⟨by simp[JD],Sj⟩
 | succ k=>exact⟨nG _ (by have:=Sj;omega),na _ Sj⟩
theorem VE{n s t:List Int}{R:Int}(b:val n%pp=JD R l k%pp)(a:val m%pp=leN (piece l k++[1])%pp)(d:val s=val n+val m)(c:val r%pp=R%pp)(e:val t%pp=(val s*val r)%pp) :
  val t%pp=JD R l (k+1)%pp:=by
 rw[e,JD,Int.emod_emod_of_dvd _ (Int.dvd_refl _),Int.mul_emod,d,mP,b,a,c,<- mP,<- Int.mul_emod]
theorem CV(l:List Int)(n i:Nat):(l.drop n).getD i 0=l.getD (n+i) 0:=by simp[List.getD]
theorem Bk(l:List Int)(n i:Nat)(h:i<n):(l.take n).getD i 0=l.getD i 0:=by simp[List.getD,h]
theorem Sl.oD{a:Option Addr}(h:Sl w (.slice a n cap) l)(d c:Nat)(m:d<=c)(g:c<=l.length):Sl w (sliced a d c cap 1) ((l.take c).drop d):=by
 have A:=(h.take c g).len;have q:=h.byte;obtain⟨⟨v,o,e,z,t,p⟩,s,r⟩:=h;simp only[Value.slice.injEq]at e;obtain⟨rfl,rfl,rfl⟩:=e;have k:((l.take c).drop d).length=c-d:=by rw[jL,X'];omega
 have f:∀ x∈(l.take c).drop d,0<=x/\x<256:=λx u=>q x (jU (lP u));cases a with
 | none =>
  have c0:=t rfl;subst c0;have y:l.length=0:=by omega
  refine⟨⟨_,_,by rw[k];rfl,by omega,λ_=>by omega,.inl (Z' (by omega))⟩,by omega,f⟩
 | some ad =>
  refine⟨⟨_,_,by rw[k];rfl,by omega,(by intro h;split at h<;>simp at h),?_⟩,by omega,f⟩;rcases Nat.eq_or_lt_of_le m with he|hlt
  .exact .inl (Z' (by omega))
  .rcases p with rfl|⟨b,off,e2,hbs,hcell⟩
   .simp at g;omega
   .simp only[V']at e2;subst e2;refine .inr ⟨b,off+d,?_,hbs,λi j=>?_⟩
    .rw[if_neg (by omega)];simp[Addr.add]
    .rw[k]at j
     rw[kM,hcell (d+i) (by omega),CV,Bk _ _ _ (by omega)]
theorem He(w:World):(Go.sizeOf 5).run prog w=.ok 1 w:=by
 obtain⟨i,b,_,a,_⟩:=info_parts Aq;simp[sizeOf,typeInfo,b,a]
theorem Sl.ni{a:Option Addr}(h:Sl w (.slice a n cap) l)(b:Nat)(c:b<=l.length) :
  ∃ a' c',(∀ W,(Instr.slice 48 (.slice a n cap) none (some (.int .i64 (b:Int))) none).run prog W=.ok (.slice a' b c') W)/\Sl w (.slice a' b c') (l.take b):=by
 have i:=h.oD 0 b (by omega) c;obtain⟨⟨a',d,e,k,m,j⟩,g,f⟩:=h;simp only[Value.slice.injEq]at e;obtain⟨rfl,rfl,rfl⟩:=e;refine⟨_,_,λW=>?_,by simpa[sliced]using i⟩;rw[run_slice_h (P:=prog) W 48 a _ cap underlying48 .i64 _ (by omega) (by omega)];have e:prog.elem 48=5:=by kernel_rfl
 rw[e,He];simp[Result.andThen,sliced]
theorem Sl.from{a:Option Addr}(h:Sl w (.slice a n cap) l)(b:Nat)(c:b<=l.length) :
  ∃ a' c',(∀ W,(Instr.slice 48 (.slice a n cap) (some (.int .i64 (b:Int))) none none).run prog W=.ok (.slice a' (n-b) c') W)/\Sl w (.slice a' (n-b) c') (l.drop b):=by
 have i:=h.oD b l.length c (A' _);obtain⟨⟨a',d,e,k,m,j⟩,g,f⟩:=h;simp only[Value.slice.injEq]at e;obtain⟨rfl,rfl,rfl⟩:=e;refine⟨_,_,λW=>?_,by simpa[sliced]using i⟩;rw[run_slice_l (P:=prog) W 48 a _ cap underlying48 .i64 _ (by omega) (by omega)];have e:prog.elem 48=5:=by kernel_rfl
 rw[e,He];simp[Result.andThen,sliced]
theorem gL(x:Int)(a:0<=x)(b:x<18446744073709551616):bits .and .u64 x 67108863=x%67108864:=by
 obtain⟨n,rfl⟩:=jY a;rw[show(67108863:Int)=((67108863:Nat):Int)from rfl,u64_and_nat _ _ (by omega) (by omega),show(67108863:Nat)=2^26-1 from rfl,mQ];omega
theorem CJ(h:l.length=5):(prog.info? 286).map (·.size)=some (Ag l).size:=by rw[Aj,h];kernel_rfl
theorem AX{a:World}(h:Below B a w){g:Nat}(c:B<=g)(b:Array Value):Below B a (w.setRow g b) :=
 h.trans ⟨rfl,rfl,rfl,by simp,λk d=>setRow_other w g k b (by omega)⟩
theorem FR{P:Program}{f:Func}{p u:Tmp}{c:TypeId}(h:f.results=#[.cell p c,.tmp u])(a:Array Value)(w:World)(g:Nat)(t:TypeId)(b:Array Value)(fr:Nat × Nat)(d:TypeDesc)(l:a.getD p undef=.pointer (some ⟨g,0,none⟩))(j:w.heap[g]?=some (.cells b t fr))(m:P.underlying c=some d)(i:(match d with|.struct _|.array _ _=>true|_=>false)=true)(k:(P.info? c).map (·.size)=some b.size){v:Value}(n:a.getD u undef=v) :
  (results f a).run P w=.ok (.tuple #[.agg b,v]) w:=by
 have e:a[p]?.getD undef=.pointer (some ⟨g,0,none⟩):=by simpa using l
 rw[results_cell_tmp h,n];simp[e,asAddr,run_loadVar_row w g t c b fr d j m i k]
theorem An{l:List Oper}(h:wpList P ops Q l a w):wpList P ops Q l a w:=h
theorem PN(l:List Int)(w:World)(j:Lim 9223372036854775808 l) :
  Calls prog 212 #[.agg (Ag l)] w λe w'=>∃ m o,e=.returned (.tuple #[.agg (Ag m),.int .u64 o])/\Carr l m 5 o/\Bw w w':=by
 have s:=j.1;have z:=CJ s;go_enter func212,ntmps212
 go_wp2_with fail
 go_loopw [4,6] (λo i wr=>∃ (k:Nat) (m:List Int) (b:Int),k<=5/\i=.int .i64 k/\o=.int .u64 b/\Carr l m k b/\wr.heap[w.heap.size]?=some (.cells (Ag m) 286 (0,0))/\wr.heap[w.heap.size+1]?=some (.cells (Ag [0,0,0,0,0]) 286 (0,0))/\Bw w wr) (λ_ i _=>5-(intOf i).toNat)
 case atStart=>
  refine⟨0,l,0,by omega,rfl,rfl,Carr.zero s,?_,?_,?_⟩
  .exact heap_alloc2_old _ _ _
  .exact heap_alloc2_new _ _ _
  .exact((Below.refl _ _).alloc (A' _) _).alloc (by simp) _
 case round =>
  obtain⟨k,m,b,D,rfl,rfl,c,f,n,t⟩:=hrel;by_cases g:k<5
  .have h:(k:Int)<5:=by omega
   have y:=(cell_of_row wr _ k _ _ _ f).trans (Ap m k (by rw[c.len];omega));have B:=frozen_of_row wr _ k _ _ f;have u:=c.succ j g;have E:=c.lo;have F:=c.hi;have r:m.getD k 0=l.getD k 0:=c.rest k (by omega);have d:=j.2 k;rw[<- r]at d
   have q:Hid (Carr l (m.set k ((m.getD k 0+b)%67108864)) (k+1) ((m.getD k 0+b)/67108864)):=u;clear u c r;generalize m.getD k 0=x at y q d;obtain⟨d,A⟩:=d;have C:=gL (x+b) (by omega) (by omega);go_wp2
   go_roundw
   case rel =>
    refine⟨k+1,_,_,by omega,by go_num,rfl,q.out,?_,?_,?_⟩
    .have h1:=Eb (Eb f k (x+b)) k ((x+b)%67108864);rw[List.set_set]at h1
     exact h1
    .rw[heap_setCell_other _ _ _ _ (by simp),heap_setCell_other _ _ _ _ (by simp)];exact n
    .exact(t.setCell (p:=⟨w.heap.size,k,none⟩) (A' _) _).setCell (p:=⟨w.heap.size,k,none⟩) (A' _) _
   case measure=>simp[intOf];omega
  .have HK:Hid (k=5):=by unfold Hid;omega
   have h:¬ (k:Int)<5:=by omega
   have a:=CJ c.len;go_wp2_with ((with_reducible (refine An ?_));first
    | (refine wpList_load_row rfl 286 _ rfl w.heap.size rfl 286 _ (0,0) _ f underlying286 rfl a ?_)
    | (refine wpList_store_row rfl 286 _ _ rfl (w.heap.size+1) _ rfl rfl 286 _ n a (by rw[Aj,Aj,c.len];rfl) (Bq m) ?_))
   refine bodyPost_ret (v:=.tuple #[.agg (Ag m),.int .u64 b]) (FR rfl _ _ (w.heap.size+1) 286 _ (0,0) _ rfl (setRow_heap wr (w.heap.size+1) _ _ 286 _ n) underlying286 rfl a rfl) rfl ⟨m,b,rfl,by have:=HK.out;subst this;exact c,AX t (by omega) _⟩
def Q8:Nat->List Int->Prop
 | 0,m=>Lim 1152921504606846976 m
 | 1,m=>Lim 274877906944 m/\val m<1361129467683753853853498429727072845824+274877906944
 | 2,m=>Lim 274877906944 m/\val m<1361129467683753853853498429727072845824
 | _,m=>Lim 67108864 m
theorem Q8.qd:∀ {k:Nat} {m:List Int},Q8 k m->Lim 9223372036854775808 m
 | 0,_,h=>Lim.mono h (by omega)
 | 1,_,h=>Lim.mono h.1 (by omega)
 | 2,_,h=>Lim.mono h.1 (by omega)
 | _+3,_,h=>Lim.mono (B:=67108864) h (by omega)
theorem fm(a b o:Int)(h:a+1361129467683753853853498429727072845824*o=b):(a+5*o)%pp=b%pp:=by
 rw[<- h,show a+1361129467683753853853498429727072845824*o=a+5*o+pp*o by unfold pp;omega,m7]
theorem Q8.succ(h:Q8 k l)(E:k<3)(b:Carr l m 5 o):Q8 (k+1) (m.set 0 (m.getD 0 0+o*5))/\val (m.set 0 (m.getD 0 0+o*5))%pp=val l%pp/\0<=m.getD 0 0/\m.getD 0 0<67108864/\0<=o/\o<274877906944:=by
 obtain⟨r,a⟩:=b.nT;obtain⟨d,f,g,i,j,rfl,b0,A,B,C,D⟩:=r.split;have y:=b.lo;have z:=b.hi;simp only[jM,jZ];have c:=fm _ _ _ a;rw[Db]at a
 have e:val [d+o*5,f,g,i,j]=val [d,f,g,i,j]+5*o:=by rw[Db,Db];omega
 rw[<- e]at c
 refine⟨?_,c,b0.1,b0.2,y,z⟩;obtain rfl|rfl|rfl:k=0\/k=1\/k=2:=by omega
 .obtain⟨t,u,v,w,x,rfl,c0,c1,n,p,q⟩:=Lim.split h;rw[Db]at a
  refine⟨Lim.pN (by omega) (by omega) (by omega) (by omega) (by omega),?_⟩;rw[Db];omega
 .obtain⟨h3,h4⟩:=h;obtain⟨t,u,v,w,x,rfl,c0,c1,n,p,q⟩:=Lim.split h3;rw[Db]at a h4
  refine⟨Lim.pN (by omega) (by omega) (by omega) (by omega) (by omega),?_⟩;rw[Db];omega
 .obtain⟨h3,h4⟩:=h;have s:o=0:=by omega
  subst s;show Lim 67108864 _;exact Lim.pN (by omega) (by omega) (by omega) (by omega) (by omega)
theorem Jl(l:List Int)(w:World)(I:Lim 1152921504606846976 l) :
  Calls prog 211 #[.agg (Ag l)] w λe w'=>∃ m,e=.returned (.agg (Ag m))/\Lim 67108864 m/\val m%pp=val l%pp/\Bw w w':=by
 have M:=I.1;have N:=CJ M;go_enter func211,ntmps211
 go_wp2_with fail
 go_loopw [4] (λi wr=>∃ (k:Nat) (m:List Int),k<=3/\i=.int .i64 k/\Q8 k m/\val m%pp=val l%pp/\wr.heap[w.heap.size]?=some (.cells (Ag m) 286 (0,0))/\wr.heap[w.heap.size+1]?=some (.cells (Ag [0,0,0,0,0]) 286 (0,0))/\w.heap.size+2<=wr.heap.size/\Bw w wr) (λi _=>3-(intOf i).toNat)
 case atStart=>
  refine⟨0,l,by omega,rfl,I,rfl,?_,?_,by simp,?_⟩
  .exact heap_alloc2_old _ _ _
  .exact heap_alloc2_new _ _ _
  .exact((Below.refl _ _).alloc (A' _) _).alloc (by simp) _
 case round =>
  obtain⟨k,m,T,rfl,n,K,B,C,U,E⟩:=hrel;have f:=n.qd.1;have b:=CJ f;by_cases G:k<3
  .have hki:(k:Int)<3:=by omega
   go_wp2_with ((with_reducible (refine An ?_));refine wpList_load_row rfl 286 _ rfl w.heap.size rfl 286 _ (0,0) _ B underlying286 rfl b ?_)
   refine(PN m wr n.qd).mono ?_;rintro e h ⟨a,o,rfl,d,c⟩;obtain⟨J,A,Q,R,V,W⟩:=n.succ G d;have q:=d.len;have y:=CJ q;have r:=(c.block w.heap.size (by omega)).trans B;have s:=(c.block (w.heap.size+1) (by omega)).trans C;have O:=c.size;have j:Bw w h:=E.trans (c.mono (by omega));have g:=setRow_heap h w.heap.size (Ag m) (Ag a) 286 (0,0) r;have H:(h.setRow w.heap.size (Ag a)).heap[w.heap.size+1]?=some (.cells (Ag [0,0,0,0,0]) 286 (0,0)):=(setRow_other _ _ _ _ (by omega)).trans s;have D:Bw w (h.setRow w.heap.size (Ag a)):=AX j (A' _) _;have P:(h.setRow w.heap.size (Ag a)).heap.size=h.heap.size:=by simp
   have L:=(cell_of_row _ _ 0 _ _ _ g).trans (Ap a 0 (by omega));have S:=frozen_of_row _ _ 0 _ _ g;have t:Hid (Q8 (k+1) (a.set 0 (a.getD 0 0+o*5))):=J;have z:Hid (val (a.set 0 (a.getD 0 0+o*5))%pp=val m%pp):=A;have u:Hid (((h.setRow w.heap.size (Ag a)).setCell ⟨w.heap.size,0,none⟩ (.int .u64 (a.getD 0 0+o*5))).heap[w.heap.size]?=some (.cells (Ag (a.set 0 (a.getD 0 0+o*5))) 286 (0,0))):=Eb g 0 _;clear E B C c s j n d J A;generalize a.getD 0 0=x at L t z u Q R;go_wp2_with ((with_reducible (refine An ?_));refine wpList_store_row rfl 286 _ _ rfl w.heap.size _ rfl rfl 286 _ r y (by rw[Aj,Aj,q,f]) (Bq a) ?_)
   go_roundw
   case rel =>
    refine⟨k+1,_,by omega,by go_num,t.out,z.out.trans K,u.out,?_,?_,?_⟩
    .rw[heap_setCell_other _ _ _ _ (by simp)];exact H
    .simp;omega
    .exact D.setCell (p:=⟨w.heap.size,0,none⟩) (A' _) _
   case measure=>simp[intOf];omega
  .have hki:¬ (k:Int)<3:=by omega
   have F:Lim 67108864 m:=by
    obtain rfl:k=3:=by omega
    exact n
   go_wp2_with ((with_reducible (refine An ?_));first
    | (refine wpList_load_row rfl 286 _ rfl w.heap.size rfl 286 _ (0,0) _ B underlying286 rfl b ?_)
    | (refine wpList_store_row rfl 286 _ _ rfl (w.heap.size+1) _ rfl rfl 286 _ C b (by rw[Aj,Aj,f];rfl) (Bq m) ?_))
   refine bodyPost_ret (v:=.agg (Ag m)) (results_cell_row rfl _ _ (w.heap.size+1) 286 _ (0,0) _ rfl (setRow_heap wr (w.heap.size+1) _ _ 286 _ C) underlying286 rfl b) rfl ⟨m,rfl,F,K,AX E (by omega) _⟩
theorem Mk(n:Int):IntKind.u64.wrap n=n%18446744073709551616:=by simp[IntKind.wrap,IntKind.bits,IntKind.signed]
theorem R1(S:List Int)(f:S.length=5)(j:Nat)(g:j<5):∀ w,(Instr.index 286 (.agg (Ag S)) (.int .i64 (j:Int))).run prog w=.ok (.int .u64 (S.getD j 0)) w:=by
 intro w;obtain⟨a,b,c,d,e,rfl⟩:=Nh S f;obtain rfl|rfl|rfl|rfl|rfl:j=0\/j=1\/j=2\/j=3\/j=4:=by omega
 all_goals kernel_rfl
theorem F4(w:World)(a b c:Obj):(((w.alloc a).alloc b).alloc c).heap[w.heap.size]?=some a/\(((w.alloc a).alloc b).alloc c).heap[w.heap.size+1]?=some b/\(((w.alloc a).alloc b).alloc c).heap[w.heap.size+1+1]?=some c/\Bw w (((w.alloc a).alloc b).alloc c):=by
 refine⟨?_,?_,?_,(((Below.refl _ _).alloc (A' _) _).alloc (by simp) _).alloc (by simp;omega) _⟩
 .rw[heap_alloc_old _ _ (by simp;omega)];exact heap_alloc2_old w a b
 .rw[heap_alloc_old _ _ (by simp)];exact heap_alloc2_new w a b
 .have:=heap_alloc_new ((w.alloc a).alloc b) c;simpa using this
theorem K5(w:World)(a b c d:Obj):((((w.alloc a).alloc b).alloc c).alloc d).heap[w.heap.size]?=some a/\((((w.alloc a).alloc b).alloc c).alloc d).heap[w.heap.size+1]?=some b/\((((w.alloc a).alloc b).alloc c).alloc d).heap[w.heap.size+1+1]?=some c/\((((w.alloc a).alloc b).alloc c).alloc d).heap[w.heap.size+1+1+1]?=some d/\Bw w ((((w.alloc a).alloc b).alloc c).alloc d):=by
 obtain⟨e,f,g,h⟩:=F4 w a b c;refine⟨?_,?_,?_,?_,h.alloc (by simp;omega) _⟩
 .rw[heap_alloc_old _ _ (by simp;omega)];exact e
 .rw[heap_alloc_old _ _ (by simp)];exact f
 .rw[heap_alloc_old _ _ (by simp)];exact g
 .have:=heap_alloc_new (((w.alloc a).alloc b).alloc c) d;simpa using this
theorem Yb(l m:List Int)(w:World)(n:Lim 67108864 l)(d:Lim 67108864 m) :
  Calls prog 205 #[.agg (Ag l),.agg (Ag m)] w λe w'=>∃ r,e=.returned (.agg (Ag r))/\Lim 134217728 r/\val r=val l+val m/\Bw w w':=by
 have C:=n.1;have g:=CJ d.1;go_enter func205,ntmps205
 go_wp2_with ((with_reducible (refine An ?_));(refine wpList_load_row rfl 286 _ rfl (w.heap.size+1) rfl 286 _ (0,0) _ (F4 w _ _ _).2.1 underlying286 rfl g ?_))
 go_loopw [8] (λi wr=>∃ (k:Nat) (r:List Int),k<=5/\i=.int .i64 k/\Adds l m r k/\wr.heap[w.heap.size]?=some (.cells (Ag r) 286 (0,0))/\wr.heap[w.heap.size+1+1]?=some (.cells (Ag [0,0,0,0,0]) 286 (0,0))/\Bw w wr) (λi _=>5-(intOf i).toNat)
 case atStart=>exact⟨0,l,by omega,rfl,Adds.zero C,(F4 w _ _ _).1,(F4 w _ _ _).2.2.1,(F4 w _ _ _).2.2.2⟩
 case round =>
  obtain⟨k,r,G,rfl,j,o,z,A⟩:=hrel;have f:=j.len;by_cases c:k<5
  .have u:(k:Int)<5:=by omega
   have t:=R1 m d.1 k c;have B:=(cell_of_row wr _ k _ _ _ o).trans (Ap r k (by omega));have F:=frozen_of_row wr _ k _ _ o;have q:Hid (Adds l m (r.set k (r.getD k 0+m.getD k 0)) (k+1)):=j.succ c;have h:=n.2 k;rw[<- j.rest k (by omega)]at h
   have s:=d.2 k;generalize r.getD k 0=x at B q h;generalize m.getD k 0=y at t q s;obtain⟨h,D⟩:=h;obtain⟨s,E⟩:=s;go_wp2
   go_roundw
   case rel =>
    refine⟨k+1,_,by omega,by go_num,q.out,Eb o k _,?_,?_⟩
    .rw[heap_setCell_other _ _ _ _ (by simp;omega)];exact z
    .exact A.setCell (p:=⟨w.heap.size,k,none⟩) (A' _) _
   case measure=>simp[intOf];omega
  .have HK:Hid (k=5):=by unfold Hid;omega
   have u:¬ (k:Int)<5:=by omega
   have a:=CJ f;go_wp2_with ((with_reducible (refine An ?_));first
    | (refine wpList_load_row rfl 286 _ rfl (w.heap.size) rfl 286 _ (0,0) _ o underlying286 rfl a ?_)
    | (refine wpList_store_row rfl 286 _ _ rfl (w.heap.size+1+1) _ rfl rfl 286 _ z a (by rw[Aj,Aj,f];rfl) (Bq r) ?_))
   have b:Adds l m r 5:=by have:=HK.out;subst this;exact j
   refine bodyPost_ret (v:=.agg (Ag r)) (results_cell_row rfl _ _ (w.heap.size+1+1) 286 _ (0,0) _ rfl (setRow_heap wr (w.heap.size+1+1) _ _ 286 _ z) underlying286 rfl a) rfl ⟨r,rfl,(b.nT n d).1,(b.nT n d).2,AX A (by omega) _⟩
theorem V4(n m:List Int)(w:World)(u:Lim 134217728 n)(s:Lim 67108864 m) :
  Calls prog 207 #[.agg (Ag n),.agg (Ag m)] w λe w'=>∃ r,e=.returned (.agg (Ag r))/\Lim 67108864 r/\val r%pp=(val n*val m)%pp/\Bw w w':=by
 have G:=CJ u.1;have F:=CJ s.1;go_enter func207,ntmps207
 go_wp2_with ((with_reducible (refine An ?_));(refine wpList_load_row rfl 286 _ rfl (w.heap.size) rfl 286 _ (0,0) _ (K5 w _ _ _ _).1 underlying286 rfl G ?_))
 go_loopw [11] (λi wr=>∃ (k:Nat) (r:List Int),k<=5/\i=.int .i64 k/\Prods n m r k 0/\wr.heap[w.heap.size+1]?=some (.cells (Ag m) 286 (0,0))/\wr.heap[w.heap.size+1+1]?=some (.cells (Ag [0,0,0,0,0]) 286 (0,0))/\wr.heap[w.heap.size+1+1+1]?=some (.cells (Ag r) 286 (0,0))/\Bw w wr) (λi _=>5-(intOf i).toNat)
 case atStart=>exact⟨0,_,by omega,rfl,Prods.zero n m,(K5 w _ _ _ _).2.1,(K5 w _ _ _ _).2.2.1,(K5 w _ _ _ _).2.2.2.1,(K5 w _ _ _ _).2.2.2.2⟩
 case round =>
  obtain⟨k,r,hk,rfl,b,a,o,d,h⟩:=hrel;have q:=b.len;by_cases D:k<5
  .have O:(k:Int)<5:=by omega
   have c:=R1 n u.1 k D;obtain⟨x,Q⟩:∃ x,n.getD k 0=x:=⟨_,rfl⟩;rw[Q]at c
   have J:Hid (n.getD k 0=x):=Q;clear Q;go_wp2_with ((with_reducible (refine An ?_));(refine wpList_load_row rfl 286 _ rfl (w.heap.size+1) rfl 286 _ (0,0) _ a underlying286 rfl F ?_))
   go_loopw [16] (λi wr=>∃ (j:Nat) (r:List Int),j<=5/\i=.int .i64 j/\Prods n m r k j/\wr.heap[w.heap.size+1]?=some (.cells (Ag m) 286 (0,0))/\wr.heap[w.heap.size+1+1]?=some (.cells (Ag [0,0,0,0,0]) 286 (0,0))/\wr.heap[w.heap.size+1+1+1]?=some (.cells (Ag r) 286 (0,0))/\Bw w wr) (λi _=>5-(intOf i).toNat)
   case atStart=>exact⟨0,r,by omega,rfl,b,a,o,d,h⟩
   case round =>
    clear c;clear b a o d h q;obtain⟨j,r,hj,rfl,b,a,o,d,h⟩:=hrel;have q:=b.len;by_cases C:j<5
    .have N:(j:Int)<5:=by omega
     have c:=R1 m s.1 j C;have f:=Ha (u.2 k) (s.2 j);rw[J.out]at f
     by_cases hs:k+j<5
     .have hsi:(k:Int)+(j:Int)<5:=by omega
      have I:=(cell_of_row _ _ (k+j) _ _ _ d).trans (Ap r (k+j) (by omega));have W:=frozen_of_row _ _ (k+j) _ _ d;have g:Hid (Prods n m (r.set (k+j) (r.getD (k+j) 0+x*m.getD j 0)) k (j+1)):=by rw[<- J.out];exact b.pa u s hs
      have K:=b.low (k+j);have L:r.getD (k+j) 0<=1152921504606846976:=by have:=b.high (k+j);omega
      generalize r.getD (k+j) 0=z at I g K L;generalize m.getD j 0=y at c g f;obtain⟨U,V⟩:=f;have Y:IntKind.u64.wrap (x*y)=x*y:=by rw[Mk];omega
      have Z:IntKind.u64.wrap (z+x*y)=z+x*y:=by rw[Mk];omega
      clear b;go_wp2
      go_roundw
      case rel =>
       refine⟨j+1,_,by omega,by go_num,g.out,?_,?_,Eb d (k+j) _,?_⟩
       .rw[heap_setCell_other _ _ _ _ (by simp)];exact a
       .rw[heap_setCell_other _ _ _ _ (by simp)];exact o
       .exact h.setCell (p:=⟨w.heap.size+1+1+1,k+j,none⟩) (by simp;omega) _
      case measure=>simp[intOf];omega
     .have hsi:¬ (k:Int)+(j:Int)<5:=by omega
      have I:=(cell_of_row _ _ (k+j-5) _ _ _ d).trans (Ap r (k+j-5) (by omega));have W:=frozen_of_row _ _ (k+j-5) _ _ d;have g:Hid (Prods n m (r.set (k+j-5) (r.getD (k+j-5) 0+x*m.getD j 0*5)) k (j+1)):=by rw[<- J.out];exact b.oW u s (by omega) D C
      have K:=b.low (k+j-5);have L:r.getD (k+j-5) 0<=1152921504606846976:=by have:=b.high (k+j-5);omega
      generalize r.getD (k+j-5) 0=z at I g K L;generalize m.getD j 0=y at c g f;obtain⟨U,V⟩:=f;have Y:IntKind.u64.wrap (x*y)=x*y:=by rw[Mk];omega
      have e3:IntKind.u64.wrap (x*y*5)=x*y*5:=by rw[Mk];omega
      have Z:IntKind.u64.wrap (z+x*y*5)=z+x*y*5:=by rw[Mk];omega
      clear b;obtain⟨t,ht⟩:∃ t:Nat,k+j=t+5:=⟨k+j-5,by omega⟩;have e4:(k:Int)+(j:Int)-5=(t:Int):=by omega
      have P:k+j-5=t:=by omega
      rw[P]at I W g
      go_wp2
      go_roundw
      case rel =>
       refine⟨j+1,_,by omega,by go_num,g.out,?_,?_,Eb d t _,?_⟩
       .rw[heap_setCell_other _ _ _ _ (by simp)];exact a
       .rw[heap_setCell_other _ _ _ _ (by simp)];exact o
       .exact h.setCell (p:=⟨w.heap.size+1+1+1,t,none⟩) (by simp;omega) _
      case measure=>simp[intOf];omega
    .have HJ:Hid (j=5):=by unfold Hid;omega
     have N:¬ (j:Int)<5:=by omega
     go_wp2
     go_roundw
     case rel=>exact⟨k+1,r,by omega,by go_num,by have:=HJ.out;subst this;exact b.row s.1,a,o,d,h⟩
     case measure=>simp[intOf];omega
  .have HK:Hid (k=5):=by unfold Hid;omega
   have O:¬ (k:Int)<5:=by omega
   have E:=CJ q;have B:Prods n m r 5 0:=by have:=HK.out;subst this;exact b
   obtain⟨l5,v5⟩:=B.nT u.1;have R:w.heap.size+1+1<wr.heap.size:=(H'.1 o).1;clear b B a;go_wp2_with ((with_reducible (refine An ?_));(refine wpList_load_row rfl 286 _ rfl (w.heap.size+1+1+1) rfl 286 _ (0,0) _ d underlying286 rfl E ?_))
   refine(Jl r wr l5).mono ?_;rintro e X ⟨T,rfl,S,v1,A⟩;have H:=(A.block (w.heap.size+1+1) R).trans o;have M:Bw w X:=h.trans (A.mono h.size);have l:=CJ S.1;go_wp2_with ((with_reducible (refine An ?_));(refine wpList_store_row rfl 286 _ _ rfl (w.heap.size+1+1) _ rfl rfl 286 _ H l (by rw[Aj,Aj,S.1];rfl) (Bq T) ?_))
   refine bodyPost_ret (v:=.agg (Ag T)) (results_cell_row rfl _ _ (w.heap.size+1+1) 286 _ (0,0) _ rfl (setRow_heap X (w.heap.size+1+1) _ _ 286 _ H) underlying286 rfl l) rfl ⟨T,rfl,S,v1.trans v5,AX M (by omega) _⟩
theorem P7(w:World)(n:List Int)(_hn:n.length=5){A W:World}(e:A=((w.alloc (.cells (Ag n) 286 (0,0))).alloc (.cells (Ag [0,0,0,0,0]) 286 (0,0))).alloc (.cells (Ag [0,0,0,0,0]) 286 (0,0)))(f:A.setRow (w.heap.size+1+1) (Ag n)=W) :
  W.heap[w.heap.size]?=some (.cells (Ag n) 286 (0,0))/\W.heap[w.heap.size+1]?=some (.cells (Ag [0,0,0,0,0]) 286 (0,0))/\W.heap[w.heap.size+1+1]?=some (.cells (Ag n) 286 (0,0))/\Bw w W:=by
 obtain⟨a,b,c,d⟩:=F4 w (.cells (Ag n) 286 (0,0)) (.cells (Ag [0,0,0,0,0]) 286 (0,0)) (.cells (Ag [0,0,0,0,0]) 286 (0,0));rw[<- e]at a b c d
 subst f;refine⟨?_,?_,setRow_heap _ _ _ _ 286 _ c,AX d (by omega) _⟩
 .rw[setRow_other _ _ _ _ (by omega)];exact a
 .rw[setRow_other _ _ _ _ (by omega)];exact b
theorem UC(n:List Int)(w:World)(u:Lim 67108864 n) :
  Calls prog 208 #[.agg (Ag n)] w λe w'=>∃ r,e=.returned (.agg (Ag r))/\Lim 67108864 r/\val r=val n%pp/\Bw w w':=by
 have t:=u.1;have c:=CJ t;have S:=u.2 0;have a:(n.set 0 (n.getD 0 0+5)).length=5:=by simpa using t
 have q:Lim 9223372036854775808 (n.set 0 (n.getD 0 0+5)):=by
  refine⟨a,λj=>?_⟩;by_cases e:0=j
  .subst e;rw[AH (by omega)];omega
  .rw[Ay e];have:=u.2 j;omega
 have s:=CJ a;have B:Hid (∀ m o,Carr (n.set 0 (n.getD 0 0+5)) m 5 o->Lim 67108864 m/\(0<o->val m=val n%pp)/\(¬ 0<o->val n=val n%pp)):=λm o h=>RC u h;have g:Hid (∀ W:World,W.heap[w.heap.size+1+1]?=some (.cells (Ag n) 286 (0,0))->(W.setCell ⟨w.heap.size+1+1,0,none⟩ (.int .u64 (n.getD 0 0+5))).heap[w.heap.size+1+1]?=some (.cells (Ag (n.set 0 (n.getD 0 0+5))) 286 (0,0))):=λW h=>Eb h 0 _;have E:Hid (∀ W:World,W.heap[w.heap.size+1+1]?=some (.cells (Ag n) 286 (0,0))->W.cell? ⟨w.heap.size+1+1,0,none⟩=some (.int .u64 (n.getD 0 0))):=λW h=>(cell_of_row W _ 0 _ _ _ h).trans (Ap n 0 (by omega));generalize n.set 0 (n.getD 0 0+5)=m0 at q B s g a;generalize n.getD 0 0=x at S g E;obtain⟨x1,x2⟩:=S;obtain⟨A,I⟩:∃ A,A=((w.alloc (.cells (Ag n) 286 (0,0))).alloc (.cells (Ag [0,0,0,0,0]) 286 (0,0))).alloc (.cells (Ag [0,0,0,0,0]) 286 (0,0)):=⟨_,rfl⟩;obtain⟨l,i⟩:∃ W,A.setRow (w.heap.size+1+1) (Ag n)=W:=⟨_,rfl⟩;obtain⟨M,N,s3,O⟩:=P7 w n t I i;rw[I]at i
 clear I;have c0:=E.out l s3;have L:=frozen_of_row l _ 0 _ _ s3;have C:=g.out l s3;have P:(l.setCell ⟨w.heap.size+1+1,0,none⟩ (.int .u64 (x+5))).heap[w.heap.size]?=some (.cells (Ag n) 286 (0,0)):=by rw[heap_setCell_other _ _ _ _ (by simp;omega)];exact M
 have Q:(l.setCell ⟨w.heap.size+1+1,0,none⟩ (.int .u64 (x+5))).heap[w.heap.size+1]?=some (.cells (Ag [0,0,0,0,0]) 286 (0,0)):=by rw[heap_setCell_other _ _ _ _ (by simp)];exact N
 have J:Bw w (l.setCell ⟨w.heap.size+1+1,0,none⟩ (.int .u64 (x+5))):=O.setCell (p:=⟨w.heap.size+1+1,0,none⟩) (by simp;omega) _;have U:w.heap.size+1+1<(l.setCell ⟨w.heap.size+1+1,0,none⟩ (.int .u64 (x+5))).heap.size:=(H'.1 C).1;have F:Hid _:=i;clear i M N s3 O g E;go_enter func208,ntmps208
 go_wp2_with ((with_reducible (refine An ?_));first
  | (refine wpList_load_row rfl 286 _ rfl (w.heap.size) rfl 286 _ (0,0) _ (heap_alloc2_old _ _ _) underlying286 rfl c ?_)
  | (refine wpList_store_row rfl 286 _ _ rfl (w.heap.size+1+1) _ rfl rfl 286 (Ag [0,0,0,0,0]) (F4 w _ _ _).2.2.1 c (by rw[Aj,Aj,t];rfl) (Bq n) ?_;refine(congrArg (wpList _ _ _ _ _) F.out).mpr ?_)
  | (refine wpList_load_row rfl 286 _ rfl (w.heap.size+1+1) rfl 286 _ (0,0) _ C underlying286 rfl s ?_))
 refine(PN m0 _ q).mono ?_;rintro e z ⟨f,o,rfl,k,d⟩;obtain⟨y,G,H⟩:=B.out f o k;have o1:=k.lo;generalize l.setCell _ _=W2 at d P Q C J U;have V:=(d.block w.heap.size (by omega)).trans P;have X:=(d.block (w.heap.size+1) (by omega)).trans Q;have K:=(d.block (w.heap.size+1+1) (by omega)).trans C;have Y:Bw w z:=J.trans (d.mono J.size);have Z:(z.setRow (w.heap.size+1+1) (Ag f)).heap[w.heap.size]?=some (.cells (Ag n) 286 (0,0)):=(setRow_other _ _ _ _ (by omega)).trans V;have D:(z.setRow (w.heap.size+1+1) (Ag f)).heap[w.heap.size+1]?=some (.cells (Ag [0,0,0,0,0]) 286 (0,0)):=(setRow_other _ _ _ _ (by omega)).trans X;have v3:=setRow_heap z (w.heap.size+1+1) _ (Ag f) 286 _ K;have R:Bw w (z.setRow (w.heap.size+1+1) (Ag f)):=AX Y (by omega) _;have b:=CJ y.1;by_cases T:0<o
 .have g1':=G T;clear G H k B c0 L F;go_wp2_with ((with_reducible (refine An ?_));first
   | (refine wpList_store_row rfl 286 _ _ rfl (w.heap.size+1+1) _ rfl rfl 286 _ K b (by rw[Aj,Aj,y.1,a]) (Bq f) ?_)
   | (refine wpList_load_row rfl 286 _ rfl (w.heap.size+1+1) rfl 286 _ (0,0) _ v3 underlying286 rfl b ?_)
   | (refine wpList_store_row rfl 286 _ _ rfl (w.heap.size+1) _ rfl rfl 286 _ D b (by rw[Aj,Aj,y.1];rfl) (Bq f) ?_))
  exact bodyPost_ret (v:=.agg (Ag f)) (results_cell_row rfl _ _ (w.heap.size+1) 286 _ (0,0) _ rfl (setRow_heap _ (w.heap.size+1) _ _ 286 _ D) underlying286 rfl b) rfl ⟨f,rfl,y,g1',AX R (by omega) _⟩
 .have g2':=H (by omega);clear G H k B c0 L F;go_wp2_with ((with_reducible (refine An ?_));first
   | (refine wpList_store_row rfl 286 _ _ rfl (w.heap.size+1+1) _ rfl rfl 286 _ K b (by rw[Aj,Aj,y.1,a]) (Bq f) ?_)
   | (refine wpList_load_row rfl 286 _ rfl (w.heap.size) rfl 286 _ (0,0) _ Z underlying286 rfl c ?_)
   | (refine wpList_store_row rfl 286 _ _ rfl (w.heap.size+1) _ rfl rfl 286 _ D c (by rw[Aj,Aj,t];rfl) (Bq n) ?_))
  exact bodyPost_ret (v:=.agg (Ag n)) (results_cell_row rfl _ _ (w.heap.size+1) 286 _ (0,0) _ rfl (setRow_heap _ (w.heap.size+1) _ _ 286 _ D) underlying286 rfl c) rfl ⟨n,rfl,u,g2',AX R (by omega) _⟩
theorem UW(k q a:Nat)(h:a+26*q=8*k)(c:a<26):(0:Int)<=2^a/\(2:Int)^a<=33554432/\(2:Int)^a*67108864^q=256^k:=by
 refine⟨mO (Int.pow_pos (by omega)),?_,?_⟩
 .have h1:(2:Nat)^a<=2^25:=Nat.pow_le_pow_right (by omega) (by omega);have b:(((2:Nat)^a:Nat):Int)<=((2^25:Nat):Int):=Int.ofNat_le.2 h1;rw[me]at b
  exact b
 .rw[show(67108864:Int)=2^26 from rfl,show(256:Int)=2^8 from rfl,<- Int.pow_mul,<- Int.pow_mul,<- mt,h]
theorem Qc(v:Value)(b:List Int)(w:World)(h:Sl w v b)(hl:b.length<=17) :
  Calls prog 209 #[v] w λe w'=>∃ r,e=.returned (.agg (Ag r))/\Lim 67108864 r/\val r%pp=leN b%pp/\Bw w w':=by
 obtain⟨⟨a,a0,rfl,hc,hn,L⟩,W,C⟩:=h;have f:∃ B c,(b≠[]->a=some ⟨B,c,none⟩)/\(b≠[]->B<w.heap.size)/\∀ i,i<b.length->w.cell? ⟨B,c+i,none⟩=some (.int .u8 (b.getD i 0)):=by
  rcases L with rfl|⟨B,c,rfl,s,f⟩
  .exact⟨0,0,λh=>absurd rfl h,λh=>absurd rfl h,λi hi=>by simp at hi⟩
  .exact⟨B,c,λ_=>rfl,λ_=>s,f⟩
 clear L;obtain⟨B,c,ha,hB,u⟩:=f;have HC:Hid (∀ i,i<b.length->w.cell? ⟨B,c+i,none⟩=some (.int .u8 (b.getD i 0))):=u;have HA:Hid (b≠[]->a=some ⟨B,c,none⟩):=ha;have HB:Hid (b≠[]->B<w.heap.size):=hB;have N:Hid (∀ x∈b,0<=x/\x<256):=C;obtain⟨n,K⟩:∃ n,Hid (b.length=n):=⟨_,rfl⟩;rw[K.out]at hl hc W ⊢
 clear u ha hB C hn;go_enter func209,ntmps209
 go_wp2_with fail
 go_loopw [8] (λi wr=>∃ (k:Nat) (r:List Int),k<=n/\i=.int .i64 k/\Reads b r k/\wr.heap[w.heap.size]?=some (.cells (Ag [0,0,0,0,0]) 286 (0,0))/\wr.heap[w.heap.size+1]?=some (.cells (Ag r) 286 (0,0))/\Bw w wr) (λi _=>n-(intOf i).toNat)
 case atStart=>exact⟨0,_,by omega,rfl,Reads.zero b,heap_alloc2_old _ _ _,heap_alloc2_new _ _ _,((Below.refl _ _).alloc (A' _) _).alloc (by simp) _⟩
 case round =>
  obtain⟨k,r,hk,rfl,g,X,M,s⟩:=hrel;have G:=g.len;by_cases V:k<n
  .have U:(k:Int)<(n:Int):=by omega
   have E:b≠[]:=by intro e;have:=K.out;rw[e]at this;simp at this;omega
   have hA:=HA.out E;subst hA;have T:=HB.out E;have ck:=(s.cell (p:=⟨B,c+k,none⟩) T).trans (HC.out k (by rw[K.out];exact V));have l:=Ai N.out k;have O:Hid (∀ (q:Nat) (m:Int),q<5->0<=m/\m<=33554432->m*67108864^q=256^k->Reads b (r.set q (r.getD q 0+b.getD k 0*m)) (k+1)):=λq m L Q R=>g.succ l q m L Q R;have HR:Hid (∀ t,0<=r.getD t 0/\r.getD t 0<=300000000000):=λt=>⟨g.low t,by have:=g.high t;omega⟩;have J:Hid (∀ t,t<5->wr.cell? ⟨w.heap.size+1,t,none⟩=some (.int .u64 (r.getD t 0))):=λt ht=>(cell_of_row _ _ t _ _ _ M).trans (Ap r t (by omega));have HF:Hid (∀ t,wr.frozen? ⟨w.heap.size+1,t,none⟩=false):=λt=>frozen_of_row _ _ t _ _ M;have P:Hid (∀ t x,(wr.setCell ⟨w.heap.size+1,t,none⟩ (.int .u64 x)).heap[w.heap.size+1]?=some (.cells (Ag (r.set t x)) 286 (0,0))):=λt x=>Eb M t x;generalize b.getD k 0=x at ck O l;obtain⟨x1,x2⟩:=l;clear g;obtain⟨q,hq⟩:∃ q,8*k/26=q:=⟨_,rfl⟩;have F:q<5:=by omega
   have cq:=J.out q F;have fq:=HF.out q;have rq:=HR.out q;have z:Hid (∀ (m:Int),0<=m/\m<=33554432->m*67108864^q=256^k->Reads b (r.set q (r.getD q 0+x*m)) (k+1)):=λm Q R=>O.out q m F Q R;generalize r.getD q 0=y at cq rq z;obtain⟨y1,y2⟩:=rq;obtain⟨d,a1⟩:∃ d,8*k%26=d:=⟨_,rfl⟩;have o:d<26:=by omega
   have i1:(8*(k:Int))/26=(q:Int):=by omega
   have i2:(8*(k:Int))%26=(d:Int):=by omega
   have i3:Int.tdiv (8*(k:Int)) 26=(q:Int):=by rw[m8 (by omega)];exact i1
   have i4:Int.tmod (8*(k:Int)) 26=(d:Int):=by rw[Int.tmod_eq_emod_of_nonneg (by omega)];exact i2
   have HP:Hid ((0:Int)<=2^d/\(2:Int)^d<=33554432/\(2:Int)^d*67108864^q=256^k):=UW k q d (by omega) o;clear hq J HF HR O;go_wp2_with fail
   refine Ar 13 (by kernel_rfl) (by kernel_rfl) ?_;simp only[kL,kZ,k9,lM]
   repeat (go_big_quiet_step (fail))
   refine wpQuiet_nil ?_;go_wp2
   obtain⟨p1,p2,p3⟩:=HP.out;have q1:0<=x*2^d:=nN x1 p1;have q2:x*2^d<=256*33554432:=nO (by omega) p2 p1 (by omega);rw[show IntKind.u64.wrap (x*2^d)=x*2^d by rw[Mk];omega,show IntKind.u64.wrap (y+x*2^d)=y+x*2^d by rw[Mk];omega];go_roundw
   case rel =>
    refine⟨k+1,_,by omega,by go_num,z.out (2^d) ⟨p1,p2⟩ p3,?_,P.out q _,?_⟩
    .exact(heap_setCell_other _ _ _ _ (by simp)).trans X
    .exact(s.setCell (p:=⟨w.heap.size+1,q,none⟩) (by simp) _).drew
   case measure=>simp[intOf];omega
  .have J:Hid (k=n):=by unfold Hid;omega
   have U:¬ (k:Int)<(n:Int):=by omega
   have H:=CJ G;have D:Lim 1152921504606846976 r:=⟨G,λt=>⟨g.low t,by have:=g.high t;omega⟩⟩;have HV:Hid (val r=leN b):=by
    unfold Hid;rw[g.sum,J.out,<- K.out];rfl
   have Y:w.heap.size<wr.heap.size:=(H'.1 X).1;clear g;go_wp2_with ((with_reducible (refine An ?_));(refine wpList_load_row rfl 286 _ rfl (w.heap.size+1) rfl 286 _ (0,0) _ M underlying286 rfl H ?_))
   refine(Jl r wr D).mono ?_;rintro e w1 ⟨r1,rfl,Z,v1,A⟩;have I:=(A.block w.heap.size Y).trans X;have S:Bw w w1:=s.trans (A.mono s.size);have j:=CJ Z.1;go_wp2_with ((with_reducible (refine An ?_));(refine wpList_store_row rfl 286 _ _ rfl (w.heap.size) _ rfl rfl 286 _ I j (by rw[Aj,Aj,Z.1];rfl) (Bq r1) ?_))
   exact bodyPost_ret (v:=.agg (Ag r1)) (results_cell_row rfl _ _ (w.heap.size) 286 _ (0,0) _ rfl (setRow_heap w1 (w.heap.size) _ _ 286 _ I) underlying286 rfl j) rfl ⟨r1,rfl,Z,by rw[v1,HV.out],AX S (A' _) _⟩
def byA(l:List Int):Array Value:=(l.map (Value.int .u8)).toArray
theorem ZD(l:List Int)(i:Nat)(x:Int):(byA l).setIfInBounds i (.int .u8 x)=byA (l.set i x):=by
 apply lZ;simp[byA,List.map_set]
theorem Ge(h:w.heap[g]?=some (.cells (byA l) t (0,0)))(k:Nat)(x:Int) :
  (w.setCell ⟨g,k,none⟩ (.int .u8 x)).heap[g]?=some (.cells (byA (l.set k x)) t (0,0)):=by
 rw[heap_setCell_same _ _ _ _ _ _ h,ZD]
theorem Hq(l:List Int)(i:Nat)(h:i<l.length):(byA l)[i]?=some (.int .u8 (l.getD i 0)):=by
 simp[byA,List.getD,List.getElem?_eq_getElem h]
theorem Xk:(prog.info? 5).map (·.size)=some 1:=by kernel_rfl
theorem Is(l:List Int)(n:Nat):splice ((List.replicate n (0:Int)).map (Value.int .u8)) 0 (l.map (Value.int .u8))=(l++List.replicate (n-l.length) 0).map (Value.int .u8):=by
 have e:(List.replicate n (0:Int)).map (Value.int .u8)=List.replicate n (Value.int .u8 0):=mz;rw[e];simp only[splice,kZ,lE,ka,kl,List.drop_replicate,jW,mz]
theorem Sl.src{i:Option Addr}{c:Nat}(h:Sl w (.slice i n c) l)(q:0<l.length):∃ ad,i=some ad/\∀ (j:Nat) (v:Value),(l.map (Value.int .u8))[j]?=some v->w.cell? (ad.add j)=some v:=by
 obtain⟨⟨a,k,e,r,s,m⟩,p,o⟩:=h;simp only[Value.slice.injEq]at e;obtain⟨rfl,rfl,rfl⟩:=e;rcases m with rfl|⟨b,off,rfl,_,hcell⟩
 .simp at q
 .refine⟨_,rfl,λj v g=>?_⟩;have d:j<l.length:=by
   have:=(U'.1 g).1;simpa using this
  have f:(⟨b,off,none⟩:Addr).add j=⟨b,off+j,none⟩:=by unfold Addr.add;split<;>simp_all
  rw[f,hcell j d];simp[List.getElem?_eq_getElem d]at g
  rw[AO d,g]
theorem Sl.pO(h:w.heap[g]?=some (.cells (byA l) t fr))(c:l.length<=140737488351232)(a:∀ x∈l,0<=x/\x<256):Sl w (.slice (some ⟨g,0,none⟩) l.length l.length) l:=by
 refine⟨⟨_,l.length,rfl,by simp,by simp,.inr ⟨g,0,rfl,(H'.1 h).1,λi b=>?_⟩⟩,c,a⟩;rw[cell_of_row _ _ (0+i) _ _ _ h,kl,Hq l i b]
theorem Sl.rowOf(h:w.heap[g]?=some (.cells (byA l) t fr))(c:l.length=n)(b:l.length<=140737488351232)(a:∀ x∈l,0<=x/\x<256):Sl w (.slice (some ⟨g,0,none⟩) n n) l:=by
 subst c;exact Sl.pO h b a
theorem XA(l:List Int)(h:l.length<=16):(l++List.replicate (17-l.length) 0).set l.length 1=l++[1]++List.replicate (16-l.length) 0:=by
 rw[lL _ _ (A' _),show 17-l.length=16-l.length+1 by omega,List.replicate_succ];simp
theorem X9(l:List Int)(n:Nat):leN (l++[1]++List.replicate n 0)=leN (l++[1]):=by
 rw[R9,UA];omega
theorem PU(v:Value)(l:List Int)(w:World)(h:Sl w v l)(N:l.length<=16) :
  Calls prog 206 #[v] w λe w'=>∃ r,e=.returned (.agg (Ag r))/\Lim 67108864 r/\val r%pp=leN (l++[1])%pp/\Bw w w':=by
 have H:=h;obtain⟨⟨a,J,rfl,T,P,M⟩,O,q⟩:=h;have u:Hid (∀ x∈l,0<=x/\x<256):=q;have E:=XA l N;have k:=X9 l (16-l.length);clear M q P;go_enter func206,ntmps206
 go_wp2_with (refine wpList_copy_splice rfl _ _ 48 48 rfl 5 underlying48 Xk _ _ _ _ _ _ rfl rfl (w.heap.size+1) 0 ((List.replicate 17 (0:Int)).map (Value.int .u8)) 298 (heap_alloc2_new _ _ _) (l.map (Value.int .u8)) (by rw[ka];exact(kQ (show l.length<=17 by omega)).symm) (λQ=>⟨rfl,(H.ab (((Below.refl _ _).alloc (A' _) _).alloc (by simp) _)).src (by simpa using Q)⟩) (by rw[ka,ka,lD];omega) (EA _) (w.heap.size+1) _ (Below.refl _ _) (A' _) ?_)
 intro f D g;have c:f.heap[w.heap.size+1]?=some (.cells (byA (l++List.replicate (17-l.length) 0)) 298 (0,0)):=by
  have F:f.heap[w.heap.size+1]?=some (.cells (splice ((List.replicate 17 (0:Int)).map (Value.int .u8)) 0 (l.map (Value.int .u8))).toArray 298 (0,0)):=D.out;rw[Is]at F
  exact F
 have y:Bw w f:=(((Below.refl _ _).alloc (A' _) _).alloc (by simp) _).trans (g.mono (by omega));have A:f.heap[w.heap.size]?=some (.cells (Ag [0,0,0,0,0]) 286 (0,0)):=by
  rw[g.block _ (by omega)];exact heap_alloc2_old _ _ _
 clear D g;have G:(l++List.replicate (17-l.length) (0:Int)).length=17:=by simp;omega
 have K:=(cell_of_row _ _ l.length _ _ _ c).trans (Hq _ l.length (by omega));have fl:=frozen_of_row _ _ l.length _ _ c;have i:=Ge c l.length 1;rw[E]at i
 have s:(f.setCell ⟨w.heap.size+1,l.length,none⟩ (.int .u8 1)).heap[w.heap.size]?=some (.cells (Ag [0,0,0,0,0]) 286 (0,0)):=(heap_setCell_other _ _ _ _ (by simp)).trans A;have n:Bw w (f.setCell ⟨w.heap.size+1,l.length,none⟩ (.int .u8 1)):=y.setCell (p:=⟨w.heap.size+1,l.length,none⟩) (by simp) _;have B:w.heap.size<(f.setCell ⟨w.heap.size+1,l.length,none⟩ (.int .u8 1)).heap.size:=(H'.1 s).1;have s3:Sl (f.setCell ⟨w.heap.size+1,l.length,none⟩ (.int .u8 1)) (.slice (some ⟨w.heap.size+1,0,none⟩) 17 17) (l++[1]++List.replicate (16-l.length) 0):=by
  refine Sl.rowOf i (by simp;omega) (by simp;omega) ?_;intro x R;rcases Q'.1 R with h|h
  .rcases Q'.1 h with h|h
   .exact u.out x h
   .simp at h;omega
  .rw[(mx.1 h).2];omega
 have b:(l++[1]++List.replicate (16-l.length) (0:Int)).length<=17:=by simp;omega
 have m:Hid _:=s3;have j:Hid (leN (l++[1]++List.replicate (16-l.length) 0)=leN (l++[1])):=k;clear i c E k s3 H;generalize l++[1]++List.replicate (16-l.length) 0=L at m b j;generalize (l++List.replicate (17-l.length) (0:Int)).getD l.length 0=c0 at K;go_wp2_with fail
 refine(Qc _ L _ m.out b).mono ?_;rintro e I ⟨r,rfl,C,S,o⟩;have t:=(o.block w.heap.size B).trans s;have z:Bw w I:=n.trans (o.mono n.size);have d:=CJ C.1;go_wp2_with ((with_reducible (refine An ?_));(refine wpList_store_row rfl 286 _ _ rfl (w.heap.size) _ rfl rfl 286 _ t d (by rw[Aj,Aj,C.1];rfl) (Bq r) ?_))
 exact bodyPost_ret (v:=.agg (Ag r)) (results_cell_row rfl _ _ (w.heap.size) 286 _ (0,0) _ rfl (setRow_heap I (w.heap.size) _ _ 286 _ t) underlying286 rfl d) rfl ⟨r,rfl,C,by rw[S,j.out],AX z (A' _) _⟩
def im:Value->Nat
 | .slice _ n _=>n
 | _=>0
theorem gc{a:Array Value}(t:List Int)(c:w.heap[g]?=some (.cells a 286 (0,0)))(d:a.size=5)(e:t.length=5):(storeCells ⟨g,0,none⟩ (Ag t).toList).run prog w=.ok () (w.setRow g (Ag t)):=by
 have:=run_storeCells_from (P:=prog) g 286 (Ag t).toList 0 a w c (by simp[Aj];omega) (λv b=>by simp[Ag]at b;obtain⟨x,_,rfl⟩:=b;rfl);rw[this];simp[Ag]
theorem M2{d:Nat}{K:Act->World->Prop}(R:List Int->List Int->List Int->World->Prop){A:List Int->List Int->List Int->Act}(c:∀ K':Act->World->Prop,Hid (∀ x y z W2,R x y z W2->K' (A x y z) W2)->(Code.region d ops true).wp P (Exit.then K' Q) a w)(b:∀ x y z W2,R x y z W2->K (A x y z) W2):(Code.region d ops true).wp P (Exit.then K Q) a w:=c K b
theorem Oh(rl:List Int)(R:Int)(v:Value)(l:List Int)(w:World)(h:Sl w v l)(hl:l.length<=4000)(hr:Lim 67108864 rl)(hR:val rl%pp=R%pp) :
  Calls prog 199 #[.agg (Ag rl),v] w λe w'=>∃ r,e=.returned (.agg (Ag r))/\Lim 67108864 r/\val r=dQ R l/\Bw w w':=by
 obtain⟨a0,c0,rfl⟩:∃ a c,v=.slice a l.length c:=by
  obtain⟨⟨a,c,e,_⟩,_⟩:=h;exact⟨a,c,e⟩
 have HR:Hid (val rl%pp=R%pp):=hR;clear hR;go_enter func199,ntmps199
 go_wp2_with fail
 go_loopw [1] (λY wr=>∃ (k:Nat) (P:List Int) (a:Option Addr) (c:Nat),16*k<=l.length+15/\Y=.slice a (l.length-16*k) c/\Sl w Y (l.drop (16*k))/\Lim 67108864 P/\val P%pp=JD R l k%pp/\wr.heap[w.heap.size]?=some (.cells (Ag rl) 286 (0,0))/\wr.heap[w.heap.size+1]?=some (.cells (Ag [0,0,0,0,0]) 286 (0,0))/\wr.heap[w.heap.size+1+1]?=some (.cells (Ag P) 286 (0,0))/\Bw w wr) (λY _=>im Y)
 case atStart =>
  obtain⟨S,s2,s3,s4⟩:=F4 w (.cells (Ag rl) 286 (0,0)) (.cells (Ag [0,0,0,0,0]) 286 (0,0)) (.cells (Ag [0,0,0,0,0]) 286 (0,0));exact⟨0,[0,0,0,0,0],a0,c0,by omega,rfl,h,Lim.pN (by omega) (by omega) (by omega) (by omega) (by omega),rfl,S,s2,s3,s4⟩
 case round =>
  clear h;obtain⟨k,P,a,c,hk,rfl,hs,x,z,m,hz,y,Z⟩:=hrel;by_cases b8:16*k<l.length
  .obtain⟨n,hne⟩:∃ n,l.length-16*k=n:=⟨_,rfl⟩;have a3:Hid (l.length-16*k=n):=hne;have c6:0<n:=by omega
   have c4:(0:Int)<(n:Int):=by omega
   rw[hne]at hs ⊢
   have b9:(l.drop (16*k)).length=n:=by rw[jL];exact hne
   obtain⟨n0,n1,n2,n3,n4,rfl,_⟩:=x.split;obtain⟨r0,Q,r2,r3,r4,rfl,_⟩:=hr.split;have E:=(cell_of_row _ _ 0 _ _ _ y).trans (Ap _ 0 (by simp));have F:=(cell_of_row _ _ 1 _ _ _ y).trans (Ap _ 1 (by simp));have G:=(cell_of_row _ _ 2 _ _ _ y).trans (Ap _ 2 (by simp));have H:=(cell_of_row _ _ 3 _ _ _ y).trans (Ap _ 3 (by simp));have I:=(cell_of_row _ _ 4 _ _ _ y).trans (Ap _ 4 (by simp));have J:=(cell_of_row _ _ 0 _ _ _ m).trans (Ap _ 0 (by simp));have K:=(cell_of_row _ _ 1 _ _ _ m).trans (Ap _ 1 (by simp));have L:=(cell_of_row _ _ 2 _ _ _ m).trans (Ap _ 2 (by simp));have M:=(cell_of_row _ _ 3 _ _ _ m).trans (Ap _ 3 (by simp));have N:=(cell_of_row _ _ 4 _ _ _ m).trans (Ap _ 4 (by simp));simp only[jZ,kq]at E F G H I J K L M N;have i:w.heap.size+1+1<wr.heap.size:=(H'.1 y).1;have j:w.heap.size<wr.heap.size:=by omega
   have HN:Hid _:=y;have a4:Hid _:=m;have HZ:Hid _:=hz;have HB:Hid _:=Z;have a6:Hid (val [n0,n1,n2,n3,n4]%pp=JD R l k%pp):=z;clear y m hz Z z hne;obtain⟨o,c3,B,f⟩:∃ o:Nat,(if(n:Int)<16 then(n:Int)else 16)=(o:Int)/\o<=n/\((o=16)\/(o=n/\n<16)):=by
    by_cases u:(n:Int)<16
    .exact⟨n,by rw[if_pos u],by omega,.inr ⟨rfl,by omega⟩⟩
    .exact⟨16,by rw[if_neg u];rfl,by omega,.inl rfl⟩
   obtain⟨a1,c1,a8,st⟩:=hs.ni o (by omega);obtain⟨a2,c2,c5,sd⟩:=hs.from o (by omega);have U:((l.drop (16*k)).take o).length<=16:=by rw[X'];omega
   have HP:Hid ((l.drop (16*k)).take o=piece l k):=by
    unfold Hid piece;rcases f with rfl|⟨rfl,u⟩
    .rfl
    .rw[jS (by omega),jS (by omega)]
   have HD:Hid ((l.drop (16*k)).drop o=l.drop (16*(k+1))/\n-o=l.length-16*(k+1)):=by
    unfold Hid;have:=a3.out;rw[l6];rcases f with rfl|⟨rfl,u⟩
    .exact⟨by congr 1,by omega⟩
    .refine⟨?_,by omega⟩;rw[kD (by omega),kD (by omega)]
   have a5:Hid (1<=o):=by unfold Hid;omega
   clear f;go_wp2_with fail
   apply M2 (λm1 S A W=>Lim 67108864 A/\val A%pp=JD R l (k+1)%pp/\W.heap[w.heap.size]?=some (.cells (Ag [r0,Q,r2,r3,r4]) 286 (0,0))/\W.heap[w.heap.size+1]?=some (.cells (Ag [0,0,0,0,0]) 286 (0,0))/\W.heap[w.heap.size+1+1]?=some (.cells (Ag A) 286 (0,0))/\Bw w W)
   .intro K2 HK2
    go_region_with (first
     | (go_at_call 206;refine(PU _ _ _ (st.ab HB.out.drew) U).mono ?_;rintro e w2 ⟨m1,rfl,b0,X,b⟩;have s:w.heap.size+1+1<w2.heap.size:=Y' i b.size;have g:w.heap.size<w2.heap.size:=Y' j b.size;have c9:=(b.cell (p:=⟨w.heap.size+1+1,0,none⟩) i).trans E;have d0:=(b.cell (p:=⟨w.heap.size+1+1,1,none⟩) i).trans F;have d3:=(b.cell (p:=⟨w.heap.size+1+1,2,none⟩) i).trans G;have d4:=(b.cell (p:=⟨w.heap.size+1+1,3,none⟩) i).trans H;have d5:=(b.cell (p:=⟨w.heap.size+1+1,4,none⟩) i).trans I;have b1:=(b.cell (p:=⟨w.heap.size,0,none⟩) j).trans J;have b2:=(b.cell (p:=⟨w.heap.size,1,none⟩) j).trans K;have b3:=(b.cell (p:=⟨w.heap.size,2,none⟩) j).trans L;have b4:=(b.cell (p:=⟨w.heap.size,3,none⟩) j).trans M;have b5:=(b.cell (p:=⟨w.heap.size,4,none⟩) j).trans N)
     | (go_at_call 205;refine(Yb [n0,n1,n2,n3,n4] m1 _ x b0).mono ?_;rintro e w3 ⟨S,rfl,b6,b7,d⟩;have C:w.heap.size+1+1<w3.heap.size:=Y' s d.size;have d6:=(d.cell (p:=⟨w.heap.size,0,none⟩) g).trans b1;have d7:=(d.cell (p:=⟨w.heap.size,1,none⟩) g).trans b2;have d8:=(d.cell (p:=⟨w.heap.size,2,none⟩) g).trans b3;have d9:=(d.cell (p:=⟨w.heap.size,3,none⟩) g).trans b4;have e0:=(d.cell (p:=⟨w.heap.size,4,none⟩) g).trans b5)
     | (go_at_call 207;refine(V4 S [r0,Q,r2,r3,r4] _ b6 hr).mono ?_;rintro e w4 ⟨A,rfl,t,O,q⟩;have c8:=gc A ((q.block _ C).trans ((d.block _ s).trans ((b.block _ i).trans HN.out))) rfl t.1;have c7:(Ag A).size=5:=by rw[Aj];exact t.1))
    all_goals
     refine HK2.out m1 S A _ ⟨t,?_,?_,?_,?_,?_⟩
     .rw[HP.out]at X
      exact VE a6.out X b7 HR.out O
     .exact(setRow_other _ _ _ _ (by omega)).trans ((q.block _ (by omega)).trans ((d.block _ (by omega)).trans ((b.block _ j).trans a4.out)))
     .exact(setRow_other _ _ _ _ (by omega)).trans ((q.block _ (by omega)).trans ((d.block _ (by omega)).trans ((b.block _ (Nat.lt_of_succ_lt i)).trans HZ.out)))
     .exact setRow_heap _ _ _ _ 286 _ ((q.block _ C).trans ((d.block _ s).trans ((b.block _ i).trans HN.out)))
     .exact AX (((HB.out.drew.trans (b.mono (lV j))).trans (d.mono (lV g))).trans (q.mono (by omega))) (by omega) _
   intro m1 S A W hW;obtain⟨t,O,q1,q2,q3,q4⟩:=hW;clear E F G H I J K L M N st a8 U;go_wp2
   go_roundw
   case rel =>
    obtain⟨d1,d2⟩:=HD.out;rw[d1]at sd
    exact⟨k+1,A,a2,c2,by omega,by rw[d2],sd,t,O,q1,q2,q3,q4⟩
   case measure=>have:=a5.out;simp[im];omega
  .have HK:Hid (k=Ox l):=by unfold Hid Ox;omega
   have D:l.length-16*k=0:=by omega
   rw[D];have B:=CJ x.1;have a9:w.heap.size+1<wr.heap.size:=(H'.1 hz).1;have HV:Hid (val P%pp=JD R l k%pp):=z;clear z hs;go_wp2_with ((with_reducible (refine An ?_));(refine wpList_load_row rfl 286 _ rfl (w.heap.size+1+1) rfl 286 _ (0,0) _ y underlying286 rfl B ?_))
   refine(UC P wr x).mono ?_;rintro e w1 ⟨Q,rfl,l1,v1,T⟩;have V:=(T.block (w.heap.size+1) a9).trans hz;have a7:Bw w w1:=Z.trans (T.mono Z.size);have f:=CJ l1.1;go_wp2_with ((with_reducible (refine An ?_));(refine wpList_store_row rfl 286 _ _ rfl (w.heap.size+1) _ rfl rfl 286 _ V f (by rw[Aj,Aj,l1.1];rfl) (Bq Q) ?_))
   refine bodyPost_ret (v:=.agg (Ag Q)) (results_cell_row rfl _ _ (w.heap.size+1) 286 _ (0,0) _ rfl (setRow_heap w1 (w.heap.size+1) _ _ 286 _ V) underlying286 rfl f) rfl ⟨Q,rfl,l1,?_,AX a7 (by omega) _⟩;have hK:=HK.out;subst hK;rw[v1,HV.out];have:=QB R l (Ox l);exact Int.emod_eq_of_lt this.1 this.2
end
end
end Go.Proofs.YthohlalejhgbmaaGreatDoor
