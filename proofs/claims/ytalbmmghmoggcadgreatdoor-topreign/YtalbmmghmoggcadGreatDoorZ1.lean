/- Part 1 of the walk. -/
import Derived.Test.YtalbmmghmoggcadGreatDoorZ0
import Derived.WalkKit
import Derived.ProofKit
import Derived.Laws.AppendOwnNone
import Derived.Laws.BytesArg
import Derived.BigQuiet
import Derived.OpenShut
import Derived.StillTail
import Derived.Test.YtalbmmghmoggcadGreatDoorProg
import Derived.Deep.QuietTactic
import Derived.BigRegion
set_option maxRecDepth 100000
set_option maxHeartbeats 4000000
open Go.Proofs.Tryz
namespace Go.Proofs.YtalbmmghmoggcadGreatDoor
section
open Go.RowKit Go.ChangeShapes Go.WideShapes Go.ChangeAt
section
abbrev Bw(w w':World):Prop:=Below w.heap.size w w'
abbrev zV5:Array Value:=#[.int .i64 0,.int .i64 0,.int .i64 0,.int .i64 0,.int .i64 0]
abbrev zV8:Array Value:=#[.int .i64 0,.int .i64 0,.int .i64 0,.int .i64 0,.int .i64 0,.int .i64 0,.int .i64 0,.int .i64 0]
structure Sl(w:World)(v:Value)(l:List Int):Prop where
 ex:∃ a cap,v=.slice a l.length cap/\l.length<=cap/\(a=none->cap=0)/\(l=[]\/∃ b off,a=some ⟨b,off,none⟩/\b<w.heap.size/\∀ i,i<l.length->w.cell? ⟨b,off+i,none⟩=some (.int .u8 (l.getD i 0)))
 len:l.length<=140737488351232
 byte:∀ x∈l,0<=x/\x<256
variable{P:Program}{base cap e g i n:Nat}{l:List Int}{v:Value}{w:World}
theorem Sl.below{w':World}(h:Sl w v l)(hb:Below w.heap.size w w'):Sl w' v l:=by
 obtain⟨⟨a,cap,rfl,hc,hn,h1⟩,h2,h3⟩:=h;refine⟨⟨a,cap,rfl,hc,hn,?_⟩,h2,h3⟩;rcases h1 with h1|⟨b,off,ha,hbs,hcell⟩
 .exact .inl h1
 .exact .inr ⟨b,off,ha,Z' hbs hb.size,λi hi=>(hb.cell (p:=⟨b,off+i,none⟩) hbs).trans (hcell i hi)⟩
theorem Sl.nil(w:World)(a:Option Addr):Sl w (.slice a 0 0) []:=⟨⟨a,0,rfl,by simp,by simp,.inl rfl⟩,by simp,by simp⟩
theorem Sl.ofOwns(h:w.ownsRow base e 1 v l.length (l.map (Value.int .u8)))(hl:l.length<=140737488351232)(hb:∀ x∈l,0<=x/\x<256):Sl w v l:=by
 refine⟨?_,hl,hb⟩;rcases h.2 with⟨rfl,h0⟩|⟨g,cap,cur,rfl,_,hg,hn,_,hcs,ht⟩
 .exact⟨none,0,by rw[h0],by omega,λ_=>rfl,.inl (iN h0)⟩
 .refine⟨_,cap,rfl,hn,by simp,.inr ⟨g,0,rfl,(H'.1 hg).1,λi hi=>?_⟩⟩;have hc:=h.cells (g:=g) rfl i (.int .u8 (l.getD i 0)) (by simp[List.getElem?_eq_getElem hi,List.getD]);have hadd:(⟨g,0,none⟩:Addr).add i=⟨g,i,none⟩:=by unfold Addr.add;split<;>simp_all
  rw[hadd]at hc
  simpa using hc
theorem AR(hi:i<l.length):l.getD i 0=l[i]:=by simp[List.getD,List.getElem?_eq_getElem hi]
theorem Gg(hi:l.length<=i):l.getD i 0=0:=by simp[List.getD,List.getElem?_eq_none hi]
theorem Al(h:∀ x∈l,0<=x/\x<256)(i:Nat):0<=l.getD i 0/\l.getD i 0<256:=by
 rcases jt i l.length with hi|hi
 .rw[AR hi];exact h _ (jr hi)
 .rw[Gg hi];omega
theorem E6(l:List Int):∀ u∈l.map (Value.int .u8),u.oneCell'=true:=by
 intro u hu;obtain⟨x,_,rfl⟩:=ju.1 hu;rfl
theorem GB(w:World)(base t ty e:Nat)(ht:P.underlying t=some (.slice e))(hinfo:(P.info? e).map (λi=>(i.zero,i.size,i.bytes))=some (some (.int .u8 0),1,1))(v:Value)(l:List Int)(hown:w.ownsRow base e 1 v l.length (l.map (Value.int .u8)))(u:Value)(m:List Int)(hu:Sl w u m)(hlen:l.length+m.length<=140737488355328)(hbase:base<=w.heap.size) :
  ∃ v' w',(Builtin.append_ #[t,t] ty #[v,u]).run P w=.ok v' w'/\w'.ownsRow base e 1 v' (l++m).length ((l++m).map (Value.int .u8))/\w.grownBy w' v.ownBlock:=by
 obtain⟨i,hi,hz,hsz,hby⟩:=info_parts hinfo;obtain⟨⟨a,cap,rfl,hc,hn,h1⟩,_,_⟩:=hu;cases a with
 | none =>
  have hc0:=hn rfl;subst hc0;have hm:m=[]:=iN (by omega);subst hm;refine⟨v,w,?_,by simpa using hown,⟨rfl,rfl,rfl,A' _,λ_ _ _=>rfl⟩⟩;exact run_append_owned_none (P:=P) (w:=w) base t ty e i 1 ht hi v l.length _ hown
 | some ad =>
  have hcells:∀ j u,(m.map (Value.int .u8))[j]?=some u->w.cell? (ad.add j)=some u:=by
   intro j u hj;rcases h1 with rfl|⟨b,off,hab,_,hcell⟩
   .simp at hj
   .obtain rfl:ad=⟨b,off,none⟩:=by simpa using hab
    have hjl:j<m.length:=by
     have:=(Q'.1 hj).1;simpa using this
    have hadd:(⟨b,off,none⟩:Addr).add j=⟨b,off+j,none⟩:=by unfold Addr.add;split<;>simp_all
    rw[hadd,hcell j hjl];simp[List.getElem?_eq_getElem hjl]at hj
    rw[AR hjl,hj]
  obtain⟨v',w',hr,ho,hg,_⟩:=run_append_own (P:=P) w base t ty e i (.int .u8 0) 1 1 ht hi hz hsz hby rfl (by decide) v l.length _ hown ad m.length cap (m.map (Value.int .u8)) (by simp) hcells (E6 m)
   (by unfold maxLen;omega) (by omega) hbase
  exact⟨v',w',hr,by simpa using ho,hg⟩
theorem Aa(w:World){ops:Array Oper}{rest:List Oper}{o:Oper}{a:Act}{Q:Exit->Act->World->Prop}(hgd:o.guard=none)(s x:Operand)(t:TypeId)(ho:o.op=.call { callee:=.builtin .append,args:=#[s,x],argTypes:=#[t,t] })(base e:Nat)(ht:P.underlying t=some (.slice e))(hinfo:(P.info? e).map (λi=>(i.zero,i.size,i.bytes))=some (some (.int .u8 0),1,1))(v u:Value)(hs:a.eval s=v)(hx:a.eval x=u)(l m:List Int)(hown:w.ownsRow base e 1 v l.length (l.map (Value.int .u8)))(hu:Sl w u m)(hlen:l.length+m.length<=140737488355328)(hbase:base<=w.heap.size)(h:∀ v' w',w'.ownsRow base e 1 v' (l++m).length ((l++m).map (Value.int .u8))->w.grownBy w' v.ownBlock->wpList P ops Q rest (a.put o.dst v') w'):wpList P ops Q (o::rest) a w:=by
 refine wpList_plain hgd λK hK=>?_;obtain⟨v',w',hrun,r1,r2⟩:=GB (P:=P) w base t o.type e ht hinfo v l hown u m hu hlen hbase;unfold Oper.wp execOp;simp only[ho,resolve,invoke,builtin,Sem.run_bind,Sem.run_pure,Result.andThen_ok,kS,ji,jX,hs,hx,hrun];exact hK _ _ (h v' w' r1 r2)
theorem Sl.take{a:Option Addr}(h:Sl w (.slice a n cap) l)(m:Nat)(hm:m<=l.length):Sl w (.slice a m cap) (l.take m):=by
 obtain⟨⟨a',cap',e,hc,hn,h1⟩,hla,hba⟩:=h;simp only[Value.slice.injEq]at e;obtain⟨rfl,rfl,rfl⟩:=e;have hl:(l.take m).length=m:=by rw[iO];omega
 refine⟨⟨a,cap,by rw[hl],by omega,hn,?_⟩,by omega,λx hx=>hba x (jb hx)⟩;rcases h1 with rfl|⟨b,off,rfl,hb,hcell⟩
 .exact .inl (by simp)
 .refine .inr ⟨b,off,rfl,hb,λi hi=>?_⟩;rw[hcell i (by omega),AR (by omega),AR hi];simp
theorem Sl.drop{b off:Nat}(h:Sl w (.slice (some ⟨b,off,none⟩) n cap) l)(k:Nat)(hk:k<=l.length)(c':Nat)(hc':l.length<=c'+k):Sl w (.slice (some ⟨b,off+k,none⟩) (l.length-k) c') (l.drop k):=by
 obtain⟨⟨a',cap',e,hc,hn,h1⟩,hla,hba⟩:=h;simp only[Value.slice.injEq]at e;obtain⟨rfl,rfl,rfl⟩:=e;have hl:(l.drop k).length=l.length-k:=by rw[iQ]
 refine⟨⟨_,c',by rw[hl],by omega,by simp,?_⟩,by omega,λx hx=>hba x (List.mem_of_mem_drop hx)⟩;rcases h1 with rfl|⟨b,off,e,hb,hcell⟩
 .exact .inl (by simp)
 .simp only[X',Addr.mk.injEq,and_true]at e;obtain⟨rfl,rfl⟩:=e;refine .inr ⟨_,_,rfl,hb,λi hi=>?_⟩;rw[jI,hcell (k+i) (by omega),AR (by omega),AR hi];simp
theorem DJ(h:w.ownsRow base e 1 v l.length (l.map (Value.int .u8)))(hl:l≠[]) :
  ∃ g cap,v=.slice (some ⟨g,0,none⟩) l.length cap/\base<=g/\g<w.heap.size/\l.length<=cap/\(∀ i,i<l.length->w.cell? ⟨g,i,none⟩=some (.int .u8 (l.getD i 0)))/\(∀ i,w.frozen? ⟨g,i,none⟩=false):=by
 rcases h.2 with⟨rfl,h0⟩|⟨g,cap,cur,rfl,hb,hg,hn,_,hcs,ht⟩
 .exact absurd (iN h0) hl
 .refine⟨g,cap,rfl,hb,(H'.1 hg).1,hn,λi hi=>?_,λi=>?_⟩
  .have hc:=h.cells (g:=g) rfl i (.int .u8 (l.getD i 0)) (by simp[List.getElem?_eq_getElem hi,List.getD]);have hadd:(⟨g,0,none⟩:Addr).add i=⟨g,i,none⟩:=by unfold Addr.add;split<;>simp_all
   rwa [hadd]at hc
  .simp[World.frozen?,hg]
theorem Sl.built(w:World)(l:List Int)(e:TypeId)(hg:g=w.heap.size)(hl:l.length<=140737488351232)(hb:∀ x∈l,0<=x/\x<256):Sl (w.alloc (.cells (l.map (Value.int .u8)).toArray e)) (.slice (some ⟨g,0,none⟩) l.length l.length) l:=by
 subst hg;refine⟨⟨_,l.length,rfl,by simp,by simp,.inr ⟨w.heap.size,0,rfl,by simp,λi hi=>?_⟩⟩,hl,hb⟩;rw[cell_of_row _ _ (0+i) _ _ _ (heap_alloc_new w _)];simp[List.getElem?_eq_getElem hi,List.getD]
theorem Sl.one(w:World)(b:Int)(e:TypeId)(hg:g=w.heap.size)(hb:0<=b/\b<256):Sl (w.alloc (.cells #[.int .u8 b] e)) (.slice (some ⟨g,0,none⟩) 1 1) [b]:=by
 subst hg;refine⟨⟨_,1,rfl,by simp,by simp,.inr ⟨w.heap.size,0,rfl,by simp,λi hi=>?_⟩⟩,by simp,by simpa using hb⟩;obtain rfl:i=0:=by simpa using hi
 simp
theorem Sl.drew(h:Sl w v l):Sl w.drew v l:=h.below (Below.refl _ _).drew
theorem Ae{a b:Bool}(h:a=b):Ending.returned (.bool a)=.returned (.bool b):=by rw[h]
theorem Ao{B:Nat}{a:World}(h:Below B a w)(n:Nat):Below B a (w.drewN n):=h.trans ⟨rfl,rfl,rfl,A' _,λ_ _=>rfl⟩
end
end
section
open Go.RowKit
section
def Xt:Value->Nat
 | .slice _ n _=>n
 | _=>0
variable{P:Program}{base n:Nat}{d l:List Int}{v:Value}{w:World}{xs:List Value}
theorem DZ{e:Nat}(h:w.ownsRow base e 1 v n xs):∃ a cap,v=.slice a n cap:=by
 rcases h.2 with⟨rfl,rfl⟩|⟨g,cap,cur,rfl,_⟩
 .exact⟨none,0,rfl⟩
 .exact⟨_,cap,rfl⟩
theorem AV{base':Nat}{e:TypeId}{size:Nat}(h:w.ownsRow base e size v n xs)(hb:base'<=base):w.ownsRow base' e size v n xs:=by
 refine⟨h.1,?_⟩;rcases h.2 with h2|⟨g,cap,cur,hv,hg,hr⟩
 .exact .inl h2
 .exact .inr ⟨g,cap,cur,hv,iP hb hg,hr⟩
theorem Lw(l:List Int)(j:Nat):l++List.replicate j 0++[0]=l++List.replicate (j+1) 0:=by
 rw[iR,<- List.replicate_succ']
theorem Sl.shape(h:Sl w v l):∃ a cap,v=.slice a l.length cap:=by
 obtain⟨⟨a,cap,e,_⟩,_⟩:=h;exact⟨a,cap,e⟩
def AO(l:List Int):Array Value:=(l.map (Value.int .u8)).toArray
theorem AA(l:List Int):(AO l).size=l.length:=by simp[AO]
theorem Kv(l:List Int):(AO l).all (·.oneCell')=true:=by simp[AO,Value.oneCell']
theorem DC(l:List Int)(i:Nat)(h:i<l.length):(AO l)[i]?=some (.int .u8 (l.getD i 0)):=by
 simp[AO,List.getD,List.getElem?_eq_getElem h]
theorem VM(l:List Int)(i:Nat)(x:Int):(AO l).setIfInBounds i (.int .u8 x)=AO (l.set i x):=by
 apply ky;simp[AO,List.map_set]
def uw(x:BitVec 32):Int:=(x.toNat:Int)
theorem Dx(x:BitVec 32):0<=uw x:=Int.natCast_nonneg _
theorem YH(x:BitVec 32):uw x<4294967296:=by unfold uw;have:=x.isLt;omega
theorem S4{x y:BitVec 32}:uw x=uw y↔x=y:=by
 unfold uw;constructor
 .intro h;exact BitVec.eq_of_toNat_eq (by omega)
 .rintro rfl;rfl
theorem LQ(x y:BitVec 32):bits .and .u32 (uw x) (uw y)=uw (x &&& y):=by
 unfold uw;rw[u32_and_nat _ _ x.isLt y.isLt,BitVec.toNat_and]
theorem J9(x y:BitVec 32):bits .or .u32 (uw x) (uw y)=uw (x ||| y):=by
 unfold uw;rw[u32_or_nat _ _ x.isLt y.isLt,mt]
theorem Dg(x y:BitVec 32):bits .xor .u32 (uw x) (uw y)=uw (x ^^^ y):=by
 unfold uw;rw[u32_xor_nat _ _ x.isLt y.isLt,BitVec.toNat_xor]
theorem iJ(x y:BitVec 32):IntKind.u32.wrap (uw x+uw y)=uw (x+y):=by
 unfold uw;rw[IntKind.wrap_u32',mh];omega
theorem CT(a b:BitVec 32):(uw a+uw b)%(4294967296:Int)=uw (a+b):=by
 unfold uw;rw[mh];omega
theorem bU(a b c:BitVec 32):(uw a+uw b+uw c)%(4294967296:Int)=uw (a+b+c):=by
 rw[<- CT,<- CT];omega
theorem T4(a b c d:BitVec 32):(uw a+uw b+uw c+uw d)%(4294967296:Int)=uw (a+b+c+d):=by
 rw[<- CT,<- bU];omega
theorem FU(x:BitVec 32)(k:Nat):uw x*(2:Int)^k%(4294967296:Int)=uw (x <<< k):=by
 unfold uw;rw[BitVec.toNat_shiftLeft,Nat.shiftLeft_eq,mi,mu,kH];rfl
theorem OA(x:BitVec 32)(k:Nat):uw x/(2:Int)^k=uw (x >>> k):=by
 unfold uw;rw[BitVec.toNat_ushiftRight,Nat.shiftRight_eq_div_pow,Int.natCast_ediv,kH];rfl
theorem bS(x:BitVec 32):uw x/(8:Int)=uw (x >>> 3):=OA x 3
theorem YJ(x:BitVec 32):uw x/(1024:Int)=uw (x >>> 10):=OA x 10
theorem fe(x:BitVec 32)(n:Nat)(h0:1<=n)(h1:n<=31):bits .or .u32 (uw x*2^(32-n)%4294967296) (uw x/2^(32-(32-n)))=uw (x.rotateRight n):=by
 rw[FU,OA,J9,S4];rw[show 32-(32-n)=n by omega,BitVec.rotateRight_def,lS (by omega:n<32),BitVec.or_comm]
def EE(n:Nat):Nat:=(119-n%64)%64
def Cx(n:Nat):List Int:=[((n*8/2^56%256:Nat):Int),((n*8/2^48%256:Nat):Int),((n*8/2^40%256:Nat):Int),((n*8/2^32%256:Nat):Int),
 ((n*8/2^24%256:Nat):Int),((n*8/2^16%256:Nat):Int),((n*8/2^8%256:Nat):Int),((n*8/2^0%256:Nat):Int)]
def Cz(l:List Int)(j:Nat):List Int:=l++[128]++List.replicate j 0
def pad(l:List Int):List Int:=Cz l (EE l.length)++Cx l.length
theorem CQ(l:List Int)(j:Nat):(Cz l j).length=l.length+1+j:=by simp[Cz];omega
theorem RS(l:List Int)(j:Nat):Cz l j++[0]=Cz l (j+1):=by
 simp only[Cz,iR];rw[<- List.replicate_succ']
theorem JK(n:Nat):(Cx n).length=8:=rfl
theorem RT(l:List Int):(pad l).length%64=0/\l.length<(pad l).length/\(pad l).length<=l.length+72:=by
 unfold pad;rw[G',CQ,JK];unfold EE;omega
theorem RR(h:∀ x∈l,0<=x/\x<256)(j:Nat):∀ x∈Cz l j,0<=x/\x<256:=by
 intro x hx;simp only[Cz,V',O',lh]at hx;rcases hx with(hx|rfl)|⟨_,rfl⟩
 .exact h x hx
 .omega
 .omega
theorem Ml(n:Nat):∀ x∈Cx n,0<=x/\x<256:=by
 intro x hx;simp only[Cx,iX,M',or_false]at hx;rcases hx with rfl|rfl|rfl|rfl|rfl|rfl|rfl|rfl<;>omega
theorem XM(h:∀ x∈l,0<=x/\x<256):∀ x∈pad l,0<=x/\x<256:=by
 intro x hx;rcases V'.1 hx with h1|h1
 .exact RR h _ x h1
 .exact Ml _ x h1
theorem Of(n s:Nat):((n*8/2^s%256:Nat):Int)=(n:Int)*8/2^s%256:=by
 rw[mi,Int.natCast_ediv,mu,kH];rfl
theorem Mm(n k:Nat)(hk:k<8):(Cx n).take (k+1)=(Cx n).take k++[(n:Int)*8/2^(56-8*k)%256]:=by
 rw[<- Of];obtain rfl|rfl|rfl|rfl|rfl|rfl|rfl|rfl:k=0\/k=1\/k=2\/k=3\/k=4\/k=5\/k=6\/k=7:=by omega
 all_goals rfl
def Av(ws:List (BitVec 32)):Array Value:=(ws.map λx=>Value.int .u32 (uw x)).toArray
theorem AZ(ws:List (BitVec 32)):(Av ws).size=ws.length:=by simp[Av]
theorem BE(ws:List (BitVec 32))(i:Nat)(h:i<ws.length):(Av ws)[i]?=some (.int .u32 (uw (ws.getD i 0#32))):=by
 simp[Av,List.getD,List.getElem?_eq_getElem h]
theorem LT(ws:List (BitVec 32))(i:Nat)(x:BitVec 32):(Av ws).setIfInBounds i (.int .u32 (uw x))=Av (ws.set i x):=by
 apply ky;simp[Av,List.map_set]
def Cn(n:Int):BitVec 32:=BitVec.ofNat 32 n.toNat
def S8(l:List Int)(i:Nat):BitVec 32:=Cn (l.getD (4*i) 0) <<< 24 ||| Cn (l.getD (4*i+1) 0) <<< 16 ||| Cn (l.getD (4*i+2) 0) <<< 8 ||| Cn (l.getD (4*i+3) 0)
def eK(x:BitVec 32):BitVec 32:=x.rotateRight 7 ^^^ x.rotateRight 18 ^^^ x >>> 3
def eL(x:BitVec 32):BitVec 32:=x.rotateRight 17 ^^^ x.rotateRight 19 ^^^ x >>> 10
def JP(l:List Int):Nat->List (BitVec 32)
 | 0=>List.replicate 64 0#32
 | k+1=>(JP l k).set k (S8 l k)
def X8(ws:List (BitVec 32))(i:Nat):BitVec 32:=ws.getD (i-16) 0#32+eK (ws.getD (i-15) 0#32)+ws.getD (i-7) 0#32+eL (ws.getD (i-2) 0#32)
def Fw(l:List Int):Nat->List (BitVec 32)
 | 0=>JP l 16
 | k+1=>(Fw l k).set (16+k) (X8 (Fw l k) (16+k))
def Ns(l:List Int):List (BitVec 32):=Fw l 48
theorem FN(l:List Int)(k:Nat):(JP l k).length=64:=by
 induction k with
 | zero=>simp[JP]
 | succ k ih=>simp[JP,ih]
theorem Eb(l:List Int)(k:Nat):(Fw l k).length=64:=by
 induction k with
 | zero=>exact FN l 16
 | succ k ih=>simp[Fw,ih]
theorem Oz(l:List Int):(Ns l).length=64:=Eb l 48
theorem Kj(n:Int)(h:0<=n/\n<256):uw (Cn n)=n:=by
 unfold uw Cn;rw[lZ];omega
def R1:List Int:=[1116352408,1899447441,3049323471,3921009573,961987163,1508970993,2453635748,2870763221,3624381080,310598401,607225278,1426881987,1925078388,2162078206,2614888103,3248222580,3835390401,4022224774,264347078,604807628,770255983,1249150122,1555081692,1996064986,2554220882,2821834349,2952996808,3210313671,3336571891,3584528711,113926993,338241895,666307205,773529912,1294757372,1396182291,1695183700,1986661051,2177026350,2456956037,2730485921,2820302411,3259730800,3345764771,3516065817,3600352804,4094571909,275423344,430227734,506948616,659060556,883997877,958139571,1322822218,1537002063,1747873779,1955562222,2024104815,2227730452,2361852424,2428436474,2756734187,3204031479,3329325298]
def kAt(i:Nat):BitVec 32:=BitVec.ofNat 32 (R1.getD i 0).toNat
structure St where
 a:BitVec 32
 b:BitVec 32
 c:BitVec 32
 d:BitVec 32
 e:BitVec 32
 f:BitVec 32
 g:BitVec 32
 h:BitVec 32
def St.cells(s:St):Array Value:=#[.int .u32 (uw s.a),.int .u32 (uw s.b),.int .u32 (uw s.c),.int .u32 (uw s.d),.int .u32 (uw s.e),.int .u32 (uw s.f),.int .u32 (uw s.g),.int .u32 (uw s.h)]
def St.list(s:St):List (BitVec 32):=[s.a,s.b,s.c,s.d,s.e,s.f,s.g,s.h]
def QM(e f g:BitVec 32):BitVec 32:=(e &&& f) ^^^ (~~~e &&& g)
def eb(a b c:BitVec 32):BitVec 32:=(a &&& b) ^^^ (a &&& c) ^^^ (b &&& c)
def fG(e:BitVec 32):BitVec 32:=e.rotateRight 6 ^^^ e.rotateRight 11 ^^^ e.rotateRight 25
def fF(a:BitVec 32):BitVec 32:=a.rotateRight 2 ^^^ a.rotateRight 13 ^^^ a.rotateRight 22
def upS(s:St)(k w:BitVec 32):BitVec 32:=s.h+fG s.e+QM s.e s.f s.g+k+w
def cD(s:St):BitVec 32:=fF s.a+eb s.a s.b s.c
def Yx(s:St)(k w:BitVec 32):St:={ a:=upS s k w+cD s,b:=s.a,c:=s.b,d:=s.c,e:=s.d+upS s k w,f:=s.e,g:=s.f,h:=s.g }
def B2(ws:List (BitVec 32))(s:St):Nat->St
 | 0=>s
 | k+1=>Yx (B2 ws s k) (kAt k) (ws.getD k 0#32)
def ip(s t:St):St:={ a:=s.a+t.a,b:=s.b+t.b,c:=s.c+t.c,d:=s.d+t.d,e:=s.e+t.e,f:=s.f+t.f,g:=s.g+t.g,h:=s.h+t.h }
def DB(s t:St):Nat->List (BitVec 32)
 | 0=>s.list
 | i+1=>(DB s t i).set i ((DB s t i).getD i 0#32+t.list.getD i 0#32)
theorem EH(s t:St)(i:Nat):(DB s t i).length=8:=by
 induction i with
 | zero=>rfl
 | succ i ih=>simp[DB,ih]
def X1(s:St)(ws:List (BitVec 32)):St:=ip s (B2 ws s 64)
def start:St:={ a:=1779033703#32,b:=3144134277#32,c:=1013904242#32,d:=2773480762#32,e:=1359893119#32,f:=2600822924#32,g:=528734635#32,h:=1541459225#32 }
def EI(x:BitVec 32):List Int:=[uw x/16777216%256,uw x/65536%256,uw x/256%256,uw x%256]
def Cr:List (BitVec 32)->List Int
 | []=>[]
 | x::r=>EI x++Cr r
def NK(s:St):List Int:=Cr s.list
theorem Jg(x:BitVec 32):∀ n∈EI x,0<=n/\n<256:=by
 intro n hn;simp only[EI,iX,M',or_false]at hn;rcases hn with rfl|rfl|rfl|rfl<;>omega
theorem OL(l:List (BitVec 32)):∀ n∈Cr l,0<=n/\n<256:=by
 induction l with
 | nil=>intro n hn;cases hn
 | cons x r ih =>
  intro n hn;rcases V'.1 hn with h|h
  .exact Jg x n h
  .exact ih n h
theorem OM(l:List (BitVec 32))(x:BitVec 32):Cr (l++[x])=Cr l++EI x:=by
 induction l with
 | nil=>simp[Cr]
 | cons y r ih=>simp[Cr,ih]
theorem Gz(l:List (BitVec 32)):(Cr l).length=4*l.length:=by
 induction l with
 | nil=>rfl
 | cons x r ih=>simp[Cr,EI,ih];omega
def NT(l:List Int):Nat->St
 | 0=>start
 | k+1=>X1 (NT l k) (Ns ((l.drop (64*k)).take 64))
def dig(l:List Int):List Int:=NK (NT (pad l) ((pad l).length/64))
theorem Ax(l:List Int):(dig l).length=32:=rfl
theorem Dn(l:List Int):∀ n∈dig l,0<=n/\n<256:=OL _
def Mk(s:List (BitVec 32))(a b:Nat):List (BitVec 32):=s.set a (s.getD a 0#32+s.getD b 0#32)
def dO(s:List (BitVec 32))(a t n:Nat):List (BitVec 32):=s.set t ((s.getD t 0#32 ^^^ s.getD a 0#32).rotateLeft n)
def Jm(s:List (BitVec 32))(a b t n:Nat):List (BitVec 32):=dO (Mk s a b) a t n
def Lq(s:List (BitVec 32))(a b c d:Nat):List (BitVec 32):=Jm (Jm (Jm (Jm s a b d 16) c d b 12) a b d 8) c d b 7
theorem Jl(s:List (BitVec 32))(a b:Nat):(Mk s a b).length=s.length:=by simp[Mk]
theorem Pu(s:List (BitVec 32))(a t n:Nat):(dO s a t n).length=s.length:=by simp[dO]
theorem BJ(s:List (BitVec 32))(a b t n:Nat):(Jm s a b t n).length=s.length:=by rw[Jm,Pu,Jl]
theorem Mq(s:List (BitVec 32))(a b c d:Nat):(Lq s a b c d).length=s.length:=by simp only[Lq,BJ]
def E9:List Nat:=[0,4,8,12,1,5,9,13,2,6,10,14,3,7,11,15,0,5,10,15,1,6,11,12,2,7,8,13,3,4,9,14]
def GD(s:List (BitVec 32)):Nat->List (BitVec 32)
 | 0=>s
 | k+1=>Lq (GD s k) (E9.getD (4*k) 0) (E9.getD (4*k+1) 0) (E9.getD (4*k+2) 0) (E9.getD (4*k+3) 0)
def Du(s:List (BitVec 32)):Nat->List (BitVec 32)
 | 0=>s
 | k+1=>GD (Du s k) 8
theorem Iv(s:List (BitVec 32))(k:Nat):(GD s k).length=s.length:=by
 induction k with
 | zero=>rfl
 | succ k ih=>rw[GD,Mq,ih]
theorem GE(s:List (BitVec 32))(k:Nat):(Du s k).length=s.length:=by
 induction k with
 | zero=>rfl
 | succ k ih=>rw[Du,Iv,ih]
theorem Kg(i:Nat):E9.getD i 0<16:=by
 have all:∀ j:Fin 32,E9.getD j.val 0<16:=by decide
 rcases jt i 32 with h|h
 .exact all ⟨i,h⟩
 .rw[List.getD,j3 (by simpa[E9]using h)];decide
def Kz(x:BitVec 32):List Int:=[uw x%256,uw x/256%256,uw x/65536%256,uw x/16777216%256]
def dc(s t:List (BitVec 32))(i:Nat):BitVec 32:=s.getD i 0#32+t.getD i 0#32
def RN(s t:List (BitVec 32)):Nat->List Int
 | 0=>[]
 | k+1=>RN s t k++Kz (dc s t k)
theorem FE(s t:List (BitVec 32))(k:Nat):(RN s t k).length=4*k:=by
 induction k with
 | zero=>rfl
 | succ k ih=>simp[RN,Kz,ih];omega
theorem ON(x:BitVec 32):∀ n∈Kz x,0<=n/\n<256:=by
 intro n hn;simp only[Kz,iX,M',or_false]at hn;rcases hn with rfl|rfl|rfl|rfl<;>omega
theorem UO(s t:List (BitVec 32))(k:Nat):∀ n∈RN s t k,0<=n/\n<256:=by
 induction k with
 | zero=>intro n hn;cases hn
 | succ k ih =>
  intro n hn;rcases V'.1 hn with h|h
  .exact ih n h
  .exact ON _ n h
def Cq(s:List (BitVec 32)):List Int:=RN (Du s 10) s 16
theorem Ek(s:List (BitVec 32)):(Cq s).length=64:=FE _ _ _
theorem Fy(s:List (BitVec 32)):∀ n∈Cq s,0<=n/\n<256:=UO _ _ _
def YR(l:List Int)(i:Nat):BitVec 32:=Cn (l.getD (4*i) 0) ||| Cn (l.getD (4*i+1) 0) <<< 8 ||| Cn (l.getD (4*i+2) 0) <<< 16 ||| Cn (l.getD (4*i+3) 0) <<< 24
def Dw(s:List (BitVec 32))(off:Nat)(l:List Int):Nat->List (BitVec 32)
 | 0=>s
 | k+1=>(Dw s off l k).set (off+k) (YR l k)
theorem D1(s:List (BitVec 32))(off:Nat)(l:List Int)(k:Nat):(Dw s off l k).length=s.length:=by
 induction k with
 | zero=>rfl
 | succ k ih=>simp[Dw,ih]
def Hb:List (BitVec 32):=[1634760805#32,857760878#32,2036477234#32,1797285236#32,0#32,0#32,0#32,0#32,0#32,0#32,0#32,0#32,0#32,0#32,0#32,0#32]
def BH(key:List Int)(c:BitVec 32)(nonce:List Int):List (BitVec 32):=Dw ((Dw Hb 4 key 8).set 12 c) 13 nonce 3
theorem Gy(key:List Int)(c:BitVec 32)(nonce:List Int):(BH key c nonce).length=16:=by
 simp[BH,D1,Hb]
def bx(x y:Int):Int:=((x.toNat ^^^ y.toNat:Nat):Int)
theorem NJ{x y:Int}(hx:0<=x/\x<256)(hy:0<=y/\y<256):0<=bx x y/\bx x y<256:=by
 unfold bx;have:x.toNat ^^^ y.toNat<2^8:=lu (by omega) (by omega);omega
def Nu(s:List (BitVec 32))(i:Nat):Int:=(Cq (s.set 12 (s.getD 12 0#32+BitVec.ofNat 32 (i/64)))).getD (i%64) 0
theorem Sq(s:List (BitVec 32))(i:Nat):0<=Nu s i/\Nu s i<256:=Al (Fy _) _
def CP(s:List (BitVec 32))(d:List Int):Nat->List Int
 | 0=>[]
 | k+1=>CP s d k++[bx (Nu s k) (d.getD k 0)]
def PB(s:List (BitVec 32))(d:List Int):List Int:=CP s d d.length
theorem ES(s:List (BitVec 32))(d:List Int)(k:Nat):(CP s d k).length=k:=by
 induction k with
 | zero=>rfl
 | succ k ih=>simp[CP,ih]
theorem PC(s:List (BitVec 32))(d:List Int):(PB s d).length=d.length:=ES _ _ _
theorem RA(s:List (BitVec 32))(hd:∀ x∈d,0<=x/\x<256)(k:Nat):∀ n∈CP s d k,0<=n/\n<256:=by
 induction k with
 | zero=>intro n hn;cases hn
 | succ k ih =>
  intro n hn;rcases V'.1 hn with h|h
  .exact ih n h
  .obtain rfl:n=_:=by simpa using h
   exact NJ (Sq _ _) (Al hd k)
theorem IH(s:List (BitVec 32))(hd:∀ x∈d,0<=x/\x<256):∀ n∈PB s d,0<=n/\n<256:=RA s hd _
theorem Cf{ops:Array Oper}{Q:Act->Prop}:∀ (l:List Oper) (a:Act),wpQuiet P ops (λw'=>w'=w) Q l a->wpStill P ops w Q l a
 | [],_,h=>h
 | o::rest,a,h=>by
  unfold wpQuiet at h;unfold wpStill;split
  .rename_i hw
   rw[if_pos hw]at h
   obtain⟨v,h1,h2⟩:=h;have h3:=h1 w rfl;unfold Oper.quietAt at h3;unfold Oper.still;generalize (execOp a.eval o).run P w=r at h3 ⊢;cases r with
   | ok n w' =>
    cases n<;>simp only[Oper.quietUpon]at h3<;>simp only[Oper.stillUpon]
    case value u =>
     obtain⟨e1,e2⟩:=h3;rw[e2];exact⟨e1,Cf rest _ h2⟩
    case skip =>
     obtain⟨e1,e2⟩:=h3;rw[<- e2];exact⟨e1,Cf rest _ h2⟩
    case enter f args=>exact⟨h3.1,v,h3.2,Cf rest _ h2⟩
   | halt x w'=>simp only[Oper.quietUpon]at h3
  .rename_i hw
   rw[if_neg hw]at h
   exact Cf rest _ h
theorem Ar{id:Nat}{Q:Exit->Act->World->Prop}{a:Act}{l:List Oper}(n:Nat)(hm:P.follows .mixedOrders=true)(hB:Region.lexTailB .any l.toArray n=true)(h:wpQuiet P l.toArray (λw'=>w'=w.drew) (λa'=>wpList P l.toArray Q (l.drop n) a' w.drew) (l.take n) a):(Code.region id l.toArray true).wp P Q a w :=
 wp_region_still_tail n hm hB (Cf _ _ h)
theorem Ya{a b:Int}(h:a=b):Ending.returned (.int .u32 a)=.returned (.int .u32 b):=by rw[h]
theorem dh(n:Nat)(h1:n<=31):bits .and .u64 (n:Int) 31=(n:Int):=by
 rw[show(31:Int)=((31:Nat):Int)from rfl,u64_and_nat _ _ (by omega) (by omega),nat_mask5];omega
theorem bR(x:BitVec 32)(n:Nat)(h0:1<=n)(h1:n<=31):bits .or .u32 (uw x*2^n%4294967296) (uw x/2^(32-n))=uw (x.rotateLeft n):=by
 rw[FU,OA,J9,S4];rw[BitVec.rotateLeft_def,lS (by omega:n<32)]
theorem Yh(x:BitVec 32)(n:Nat)(w:World)(h0:1<=n)(h1:n<=31) :
  Calls prog 168 #[.int .u32 (uw x),.int .i64 (n:Int)] w λe w'=>e=.returned (.int .u32 (uw (x.rotateLeft n)))/\w'=w:=by
 have a1:=Dx x;have a2:=YH x;have a3:=dh n h1;go_enter func168,ntmps168
 go_wp2
 go_ret;exact⟨Ya (bR x n h0 h1),rfl⟩
theorem bf(v:Int)(x:BitVec 32)(hv:v=uw x)(n:Nat)(w:World)(h0:1<=n)(h1:n<=31) :
  Calls prog 168 #[.int .u32 v,.int .i64 (n:Int)] w λe w'=>e=.returned (.int .u32 (uw (x.rotateLeft n)))/\w'=w:=by
 subst hv;exact Yh x n w h0 h1
theorem EB{g:Nat}{ws:List (BitVec 32)}(h:w.heap[g]?=some (.cells (Av ws) 186 (0,0)))(k:Nat)(x:BitVec 32) :
  (w.setCell ⟨g,k,none⟩ (.int .u32 (uw x))).heap[g]?=some (.cells (Av (ws.set k x)) 186 (0,0)):=by
 rw[heap_setCell_same _ _ _ _ _ _ h,LT]
theorem Ht(g:Nat)(ws:List (BitVec 32))(w:World)(hw:w.heap[g]?=some (.cells (Av ws) 186 (0,0)))(hl:ws.length=16)(a b t n:Nat)(ha:a<16)(hb:b<16)(ht:t<16)(h0:1<=n)(h1:n<=31) :
  Calls prog 192 #[.pointer (some ⟨g,0,none⟩),.int .i64 a,.int .i64 b,.int .i64 t,.int .i64 n] w λe w'=>e=.returned (.tuple #[])/\w'.heap[g]?=some (.cells (Av (Jm ws a b t n)) 186 (0,0))/\Below g w w':=by
 have ca:=(cell_of_row w _ a _ _ _ hw).trans (BE ws a (by omega));have cb:=(cell_of_row w _ b _ _ _ hw).trans (BE ws b (by omega));have fa:=frozen_of_row w _ a _ _ hw;have HA:Hid (Mk ws a b=ws.set a (ws.getD a 0#32+ws.getD b 0#32)):=rfl;have HW:Hid _:=hw;have HL:Hid (ws.length=16):=hl;clear hw hl;generalize ws.getD a 0#32=x at ca HA;generalize ws.getD b 0#32=y at cb HA;go_enter func192,ntmps192
 go_wp2_with fail
 refine Ar 13 (by kernel_rfl) (by kernel_rfl) ?_;simp only[jQ,jY,jV,kh]
 repeat (go_big_quiet_step (fail))
 refine wpQuiet_nil ?_;go_wp2_with fail
 rw[CT];generalize hW1:(w.setCell _ _).drew=W1;have r1:W1.heap[g]?=some (.cells (Av (Mk ws a b)) 186 (0,0)):=by rw[<- hW1,HA.out];exact EB HW.out a _
 have b1:Below g w W1:=by rw[<- hW1];exact((Below.refl g w).setCell (p:=⟨g,a,none⟩) (A' _) _).drew
 have hl1:(Mk ws a b).length=16:=by rw[Jl];exact HL.out
 have H2:Hid (Jm ws a b t n=(Mk ws a b).set t (((Mk ws a b).getD t 0#32 ^^^ (Mk ws a b).getD a 0#32).rotateLeft n)):=rfl;clear hW1 HA HW HL ca cb fa;generalize Mk ws a b=vs at r1 hl1 H2;have ca:=(cell_of_row W1 _ a _ _ _ r1).trans (BE vs a (by omega));have ct:=(cell_of_row W1 _ t _ _ _ r1).trans (BE vs t (by omega));have ft:=frozen_of_row W1 _ t _ _ r1;generalize vs.getD a 0#32=x2 at ca H2;generalize vs.getD t 0#32=y2 at ct H2;have HR:Hid _:=r1;clear r1 hl1;refine Ar 17 (by kernel_rfl) (by kernel_rfl) ?_;simp only[jQ,jY,jV,kh]
 repeat (go_big_quiet_step (fail))
 go_big_quiet_want
 go_big_quiet_op
 refine⟨_,bf _ (y2 ^^^ x2) (Dg y2 x2) n _ h0 h1,?_⟩
 go_big_quiet_on
 repeat (go_big_quiet_step (fail))
 refine wpQuiet_nil ?_;go_wp2
 go_end0
 refine⟨rfl,?_,b1.trans (((Below.refl g W1).setCell (p:=⟨g,t,none⟩) (A' _) _).drew)⟩;rw[H2.out];exact EB (w:=W1.drew) HR.out t _
theorem PX(g:Nat)(ws:List (BitVec 32))(w:World)(hw:w.heap[g]?=some (.cells (Av ws) 186 (0,0)))(hl:ws.length=16)(a b c d:Nat)(ha:a<16)(hb:b<16)(hc:c<16)(hd:d<16) :
  Calls prog 169 #[.pointer (some ⟨g,0,none⟩),.int .i64 a,.int .i64 b,.int .i64 c,.int .i64 d] w λe w'=>e=.returned (.tuple #[])/\w'.heap[g]?=some (.cells (Av (Lq ws a b c d)) 186 (0,0))/\Below g w w':=by
 go_enter func169,ntmps169
 go_wp2_with fail
 refine(Ht g ws w hw hl a b d 16 ha hb hd (by omega) (by omega)).mono ?_;rintro e w1 ⟨rfl,r1,b1⟩;go_wp2_with fail
 refine(Ht g _ w1 r1 (by rw[BJ];exact hl) c d b 12 hc hd hb (by omega) (by omega)).mono ?_;rintro e w2 ⟨rfl,r2,b2⟩;go_wp2_with fail
 refine(Ht g _ w2 r2 (by rw[BJ,BJ];exact hl) a b d 8 ha hb hd (by omega) (by omega)).mono ?_;rintro e w3 ⟨rfl,r3,b3⟩;go_wp2_with fail
 refine(Ht g _ w3 r3 (by rw[BJ,BJ,BJ];exact hl) c d b 7 hc hd hb (by omega) (by omega)).mono ?_;rintro e w4 ⟨rfl,r4,b4⟩;go_wp2
 go_end0
 exact⟨rfl,r4,((b1.trans b2).trans b3).trans b4⟩
end
end
section
theorem At:(prog.info? 5).map (λi=>(i.zero,i.size,i.bytes))=some (some (.int .u8 0),1,1):=by kernel_rfl
end
section
open Go.RowKit
section
theorem IQ(x:BitVec 32)(h:uw x<256):uw x*16777216=uw (x <<< 24)/\uw x*65536=uw (x <<< 16)/\uw x*256=uw (x <<< 8):=by
 have h0:=Dx x;have e24:=FU x 24;have e16:=FU x 16;have e8:=FU x 8;rw[<- e24,<- e16,<- e8];refine⟨?_,?_,?_⟩
 .rw[show(2:Int)^24=16777216 from rfl];omega
 .rw[show(2:Int)^16=65536 from rfl];omega
 .rw[show(2:Int)^8=256 from rfl];omega
theorem GA(g off n cap:Nat)(ws:List (BitVec 32))(v:Value)(l:List Int)(w:World)(hw:w.heap[g]?=some (.cells (Av ws) 186 (0,0)))(hws:ws.length=16)(hoff:off+n<=16)(hn0:0<n)(h:Sl w v l)(hl:l.length=4*n)(hvb:∀ b o m c,v=.slice (some ⟨b,o,none⟩) m c->b<g) :
  Calls prog 140 #[.slice (some ⟨g,off,none⟩) n cap,v] w λe w'=>e=.returned (.tuple #[])/\w'.heap[g]?=some (.cells (Av (Dw ws off l n)) 186 (0,0))/\Below g w w':=by
 obtain⟨⟨a,cap',rfl,hc,hn,h1⟩,hla,hba⟩:=h;rcases h1 with rfl|⟨b,o,rfl,hb,hcell⟩
 .simp at hl;omega
 have hbg:=hvb _ _ _ _ rfl;clear hvb;rw[hl]at hc hla hcell ⊢
 have HC:Hid (∀ i,i<4*n->w.cell? ⟨b,o+i,none⟩=some (.int .u8 (uw (Cn (l.getD i 0))))):=λi hi=>by rw[Kj _ (Al hba i)];exact hcell i hi
 have HB:Hid (∀ i,uw (Cn (l.getD i 0))<256):=λi=>by rw[Kj _ (Al hba i)];exact(Al hba i).2
 clear hl hn hcell hba;go_enter func140,ntmps140
 go_wp2_with fail
 go_loopw [7] (λi wr=>∃ k:Nat,k<=n/\i=.int .i64 k/\wr.heap[g]?=some (.cells (Av (Dw ws off l k)) 186 (0,0))/\Below g w wr) (λi _=>n-(intOf i).toNat)
 case atStart=>exact⟨0,by omega,rfl,hw,Below.refl _ _⟩
 case round =>
  clear hw;obtain⟨k,hk,rfl,hW,hbel⟩:=hrel;by_cases hkn:k<n
  .have hfw:wr.frozen? ⟨g,off+k,none⟩=false:=frozen_of_row wr _ (off+k) _ _ hW;have hz:=BE (Dw ws off l k) (off+k) (by rw[D1];omega);have hcw:wr.cell? ⟨g,off+k,none⟩=some (.int .u32 (uw ((Dw ws off l k).getD (off+k) 0#32))):=(cell_of_row wr _ (off+k) _ _ _ hW).trans hz;have c0:=(hbel.cell (p:=⟨b,o+(4*k),none⟩) hbg).trans (HC.out (4*k) (by omega));have c1:=(hbel.cell (p:=⟨b,o+(4*k+1),none⟩) hbg).trans (HC.out (4*k+1) (by omega));have c2:=(hbel.cell (p:=⟨b,o+(4*k+2),none⟩) hbg).trans (HC.out (4*k+2) (by omega));have c3:=(hbel.cell (p:=⟨b,o+(4*k+3),none⟩) hbg).trans (HC.out (4*k+3) (by omega));have l0:=HB.out (4*k);have l1:=HB.out (4*k+1);have l2:=HB.out (4*k+2);have l3:=HB.out (4*k+3);obtain⟨wd,HW,HV⟩:∃ wd,Hid (wd=YR l k)/\Hid (Dw ws off l (k+1)=(Dw ws off l k).set (off+k) wd):=⟨_,rfl,rfl⟩;unfold YR at HW;generalize Cn (l.getD (4*k) 0)=x0 at c0 l0 HW;generalize Cn (l.getD (4*k+1) 0)=x1 at c1 l1 HW;generalize Cn (l.getD (4*k+2) 0)=x2 at c2 l2 HW;generalize Cn (l.getD (4*k+3) 0)=x3 at c3 l3 HW;obtain⟨y1,s1,e1⟩:∃ y,uw x1*256=uw y/\x1 <<< 8=y:=⟨_,(IQ x1 l1).2.2,rfl⟩;obtain⟨y2,s2,e2⟩:∃ y,uw x2*65536=uw y/\x2 <<< 16=y:=⟨_,(IQ x2 l2).2.1,rfl⟩;obtain⟨y3,s3,e3⟩:∃ y,uw x3*16777216=uw y/\x3 <<< 24=y:=⟨_,(IQ x3 l3).1,rfl⟩;rw[e1,e2,e3]at HW
   clear e1 e2 e3;have z0:=Dx x0;have z1:=Dx x1;have z2:=Dx x2;have z3:=Dx x3;clear hz;go_wp2_with fail
   refine Ar 36 (by kernel_rfl) (by kernel_rfl) ?_;simp only[jQ,jY,jV,kh]
   repeat (go_big_quiet_step (fail))
   refine wpQuiet_nil ?_;go_wp2
   rw[J9,J9,J9,<- HW.out];go_roundw
   case rel=>exact⟨k+1,by omega,by go_num,by rw[HV.out];exact EB hW (off+k) wd,(hbel.setCell (p:=⟨g,off+k,none⟩) (A' _) _).drew⟩
   case measure=>simp[intOf];omega
  .have HK:Hid (k=n):=by unfold Hid;omega
   go_wp2
   go_end0
   exact⟨rfl,by rw[<- HK.out];exact hW,hbel⟩
variable{B c o x y:Int}{W w w':World}{base e g i j k:Nat}{fr:Nat × Nat}{key l m n nonce r:List Int}{t:TypeId}{v:Value}{xs:List Value}
theorem CA{B:Nat}{a:World}(h:Below B a w)(hg:B<=g)(cs:Array Value):Below B a (w.setRow g cs) :=
 h.trans ⟨rfl,rfl,rfl,by simp,λk hk=>setRow_other w g k cs (by omega)⟩
theorem MF(vk vn:Value)(key nonce:List Int)(c:Nat)(w:World)(hk:Sl w vk key)(hn:Sl w vn nonce)(lk:key.length=32)(ln:nonce.length=12)(hc:c<=2000000000) :
  Calls prog 105 #[vk,.int .i64 c,vn] w λe w'=>e=.returned (.agg (Av (BH key (BitVec.ofNat 32 c) nonce)))/\Bw w w':=by
 have hvk:∀ b o m c,vk=.slice (some ⟨b,o,none⟩) m c->b<w.heap.size:=by
  intro b o m c e;obtain⟨⟨a,cap,rfl,_,_,h1⟩,_,_⟩:=hk;rcases h1 with rfl|⟨b',off',e',hb,_⟩
  .simp at lk
  .rw[e']at e
   simp only[Value.slice.injEq,X',Addr.mk.injEq,and_true]at e;omega
 have hvn:∀ b o m c,vn=.slice (some ⟨b,o,none⟩) m c->b<w.heap.size:=by
  intro b o m c e;obtain⟨⟨a,cap,rfl,_,_,h1⟩,_,_⟩:=hn;rcases h1 with rfl|⟨b',off',e',hb,_⟩
  .simp at ln
  .rw[e']at e
   simp only[Value.slice.injEq,X',Addr.mk.injEq,and_true]at e;omega
 go_enter func105,ntmps105
 go_wp2_with fail
 generalize hW0:(w.alloc _).alloc _=W0;have hr0:W0.heap[w.heap.size+1]?=some (.cells (Av Hb) 186 (0,0)):=by rw[<- hW0];exact heap_alloc2_new _ _ _
 have hq0:W0.heap[w.heap.size]?=some (.cells (Av (List.replicate 16 0#32)) 186 (0,0)):=by rw[<- hW0];exact heap_alloc2_old _ _ _
 have hb0:Bw w W0:=by rw[<- hW0];exact((Below.refl _ _).alloc (A' _) _).alloc (by simp) _
 clear hW0;refine(GA (w.heap.size+1) 4 8 12 Hb vk key W0 hr0 rfl (by omega) (by omega) (hk.below hb0) lk (λb o m c e=>Nat.lt_succ_of_lt (hvk b o m c e))).mono ?_;rintro e w1 ⟨rfl,hr1,hb1⟩;have hq1:=(hb1.block w.heap.size (by omega)).trans hq0;have hB1:Bw w w1:=hb0.trans (hb1.mono (by omega));have hl1:(Dw Hb 4 key 8).length=16:=by rw[D1];rfl
 have HG:Hid (BH key (BitVec.ofNat 32 c) nonce=Dw ((Dw Hb 4 key 8).set 12 (BitVec.ofNat 32 c)) 13 nonce 3):=rfl;have hcv:(c:Int)=uw (BitVec.ofNat 32 c):=by unfold uw;rw[lZ,lS (by omega)]
 have HCV:Hid ((c:Int)=uw (BitVec.ofNat 32 c)):=hcv;clear hr0 hq0 hb0 hb1 hcv;generalize Dw Hb 4 key 8=vs at hr1 hl1 HG;have hcw:=(cell_of_row w1 _ 12 _ _ _ hr1).trans (BE vs 12 (by omega));have hfw:=frozen_of_row w1 _ 12 _ _ hr1;go_wp2_with fail
 rw[HCV.out];generalize hcw2:BitVec.ofNat 32 c=cw at HG ⊢;have HCW:Hid (BitVec.ofNat 32 c=cw):=hcw2;clear hcw2;generalize hW2:w1.setCell _ _=W2;have hr2:W2.heap[w.heap.size+1]?=some (.cells (Av (vs.set 12 cw)) 186 (0,0)):=by rw[<- hW2];exact EB hr1 12 cw
 have hq2:W2.heap[w.heap.size]?=some (.cells (Av (List.replicate 16 0#32)) 186 (0,0)):=by rw[<- hW2];exact(heap_setCell_other _ _ _ _ (by simp)).trans hq1
 have hB2:Bw w W2:=by rw[<- hW2];exact hB1.setCell (p:=⟨w.heap.size+1,12,none⟩) (by simp) _
 clear hW2 hr1 hq1 hB1 hcw hfw;refine(GA (w.heap.size+1) 13 3 3 (vs.set 12 cw) vn nonce W2 hr2 (by simpa using hl1) (by omega) (by omega) (hn.below hB2) ln (λb o m c e=>Nat.lt_succ_of_lt (hvn b o m c e))).mono ?_;rintro e w3 ⟨rfl,hr3,hb3⟩;have hq3:=(hb3.block w.heap.size (by omega)).trans hq2;have hB3:Bw w w3:=hB2.trans (hb3.mono (by omega));have hl3:(Dw (vs.set 12 cw) 13 nonce 3).length=16:=by rw[D1];simpa using hl1
 clear hr2 hq2 hB2 hb3;rw[<- HG.out]at hr3 hl3
 generalize hus:BH key cw nonce=us at hr3 hl3;have HUS:Hid (BH key cw nonce=us):=hus;clear hus;have hsz:(prog.info? 186).map (·.size)=some (Av us).size:=by rw[AZ,hl3];kernel_rfl
 have hone:(Av us).all (·.oneCell')=true:=by simp[Av,Value.oneCell']
 go_wp2_with (first|(refine wpList_load_row rfl 186 _ rfl (w.heap.size+1) rfl 186 _ (0,0) _ hr3 underlying186 rfl hsz ?_)|(refine wpList_store_row rfl 186 _ _ rfl w.heap.size _ rfl rfl 186 _ hq3 hsz (by rw[AZ,AZ,hl3];rfl) hone ?_))
 refine bodyPost_ret (v:=.agg (Av us)) (results_cell_row rfl _ _ w.heap.size 186 _ (0,0) _ rfl (setRow_heap w3 w.heap.size _ _ 186 _ hq3) underlying186 rfl hsz) rfl ⟨by rw[HCW.out,HUS.out],CA hB3 (A' _) _⟩
def UW:Array Value:=(E9.map λ(n:Nat)=>Value.int .i64 (n:Int)).toArray
def CB(w:World):Prop:=∃ t fr,w.heap[4]?=some (.cells UW t fr)
theorem CB.below(h:CB w){B:Nat}(hB:4<B)(hb:Below B w w'):CB w':=by
 obtain⟨t,fr,h⟩:=h;exact⟨t,fr,(hb.block _ hB).trans h⟩
theorem CB.pos(h:CB w):4<w.heap.size:=by
 obtain⟨t,fr,h⟩:=h;exact(H'.1 h).1
theorem dQ(j:Nat)(hj:j<8):∀ w,(Instr.index 251 (.agg UW) (.int .i64 (j:Int))).run prog w=.ok (.agg #[.int .i64 ((E9.getD (4*j) 0:Nat):Int),.int .i64 ((E9.getD (4*j+1) 0:Nat):Int),.int .i64 ((E9.getD (4*j+2) 0:Nat):Int),.int .i64 ((E9.getD (4*j+3) 0:Nat):Int)]) w:=by
 intro w;obtain rfl|rfl|rfl|rfl|rfl|rfl|rfl|rfl:j=0\/j=1\/j=2\/j=3\/j=4\/j=5\/j=6\/j=7:=by omega
 all_goals kernel_rfl
theorem iI(w:World)(o1 o2 o3:Obj)(h:((w.alloc o1).alloc o2).alloc o3=W) :
  W.heap[w.heap.size]?=some o1/\W.heap[w.heap.size+1]?=some o2/\W.heap[w.heap.size+1+1]?=some o3/\W.heap.size=w.heap.size+3/\Bw w W:=by
 subst h;refine⟨?_,?_,?_,by simp,(((Below.refl _ _).alloc (A' _) _).alloc (by simp) _).alloc (by simp;omega) _⟩
 .rw[heap_alloc_old _ _ (by simp;omega)];exact heap_alloc2_old w o1 o2
 .rw[heap_alloc_old _ _ (by simp)];exact heap_alloc2_new w o1 o2
 .have:=heap_alloc_new ((w.alloc o1).alloc o2) o3;simpa using this
theorem dV:∀ (S:List (BitVec 32)),S.length=16->∃ s0 s1 s2 s3 s4 s5 s6 s7 s8 s9 s10 s11 s12 s13 s14 s15,S=[s0,s1,s2,s3,s4,s5,s6,s7,s8,s9,s10,s11,s12,s13,s14,s15]
 | [s0,s1,s2,s3,s4,s5,s6,s7,s8,s9,s10,s11,s12,s13,s14,s15],_=>⟨s0,s1,s2,s3,s4,s5,s6,s7,s8,s9,s10,s11,s12,s13,s14,s15,rfl⟩
theorem ZT(S:List (BitVec 32))(hS:S.length=16)(j:Nat)(hj:j<16):∀ w,(Instr.index 186 (.agg (Av S)) (.int .i64 (j:Int))).run prog w=.ok (.int .u32 (uw (S.getD j 0#32))) w:=by
 intro w;obtain⟨s0,s1,s2,s3,s4,s5,s6,s7,s8,s9,s10,s11,s12,s13,s14,s15,rfl⟩:=dV S hS;obtain rfl|rfl|rfl|rfl|rfl|rfl|rfl|rfl|rfl|rfl|rfl|rfl|rfl|rfl|rfl|rfl:j=0\/j=1\/j=2\/j=3\/j=4\/j=5\/j=6\/j=7\/j=8\/j=9\/j=10\/j=11\/j=12\/j=13\/j=14\/j=15:=by omega
 all_goals kernel_rfl
theorem CL{P:Program}{ops:Array Oper}{Q:Exit->Act->World->Prop}{l:List Oper}{a:Act}(h:wpList P ops Q l a w):wpList P ops Q l a w:=h
theorem Fp(w:World)(o1 o2 o3:Obj):(((w.alloc o1).alloc o2).alloc o3).heap[w.heap.size+1+1]?=some o3:=by
 have:=heap_alloc_new ((w.alloc o1).alloc o2) o3;simpa using this
theorem Ql(w:World)(o1 o2 o3:Obj)(cs old:Array Value)(t:TypeId)(h3:o3=.cells old t (0,0))(h:(((w.alloc o1).alloc o2).alloc o3).setRow (w.heap.size+1+1) cs=W) :
  W.heap[w.heap.size]?=some o1/\W.heap[w.heap.size+1]?=some o2/\W.heap[w.heap.size+1+1]?=some (.cells cs t (0,0))/\W.heap.size=w.heap.size+3/\Bw w W:=by
 subst h;subst h3;have n3:=Fp w o1 o2 (.cells old t (0,0));refine⟨?_,?_,setRow_heap _ _ _ _ t _ n3,by simp,CA ((((Below.refl _ _).alloc (A' _) _).alloc (by simp) _).alloc (by simp;omega) _) (by omega) _⟩
 .rw[setRow_other _ _ _ _ (by omega),heap_alloc_old _ _ (by simp;omega)];exact heap_alloc2_old w o1 o2
 .rw[setRow_other _ _ _ _ (by omega),heap_alloc_old _ _ (by simp)];exact heap_alloc2_new w o1 o2
theorem iC(A:List Int)(n:Nat)(z0 z1 z2 z3 a b c d:Int)(R:List Int)(hA:A.length=n):((((A++z0::z1::z2::z3::R).set n a).set (n+1) b).set (n+2) c).set (n+3) d=A++[a,b,c,d]++R:=by
 subst hA;rw[j' _ _ (A' _),j' _ _ (by omega),j' _ _ (by omega),j' _ _ (by omega)];simp
theorem Kc(h:w.heap[g]?=some (.cells (AO l) t (0,0)))(k:Nat)(x:Int) :
  (w.setCell ⟨g,k,none⟩ (.int .u8 x)).heap[g]?=some (.cells (AO (l.set k x)) t (0,0)):=by
 rw[heap_setCell_same _ _ _ _ _ _ h,VM]
theorem KM(w:World)(G k:Nat)(h:k≠G)(a b c d:Nat)(x y z u:Value):((((w.setCell ⟨G,a,none⟩ x).setCell ⟨G,b,none⟩ y).setCell ⟨G,c,none⟩ z).setCell ⟨G,d,none⟩ u).heap[k]?=w.heap[k]?:=by
 rw[heap_setCell_other _ _ _ _ (by simpa using h),heap_setCell_other _ _ _ _ (by simpa using h),heap_setCell_other _ _ _ _ (by simpa using h),heap_setCell_other _ _ _ _ (by simpa using h)]
def DK(s t:List (BitVec 32))(j:Nat):List Int:=RN s t j++List.replicate (64-4*j) 0
theorem Ic(s t:List (BitVec 32))(j:Nat)(hj:j<=16):(DK s t j).length=64:=by
 rw[DK,G',FE,j4];omega
theorem RV(s t:List (BitVec 32))(j:Nat)(hj:j<16)(x:BitVec 32)(hx:dc s t j=x):((((DK s t j).set (4*j) (uw x%256)).set (4*j+1) (uw x/256%256)).set (4*j+2) (uw x/65536%256)).set (4*j+3) (uw x/16777216%256)=DK s t (j+1):=by
 have e:List.replicate (64-4*j) (0:Int)=0::0::0::0::List.replicate (64-4*(j+1)) 0:=by
  rw[show 64-4*j=64-4*(j+1)+1+1+1+1 by omega];rfl
 rw[DK,e,iC _ _ _ _ _ _ _ _ _ _ _ (FE s t j),DK,RN,Kz,hx]
theorem GC(ws:List (BitVec 32))(w:World)(hws:ws.length=16)(ht:CB w) :
  Calls prog 139 #[.agg (Av ws)] w λe w'=>e=.returned (.agg (AO (Cq ws)))/\Bw w w':=by
 have hpos:=ht.pos;have hsz:(prog.info? 186).map (·.size)=some (Av ws).size:=by rw[AZ,hws];kernel_rfl
 have hone:(Av ws).all (·.oneCell')=true:=by simp[Av,Value.oneCell']
 go_enter func139,ntmps139
 go_wp2_with ((with_reducible (refine CL ?_));first
  | (refine wpList_load_row rfl 186 _ rfl w.heap.size rfl 186 _ (0,0) _ (heap_alloc2_old _ _ _) underlying186 rfl hsz ?_)
  | (refine wpList_store_row rfl 186 _ _ rfl (w.heap.size+1+1) _ rfl rfl 186 (Av (List.replicate 16 0#32)) (Fp _ _ _ _) hsz (by rw[AZ,AZ,hws];rfl) hone ?_))
 generalize hW0:World.setRow _ _ _=W0;obtain⟨hF,hR,hS,hs0,hb0⟩:=Ql w _ _ _ _ (Av (List.replicate 16 0#32)) 186 rfl hW0;clear hW0;have hR:W0.heap[w.heap.size+1]?=some (.cells (AO (List.replicate 64 0)) 133 (0,0)):=hR;have hq0:CB W0:=ht.below hpos hb0
 go_loopw [10] (λi wr=>∃ k:Nat,k<=10/\i=.int .i64 k/\wr.heap[w.heap.size+1+1]?=some (.cells (Av (Du ws k)) 186 (0,0))/\Below (w.heap.size+1+1) W0 wr) (λi _=>10-(intOf i).toNat)
 case atStart=>exact⟨0,by omega,rfl,hS,Below.refl _ _⟩
 case round =>
  clear hS;obtain⟨k,hk,rfl,hS,hbel⟩:=hrel;by_cases hk10:k<10
  .obtain⟨tq,frq,hq⟩:=hq0.below (by omega) hbel;have hk10i:(k:Int)<10:=by omega
   have hixA:=dQ;have hszq:(prog.info? 251).map (·.size)=some UW.size:=by kernel_rfl
   generalize UW=qa at hq hszq hixA;have HT:Hid (Du ws (k+1)=GD (Du ws k) 8):=rfl;have hl0:(Du ws k).length=16:=by rw[GE];exact hws
   generalize Du ws k=S at HT hS hl0;go_wp2_with ((with_reducible (refine CL ?_));refine wpList_load_row rfl 251 (.global 4) rfl 4 rfl tq _ frq _ hq underlying251 rfl hszq ?_)
   clear hq
   go_loopw [13] (λi wr=>∃ j:Nat,j<=8/\i=.int .i64 j/\wr.heap[w.heap.size+1+1]?=some (.cells (Av (GD S j)) 186 (0,0))/\Below (w.heap.size+1+1) W0 wr) (λi _=>8-(intOf i).toNat)
   case atStart=>exact⟨0,by omega,rfl,hS,hbel⟩
   case round =>
    clear hS hbel;obtain⟨j,hj,rfl,hS,hbel⟩:=hrel;have hbs:=hbel.size;by_cases hj8:j<8
    .have hix:=hixA j hj8;have hj8i:(j:Int)<8:=by omega
     have HU:Hid (GD S (j+1)=Lq (GD S j) (E9.getD (4*j) 0) (E9.getD (4*j+1) 0) (E9.getD (4*j+2) 0) (E9.getD (4*j+3) 0)):=rfl;have l0:=Kg (4*j);have l1:=Kg (4*j+1);have l2:=Kg (4*j+2);have l3:=Kg (4*j+3);have hlj:(GD S j).length=16:=by rw[Iv];exact hl0
     generalize E9.getD (4*j) 0=q0 at hix HU l0;generalize E9.getD (4*j+1) 0=q1 at hix HU l1;generalize E9.getD (4*j+2) 0=q2 at hix HU l2;generalize E9.getD (4*j+3) 0=q3 at hix HU l3;generalize GD S j=X at HU hS hlj;clear hixA;go_wp2_with fail
     refine(PX (w.heap.size+1+1) X _ ((heap_alloc_old _ _ (by omega)).trans hS) hlj q0 q1 q2 q3 l0 l1 l2 l3).mono ?_;rintro e w1 ⟨rfl,hS1,hb1⟩;have hb2:Below (w.heap.size+1+1) W0 w1:=(hbel.alloc (by omega) _).trans hb1;clear hS hbel hb1 hbs hix;go_wp2
     go_roundw
     case rel=>exact⟨j+1,by omega,by go_num,by rw[HU.out];exact hS1,hb2⟩
     case measure=>simp[intOf];omega
    .have HJ:Hid (j=8):=by unfold Hid;omega
     have hj8i:¬ (j:Int)<8:=by omega
     go_wp2
     go_roundw
     case rel=>exact⟨k+1,by omega,by go_num,by rw[HT.out,<- HJ.out];exact hS,hbel⟩
     case measure=>simp[intOf];omega
  .have HK:Hid (k=10):=by unfold Hid;omega
   have hk10i:¬ (k:Int)<10:=by omega
   have HB:Hid (k=10->Cq ws=DK (Du ws k) ws 16):=by rintro rfl;simp[Cq,DK]
   have hl0:(Du ws k).length=16:=by rw[GE];exact hws
   generalize Du ws k=S at HB hS hl0;have hbs:=hbel.size;have hF1:=(hbel.block w.heap.size (by omega)).trans hF;have hR1:=(hbel.block (w.heap.size+1) (by omega)).trans hR;have hB1:Bw w wr:=hb0.trans (hbel.mono (by omega));have hsz1:(prog.info? 186).map (·.size)=some (Av S).size:=by rw[AZ,hl0];kernel_rfl
   clear hF hR hb0 hbel hq0;go_wp2_with ((with_reducible (refine CL ?_));refine wpList_load_row rfl 186 _ rfl (w.heap.size+1+1) rfl 186 _ (0,0) _ ((heap_alloc_old _ _ (by omega)).trans hS) underlying186 rfl hsz1 ?_)
   have hBG:w.heap.size+1<wr.heap.size:=by omega
   generalize hW1:wr.alloc _=W1;have hN:W1.heap[wr.heap.size]?=some (.cells (AO (DK S ws 0)) 133 (0,0)):=by rw[<- hW1];exact heap_alloc_new _ _
   have hF2:W1.heap[w.heap.size]?=some (.cells (Av ws) 186 (0,0)):=by rw[<- hW1];exact(heap_alloc_old _ _ (by omega)).trans hF1
   have hR2:W1.heap[w.heap.size+1]?=some (.cells (AO (List.replicate 64 0)) 133 (0,0)):=by rw[<- hW1];exact(heap_alloc_old _ _ (by omega)).trans hR1
   have hB2:Bw w W1:=by rw[<- hW1];exact hB1.alloc hB1.size _
   clear hW1 hF1 hR1 hB1 hbs hS ht hsz hsz1 hone hk10i;generalize wr.heap.size=G at hN hBG ⊢
   go_loopw [28] (λi wr=>∃ j:Nat,j<=16/\i=.int .i64 j/\wr.heap[G]?=some (.cells (AO (DK S ws j)) 133 (0,0))/\wr.heap[w.heap.size]?=some (.cells (Av ws) 186 (0,0))/\wr.heap[w.heap.size+1]?=some (.cells (AO (List.replicate 64 0)) 133 (0,0))/\Bw w wr) (λi _=>16-(intOf i).toNat)
   case atStart=>exact⟨0,by omega,rfl,hN,hF2,hR2,hB2⟩
   case round =>
    clear hN hF2 hR2 hB2;obtain⟨j,hj,rfl,hN,hF,hR,hbel⟩:=hrel;by_cases hj16:j<16
    .have hj16i:(j:Int)<16:=by omega
     have hix:=ZT S hl0 j hj16;have cf:=(cell_of_row wr _ j _ _ _ hF).trans (BE ws j (by omega));have hpl:=Ic S ws j hj;have c0:=(cell_of_row wr _ (4*j) _ _ _ hN).trans (DC _ (4*j) (by omega));have c1:=(cell_of_row wr _ (4*j+1) _ _ _ hN).trans (DC _ (4*j+1) (by omega));have c2:=(cell_of_row wr _ (4*j+2) _ _ _ hN).trans (DC _ (4*j+2) (by omega));have c3:=(cell_of_row wr _ (4*j+3) _ _ _ hN).trans (DC _ (4*j+3) (by omega));have f0:=frozen_of_row wr _ (4*j) _ _ hN;have f1:=frozen_of_row wr _ (4*j+1) _ _ hN;have f2:=frozen_of_row wr _ (4*j+2) _ _ hN;have f3:=frozen_of_row wr _ (4*j+3) _ _ hN;obtain⟨x,hx,HX⟩:∃ x,(uw (S.getD j 0#32)+uw (ws.getD j 0#32))%(4294967296:Int)=uw x/\Hid (dc S ws j=x):=⟨_,CT _ _,rfl⟩;generalize S.getD j 0#32=xa at hix hx;generalize ws.getD j 0#32=xb at cf hx;have nx:=Dx x;have HN:Hid _:=hN;have HF:Hid _:=hF;have HR:Hid _:=hR;have HBE:Hid _:=hbel;have HPS:Hid (((((DK S ws j).set (4*j) (uw x%256)).set (4*j+1) (uw x/256%256)).set (4*j+2) (uw x/65536%256)).set (4*j+3) (uw x/16777216)=DK S ws (j+1)):=by
      have h1:=RV S ws j hj16 x HX.out;rw[show uw x/16777216%256=uw x/16777216 by have:=YH x;omega]at h1
      exact h1
     clear hN hF hR hbel hpl;go_wp2
     go_roundw
     case rel=>exact⟨j+1,by omega,by go_num,by rw[<- HPS.out];exact Kc (Kc (Kc (Kc HN.out _ _) _ _) _ _) _ _,(KM wr G _ (by omega) _ _ _ _ _ _ _ _).trans HF.out,(KM wr G _ (by omega) _ _ _ _ _ _ _ _).trans HR.out,
       (((HBE.out.setCell (p:=⟨G,_,none⟩) (by simp;omega) _).setCell (p:=⟨G,_,none⟩) (by simp;omega) _).setCell (p:=⟨G,_,none⟩) (by simp;omega) _).setCell (p:=⟨G,_,none⟩) (by simp;omega) _⟩
     case measure=>simp[intOf];omega
    .have HJ:Hid (j=16):=by unfold Hid;omega
     have hj16i:¬ (j:Int)<16:=by omega
     have hpl:=Ic S ws j hj;have hsz:(prog.info? 133).map (·.size)=some (AO (DK S ws j)).size:=by rw[AA,hpl];kernel_rfl
     have hone:(AO (DK S ws j)).all (·.oneCell')=true:=by simp[AO,Value.oneCell']
     go_wp2_with ((with_reducible (refine CL ?_));first|(refine wpList_load_row rfl 133 _ rfl G rfl 133 _ (0,0) _ hN underlying133 rfl hsz ?_)|(refine wpList_store_row rfl 133 _ _ rfl (w.heap.size+1) _ rfl rfl 133 _ hR hsz (by rw[AA,AA,hpl];rfl) hone ?_))
     refine bodyPost_ret (v:=.agg (AO (DK S ws j))) (results_cell_row rfl _ _ (w.heap.size+1) 133 _ (0,0) _ rfl (setRow_heap wr _ _ _ 133 _ hR) underlying133 rfl hsz) rfl ⟨?_,CA hbel (by omega) _⟩;rw[HB.out HK.out,HJ.out]
def DE(key nonce:List Int)(c:Int):Int:=if key.length≠32\/nonce.length≠12 then 1 else if c<0\/1073741824<c then 2 else 0
theorem OT(h:key.length≠32\/nonce.length≠12):DE key nonce c=1:=by unfold DE;rw[if_pos h]
theorem NL(hk:key.length=32)(hn:nonce.length=12)(h:c<0\/1073741824<c):DE key nonce c=2:=by unfold DE;rw[if_neg (by omega),if_pos h]
theorem I3(hk:key.length=32)(hn:nonce.length=12)(h:0<=c/\c<=1073741824):DE key nonce c=0:=by unfold DE;rw[if_neg (by omega),if_neg (by omega)]
theorem J0(vk vn:Value)(key nonce:List Int)(c:Int)(w:World)(hk:Sl w vk key)(hn:Sl w vn nonce) :
  Calls prog 103 #[vk,.int .i64 c,vn] w λe w'=>e=.returned (.int .i64 (DE key nonce c))/\w'=w:=by
 obtain⟨⟨ak,ck,rfl,_,_,_⟩,lk,_⟩:=hk;obtain⟨⟨an,cn,rfl,_,_,_⟩,ln,_⟩:=hn;have H1:Hid (key.length≠32\/nonce.length≠12->DE key nonce c=1):=OT;have H2:Hid (key.length=32->nonce.length=12->(c<0\/1073741824<c)->DE key nonce c=2):=NL;have H3:Hid (key.length=32->nonce.length=12->(0<=c/\c<=1073741824)->DE key nonce c=0):=I3;generalize DE key nonce c=E at H1 H2 H3 ⊢;generalize key.length=n at *;generalize nonce.length=m at *;go_enter func103,ntmps103
 by_cases h1:(n:Int)=32
 .by_cases h2:(m:Int)=12
  .by_cases h3:c<0
   .go_wp2
    go_ret;exact⟨by rw[H2.out (by omega) (by omega) (by omega)];rfl,rfl⟩
   .by_cases h4:1073741824<c
    .go_wp2
     go_ret;exact⟨by rw[H2.out (by omega) (by omega) (by omega)];rfl,rfl⟩
    .go_wp2
     go_ret;exact⟨by rw[H3.out (by omega) (by omega) (by omega)];rfl,rfl⟩
  .go_wp2
   go_ret;exact⟨by rw[H1.out (by omega)];rfl,rfl⟩
 .go_wp2
  go_ret;exact⟨by rw[H1.out (by omega)];rfl,rfl⟩
theorem I1(w:World)(l:List Int)(o:Obj)(t:TypeId)(old:Array Value)(ho:o=.cells old t (0,0))(hW:(w.alloc o).setRow w.heap.size (AO l)=W) :
  W.heap[w.heap.size]?=some (.cells (AO l) t (0,0))/\Bw w W/\W.heap.size=w.heap.size+1:=by
 subst hW;subst ho;exact⟨setRow_heap _ _ _ _ t _ (heap_alloc_new _ _),CA ((Below.refl _ _).alloc (A' _) _) (A' _) _,by simp⟩
theorem Sl.ofRow(h:w.heap[g]?=some (.cells (AO l) t fr))(hl:l.length<=140737488351232)(hb:∀ x∈l,0<=x/\x<256):Sl w (.slice (some ⟨g,0,none⟩) l.length l.length) l:=by
 refine⟨⟨_,l.length,rfl,by simp,by simp,.inr ⟨g,0,rfl,(H'.1 h).1,λi hi=>?_⟩⟩,hl,hb⟩;rw[jm];exact(cell_of_row w _ i _ _ _ h).trans (DC l i hi)
structure Got(w w':World)(v:Value)(l:List Int):Prop where
 sl:Sl w' v l
 bel:Bw w w'
 new:∀ b o n c,v=.slice (some ⟨b,o,none⟩) n c->w.heap.size<=b
theorem VQ(vk vn:Value)(key nonce:List Int)(c:Nat)(w:World)(hk:Sl w vk key)(hn:Sl w vn nonce)(lk:key.length=32)(ln:nonce.length=12)(hc:c<=1073741824)(ht:CB w) :
  Calls prog 106 #[vk,.int .i64 c,vn] w λe w'=>∃ v',e=.returned (.tuple #[v',.int .i64 0])/\Got w w' v' (Cq (BH key (BitVec.ofNat 32 c) nonce)):=by
 go_enter func106,ntmps106
 go_wp2_with fail
 refine(J0 vk vn key nonce c w hk hn).mono ?_;rintro e w1 ⟨rfl,rfl⟩;rw[I3 lk ln (by omega)];go_wp2_with fail
 refine(MF vk vn key nonce c w1 hk hn lk ln (by omega)).mono ?_;rintro e w2 ⟨rfl,b2⟩;have hl:=Gy key (BitVec.ofNat 32 c) nonce;generalize hus:BH key (BitVec.ofNat 32 c) nonce=us at hl;have HUS:Hid (BH key (BitVec.ofNat 32 c) nonce=us):=hus;clear hus;go_wp2_with fail
 refine(GC us w2 hl (ht.below ht.pos b2)).mono ?_;rintro e w3 ⟨rfl,b3⟩;have hbl:=Ek us;have hbb:=Fy us;generalize hbs:Cq us=bs at hbl hbb;have HBS:Hid (Cq us=bs):=hbs;clear hbs;have hsz:(prog.info? 133).map (·.size)=some (AO bs).size:=by rw[AA,hbl];kernel_rfl
 have hone:(AO bs).all (·.oneCell')=true:=by simp[AO,Value.oneCell']
 go_wp2_with ((with_reducible (refine CL ?_));refine wpList_store_row rfl 133 _ _ rfl w3.heap.size _ rfl rfl 133 (AO (List.replicate 64 0)) (heap_alloc_new _ _) hsz (by rw[AA,AA,hbl];rfl) hone ?_)
 generalize hW4:World.setRow _ _ _=W4;obtain⟨hr,b4,_⟩:=I1 w3 bs _ 133 (AO (List.replicate 64 0)) rfl hW4
 go_ret2
 refine⟨_,rfl,?_,(b2.trans (b3.mono b2.size)).trans (b4.mono (iP b2.size b3.size)),λb o n c e=>?_⟩
 .rw[HUS.out,HBS.out];have:=Sl.ofRow hr (by omega) hbb;rw[hbl]at this
  exact this
 .have:=iP b2.size b3.size;injection e with e1
  injection e1 with e2
  injection e2 with e3
  omega
theorem SG(hx:0<=x/\x<256)(hy:0<=y/\y<256):bits .xor .u8 x y=bx x y:=by
 obtain⟨a,rfl⟩:∃ a:Nat,x=a:=⟨x.toNat,by omega⟩;obtain⟨b,rfl⟩:∃ b:Nat,y=b:=⟨y.toNat,by omega⟩;rw[u8_xor_nat _ _ (by omega) (by omega)];rfl
theorem IJ{n:Nat}(h:w.ownsRow base e 1 v n xs){cs:Array Value}(hg:w.heap[g]?=some (.cells cs t fr))(ht:t≠e):v.ownBlock≠some g:=by
 intro hv;rcases h.2 with⟨rfl,_⟩|⟨g',cap,cur,rfl,_,hg',_⟩
 .simp[Value.ownBlock]at hv
 .simp only[Value.ownBlock,X']at hv;subst hv;rw[hg']at hg
  simp only[X',Obj.cells.injEq]at hg;exact ht hg.2.1.symm
theorem E8{n:Nat}(h:w.ownsRow base e 1 v n xs)(hk:∀ k,v.ownBlock=some k->w'.heap[k]?=w.heap[k]?):w'.ownsRow base e 1 v n xs:=by
 refine⟨h.1,?_⟩;rcases h.2 with h2|⟨g,cap,cur,hv,hb,hg,hr⟩
 .exact .inl h2
 .exact .inr ⟨g,cap,cur,hv,hb,(hk g (by rw[hv];rfl)).trans hg,hr⟩
theorem Sl.one2(w:World)(b b':Int)(e:TypeId)(hg:g=w.heap.size)(hb:0<=b/\b<256)(he:b'=b):Sl (w.alloc (.cells #[.int .u8 b'] e)) (.slice (some ⟨g,0,none⟩) 1 1) [b]:=by
 subst he;exact Sl.one w b' e hg hb
theorem YI(x:BitVec 32):(uw x+1)%(4294967296:Int)=uw (x+1#32):=CT x 1#32
theorem QV(c:BitVec 32)(q:Nat):c+BitVec.ofNat 32 q+1#32=c+BitVec.ofNat 32 (q+1):=by
 rw[BitVec.add_assoc]
 congr 1
 apply BitVec.eq_of_toNat_eq;simp[BitVec.toNat_add,BitVec.toNat_ofNat]
def Eo(ws:List (BitVec 32))(q:Nat):List (BitVec 32):=ws.set 12 (ws.getD 12 0#32+BitVec.ofNat 32 q)
theorem OW(ws:List (BitVec 32))(q:Nat):(Eo ws q).length=ws.length:=by simp[Eo]
theorem TY(ws:List (BitVec 32))(h:ws.length=16):Eo ws 0=ws:=by
 unfold Eo;rw[show BitVec.ofNat 32 0=0#32 from rfl,BitVec.add_zero,List.getD,E' (by omega),mj,List.set_getElem_self]
theorem Zo(ws:List (BitVec 32))(q:Nat)(h:ws.length=16):(Eo ws q).getD 12 0#32=ws.getD 12 0#32+BitVec.ofNat 32 q:=by
 unfold Eo;simp[List.getD,h]
theorem TX(ws:List (BitVec 32))(q:Nat)(h:ws.length=16):(Eo ws q).set 12 ((Eo ws q).getD 12 0#32+1#32)=Eo ws (q+1):=by
 rw[Zo ws q h,QV];unfold Eo;rw[List.set_set]
theorem Qm(ws:List (BitVec 32))(q j:Nat)(hj:j<64):Nu ws (64*q+j)=(Cq (Eo ws q)).getD j 0:=by
 unfold Nu Eo;rw[show(64*q+j)/64=q by omega,show(64*q+j)%64=j by omega]
theorem QP(ws:List (BitVec 32))(vd:Value)(d:List Int)(w:World)(hws:ws.length=16)(hd:Sl w vd d)(hl:d.length<=100000)(ht:CB w) :
  Calls prog 104 #[.agg (Av ws),vd] w λe w'=>∃ v',e=.returned v'/\w'.ownsRow w.heap.size 5 1 v' (PB ws d).length ((PB ws d).map (Value.int .u8))/\Bw w w':=by
 obtain⟨i0,hi,hz0,hz1,hz2⟩:=info_parts At;have hds:=hd;obtain⟨⟨ad,capd,rfl,hc,hn,h1⟩,hla,hba⟩:=hd;have hpos:=ht.pos;generalize hnn:d.length=n at *;have HN:Hid (d.length=n):=hnn;clear hnn h1 hn;go_enter func104,ntmps104
 go_wp2_with (at_make;refine wpList_make_own _ rfl _ _ 28 rfl w.heap.size 5 i0 (.int .u8 0) 1 underlying28 hi hz0 hz1 _ _ _ n rfl rfl (by omega) (by rw[hz2];omega) (by unfold maxLen;omega) (by simp) ?_)
 intro w1 ho1 hg1;have hrow:w1.heap[w.heap.size]?=some (.cells (Av (Eo ws 0)) 186 (0,0)):=by
  rw[hg1.block w.heap.size (by simp) (by simp),TY ws hws];exact heap_alloc_new _ _
 have hb1:Bw w w1:=((Below.refl _ _).alloc (A' _) _).grown hg1 (by simp) (by simp);have ho1':w1.ownsRow w.heap.size 5 1 (.slice (some ⟨w.heap.size+1,0,none⟩) 0 n) (CP ws d 0).length ((CP ws d 0).map (Value.int .u8)):=ho1;clear hg1 ho1 hz0 hz1 hz2 hi;go_wp2_with fail
 go_loopw [5] (λv wr=>∃ (q m:Nat) (a:Option Addr) (cap:Nat),m=min (64*q) n/\v=.slice a m cap/\wr.ownsRow w.heap.size 5 1 v (CP ws d m).length ((CP ws d m).map (Value.int .u8))/\wr.heap[w.heap.size]?=some (.cells (Av (Eo ws q)) 186 (0,0))/\Bw w wr) (λv _=>n-Xt v)
 case atStart=>exact⟨0,0,_,_,by omega,rfl,ho1',hrow,hb1⟩
 case round =>
  clear ho1' hrow hb1;obtain⟨q,m,a,cap,hm,rfl,hown,hrow,hb⟩:=hrel;have HM:Hid (m=min (64*q) n):=hm;have hmle:m<=n:=by omega
  clear hm;have hBlt:w.heap.size<wr.heap.size:=(H'.1 hrow).1;by_cases hmn:m<n
  .have hmni:(m:Int)<(n:Int):=by omega
   have HM64:Hid (m=64*q):=by have:=HM.out;unfold Hid;omega
   have hul:(Eo ws q).length=16:=by rw[OW];exact hws
   have HBL:Hid (∀ j,j<64->Nu ws (m+j)=(Cq (Eo ws q)).getD j 0):=λj hj=>by rw[HM64.out];exact Qm ws q j hj
   have hsz:(prog.info? 186).map (·.size)=some (Av (Eo ws q)).size:=by rw[AZ,hul];kernel_rfl
   have HSU:Hid ((Eo ws q).set 12 ((Eo ws q).getD 12 0#32+1#32)=Eo ws (q+1)):=TX ws q hws;generalize Eo ws q=us at hrow hul HBL hsz HSU;go_wp2_with ((with_reducible (refine CL ?_));refine wpList_load_row rfl 186 _ rfl w.heap.size rfl 186 _ (0,0) _ hrow underlying186 rfl hsz ?_)
   refine(GC us wr hul (ht.below hpos hb)).mono ?_;rintro e w2 ⟨rfl,b2⟩;have hbl:=Ek us;have hbb:=Fy us;generalize Cq us=bs at hbl hbb HBL;have hsz2:(prog.info? 133).map (·.size)=some (AO bs).size:=by rw[AA,hbl];kernel_rfl
   have hone:(AO bs).all (·.oneCell')=true:=by simp[AO,Value.oneCell']
   have hkeep:∀ k,Value.ownBlock (.slice a m cap)=some k->k<wr.heap.size:=λk hk=>(hown.lt k hk).2;by_cases h64:(64:Int)<=(n:Int)-(m:Int)
   .have HRr:Hid (m+64=min (64*(q+1)) n):=by have:=HM64.out;unfold Hid;omega
    have hrn:m+64<=n:=by omega
    have hr64:64<=64:=by omega
    go_wp2_with ((with_reducible (refine CL ?_));refine wpList_store_row rfl 133 _ _ rfl w2.heap.size _ rfl rfl 133 (AO (List.replicate 64 0)) (heap_alloc_new _ _) hsz2 (by rw[AA,AA,hbl];rfl) hone ?_)
    generalize hW3:World.setRow _ _ _=W3;obtain⟨hg3,b3,hs3⟩:=I1 w2 bs _ 133 (AO (List.replicate 64 0)) rfl hW3;clear hW3;have b23:Bw wr W3:=b2.trans (b3.mono b2.size);have hrow3:=(b23.block w.heap.size hBlt).trans hrow;have hown3:=E8 hown (λk hk=>b23.block k (hkeep k hk));have hb3:Bw w W3:=hb.trans (b23.mono hb.size);have hgB:w.heap.size<w2.heap.size:=Z' hBlt b2.size;clear hown hrow hb b2 b3 b23 hkeep hs3 hsz hsz2 hone hmn hmni;generalize w2.heap.size=g at hg3 hgB ⊢
    go_loopw [5,27] (λv i wr=>∃ (j:Nat) (a:Option Addr) (cap:Nat),j<=64/\i=.int .i64 j/\v=.slice a (m+j) cap/\wr.ownsRow w.heap.size 5 1 v (CP ws d (m+j)).length ((CP ws d (m+j)).map (Value.int .u8))/\wr.heap[w.heap.size]?=some (.cells (Av us) 186 (0,0))/\wr.heap[g]?=some (.cells (AO bs) 133 (0,0))/\Bw w wr) (λ_ i _=>64-(intOf i).toNat)
    case atStart=>exact⟨0,a,cap,by omega,rfl,rfl,hown3,hrow3,hg3,hb3⟩
    case round =>
     clear hown3 hrow3 hg3 hb3;obtain⟨j,a2,cap2,hj,rfl,rfl,hown,hrow,hg,hb⟩:=hrel;by_cases hjr:j<64
     .have hjri:(j:Int)<(64:Int):=by omega
      have hlt:=hown.lt;have cb:=(cell_of_row wr _ j _ _ _ hg).trans (DC bs j (by omega));obtain⟨bd,od,rfl,hbd,hcd⟩:∃ bd od,ad=some ⟨bd,od,none⟩/\bd<w.heap.size/\w.cell? ⟨bd,od+(m+j),none⟩=some (.int .u8 (d.getD (m+j) 0)):=by
       obtain⟨⟨a',cap',e',_,_,h1'⟩,_,_⟩:=hds;rw[HN.out]at e' h1'
       simp only[Value.slice.injEq]at e';obtain⟨rfl,_,_⟩:=e';rcases h1' with h1'|⟨b',o',rfl,hb',hc'⟩
       .have:=HN.out;rw[h1']at this;simp at this;omega
       .exact⟨b',o',rfl,hb',hc' (m+j) (by omega)⟩
      have cd:=(hb.cell (p:=⟨bd,od+(m+j),none⟩) hbd).trans hcd;have y1:=Al hbb j;have y2:=Al hba (m+j);have HV:Hid (CP ws d (m+(j+1))=CP ws d (m+j)++[bx (bs.getD j 0) (d.getD (m+j) 0)]):=by
       unfold Hid;rw[<- HBL.out j (by omega)];rfl
      have hml:=ES ws d (m+j);have HBX:=NJ y1 y2;have HXX:Hid (bits .xor .u8 (bs.getD j 0) (d.getD (m+j) 0)=bx (bs.getD j 0) (d.getD (m+j) 0)):=SG y1 y2;have HBB:Hid (0<=bx (bs.getD j 0) (d.getD (m+j) 0)/\bx (bs.getD j 0) (d.getD (m+j) 0)<256):=HBX;clear HBX hcd;generalize bs.getD j 0=x at cb y1 HV HXX HBB;generalize d.getD (m+j) 0=y at cd y2 HV HXX HBB;generalize bx x y=xy at HV HXX HBB;generalize CP ws d (m+j)=pre at hown hml HV;go_wp2_with (at_builtin;refine Aa _ rfl _ _ 28 rfl w.heap.size 5 underlying28 At _ _ rfl rfl pre [xy] (hown.alloc _) (Sl.one2 _ _ _ _ rfl HBB.out HXX.out) (by rw[hml];simp;omega) (by have:=hb.size;simp;omega) ?_)
      intro v' w' ho hgr;have ho':w'.ownsRow w.heap.size 5 1 v' (pre++[xy]).length ((pre++[xy]).map (Value.int .u8)):=by simpa[hml]using ho
      have hb':Bw w w':=(hb.alloc hb.size _).grown hgr (by have:=hb.size;simp;omega) (λk hk=>(hlt k hk).1);have n1:=IJ hown hrow (by decide);have n2:=IJ hown hg (by decide);have hBs:w.heap.size<wr.heap.size:=(H'.1 hrow).1;have hgs:g<wr.heap.size:=(H'.1 hg).1;have hrow':w'.heap[w.heap.size]?=some (.cells (Av us) 186 (0,0)):=((hgr.block w.heap.size (by simp;omega) n1.symm).trans (heap_alloc_old _ _ hBs)).trans hrow;have hg':w'.heap[g]?=some (.cells (AO bs) 133 (0,0)):=((hgr.block g (by simp;omega) n2.symm).trans (heap_alloc_old _ _ hgs)).trans hg;obtain⟨a3,c3,hv3⟩:=DZ ho';rw[G',hml,kJ]at hv3
      subst hv3;clear ho hgr hown hlt hb hrow hg cb cd n1 n2;go_wp2
      go_roundw
      case rel=>exact⟨j+1,a3,c3,by omega,by go_num,rfl,by rw[HV.out];exact ho',hrow',hg',hb'⟩
      case measure=>simp[intOf];omega
     .have hjri:¬ (j:Int)<(64:Int):=by omega
      have HJ:Hid (j=64):=by unfold Hid;omega
      have c12:=(cell_of_row wr _ 12 _ _ _ hrow).trans (BE us 12 (by omega));have f12:=frozen_of_row wr _ 12 _ _ hrow;generalize hcw:us.getD 12 0#32=cw at c12;have HCW:Hid (us.getD 12 0#32=cw):=hcw;clear hcw;have hinc:=YI cw;have n1:=IJ hown hrow (by decide);go_wp2
      go_roundw
      case rel =>
       refine⟨q+1,m+j,a2,cap2,by rw[HJ.out];exact HRr.out,rfl,E8 hown (λk hk=>heap_setCell_other _ _ _ _ (by simp;intro e;subst e;exact n1 hk)),?_,hb.setCell (p:=⟨w.heap.size,12,none⟩) (A' _) _⟩;rw[<- HSU.out,HCW.out];exact EB hrow 12 _
      case measure=>simp[Xt];have:=HJ.out;omega
   .obtain⟨r,hrsub⟩:∃ r:Nat,(n:Int)-(m:Int)=(r:Int):=⟨n-m,by omega⟩;have HRr:Hid (m+r=min (64*(q+1)) n):=by have:=HM64.out;unfold Hid;omega
    have hrn:m+r<=n:=by omega
    have hr64:r<=64:=by omega
    have hr64i:(r:Int)<=64:=by omega
    have hr0i:(0:Int)<=(r:Int):=by omega
    have hr1:0<r:=by omega
    go_wp2_with ((with_reducible (refine CL ?_));refine wpList_store_row rfl 133 _ _ rfl w2.heap.size _ rfl rfl 133 (AO (List.replicate 64 0)) (heap_alloc_new _ _) hsz2 (by rw[AA,AA,hbl];rfl) hone ?_)
    generalize hW3:World.setRow _ _ _=W3;obtain⟨hg3,b3,hs3⟩:=I1 w2 bs _ 133 (AO (List.replicate 64 0)) rfl hW3;clear hW3;have b23:Bw wr W3:=b2.trans (b3.mono b2.size);have hrow3:=(b23.block w.heap.size hBlt).trans hrow;have hown3:=E8 hown (λk hk=>b23.block k (hkeep k hk));have hb3:Bw w W3:=hb.trans (b23.mono hb.size);have hgB:w.heap.size<w2.heap.size:=Z' hBlt b2.size;clear hown hrow hb b2 b3 b23 hkeep hs3 hsz hsz2 hone hmn hmni;generalize w2.heap.size=g at hg3 hgB ⊢
    go_loopw [5,27] (λv i wr=>∃ (j:Nat) (a:Option Addr) (cap:Nat),j<=r/\i=.int .i64 j/\v=.slice a (m+j) cap/\wr.ownsRow w.heap.size 5 1 v (CP ws d (m+j)).length ((CP ws d (m+j)).map (Value.int .u8))/\wr.heap[w.heap.size]?=some (.cells (Av us) 186 (0,0))/\wr.heap[g]?=some (.cells (AO bs) 133 (0,0))/\Bw w wr) (λ_ i _=>r-(intOf i).toNat)
    case atStart=>exact⟨0,a,cap,by omega,rfl,rfl,hown3,hrow3,hg3,hb3⟩
    case round =>
     clear hown3 hrow3 hg3 hb3;obtain⟨j,a2,cap2,hj,rfl,rfl,hown,hrow,hg,hb⟩:=hrel;by_cases hjr:j<r
     .have hjri:(j:Int)<(r:Int):=by omega
      have hlt:=hown.lt;have cb:=(cell_of_row wr _ j _ _ _ hg).trans (DC bs j (by omega));obtain⟨bd,od,rfl,hbd,hcd⟩:∃ bd od,ad=some ⟨bd,od,none⟩/\bd<w.heap.size/\w.cell? ⟨bd,od+(m+j),none⟩=some (.int .u8 (d.getD (m+j) 0)):=by
       obtain⟨⟨a',cap',e',_,_,h1'⟩,_,_⟩:=hds;rw[HN.out]at e' h1'
       simp only[Value.slice.injEq]at e';obtain⟨rfl,_,_⟩:=e';rcases h1' with h1'|⟨b',o',rfl,hb',hc'⟩
       .have:=HN.out;rw[h1']at this;simp at this;omega
       .exact⟨b',o',rfl,hb',hc' (m+j) (by omega)⟩
      have cd:=(hb.cell (p:=⟨bd,od+(m+j),none⟩) hbd).trans hcd;have y1:=Al hbb j;have y2:=Al hba (m+j);have HV:Hid (CP ws d (m+(j+1))=CP ws d (m+j)++[bx (bs.getD j 0) (d.getD (m+j) 0)]):=by
       unfold Hid;rw[<- HBL.out j (by omega)];rfl
      have hml:=ES ws d (m+j);have HBX:=NJ y1 y2;have HXX:Hid (bits .xor .u8 (bs.getD j 0) (d.getD (m+j) 0)=bx (bs.getD j 0) (d.getD (m+j) 0)):=SG y1 y2;have HBB:Hid (0<=bx (bs.getD j 0) (d.getD (m+j) 0)/\bx (bs.getD j 0) (d.getD (m+j) 0)<256):=HBX;clear HBX hcd;generalize bs.getD j 0=x at cb y1 HV HXX HBB;generalize d.getD (m+j) 0=y at cd y2 HV HXX HBB;generalize bx x y=xy at HV HXX HBB;generalize CP ws d (m+j)=pre at hown hml HV;go_wp2_with (at_builtin;refine Aa _ rfl _ _ 28 rfl w.heap.size 5 underlying28 At _ _ rfl rfl pre [xy] (hown.alloc _) (Sl.one2 _ _ _ _ rfl HBB.out HXX.out) (by rw[hml];simp;omega) (by have:=hb.size;simp;omega) ?_)
      intro v' w' ho hgr;have ho':w'.ownsRow w.heap.size 5 1 v' (pre++[xy]).length ((pre++[xy]).map (Value.int .u8)):=by simpa[hml]using ho
      have hb':Bw w w':=(hb.alloc hb.size _).grown hgr (by have:=hb.size;simp;omega) (λk hk=>(hlt k hk).1);have n1:=IJ hown hrow (by decide);have n2:=IJ hown hg (by decide);have hBs:w.heap.size<wr.heap.size:=(H'.1 hrow).1;have hgs:g<wr.heap.size:=(H'.1 hg).1;have hrow':w'.heap[w.heap.size]?=some (.cells (Av us) 186 (0,0)):=((hgr.block w.heap.size (by simp;omega) n1.symm).trans (heap_alloc_old _ _ hBs)).trans hrow;have hg':w'.heap[g]?=some (.cells (AO bs) 133 (0,0)):=((hgr.block g (by simp;omega) n2.symm).trans (heap_alloc_old _ _ hgs)).trans hg;obtain⟨a3,c3,hv3⟩:=DZ ho';rw[G',hml,kJ]at hv3
      subst hv3;clear ho hgr hown hlt hb hrow hg cb cd n1 n2;go_wp2
      go_roundw
      case rel=>exact⟨j+1,a3,c3,by omega,by go_num,rfl,by rw[HV.out];exact ho',hrow',hg',hb'⟩
      case measure=>simp[intOf];omega
     .have hjri:¬ (j:Int)<(r:Int):=by omega
      have HJ:Hid (j=r):=by unfold Hid;omega
      have c12:=(cell_of_row wr _ 12 _ _ _ hrow).trans (BE us 12 (by omega));have f12:=frozen_of_row wr _ 12 _ _ hrow;generalize hcw:us.getD 12 0#32=cw at c12;have HCW:Hid (us.getD 12 0#32=cw):=hcw;clear hcw;have hinc:=YI cw;have n1:=IJ hown hrow (by decide);go_wp2
      go_roundw
      case rel =>
       refine⟨q+1,m+j,a2,cap2,by rw[HJ.out];exact HRr.out,rfl,E8 hown (λk hk=>heap_setCell_other _ _ _ _ (by simp;intro e;subst e;exact n1 hk)),?_,hb.setCell (p:=⟨w.heap.size,12,none⟩) (A' _) _⟩;rw[<- HSU.out,HCW.out];exact EB hrow 12 _
      case measure=>simp[Xt];have:=HJ.out;omega
  .have hmni:¬ (m:Int)<(n:Int):=by omega
   have HMN:Hid (n=m):=by unfold Hid;omega
   go_wp2
   go_ret;refine⟨_,rfl,?_,hb⟩;unfold PB;rw[HN.out,HMN.out];exact hown
theorem ao(vk vn vd:Value)(key nonce d:List Int)(c:Nat)(w:World)(hk:Sl w vk key)(hn:Sl w vn nonce)(hd:Sl w vd d)(lk:key.length=32)(ln:nonce.length=12)(hc:c<=1073741824)(ld:d.length<=2000)(ht:CB w) :
  Calls prog 66 #[vk,.int .i64 c,vn,vd] w λe w'=>∃ v',e=.returned (.tuple #[v',.int .i64 0])/\w'.ownsRow w.heap.size 5 1 v' (PB (BH key (BitVec.ofNat 32 c) nonce) d).length ((PB (BH key (BitVec.ofNat 32 c) nonce) d).map (Value.int .u8))/\Bw w w':=by
 have hds:=hd;obtain⟨⟨ad,capd,rfl,hcd,hnd,h1⟩,hla,hba⟩:=hd;clear h1;have ldi:(d.length:Int)<=2000:=by omega
 go_enter func66,ntmps66
 go_wp2_with fail
 refine(J0 vk vn key nonce c w hk hn).mono ?_;rintro e w1 ⟨rfl,rfl⟩;rw[I3 lk ln (by omega)];go_wp2_with fail
 refine(MF vk vn key nonce c w1 hk hn lk ln (by omega)).mono ?_;rintro e w2 ⟨rfl,b2⟩;have hl:=Gy key (BitVec.ofNat 32 c) nonce;generalize hus:BH key (BitVec.ofNat 32 c) nonce=us at hl;have HUS:Hid (BH key (BitVec.ofNat 32 c) nonce=us):=hus;clear hus;go_wp2_with fail
 refine(QP us _ d w2 hl (hds.below b2) (by omega) (ht.below ht.pos b2)).mono ?_;rintro e w3 ⟨v3,rfl,ho3,b3⟩;go_wp2
 go_ret2
 refine⟨v3,rfl,?_,b2.trans (b3.mono b2.size)⟩;rw[HUS.out];exact AV ho3 b2.size
def Ai(l:List Int):Array Value:=(l.map (Value.int .u64)).toArray
theorem Am(l:List Int):(Ai l).size=l.length:=by simp[Ai]
theorem Aq(l:List Int)(i:Nat)(h:i<l.length):(Ai l)[i]?=some (.int .u64 (l.getD i 0)):=by
 simp[Ai,List.getD,List.getElem?_eq_getElem h]
theorem X6(l:List Int)(i:Nat)(x:Int):(Ai l).setIfInBounds i (.int .u64 x)=Ai (l.set i x):=by
 apply ky;simp[Ai,List.map_set]
theorem DY(h:w.heap[g]?=some (.cells (Ai l) t (0,0)))(k:Nat)(x:Int) :
  (w.setCell ⟨g,k,none⟩ (.int .u64 x)).heap[g]?=some (.cells (Ai (l.set k x)) t (0,0)):=by
 rw[heap_setCell_same _ _ _ _ _ _ h,X6]
theorem Bq(l:List Int):(Ai l).all (·.oneCell')=true:=by simp[Ai,Value.oneCell']
theorem Na:∀ (S:List Int),S.length=5->∃ a b c d e,S=[a,b,c,d,e]
 | [a,b,c,d,e],_=>⟨a,b,c,d,e,rfl⟩
def val:List Int->Int
 | []=>0
 | x::l=>x+67108864*val l
def Lim(B:Int)(l:List Int):Prop:=l.length=5/\∀ j,0<=l.getD j 0/\l.getD j 0<B
theorem Lim.of5{a b d e:Int}(ha:0<=a/\a<B)(hb:0<=b/\b<B)(hc:0<=c/\c<B)(hd:0<=d/\d<B)(he:0<=e/\e<B):Lim B [a,b,c,d,e]:=by
 refine⟨rfl,λj=>?_⟩
 match j with
 | 0=>exact ha
 | 1=>exact hb
 | 2=>exact hc
 | 3=>exact hd
 | 4=>exact he
 | j+5=>simp[List.getD];omega
theorem Lim.split(h:Lim B l):∃ a b c d e,l=[a,b,c,d,e]/\(0<=a/\a<B)/\(0<=b/\b<B)/\(0<=c/\c<B)/\(0<=d/\d<B)/\(0<=e/\e<B):=by
 obtain⟨a,b,c,d,e,rfl⟩:=Na l h.1;exact⟨a,b,c,d,e,rfl,h.2 0,h.2 1,h.2 2,h.2 3,h.2 4⟩
theorem Lim.mono{C:Int}(h:Lim B l)(hBC:B<=C):Lim C l:=⟨h.1,λj=>⟨(h.2 j).1,by have:=(h.2 j).2;omega⟩⟩
theorem CU(a b c d e:Int):val [a,b,c,d,e]=a+67108864*b+4503599627370496*c+302231454903657293676544*d+20282409603651670423947251286016*e:=by
 simp only[val];omega
structure Carr(l m:List Int)(k:Nat)(o:Int):Prop where
 len:m.length=5
 sum:val m+o*67108864^k=val l
 done:∀ j,j<k->0<=m.getD j 0/\m.getD j 0<67108864
 rest:∀ j,k<=j->m.getD j 0=l.getD j 0
 lo:0<=o
 hi:o<274877906944
theorem Carr.zero(h:l.length=5):Carr l l 0 0:=⟨h,by omega,λ_ h=>by omega,λ_ _=>rfl,by omega,by omega⟩
theorem Carr.succ(h:Carr l m k o)(hl:Lim 9223372036854775808 l)(hk:k<5) :
  Carr l (m.set k ((m.getD k 0+o)%67108864)) (k+1) ((m.getD k 0+o)/67108864):=by
 obtain⟨l0,l1,l2,l3,l4,rfl,b0,b1,b2,b3,b4⟩:=hl.split;obtain⟨m0,m1,m2,m3,m4,rfl⟩:=Na m h.len;have hs:=h.sum;have hd:=h.done;have hr:=h.rest;have h1:=h.lo;have h2:=h.hi;rw[CU]at hs
 rw[CU]at hs
 obtain rfl|rfl|rfl|rfl|rfl:k=0\/k=1\/k=2\/k=3\/k=4:=by omega
 .have e0:m0=l0:=hr 0 (by omega);have e1:m1=l1:=hr 1 (by omega);have e2:m2=l2:=hr 2 (by omega);have e3:m3=l3:=hr 3 (by omega);have e4:m4=l4:=hr 4 (by omega);simp only[Y',je];refine⟨rfl,?_,λj hj=>?_,λj hj=>?_,by omega,by omega⟩
  .rw[CU,CU];omega
  .obtain rfl:j=0:=by omega
   simp only[je];omega
  .obtain⟨j,rfl⟩:∃ i,j=i+1:=⟨j-1,by omega⟩;have:=hr (j+1) (by omega);simpa using this
 .have e1:m1=l1:=hr 1 (by omega);have d0:0<=m0/\m0<67108864:=hd 0 (by omega);simp only[Y',iM,je,jq];refine⟨rfl,?_,λj hj=>?_,λj hj=>?_,by omega,by omega⟩
  .rw[CU,CU];omega
  .obtain rfl|rfl:j=0\/j=1:=by omega
   .exact d0
   .simp only[je,jq];omega
  .obtain⟨j,rfl⟩:∃ i,j=i+2:=⟨j-2,by omega⟩;have:=hr (j+2) (by omega);simpa using this
 .have e1:m2=l2:=hr 2 (by omega);have d0:0<=m0/\m0<67108864:=hd 0 (by omega);have d1:0<=m1/\m1<67108864:=hd 1 (by omega);simp only[Y',iM,je,jq];refine⟨rfl,?_,λj hj=>?_,λj hj=>?_,by omega,by omega⟩
  .rw[CU,CU];omega
  .obtain rfl|rfl|rfl:j=0\/j=1\/j=2:=by omega
   .exact d0
   .exact d1
   .simp only[je,jq];omega
  .obtain⟨j,rfl⟩:∃ i,j=i+3:=⟨j-3,by omega⟩;have:=hr (j+3) (by omega);simpa using this
 .have e1:m3=l3:=hr 3 (by omega);have d0:0<=m0/\m0<67108864:=hd 0 (by omega);have d1:0<=m1/\m1<67108864:=hd 1 (by omega);have d2:0<=m2/\m2<67108864:=hd 2 (by omega);simp only[Y',iM,je,jq];refine⟨rfl,?_,λj hj=>?_,λj hj=>?_,by omega,by omega⟩
  .rw[CU,CU];omega
  .obtain rfl|rfl|rfl|rfl:j=0\/j=1\/j=2\/j=3:=by omega
   .exact d0
   .exact d1
   .exact d2
   .simp only[je,jq];omega
  .obtain⟨j,rfl⟩:∃ i,j=i+4:=⟨j-4,by omega⟩;have:=hr (j+4) (by omega);simpa using this
 .have e1:m4=l4:=hr 4 (by omega);have d0:0<=m0/\m0<67108864:=hd 0 (by omega);have d1:0<=m1/\m1<67108864:=hd 1 (by omega);have d2:0<=m2/\m2<67108864:=hd 2 (by omega);have d3:0<=m3/\m3<67108864:=hd 3 (by omega);simp only[Y',iM,je,jq];refine⟨rfl,?_,λj hj=>?_,λj hj=>?_,by omega,by omega⟩
  .rw[CU,CU];omega
  .obtain rfl|rfl|rfl|rfl|rfl:j=0\/j=1\/j=2\/j=3\/j=4:=by omega
   .exact d0
   .exact d1
   .exact d2
   .exact d3
   .simp only[je,jq];omega
  .obtain⟨j,rfl⟩:∃ i,j=i+5:=⟨j-5,by omega⟩;simp[List.getD]
theorem Carr.five(h:Carr l m 5 o):Lim 67108864 m/\val m+1361129467683753853853498429727072845824*o=val l:=by
 refine⟨⟨h.len,λj=>?_⟩,?_⟩
 .by_cases hj:j<5
  .exact h.done j hj
  .rw[Gg (by have:=h.len;omega)];omega
 .have:=h.sum;omega
def pp:Int:=1361129467683753853853498429727072845819
theorem OB(h:l.length=5)(t:Nat)(ht:t<5)(y:Int):val (l.set t y)=val l+(y-l.getD t 0)*67108864^t:=by
 obtain⟨a,b,c,d,e,rfl⟩:=Na l h;obtain rfl|rfl|rfl|rfl|rfl:t=0\/t=1\/t=2\/t=3\/t=4:=by omega
 all_goals
  simp only[Y',iM,je,jq,CU];omega
def pv(n:List Int):Nat->Int
 | 0=>0
 | k+1=>pv n k+n.getD k 0*67108864^k
theorem Tp(h:n.length=5):pv n 5=val n:=by
 obtain⟨a,b,c,d,e,rfl⟩:=Na n h;simp only[pv,je,jq,CU];omega
structure Adds(l m r:List Int)(k:Nat):Prop where
 len:r.length=5
 done:∀ j,j<k->r.getD j 0=l.getD j 0+m.getD j 0
 rest:∀ j,k<=j->r.getD j 0=l.getD j 0
theorem Adds.zero(h:l.length=5):Adds l m l 0:=⟨h,λ_ h=>by omega,λ_ _=>rfl⟩
theorem AJ(h:k<l.length)(x:Int):(l.set k x).getD k 0=x:=by
 simp[List.getD,h]
theorem Ay(h:k≠j)(x:Int):(l.set k x).getD j 0=l.getD j 0:=by
 simp[List.getD,List.getElem?_set_ne h]
theorem Adds.succ(h:Adds l m r k)(hk:k<5):Adds l m (r.set k (r.getD k 0+m.getD k 0)) (k+1):=by
 refine⟨by simpa using h.len,λj hj=>?_,λj hj=>?_⟩
 .by_cases e:k=j
  .subst e;rw[AJ (by rw[h.len];omega),h.rest k (by omega)]
  .rw[Ay e];exact h.done j (by omega)
 .rw[Ay (by omega)];exact h.rest j (by omega)
theorem Adds.five(h:Adds l m r 5)(hl:Lim 67108864 l)(hm:Lim 67108864 m):Lim 134217728 r/\val r=val l+val m:=by
 obtain⟨l0,l1,l2,l3,l4,rfl,b0,b1,b2,b3,b4⟩:=hl.split;obtain⟨m0,m1,m2,m3,m4,rfl,c0,c1,c2,c3,c4⟩:=hm.split;obtain⟨r0,r1,r2,r3,r4,rfl⟩:=Na r h.len;have d0:r0=l0+m0:=h.done 0 (by omega);have d1:r1=l1+m1:=h.done 1 (by omega);have d2:r2=l2+m2:=h.done 2 (by omega);have d3:r3=l3+m3:=h.done 3 (by omega);have d4:r4=l4+m4:=h.done 4 (by omega);exact⟨Lim.of5 (by omega) (by omega) (by omega) (by omega) (by omega),by rw[CU,CU,CU];omega⟩
structure Prods(n m r:List Int)(i j:Nat):Prop where
 len:r.length=5
 sum:val r%pp=(pv n i*val m+n.getD i 0*67108864^i*pv m j)%pp
 low:∀ t,0<=r.getD t 0
 high:∀ t,r.getD t 0<=(5*(i:Int)+(j:Int))*45035996273704960
theorem Prods.zero(n m:List Int):Prods n m [0,0,0,0,0] 0 0:=by
 refine⟨rfl,?_,λt=>?_,λt=>?_⟩
 .simp[pv,val]
 .match t with
  | 0|1|2|3|4=>simp
  | t+5=>simp[List.getD]
 .match t with
  | 0|1|2|3|4=>simp
  | t+5=>simp[List.getD]
theorem GW(hx:0<=x/\x<134217728)(hy:0<=y/\y<67108864):0<=x*y/\x*y<=9007199254740992:=by
 refine⟨mE hx.1 hy.1,?_⟩;have h1:=mF (lM hx.2) (lM hy.2) hy.1 (by omega);omega
theorem Prods.low_step(h:Prods n m r i j)(hn:Lim 134217728 n)(hm:Lim 67108864 m)(hij:i+j<5) :
  Prods n m (r.set (i+j) (r.getD (i+j) 0+n.getD i 0*m.getD j 0)) i (j+1):=by
 have hb:=GW (hn.2 i) (hm.2 j);have h1:=h.low (i+j);have h2:=h.high (i+j);refine⟨by simpa using h.len,?_,λt=>?_,λt=>?_⟩
 .rw[OB h.len _ hij,lN,h.sum,<- lN]
  congr 1
  rw[kZ];simp only[pv]
  grind
 .by_cases e:i+j=t
  .subst e;rw[AJ (by rw[h.len];omega)];omega
  .rw[Ay e];exact h.low t
 .by_cases e:i+j=t
  .subst e;rw[AJ (by rw[h.len];omega)];omega
  .rw[Ay e];have:=h.high t;omega
theorem Prods.high_step(h:Prods n m r i j)(hn:Lim 134217728 n)(hm:Lim 67108864 m)(hij:5<=i+j)(hi:i<5)(hj:j<5) :
  Prods n m (r.set (i+j-5) (r.getD (i+j-5) 0+n.getD i 0*m.getD j 0*5)) i (j+1):=by
 have hb:=GW (hn.2 i) (hm.2 j);have h1:=h.low (i+j-5);have h2:=h.high (i+j-5);refine⟨by simpa using h.len,?_,λt=>?_,λt=>?_⟩
 .rw[OB h.len _ (by omega),lN,h.sum,<- lN];have e:(67108864:Int)^i*67108864^j=67108864^(i+j-5)*(pp+5):=by
   rw[<- kZ,show pp+5=(67108864:Int)^5 by unfold pp;rfl,<- kZ];congr 1;omega
  have e2:pv n i*val m+n.getD i 0*67108864^i*pv m (j+1)=pv n i*val m+n.getD i 0*67108864^i*pv m j+(r.getD (i+j-5) 0+n.getD i 0*m.getD j 0*5-r.getD (i+j-5) 0)*67108864^(i+j-5)+pp*(n.getD i 0*m.getD j 0*67108864^(i+j-5)):=by
   simp only[pv]
   grind
  rw[e2,lX]
 .by_cases e:i+j-5=t
  .subst e;rw[AJ (by rw[h.len];omega)];omega
  .rw[Ay e];exact h.low t
 .by_cases e:i+j-5=t
  .subst e;rw[AJ (by rw[h.len];omega)];omega
  .rw[Ay e];have:=h.high t;omega
theorem Prods.row(h:Prods n m r i 5)(hm:m.length=5):Prods n m r (i+1) 0:=by
 refine⟨h.len,?_,h.low,λt=>?_⟩
 .rw[h.sum,Tp hm]
  congr 1
  simp only[pv]
  grind
 .have:=h.high t;omega
theorem Prods.five(h:Prods n m r 5 0)(hn:n.length=5):Lim 1152921504606846976 r/\val r%pp=(val n*val m)%pp:=by
 refine⟨⟨h.len,λt=>⟨h.low t,?_⟩⟩,?_⟩
 .have:=h.high t;omega
 .rw[h.sum,Tp hn];congr 1;simp only[pv];grind
theorem R7(hn:Lim 67108864 n)(hc:Carr (n.set 0 (n.getD 0 0+5)) m 5 o):Lim 67108864 m/\(0<o->val m=val n%pp)/\(¬ 0<o->val n=val n%pp):=by
 obtain⟨h1,h2⟩:=hc.five;refine⟨h1,?_⟩;have o1:=hc.lo;obtain⟨n0,n1,n2,n3,n4,rfl,b0,b1,b2,b3,b4⟩:=hn.split;obtain⟨m0,m1,m2,m3,m4,rfl,c0,c1,c2,c3,c4⟩:=h1.split;simp only[Y',je]at h2;have v1:val [n0+5,n1,n2,n3,n4]=val [n0,n1,n2,n3,n4]+5:=by rw[CU,CU];omega
 have v2:0<=val [n0,n1,n2,n3,n4]/\val [n0,n1,n2,n3,n4]<1361129467683753853853498429727072845824:=by rw[CU];omega
 have v3:0<=val [m0,m1,m2,m3,m4]/\val [m0,m1,m2,m3,m4]<1361129467683753853853498429727072845824:=by rw[CU];omega
 rw[v1]at h2
 generalize val [n0,n1,n2,n3,n4]=V at *;generalize val [m0,m1,m2,m3,m4]=M at *;unfold pp;constructor
 .intro ho;obtain rfl:o=1:=by omega
  omega
 .intro ho;obtain rfl:o=0:=by omega
  omega
end
end
end Go.Proofs.YtalbmmghmoggcadGreatDoor
