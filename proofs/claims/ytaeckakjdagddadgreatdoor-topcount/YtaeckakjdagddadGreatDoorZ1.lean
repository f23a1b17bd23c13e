/- Part 1 of the walk. -/
import Derived.WalkKit
import Derived.ProofKit
import Derived.Laws.AppendOwnNone
import Derived.Laws.BytesArg
import Derived.BigQuiet
import Derived.OpenShut
set_option maxRecDepth 100000
set_option maxHeartbeats 4000000
namespace Go.Proofs.YtaeckakjdagddadGreatDoor
section
open Go.RowKit Go.ChangeShapes Go.WideShapes Go.ChangeAt
abbrev Bw(w w':World):Prop:=Below w.heap.size w w'
abbrev zV5:Array Value:=#[.int .i64 0,.int .i64 0,.int .i64 0,.int .i64 0,.int .i64 0]
abbrev zV8:Array Value:=#[.int .i64 0,.int .i64 0,.int .i64 0,.int .i64 0,.int .i64 0,.int .i64 0,.int .i64 0,.int .i64 0]
structure Sl(w:World)(v:Value)(l:List Int):Prop where
 ex:∃ a cap,v=.slice a l.length cap∧l.length≤cap∧(a=none→cap=0)∧(l=[]∨∃ b off,a=some ⟨b,off,none⟩∧b<w.heap.size∧∀ i,i<l.length→w.cell? ⟨b,off+i,none⟩=some (.int .u8 (l.getD i 0)))
 len:l.length≤140737488351232
 byte:∀ x∈l,0≤x∧x<256
theorem Sl.below{w w':World}{v:Value}{l:List Int}(h:Sl w v l)(hb:Below w.heap.size w w'):Sl w' v l:=by
 obtain⟨⟨a,cap,rfl,hc,hn,h1⟩,h2,h3⟩:=h;refine⟨⟨a,cap,rfl,hc,hn,?_⟩,h2,h3⟩;rcases h1 with h1|⟨b,off,ha,hbs,hcell⟩
 ·exact .inl h1
 ·exact .inr ⟨b,off,ha,Nat.lt_of_lt_of_le hbs hb.size,fun i hi=>(hb.cell (p:=⟨b,off+i,none⟩) hbs).trans (hcell i hi)⟩
theorem Sl.nil(w:World)(a:Option Addr):Sl w (.slice a 0 0) []:=⟨⟨a,0,rfl,by simp,by simp,.inl rfl⟩,by simp,by simp⟩
theorem Sl.ofOwns{w:World}{base e:Nat}{v:Value}{l:List Int}(h:w.ownsRow base e 1 v l.length (l.map (Value.int .u8)))(hl:l.length≤140737488351232)(hb:∀ x∈l,0≤x∧x<256):Sl w v l:=by
 refine⟨?_,hl,hb⟩;rcases h.2 with⟨rfl,h0⟩|⟨g,cap,cur,rfl,_,hg,hn,_,hcs,ht⟩
 ·exact⟨none,0,by rw[h0],by omega,fun _=>rfl,.inl (List.eq_nil_of_length_eq_zero h0)⟩
 ·refine⟨_,cap,rfl,hn,by simp,.inr ⟨g,0,rfl,(Array.getElem?_eq_some_iff.1 hg).1,fun i hi=>?_⟩⟩;have hc:=h.cells (g:=g) rfl i (.int .u8 (l.getD i 0)) (by simp[List.getElem?_eq_getElem hi,List.getD]);have hadd:(⟨g,0,none⟩:Addr).add i=⟨g,i,none⟩:=by unfold Addr.add;split<;>simp_all
  rw[hadd]at hc
  simpa using hc
theorem AL{l:List Int}{i:Nat}(hi:i<l.length):l.getD i 0=l[i]:=by simp[List.getD,List.getElem?_eq_getElem hi]
theorem FK{l:List Int}{i:Nat}(hi:l.length≤i):l.getD i 0=0:=by simp[List.getD,List.getElem?_eq_none hi]
theorem Aj{l:List Int}(h:∀ x∈l,0≤x∧x<256)(i:Nat):0≤l.getD i 0∧l.getD i 0<256:=by
 rcases Nat.lt_or_ge i l.length with hi|hi
 ·rw[AL hi];exact h _ (List.getElem_mem hi)
 ·rw[FK hi];omega
theorem Em(l:List Int):∀ u∈l.map (Value.int .u8),u.oneCell'=true:=by
 intro u hu;obtain⟨x,_,rfl⟩:=List.mem_map.1 hu;rfl
theorem Gg{P:Program}(w:World)(base t ty e:Nat)(ht:P.underlying t=some (.slice e))(hinfo:(P.info? e).map (fun i=>(i.zero,i.size,i.bytes))=some (some (.int .u8 0),1,1))
  (v:Value)(l:List Int)(hown:w.ownsRow base e 1 v l.length (l.map (Value.int .u8)))(u:Value)(m:List Int)(hu:Sl w u m)
  (hlen:l.length+m.length≤140737488355328)(hbase:base≤w.heap.size) :
  ∃ v' w',(Builtin.append_ #[t,t] ty #[v,u]).run P w=.ok v' w'∧w'.ownsRow base e 1 v' (l++m).length ((l++m).map (Value.int .u8))∧w.grownBy w' v.ownBlock:=by
 obtain⟨i,hi,hz,hsz,hby⟩:=info_parts hinfo;obtain⟨⟨a,cap,rfl,hc,hn,h1⟩,_,_⟩:=hu;cases a with
 | none =>
  have hc0:=hn rfl;subst hc0;have hm:m=[]:=List.eq_nil_of_length_eq_zero (by omega);subst hm;refine⟨v,w,?_,by simpa using hown,⟨rfl,rfl,rfl,Nat.le_refl _,fun _ _ _=>rfl⟩⟩;exact run_append_owned_none (P:=P) (w:=w) base t ty e i 1 ht hi v l.length _ hown
 | some ad =>
  have hcells:∀ j u,(m.map (Value.int .u8))[j]?=some u→w.cell? (ad.add j)=some u:=by
   intro j u hj;rcases h1 with rfl|⟨b,off,hab,_,hcell⟩
   ·simp at hj
   ·obtain rfl:ad=⟨b,off,none⟩:=by simpa using hab
    have hjl:j<m.length:=by
     have:=(List.getElem?_eq_some_iff.1 hj).1;simpa using this
    have hadd:(⟨b,off,none⟩:Addr).add j=⟨b,off+j,none⟩:=by unfold Addr.add;split<;>simp_all
    rw[hadd,hcell j hjl];simp[List.getElem?_eq_getElem hjl]at hj
    rw[AL hjl,hj]
  obtain⟨v',w',hr,ho,hg,_⟩:=run_append_own (P:=P) w base t ty e i (.int .u8 0) 1 1 ht hi hz hsz hby rfl (by decide) v l.length _ hown ad m.length cap (m.map (Value.int .u8)) (by simp) hcells (Em m)
   (by unfold maxLen;omega) (by omega) hbase
  exact⟨v',w',hr,by simpa using ho,hg⟩
theorem Aa{P:Program}(w:World){ops:Array Oper}{rest:List Oper}{o:Oper}{a:Act}{Q:Exit→Act→World→Prop}(hgd:o.guard=none)(s x:Operand)(t:TypeId)
  (ho:o.op=.call { callee:=.builtin .append,args:=#[s,x],argTypes:=#[t,t] })
  (base e:Nat)(ht:P.underlying t=some (.slice e))(hinfo:(P.info? e).map (fun i=>(i.zero,i.size,i.bytes))=some (some (.int .u8 0),1,1))
  (v u:Value)(hs:a.eval s=v)(hx:a.eval x=u)(l m:List Int)(hown:w.ownsRow base e 1 v l.length (l.map (Value.int .u8)))(hu:Sl w u m)
  (hlen:l.length+m.length≤140737488355328)(hbase:base≤w.heap.size)
  (h:∀ v' w',w'.ownsRow base e 1 v' (l++m).length ((l++m).map (Value.int .u8))→w.grownBy w' v.ownBlock→wpList P ops Q rest (a.put o.dst v') w'):wpList P ops Q (o::rest) a w:=by
 refine wpList_plain hgd fun K hK=>?_;obtain⟨v',w',hrun,r1,r2⟩:=Gg (P:=P) w base t o.type e ht hinfo v l hown u m hu hlen hbase;unfold Oper.wp execOp;simp only[ho,resolve,invoke,builtin,Sem.run_bind,Sem.run_pure,Result.andThen_ok,List.map_toArray,List.map_cons,List.map_nil,hs,hx,hrun];exact hK _ _ (h v' w' r1 r2)
theorem Sl.take{w:World}{a:Option Addr}{cap n:Nat}{l:List Int}(h:Sl w (.slice a n cap) l)(m:Nat)(hm:m≤l.length):Sl w (.slice a m cap) (l.take m):=by
 obtain⟨⟨a',cap',e,hc,hn,h1⟩,hla,hba⟩:=h;simp only[Value.slice.injEq]at e;obtain⟨rfl,rfl,rfl⟩:=e;have hl:(l.take m).length=m:=by rw[List.length_take];omega
 refine⟨⟨a,cap,by rw[hl],by omega,hn,?_⟩,by omega,fun x hx=>hba x (List.mem_of_mem_take hx)⟩;rcases h1 with rfl|⟨b,off,rfl,hb,hcell⟩
 ·exact .inl (by simp)
 ·refine .inr ⟨b,off,rfl,hb,fun i hi=>?_⟩;rw[hcell i (by omega),AL (by omega),AL hi];simp
theorem Sl.drop{w:World}{b off n cap:Nat}{l:List Int}(h:Sl w (.slice (some ⟨b,off,none⟩) n cap) l)(k:Nat)(hk:k≤l.length)(c':Nat)(hc':l.length≤c'+k):Sl w (.slice (some ⟨b,off+k,none⟩) (l.length-k) c') (l.drop k):=by
 obtain⟨⟨a',cap',e,hc,hn,h1⟩,hla,hba⟩:=h;simp only[Value.slice.injEq]at e;obtain⟨rfl,rfl,rfl⟩:=e;have hl:(l.drop k).length=l.length-k:=by rw[List.length_drop]
 refine⟨⟨_,c',by rw[hl],by omega,by simp,?_⟩,by omega,fun x hx=>hba x (List.mem_of_mem_drop hx)⟩;rcases h1 with rfl|⟨b,off,e,hb,hcell⟩
 ·exact .inl (by simp)
 ·simp only[Option.some.injEq,Addr.mk.injEq,and_true]at e;obtain⟨rfl,rfl⟩:=e;refine .inr ⟨_,_,rfl,hb,fun i hi=>?_⟩;rw[Nat.add_assoc,hcell (k+i) (by omega),AL (by omega),AL hi];simp
theorem D2{w:World}{base e:Nat}{v:Value}{l:List Int}(h:w.ownsRow base e 1 v l.length (l.map (Value.int .u8)))(hl:l≠[]) :
  ∃ g cap,v=.slice (some ⟨g,0,none⟩) l.length cap∧base≤g∧g<w.heap.size∧l.length≤cap∧(∀ i,i<l.length→w.cell? ⟨g,i,none⟩=some (.int .u8 (l.getD i 0)))∧(∀ i,w.frozen? ⟨g,i,none⟩=false):=by
 rcases h.2 with⟨rfl,h0⟩|⟨g,cap,cur,rfl,hb,hg,hn,_,hcs,ht⟩
 ·exact absurd (List.eq_nil_of_length_eq_zero h0) hl
 ·refine⟨g,cap,rfl,hb,(Array.getElem?_eq_some_iff.1 hg).1,hn,fun i hi=>?_,fun i=>?_⟩
  ·have hc:=h.cells (g:=g) rfl i (.int .u8 (l.getD i 0)) (by simp[List.getElem?_eq_getElem hi,List.getD]);have hadd:(⟨g,0,none⟩:Addr).add i=⟨g,i,none⟩:=by unfold Addr.add;split<;>simp_all
   rwa [hadd]at hc
  ·simp[World.frozen?,hg]
theorem Sl.built(w:World)(l:List Int)(e:TypeId){g:Nat}(hg:g=w.heap.size)(hl:l.length≤140737488351232)(hb:∀ x∈l,0≤x∧x<256):Sl (w.alloc (.cells (l.map (Value.int .u8)).toArray e)) (.slice (some ⟨g,0,none⟩) l.length l.length) l:=by
 subst hg;refine⟨⟨_,l.length,rfl,by simp,by simp,.inr ⟨w.heap.size,0,rfl,by simp,fun i hi=>?_⟩⟩,hl,hb⟩;rw[cell_of_row _ _ (0+i) _ _ _ (heap_alloc_new w _)];simp[List.getElem?_eq_getElem hi,List.getD]
theorem Sl.one(w:World)(b:Int)(e:TypeId){g:Nat}(hg:g=w.heap.size)(hb:0≤b∧b<256):Sl (w.alloc (.cells #[.int .u8 b] e)) (.slice (some ⟨g,0,none⟩) 1 1) [b]:=by
 subst hg;refine⟨⟨_,1,rfl,by simp,by simp,.inr ⟨w.heap.size,0,rfl,by simp,fun i hi=>?_⟩⟩,by simp,by simpa using hb⟩;obtain rfl:i=0:=by simpa using hi
 simp
theorem Sl.drew{w:World}{v:Value}{l:List Int}(h:Sl w v l):Sl w.drew v l:=h.below (Below.refl _ _).drew
theorem Ac{a b:Bool}(h:a=b):Ending.returned (.bool a)=.returned (.bool b):=by rw[h]
theorem An{B:Nat}{a w:World}(h:Below B a w)(n:Nat):Below B a (w.drewN n):=h.trans ⟨rfl,rfl,rfl,Nat.le_refl _,fun _ _=>rfl⟩
end
section
open Go.RowKit
def Wr:Value→Nat
 | .slice _ n _=>n
 | _=>0
theorem DJ{w:World}{base e:Nat}{v:Value}{n:Nat}{xs:List Value}(h:w.ownsRow base e 1 v n xs):∃ a cap,v=.slice a n cap:=by
 rcases h.2 with⟨rfl,rfl⟩|⟨g,cap,cur,rfl,_⟩
 ·exact⟨none,0,rfl⟩
 ·exact⟨_,cap,rfl⟩
theorem AN{w:World}{base base':Nat}{e:TypeId}{size:Nat}{v:Value}{n:Nat}{xs:List Value}(h:w.ownsRow base e size v n xs)(hb:base'≤base):w.ownsRow base' e size v n xs:=by
 refine⟨h.1,?_⟩;rcases h.2 with h2|⟨g,cap,cur,hv,hg,hr⟩
 ·exact .inl h2
 ·exact .inr ⟨g,cap,cur,hv,Nat.le_trans hb hg,hr⟩
theorem KM(l:List Int)(j:Nat):l++List.replicate j 0++[0]=l++List.replicate (j+1) 0:=by
 rw[List.append_assoc,← List.replicate_succ']
theorem Sl.shape{w:World}{v:Value}{l:List Int}(h:Sl w v l):∃ a cap,v=.slice a l.length cap:=by
 obtain⟨⟨a,cap,e,_⟩,_⟩:=h;exact⟨a,cap,e⟩
def AJ(l:List Int):Array Value:=(l.map (Value.int .u8)).toArray
theorem Aw(l:List Int):(AJ l).size=l.length:=by simp[AJ]
theorem JM(l:List Int):(AJ l).all (·.oneCell')=true:=by simp[AJ,Value.oneCell']
theorem Dv(l:List Int)(i:Nat)(h:i<l.length):(AJ l)[i]?=some (.int .u8 (l.getD i 0)):=by
 simp[AJ,List.getD,List.getElem?_eq_getElem h]
theorem Va(l:List Int)(i:Nat)(x:Int):(AJ l).setIfInBounds i (.int .u8 x)=AJ (l.set i x):=by
 apply Array.ext';simp[AJ,List.map_set]
def uw(x:BitVec 32):Int:=(x.toNat:Int)
theorem Df(x:BitVec 32):0≤uw x:=Int.natCast_nonneg _
theorem XQ(x:BitVec 32):uw x<4294967296:=by unfold uw;have:=x.isLt;omega
theorem RC{x y:BitVec 32}:uw x=uw y↔x=y:=by
 unfold uw;constructor
 ·intro h;exact BitVec.eq_of_toNat_eq (by omega)
 ·rintro rfl;rfl
theorem Lb(x y:BitVec 32):bits .and .u32 (uw x) (uw y)=uw (x &&& y):=by
 unfold uw;rw[u32_and_nat _ _ x.isLt y.isLt,BitVec.toNat_and]
theorem Jg(x y:BitVec 32):bits .or .u32 (uw x) (uw y)=uw (x ||| y):=by
 unfold uw;rw[u32_or_nat _ _ x.isLt y.isLt,BitVec.toNat_or]
theorem CR(x y:BitVec 32):bits .xor .u32 (uw x) (uw y)=uw (x ^^^ y):=by
 unfold uw;rw[u32_xor_nat _ _ x.isLt y.isLt,BitVec.toNat_xor]
theorem gB(x y:BitVec 32):IntKind.u32.wrap (uw x+uw y)=uw (x+y):=by
 unfold uw;rw[IntKind.wrap_u32',BitVec.toNat_add];omega
theorem CH(a b:BitVec 32):(uw a+uw b)%(4294967296:Int)=uw (a+b):=by
 unfold uw;rw[BitVec.toNat_add];omega
theorem am(a b c:BitVec 32):(uw a+uw b+uw c)%(4294967296:Int)=uw (a+b+c):=by
 rw[← CH,← CH];omega
theorem SG(a b c d:BitVec 32):(uw a+uw b+uw c+uw d)%(4294967296:Int)=uw (a+b+c+d):=by
 rw[← CH,← am];omega
theorem F6(x:BitVec 32)(k:Nat):uw x*(2:Int)^k%(4294967296:Int)=uw (x <<< k):=by
 unfold uw;rw[BitVec.toNat_shiftLeft,Nat.shiftLeft_eq,Int.natCast_emod,Int.natCast_mul,Int.natCast_pow];rfl
theorem NJ(x:BitVec 32)(k:Nat):uw x/(2:Int)^k=uw (x >>> k):=by
 unfold uw;rw[BitVec.toNat_ushiftRight,Nat.shiftRight_eq_div_pow,Int.natCast_ediv,Int.natCast_pow];rfl
theorem al(x:BitVec 32):uw x/(8:Int)=uw (x >>> 3):=NJ x 3
theorem XS(x:BitVec 32):uw x/(1024:Int)=uw (x >>> 10):=NJ x 10
theorem dP(x:BitVec 32)(n:Nat)(h0:1≤n)(h1:n≤31):bits .or .u32 (uw x*2^(32-n)%4294967296) (uw x/2^(32-(32-n)))=uw (x.rotateRight n):=by
 rw[F6,NJ,Jg,RC];rw[show 32-(32-n)=n by omega,BitVec.rotateRight_def,Nat.mod_eq_of_lt (by omega:n<32),BitVec.or_comm]
def Ew(n:Nat):Nat:=(119-n%64)%64
def Cc(n:Nat):List Int:=[((n*8/2^56%256:Nat):Int),((n*8/2^48%256:Nat):Int),((n*8/2^40%256:Nat):Int),((n*8/2^32%256:Nat):Int),
 ((n*8/2^24%256:Nat):Int),((n*8/2^16%256:Nat):Int),((n*8/2^8%256:Nat):Int),((n*8/2^0%256:Nat):Int)]
def Ce(l:List Int)(j:Nat):List Int:=l++[128]++List.replicate j 0
def pad(l:List Int):List Int:=Ce l (Ew l.length)++Cc l.length
theorem CE(l:List Int)(j:Nat):(Ce l j).length=l.length+1+j:=by simp[Ce];omega
theorem Re(l:List Int)(j:Nat):Ce l j++[0]=Ce l (j+1):=by
 simp only[Ce,List.append_assoc];rw[← List.replicate_succ']
theorem Jp(n:Nat):(Cc n).length=8:=rfl
theorem Rf(l:List Int):(pad l).length%64=0∧l.length<(pad l).length∧(pad l).length≤l.length+72:=by
 unfold pad;rw[List.length_append,CE,Jp];unfold Ew;omega
theorem Rd{l:List Int}(h:∀ x∈l,0≤x∧x<256)(j:Nat):∀ x∈Ce l j,0≤x∧x<256:=by
 intro x hx;simp only[Ce,List.mem_append,List.mem_singleton,List.mem_replicate]at hx;rcases hx with(hx|rfl)|⟨_,rfl⟩
 ·exact h x hx
 ·omega
 ·omega
theorem Lz(n:Nat):∀ x∈Cc n,0≤x∧x<256:=by
 intro x hx;simp only[Cc,List.mem_cons,List.not_mem_nil,or_false]at hx;rcases hx with rfl|rfl|rfl|rfl|rfl|rfl|rfl|rfl<;>omega
theorem WQ{l:List Int}(h:∀ x∈l,0≤x∧x<256):∀ x∈pad l,0≤x∧x<256:=by
 intro x hx;rcases List.mem_append.1 hx with h1|h1
 ·exact Rd h _ x h1
 ·exact Lz _ x h1
theorem Nf(n s:Nat):((n*8/2^s%256:Nat):Int)=(n:Int)*8/2^s%256:=by
 rw[Int.natCast_emod,Int.natCast_ediv,Int.natCast_mul,Int.natCast_pow];rfl
theorem L2(n k:Nat)(hk:k<8):(Cc n).take (k+1)=(Cc n).take k++[(n:Int)*8/2^(56-8*k)%256]:=by
 rw[← Nf];obtain rfl|rfl|rfl|rfl|rfl|rfl|rfl|rfl:k=0∨k=1∨k=2∨k=3∨k=4∨k=5∨k=6∨k=7:=by omega
 all_goals rfl
def Au(ws:List (BitVec 32)):Array Value:=(ws.map fun x=>Value.int .u32 (uw x)).toArray
theorem AQ(ws:List (BitVec 32)):(Au ws).size=ws.length:=by simp[Au]
theorem Bp(ws:List (BitVec 32))(i:Nat)(h:i<ws.length):(Au ws)[i]?=some (.int .u32 (uw (ws.getD i 0#32))):=by
 simp[Au,List.getD,List.getElem?_eq_getElem h]
theorem Lg(ws:List (BitVec 32))(i:Nat)(x:BitVec 32):(Au ws).setIfInBounds i (.int .u32 (uw x))=Au (ws.set i x):=by
 apply Array.ext';simp[Au,List.map_set]
def BS(n:Int):BitVec 32:=BitVec.ofNat 32 n.toNat
def RH(l:List Int)(i:Nat):BitVec 32:=BS (l.getD (4*i) 0) <<< 24 ||| BS (l.getD (4*i+1) 0) <<< 16 ||| BS (l.getD (4*i+2) 0) <<< 8 ||| BS (l.getD (4*i+3) 0)
def dz(x:BitVec 32):BitVec 32:=x.rotateRight 7 ^^^ x.rotateRight 18 ^^^ x >>> 3
def d8(x:BitVec 32):BitVec 32:=x.rotateRight 17 ^^^ x.rotateRight 19 ^^^ x >>> 10
def Jt(l:List Int):Nat→List (BitVec 32)
 | 0=>List.replicate 64 0#32
 | k+1=>(Jt l k).set k (RH l k)
def W9(ws:List (BitVec 32))(i:Nat):BitVec 32:=ws.getD (i-16) 0#32+dz (ws.getD (i-15) 0#32)+ws.getD (i-7) 0#32+d8 (ws.getD (i-2) 0#32)
def EX(l:List Int):Nat→List (BitVec 32)
 | 0=>Jt l 16
 | k+1=>(EX l k).set (16+k) (W9 (EX l k) (16+k))
def M2(l:List Int):List (BitVec 32):=EX l 48
theorem Fy(l:List Int)(k:Nat):(Jt l k).length=64:=by
 induction k with
 | zero=>simp[Jt]
 | succ k ih=>simp[Jt,ih]
theorem DL(l:List Int)(k:Nat):(EX l k).length=64:=by
 induction k with
 | zero=>exact Fy l 16
 | succ k ih=>simp[EX,ih]
theorem Nv(l:List Int):(M2 l).length=64:=DL l 48
theorem JE(n:Int)(h:0≤n∧n<256):uw (BS n)=n:=by
 unfold uw BS;rw[BitVec.toNat_ofNat];omega
def QC:List Int:=[1116352408,1899447441,3049323471,3921009573,961987163,1508970993,2453635748,2870763221,3624381080,310598401,607225278,1426881987,1925078388,2162078206,2614888103,3248222580,3835390401,4022224774,264347078,604807628,770255983,1249150122,1555081692,1996064986,2554220882,2821834349,2952996808,3210313671,3336571891,3584528711,113926993,338241895,666307205,773529912,1294757372,1396182291,1695183700,1986661051,2177026350,2456956037,2730485921,2820302411,3259730800,3345764771,3516065817,3600352804,4094571909,275423344,430227734,506948616,659060556,883997877,958139571,1322822218,1537002063,1747873779,1955562222,2024104815,2227730452,2361852424,2428436474,2756734187,3204031479,3329325298]
def kAt(i:Nat):BitVec 32:=BitVec.ofNat 32 (QC.getD i 0).toNat
structure St where
 a:BitVec 32
 b:BitVec 32
 c:BitVec 32
 d:BitVec 32
 e:BitVec 32
 f:BitVec 32
 g:BitVec 32
 h:BitVec 32
def St.cells(s:St):Array Value:=#[.int .u32 (uw s.a),.int .u32 (uw s.b),.int .u32 (uw s.c),.int .u32 (uw s.d),.int .u32 (uw s.e),.int .u32 (uw s.f),.int .u32 (uw s.g),.int .u32 (uw s.h)]
def St.list(s:St):List (BitVec 32):=[s.a,s.b,s.c,s.d,s.e,s.f,s.g,s.h]
def Qc(e f g:BitVec 32):BitVec 32:=(e &&& f) ^^^ (~~~e &&& g)
def most(a b c:BitVec 32):BitVec 32:=(a &&& b) ^^^ (a &&& c) ^^^ (b &&& c)
def en(e:BitVec 32):BitVec 32:=e.rotateRight 6 ^^^ e.rotateRight 11 ^^^ e.rotateRight 25
def el(a:BitVec 32):BitVec 32:=a.rotateRight 2 ^^^ a.rotateRight 13 ^^^ a.rotateRight 22
def upS(s:St)(k w:BitVec 32):BitVec 32:=s.h+en s.e+Qc s.e s.f s.g+k+w
def aL(s:St):BitVec 32:=el s.a+most s.a s.b s.c
def X4(s:St)(k w:BitVec 32):St:={ a:=upS s k w+aL s,b:=s.a,c:=s.b,d:=s.c,e:=s.d+upS s k w,f:=s.e,g:=s.f,h:=s.g }
def Bl(ws:List (BitVec 32))(s:St):Nat→St
 | 0=>s
 | k+1=>X4 (Bl ws s k) (kAt k) (ws.getD k 0#32)
def fZ(s t:St):St:={ a:=s.a+t.a,b:=s.b+t.b,c:=s.c+t.c,d:=s.d+t.d,e:=s.e+t.e,f:=s.f+t.f,g:=s.g+t.g,h:=s.h+t.h }
def Dt(s t:St):Nat→List (BitVec 32)
 | 0=>s.list
 | i+1=>(Dt s t i).set i ((Dt s t i).getD i 0#32+t.list.getD i 0#32)
theorem Ey(s t:St)(i:Nat):(Dt s t i).length=8:=by
 induction i with
 | zero=>rfl
 | succ i ih=>simp[Dt,ih]
def Wx(s:St)(ws:List (BitVec 32)):St:=fZ s (Bl ws s 64)
def start:St:={ a:=1779033703#32,b:=3144134277#32,c:=1013904242#32,d:=2773480762#32,e:=1359893119#32,f:=2600822924#32,g:=528734635#32,h:=1541459225#32 }
def Ez(x:BitVec 32):List Int:=[uw x/16777216%256,uw x/65536%256,uw x/256%256,uw x%256]
def BW:List (BitVec 32)→List Int
 | []=>[]
 | x::r=>Ez x++BW r
def MO(s:St):List Int:=BW s.list
theorem IB(x:BitVec 32):∀ n∈Ez x,0≤n∧n<256:=by
 intro n hn;simp only[Ez,List.mem_cons,List.not_mem_nil,or_false]at hn;rcases hn with rfl|rfl|rfl|rfl<;>omega
theorem NY(l:List (BitVec 32)):∀ n∈BW l,0≤n∧n<256:=by
 induction l with
 | nil=>intro n hn;cases hn
 | cons x r ih =>
  intro n hn;rcases List.mem_append.1 hn with h|h
  ·exact IB x n h
  ·exact ih n h
theorem NZ(l:List (BitVec 32))(x:BitVec 32):BW (l++[x])=BW l++Ez x:=by
 induction l with
 | nil=>simp[BW]
 | cons y r ih=>simp[BW,ih]
theorem FW(l:List (BitVec 32)):(BW l).length=4*l.length:=by
 induction l with
 | nil=>rfl
 | cons x r ih=>simp[BW,Ez,ih];omega
def MW(l:List Int):Nat→St
 | 0=>start
 | k+1=>Wx (MW l k) (M2 ((l.drop (64*k)).take 64))
def dig(l:List Int):List Int:=MO (MW (pad l) ((pad l).length/64))
theorem Az(l:List Int):(dig l).length=32:=rfl
theorem CW(l:List Int):∀ n∈dig l,0≤n∧n<256:=NY _
def Ly(s:List (BitVec 32))(a b:Nat):List (BitVec 32):=s.set a (s.getD a 0#32+s.getD b 0#32)
def cH(s:List (BitVec 32))(a t n:Nat):List (BitVec 32):=s.set t ((s.getD t 0#32 ^^^ s.getD a 0#32).rotateLeft n)
def II(s:List (BitVec 32))(a b t n:Nat):List (BitVec 32):=cH (Ly s a b) a t n
def KI(s:List (BitVec 32))(a b c d:Nat):List (BitVec 32):=II (II (II (II s a b d 16) c d b 12) a b d 8) c d b 7
theorem IH(s:List (BitVec 32))(a b:Nat):(Ly s a b).length=s.length:=by simp[Ly]
theorem OD(s:List (BitVec 32))(a t n:Nat):(cH s a t n).length=s.length:=by simp[cH]
theorem B0(s:List (BitVec 32))(a b t n:Nat):(II s a b t n).length=s.length:=by rw[II,OD,IH]
theorem L9(s:List (BitVec 32))(a b c d:Nat):(KI s a b c d).length=s.length:=by simp only[KI,B0]
def Ep:List Nat:=[0,4,8,12,1,5,9,13,2,6,10,14,3,7,11,15,0,5,10,15,1,6,11,12,2,7,8,13,3,4,9,14]
def Gj(s:List (BitVec 32)):Nat→List (BitVec 32)
 | 0=>s
 | k+1=>KI (Gj s k) (Ep.getD (4*k) 0) (Ep.getD (4*k+1) 0) (Ep.getD (4*k+2) 0) (Ep.getD (4*k+3) 0)
def Dd(s:List (BitVec 32)):Nat→List (BitVec 32)
 | 0=>s
 | k+1=>Gj (Dd s k) 8
theorem Hz(s:List (BitVec 32))(k:Nat):(Gj s k).length=s.length:=by
 induction k with
 | zero=>rfl
 | succ k ih=>rw[Gj,L9,ih]
theorem Gk(s:List (BitVec 32))(k:Nat):(Dd s k).length=s.length:=by
 induction k with
 | zero=>rfl
 | succ k ih=>rw[Dd,Hz,ih]
theorem J9(i:Nat):Ep.getD i 0<16:=by
 have all:∀ j:Fin 32,Ep.getD j.val 0<16:=by decide
 rcases Nat.lt_or_ge i 32 with h|h
 ·exact all ⟨i,h⟩
 ·rw[List.getD,List.getElem?_eq_none (by simpa[Ep]using h)];decide
def JQ(x:BitVec 32):List Int:=[uw x%256,uw x/256%256,uw x/65536%256,uw x/16777216%256]
def bC(s t:List (BitVec 32))(i:Nat):BitVec 32:=s.getD i 0#32+t.getD i 0#32
def QY(s t:List (BitVec 32)):Nat→List Int
 | 0=>[]
 | k+1=>QY s t k++JQ (bC s t k)
theorem Fp(s t:List (BitVec 32))(k:Nat):(QY s t k).length=4*k:=by
 induction k with
 | zero=>rfl
 | succ k ih=>simp[QY,JQ,ih];omega
theorem Oa(x:BitVec 32):∀ n∈JQ x,0≤n∧n<256:=by
 intro n hn;simp only[JQ,List.mem_cons,List.not_mem_nil,or_false]at hn;rcases hn with rfl|rfl|rfl|rfl<;>omega
theorem TY(s t:List (BitVec 32))(k:Nat):∀ n∈QY s t k,0≤n∧n<256:=by
 induction k with
 | zero=>intro n hn;cases hn
 | succ k ih =>
  intro n hn;rcases List.mem_append.1 hn with h|h
  ·exact ih n h
  ·exact Oa _ n h
def BV(s:List (BitVec 32)):List Int:=QY (Dd s 10) s 16
theorem DS(s:List (BitVec 32)):(BV s).length=64:=Fp _ _ _
theorem EZ(s:List (BitVec 32)):∀ n∈BV s,0≤n∧n<256:=TY _ _ _
def Yb(l:List Int)(i:Nat):BitVec 32:=BS (l.getD (4*i) 0) ||| BS (l.getD (4*i+1) 0) <<< 8 ||| BS (l.getD (4*i+2) 0) <<< 16 ||| BS (l.getD (4*i+3) 0) <<< 24
def De(s:List (BitVec 32))(off:Nat)(l:List Int):Nat→List (BitVec 32)
 | 0=>s
 | k+1=>(De s off l k).set (off+k) (Yb l k)
theorem Dj(s:List (BitVec 32))(off:Nat)(l:List Int)(k:Nat):(De s off l k).length=s.length:=by
 induction k with
 | zero=>rfl
 | succ k ih=>simp[De,ih]
def G8:List (BitVec 32):=[1634760805#32,857760878#32,2036477234#32,1797285236#32,0#32,0#32,0#32,0#32,0#32,0#32,0#32,0#32,0#32,0#32,0#32,0#32]
def Bu(key:List Int)(c:BitVec 32)(nonce:List Int):List (BitVec 32):=De ((De G8 4 key 8).set 12 c) 13 nonce 3
theorem FU(key:List Int)(c:BitVec 32)(nonce:List Int):(Bu key c nonce).length=16:=by
 simp[Bu,Dj,G8]
def bx(x y:Int):Int:=((x.toNat ^^^ y.toNat:Nat):Int)
theorem MN{x y:Int}(hx:0≤x∧x<256)(hy:0≤y∧y<256):0≤bx x y∧bx x y<256:=by
 unfold bx;have:x.toNat ^^^ y.toNat<2^8:=Nat.xor_lt_two_pow (by omega) (by omega);omega
def MA(s:List (BitVec 32))(i:Nat):Int:=(BV (s.set 12 (s.getD 12 0#32+BitVec.ofNat 32 (i/64)))).getD (i%64) 0
theorem R2(s:List (BitVec 32))(i:Nat):0≤MA s i∧MA s i<256:=Aj (EZ _) _
def CB(s:List (BitVec 32))(d:List Int):Nat→List Int
 | 0=>[]
 | k+1=>CB s d k++[bx (MA s k) (d.getD k 0)]
def ON(s:List (BitVec 32))(d:List Int):List Int:=CB s d d.length
theorem E8(s:List (BitVec 32))(d:List Int)(k:Nat):(CB s d k).length=k:=by
 induction k with
 | zero=>rfl
 | succ k ih=>simp[CB,ih]
theorem OO(s:List (BitVec 32))(d:List Int):(ON s d).length=d.length:=E8 _ _ _
theorem QL(s:List (BitVec 32)){d:List Int}(hd:∀ x∈d,0≤x∧x<256)(k:Nat):∀ n∈CB s d k,0≤n∧n<256:=by
 induction k with
 | zero=>intro n hn;cases hn
 | succ k ih =>
  intro n hn;rcases List.mem_append.1 hn with h|h
  ·exact ih n h
  ·obtain rfl:n=_:=by simpa using h
   exact MN (R2 _ _) (Aj hd k)
theorem Iq(s:List (BitVec 32)){d:List Int}(hd:∀ x∈d,0≤x∧x<256):∀ n∈ON s d,0≤n∧n<256:=QL s hd _
end
end Go.Proofs.YtaeckakjdagddadGreatDoor
