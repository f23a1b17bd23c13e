/- Part 1 of the walk. -/
import Derived.WalkKit
import Derived.ProofKit
import Derived.Laws.AppendOwnNone
import Derived.Laws.BytesArg
import Derived.BigQuiet
import Derived.OpenShut
import Derived.StillTail
import Derived.Test.YtfhbkoflaekhpadGreatDoorProg
import Derived.Deep.QuietTactic
import Derived.BigRegion
import Derived.Laws.ResultCell
set_option maxRecDepth 100000
set_option maxHeartbeats 4000000
open Go.Proofs.Tryz
namespace Go.Proofs.YtfhbkoflaekhpadGreatDoor
section
open Go.RowKit Go.ChangeShapes Go.WideShapes Go.ChangeAt
abbrev Bw(w w':World):Prop:=Below w.heap.size w w'
abbrev zV5:Array Value:=#[.int .i64 0,.int .i64 0,.int .i64 0,.int .i64 0,.int .i64 0]
abbrev zV8:Array Value:=#[.int .i64 0,.int .i64 0,.int .i64 0,.int .i64 0,.int .i64 0,.int .i64 0,.int .i64 0,.int .i64 0]
structure Sl(w:World)(v:Value)(l:List Int):Prop where
 ex:∃ a cap,v=.slice a l.length cap∧l.length≤cap∧(a=none→cap=0)∧(l=[]∨∃ b off,a=some ⟨b,off,none⟩∧b<w.heap.size∧∀ i,i<l.length→w.cell? ⟨b,off+i,none⟩=some (.int .u8 (l.getD i 0)))
 len:l.length≤140737488351232
 byte:∀ x∈l,0≤x∧x<256
theorem Sl.below{w w':World}{v:Value}{l:List Int}(h:Sl w v l)(hb:Below w.heap.size w w'):Sl w' v l:=by
 obtain⟨⟨a,cap,rfl,hc,hn,h1⟩,h2,h3⟩:=h;refine⟨⟨a,cap,rfl,hc,hn,?_⟩,h2,h3⟩;rcases h1 with h1|⟨b,off,ha,hbs,hcell⟩
 ·exact .inl h1
 ·exact .inr ⟨b,off,ha,Nat.lt_of_lt_of_le hbs hb.size,fun i hi=>(hb.cell (p:=⟨b,off+i,none⟩) hbs).trans (hcell i hi)⟩
theorem Sl.nil(w:World)(a:Option Addr):Sl w (.slice a 0 0) []:=⟨⟨a,0,rfl,by simp,by simp,.inl rfl⟩,by simp,by simp⟩
theorem Sl.ofOwns{w:World}{base e:Nat}{v:Value}{l:List Int}(h:w.ownsRow base e 1 v l.length (l.map (Value.int .u8)))(hl:l.length≤140737488351232)(hb:∀ x∈l,0≤x∧x<256):Sl w v l:=by
 refine⟨?_,hl,hb⟩;rcases h.2 with⟨rfl,h0⟩|⟨g,cap,cur,rfl,_,hg,hn,_,hcs,ht⟩
 ·exact⟨none,0,by rw[h0],by omega,fun _=>rfl,.inl (List.eq_nil_of_length_eq_zero h0)⟩
 ·refine⟨_,cap,rfl,hn,by simp,.inr ⟨g,0,rfl,(Array.getElem?_eq_some_iff.1 hg).1,fun i hi=>?_⟩⟩;have hc:=h.cells (g:=g) rfl i (.int .u8 (l.getD i 0)) (by simp[List.getElem?_eq_getElem hi,List.getD]);have hadd:(⟨g,0,none⟩:Addr).add i=⟨g,i,none⟩:=by unfold Addr.add;split<;>simp_all
  rw[hadd]at hc
  simpa using hc
theorem AN{l:List Int}{i:Nat}(hi:i<l.length):l.getD i 0=l[i]:=by simp[List.getD,List.getElem?_eq_getElem hi]
theorem Gb{l:List Int}{i:Nat}(hi:l.length≤i):l.getD i 0=0:=by simp[List.getD,List.getElem?_eq_none hi]
theorem Ak{l:List Int}(h:∀ x∈l,0≤x∧x<256)(i:Nat):0≤l.getD i 0∧l.getD i 0<256:=by
 rcases Nat.lt_or_ge i l.length with hi|hi
 ·rw[AN hi];exact h _ (List.getElem_mem hi)
 ·rw[Gb hi];omega
theorem Ey(l:List Int):∀ u∈l.map (Value.int .u8),u.oneCell'=true:=by
 intro u hu;obtain⟨x,_,rfl⟩:=List.mem_map.1 hu;rfl
theorem G3{P:Program}(w:World)(base t ty e:Nat)(ht:P.underlying t=some (.slice e))(hinfo:(P.info? e).map (fun i=>(i.zero,i.size,i.bytes))=some (some (.int .u8 0),1,1))
  (v:Value)(l:List Int)(hown:w.ownsRow base e 1 v l.length (l.map (Value.int .u8)))(u:Value)(m:List Int)(hu:Sl w u m)
  (hlen:l.length+m.length≤140737488355328)(hbase:base≤w.heap.size) :
  ∃ v' w',(Builtin.append_ #[t,t] ty #[v,u]).run P w=.ok v' w'∧w'.ownsRow base e 1 v' (l++m).length ((l++m).map (Value.int .u8))∧w.grownBy w' v.ownBlock:=by
 obtain⟨i,hi,hz,hsz,hby⟩:=info_parts hinfo;obtain⟨⟨a,cap,rfl,hc,hn,h1⟩,_,_⟩:=hu;cases a with
 | none =>
  have hc0:=hn rfl;subst hc0;have hm:m=[]:=List.eq_nil_of_length_eq_zero (by omega);subst hm;refine⟨v,w,?_,by simpa using hown,⟨rfl,rfl,rfl,Nat.le_refl _,fun _ _ _=>rfl⟩⟩;exact run_append_owned_none (P:=P) (w:=w) base t ty e i 1 ht hi v l.length _ hown
 | some ad =>
  have hcells:∀ j u,(m.map (Value.int .u8))[j]?=some u→w.cell? (ad.add j)=some u:=by
   intro j u hj;rcases h1 with rfl|⟨b,off,hab,_,hcell⟩
   ·simp at hj
   ·obtain rfl:ad=⟨b,off,none⟩:=by simpa using hab
    have hjl:j<m.length:=by
     have:=(List.getElem?_eq_some_iff.1 hj).1;simpa using this
    have hadd:(⟨b,off,none⟩:Addr).add j=⟨b,off+j,none⟩:=by unfold Addr.add;split<;>simp_all
    rw[hadd,hcell j hjl];simp[List.getElem?_eq_getElem hjl]at hj
    rw[AN hjl,hj]
  obtain⟨v',w',hr,ho,hg,_⟩:=run_append_own (P:=P) w base t ty e i (.int .u8 0) 1 1 ht hi hz hsz hby rfl (by decide) v l.length _ hown ad m.length cap (m.map (Value.int .u8)) (by simp) hcells (Ey m)
   (by unfold maxLen;omega) (by omega) hbase
  exact⟨v',w',hr,by simpa using ho,hg⟩
theorem Aa{P:Program}(w:World){ops:Array Oper}{rest:List Oper}{o:Oper}{a:Act}{Q:Exit→Act→World→Prop}(hgd:o.guard=none)(s x:Operand)(t:TypeId)
  (ho:o.op=.call { callee:=.builtin .append,args:=#[s,x],argTypes:=#[t,t] })
  (base e:Nat)(ht:P.underlying t=some (.slice e))(hinfo:(P.info? e).map (fun i=>(i.zero,i.size,i.bytes))=some (some (.int .u8 0),1,1))
  (v u:Value)(hs:a.eval s=v)(hx:a.eval x=u)(l m:List Int)(hown:w.ownsRow base e 1 v l.length (l.map (Value.int .u8)))(hu:Sl w u m)
  (hlen:l.length+m.length≤140737488355328)(hbase:base≤w.heap.size)
  (h:∀ v' w',w'.ownsRow base e 1 v' (l++m).length ((l++m).map (Value.int .u8))→w.grownBy w' v.ownBlock→wpList P ops Q rest (a.put o.dst v') w'):wpList P ops Q (o::rest) a w:=by
 refine wpList_plain hgd fun K hK=>?_;obtain⟨v',w',hrun,r1,r2⟩:=G3 (P:=P) w base t o.type e ht hinfo v l hown u m hu hlen hbase;unfold Oper.wp execOp;simp only[ho,resolve,invoke,builtin,Sem.run_bind,Sem.run_pure,Result.andThen_ok,List.map_toArray,List.map_cons,List.map_nil,hs,hx,hrun];exact hK _ _ (h v' w' r1 r2)
theorem Sl.take{w:World}{a:Option Addr}{cap n:Nat}{l:List Int}(h:Sl w (.slice a n cap) l)(m:Nat)(hm:m≤l.length):Sl w (.slice a m cap) (l.take m):=by
 obtain⟨⟨a',cap',e,hc,hn,h1⟩,hla,hba⟩:=h;simp only[Value.slice.injEq]at e;obtain⟨rfl,rfl,rfl⟩:=e;have hl:(l.take m).length=m:=by rw[List.length_take];omega
 refine⟨⟨a,cap,by rw[hl],by omega,hn,?_⟩,by omega,fun x hx=>hba x (List.mem_of_mem_take hx)⟩;rcases h1 with rfl|⟨b,off,rfl,hb,hcell⟩
 ·exact .inl (by simp)
 ·refine .inr ⟨b,off,rfl,hb,fun i hi=>?_⟩;rw[hcell i (by omega),AN (by omega),AN hi];simp
theorem Sl.drop{w:World}{b off n cap:Nat}{l:List Int}(h:Sl w (.slice (some ⟨b,off,none⟩) n cap) l)(k:Nat)(hk:k≤l.length)(c':Nat)(hc':l.length≤c'+k):Sl w (.slice (some ⟨b,off+k,none⟩) (l.length-k) c') (l.drop k):=by
 obtain⟨⟨a',cap',e,hc,hn,h1⟩,hla,hba⟩:=h;simp only[Value.slice.injEq]at e;obtain⟨rfl,rfl,rfl⟩:=e;have hl:(l.drop k).length=l.length-k:=by rw[List.length_drop]
 refine⟨⟨_,c',by rw[hl],by omega,by simp,?_⟩,by omega,fun x hx=>hba x (List.mem_of_mem_drop hx)⟩;rcases h1 with rfl|⟨b,off,e,hb,hcell⟩
 ·exact .inl (by simp)
 ·simp only[Option.some.injEq,Addr.mk.injEq,and_true]at e;obtain⟨rfl,rfl⟩:=e;refine .inr ⟨_,_,rfl,hb,fun i hi=>?_⟩;rw[Nat.add_assoc,hcell (k+i) (by omega),AN (by omega),AN hi];simp
theorem DD{w:World}{base e:Nat}{v:Value}{l:List Int}(h:w.ownsRow base e 1 v l.length (l.map (Value.int .u8)))(hl:l≠[]) :
  ∃ g cap,v=.slice (some ⟨g,0,none⟩) l.length cap∧base≤g∧g<w.heap.size∧l.length≤cap∧(∀ i,i<l.length→w.cell? ⟨g,i,none⟩=some (.int .u8 (l.getD i 0)))∧(∀ i,w.frozen? ⟨g,i,none⟩=false):=by
 rcases h.2 with⟨rfl,h0⟩|⟨g,cap,cur,rfl,hb,hg,hn,_,hcs,ht⟩
 ·exact absurd (List.eq_nil_of_length_eq_zero h0) hl
 ·refine⟨g,cap,rfl,hb,(Array.getElem?_eq_some_iff.1 hg).1,hn,fun i hi=>?_,fun i=>?_⟩
  ·have hc:=h.cells (g:=g) rfl i (.int .u8 (l.getD i 0)) (by simp[List.getElem?_eq_getElem hi,List.getD]);have hadd:(⟨g,0,none⟩:Addr).add i=⟨g,i,none⟩:=by unfold Addr.add;split<;>simp_all
   rwa [hadd]at hc
  ·simp[World.frozen?,hg]
theorem Sl.built(w:World)(l:List Int)(e:TypeId){g:Nat}(hg:g=w.heap.size)(hl:l.length≤140737488351232)(hb:∀ x∈l,0≤x∧x<256):Sl (w.alloc (.cells (l.map (Value.int .u8)).toArray e)) (.slice (some ⟨g,0,none⟩) l.length l.length) l:=by
 subst hg;refine⟨⟨_,l.length,rfl,by simp,by simp,.inr ⟨w.heap.size,0,rfl,by simp,fun i hi=>?_⟩⟩,hl,hb⟩;rw[cell_of_row _ _ (0+i) _ _ _ (heap_alloc_new w _)];simp[List.getElem?_eq_getElem hi,List.getD]
theorem Sl.one(w:World)(b:Int)(e:TypeId){g:Nat}(hg:g=w.heap.size)(hb:0≤b∧b<256):Sl (w.alloc (.cells #[.int .u8 b] e)) (.slice (some ⟨g,0,none⟩) 1 1) [b]:=by
 subst hg;refine⟨⟨_,1,rfl,by simp,by simp,.inr ⟨w.heap.size,0,rfl,by simp,fun i hi=>?_⟩⟩,by simp,by simpa using hb⟩;obtain rfl:i=0:=by simpa using hi
 simp
theorem Sl.drew{w:World}{v:Value}{l:List Int}(h:Sl w v l):Sl w.drew v l:=h.below (Below.refl _ _).drew
theorem Ae{a b:Bool}(h:a=b):Ending.returned (.bool a)=.returned (.bool b):=by rw[h]
theorem An{B:Nat}{a w:World}(h:Below B a w)(n:Nat):Below B a (w.drewN n):=h.trans ⟨rfl,rfl,rfl,Nat.le_refl _,fun _ _=>rfl⟩
end
section
open Go.RowKit
def WL:Value→Nat
 | .slice _ n _=>n
 | _=>0
theorem DU{w:World}{base e:Nat}{v:Value}{n:Nat}{xs:List Value}(h:w.ownsRow base e 1 v n xs):∃ a cap,v=.slice a n cap:=by
 rcases h.2 with⟨rfl,rfl⟩|⟨g,cap,cur,rfl,_⟩
 ·exact⟨none,0,rfl⟩
 ·exact⟨_,cap,rfl⟩
theorem AP{w:World}{base base':Nat}{e:TypeId}{size:Nat}{v:Value}{n:Nat}{xs:List Value}(h:w.ownsRow base e size v n xs)(hb:base'≤base):w.ownsRow base' e size v n xs:=by
 refine⟨h.1,?_⟩;rcases h.2 with h2|⟨g,cap,cur,hv,hg,hr⟩
 ·exact .inl h2
 ·exact .inr ⟨g,cap,cur,hv,Nat.le_trans hb hg,hr⟩
theorem Lc(l:List Int)(j:Nat):l++List.replicate j 0++[0]=l++List.replicate (j+1) 0:=by
 rw[List.append_assoc,← List.replicate_succ']
theorem Sl.shape{w:World}{v:Value}{l:List Int}(h:Sl w v l):∃ a cap,v=.slice a l.length cap:=by
 obtain⟨⟨a,cap,e,_⟩,_⟩:=h;exact⟨a,cap,e⟩
def AL(l:List Int):Array Value:=(l.map (Value.int .u8)).toArray
theorem Az(l:List Int):(AL l).size=l.length:=by simp[AL]
theorem Kb(l:List Int):(AL l).all (·.oneCell')=true:=by simp[AL,Value.oneCell']
theorem D5(l:List Int)(i:Nat)(h:i<l.length):(AL l)[i]?=some (.int .u8 (l.getD i 0)):=by
 simp[AL,List.getD,List.getElem?_eq_getElem h]
theorem Vn(l:List Int)(i:Nat)(x:Int):(AL l).setIfInBounds i (.int .u8 x)=AL (l.set i x):=by
 apply Array.ext';simp[AL,List.map_set]
def uw(x:BitVec 32):Int:=(x.toNat:Int)
theorem Dr(x:BitVec 32):0≤uw x:=Int.natCast_nonneg _
theorem Yk(x:BitVec 32):uw x<4294967296:=by unfold uw;have:=x.isLt;omega
theorem RQ{x y:BitVec 32}:uw x=uw y↔x=y:=by
 unfold uw;constructor
 ·intro h;exact BitVec.eq_of_toNat_eq (by omega)
 ·rintro rfl;rfl
theorem Lw(x y:BitVec 32):bits .and .u32 (uw x) (uw y)=uw (x &&& y):=by
 unfold uw;rw[u32_and_nat _ _ x.isLt y.isLt,BitVec.toNat_and]
theorem Ju(x y:BitVec 32):bits .or .u32 (uw x) (uw y)=uw (x ||| y):=by
 unfold uw;rw[u32_or_nat _ _ x.isLt y.isLt,BitVec.toNat_or]
theorem Db(x y:BitVec 32):bits .xor .u32 (uw x) (uw y)=uw (x ^^^ y):=by
 unfold uw;rw[u32_xor_nat _ _ x.isLt y.isLt,BitVec.toNat_xor]
theorem im(x y:BitVec 32):IntKind.u32.wrap (uw x+uw y)=uw (x+y):=by
 unfold uw;rw[IntKind.wrap_u32',BitVec.toNat_add];omega
theorem CO(a b:BitVec 32):(uw a+uw b)%(4294967296:Int)=uw (a+b):=by
 unfold uw;rw[BitVec.toNat_add];omega
theorem aT(a b c:BitVec 32):(uw a+uw b+uw c)%(4294967296:Int)=uw (a+b+c):=by
 rw[← CO,← CO];omega
theorem SW(a b c d:BitVec 32):(uw a+uw b+uw c+uw d)%(4294967296:Int)=uw (a+b+c+d):=by
 rw[← CO,← aT];omega
theorem FP(x:BitVec 32)(k:Nat):uw x*(2:Int)^k%(4294967296:Int)=uw (x <<< k):=by
 unfold uw;rw[BitVec.toNat_shiftLeft,Nat.shiftLeft_eq,Int.natCast_emod,Int.natCast_mul,Int.natCast_pow];rfl
theorem Od(x:BitVec 32)(k:Nat):uw x/(2:Int)^k=uw (x >>> k):=by
 unfold uw;rw[BitVec.toNat_ushiftRight,Nat.shiftRight_eq_div_pow,Int.natCast_ediv,Int.natCast_pow];rfl
theorem aS(x:BitVec 32):uw x/(8:Int)=uw (x >>> 3):=Od x 3
theorem Ym(x:BitVec 32):uw x/(1024:Int)=uw (x >>> 10):=Od x 10
theorem eH(x:BitVec 32)(n:Nat)(h0:1≤n)(h1:n≤31):bits .or .u32 (uw x*2^(32-n)%4294967296) (uw x/2^(32-(32-n)))=uw (x.rotateRight n):=by
 rw[FP,Od,Ju,RQ];rw[show 32-(32-n)=n by omega,BitVec.rotateRight_def,Nat.mod_eq_of_lt (by omega:n<32),BitVec.or_comm]
def E8(n:Nat):Nat:=(119-n%64)%64
def Cm(n:Nat):List Int:=[((n*8/2^56%256:Nat):Int),((n*8/2^48%256:Nat):Int),((n*8/2^40%256:Nat):Int),((n*8/2^32%256:Nat):Int),
 ((n*8/2^24%256:Nat):Int),((n*8/2^16%256:Nat):Int),((n*8/2^8%256:Nat):Int),((n*8/2^0%256:Nat):Int)]
def Co(l:List Int)(j:Nat):List Int:=l++[128]++List.replicate j 0
def pad(l:List Int):List Int:=Co l (E8 l.length)++Cm l.length
theorem CK(l:List Int)(j:Nat):(Co l j).length=l.length+1+j:=by simp[Co];omega
theorem Ru(l:List Int)(j:Nat):Co l j++[0]=Co l (j+1):=by
 simp only[Co,List.append_assoc];rw[← List.replicate_succ']
theorem J6(n:Nat):(Cm n).length=8:=rfl
theorem Rv(l:List Int):(pad l).length%64=0∧l.length<(pad l).length∧(pad l).length≤l.length+72:=by
 unfold pad;rw[List.length_append,CK,J6];unfold E8;omega
theorem Rt{l:List Int}(h:∀ x∈l,0≤x∧x<256)(j:Nat):∀ x∈Co l j,0≤x∧x<256:=by
 intro x hx;simp only[Co,List.mem_append,List.mem_singleton,List.mem_replicate]at hx;rcases hx with(hx|rfl)|⟨_,rfl⟩
 ·exact h x hx
 ·omega
 ·omega
theorem LQ(n:Nat):∀ x∈Cm n,0≤x∧x<256:=by
 intro x hx;simp only[Cm,List.mem_cons,List.not_mem_nil,or_false]at hx;rcases hx with rfl|rfl|rfl|rfl|rfl|rfl|rfl|rfl<;>omega
theorem Xl{l:List Int}(h:∀ x∈l,0≤x∧x<256):∀ x∈pad l,0≤x∧x<256:=by
 intro x hx;rcases List.mem_append.1 hx with h1|h1
 ·exact Rt h _ x h1
 ·exact LQ _ x h1
theorem Nx(n s:Nat):((n*8/2^s%256:Nat):Int)=(n:Int)*8/2^s%256:=by
 rw[Int.natCast_emod,Int.natCast_ediv,Int.natCast_mul,Int.natCast_pow];rfl
theorem LR(n k:Nat)(hk:k<8):(Cm n).take (k+1)=(Cm n).take k++[(n:Int)*8/2^(56-8*k)%256]:=by
 rw[← Nx];obtain rfl|rfl|rfl|rfl|rfl|rfl|rfl|rfl:k=0∨k=1∨k=2∨k=3∨k=4∨k=5∨k=6∨k=7:=by omega
 all_goals rfl
def Av(ws:List (BitVec 32)):Array Value:=(ws.map fun x=>Value.int .u32 (uw x)).toArray
theorem AV(ws:List (BitVec 32)):(Av ws).size=ws.length:=by simp[Av]
theorem B1(ws:List (BitVec 32))(i:Nat)(h:i<ws.length):(Av ws)[i]?=some (.int .u32 (uw (ws.getD i 0#32))):=by
 simp[Av,List.getD,List.getElem?_eq_getElem h]
theorem L2(ws:List (BitVec 32))(i:Nat)(x:BitVec 32):(Av ws).setIfInBounds i (.int .u32 (uw x))=Av (ws.set i x):=by
 apply Array.ext';simp[Av,List.map_set]
def Cc(n:Int):BitVec 32:=BitVec.ofNat 32 n.toNat
def RU(l:List Int)(i:Nat):BitVec 32:=Cc (l.getD (4*i) 0) <<< 24 ||| Cc (l.getD (4*i+1) 0) <<< 16 ||| Cc (l.getD (4*i+2) 0) <<< 8 ||| Cc (l.getD (4*i+3) 0)
def el(x:BitVec 32):BitVec 32:=x.rotateRight 7 ^^^ x.rotateRight 18 ^^^ x >>> 3
def en(x:BitVec 32):BitVec 32:=x.rotateRight 17 ^^^ x.rotateRight 19 ^^^ x >>> 10
def JB(l:List Int):Nat→List (BitVec 32)
 | 0=>List.replicate 64 0#32
 | k+1=>(JB l k).set k (RU l k)
def WX(ws:List (BitVec 32))(i:Nat):BitVec 32:=ws.getD (i-16) 0#32+el (ws.getD (i-15) 0#32)+ws.getD (i-7) 0#32+en (ws.getD (i-2) 0#32)
def Fo(l:List Int):Nat→List (BitVec 32)
 | 0=>JB l 16
 | k+1=>(Fo l k).set (16+k) (WX (Fo l k) (16+k))
def MR(l:List Int):List (BitVec 32):=Fo l 48
theorem FJ(l:List Int)(k:Nat):(JB l k).length=64:=by
 induction k with
 | zero=>simp[JB]
 | succ k ih=>simp[JB,ih]
theorem DW(l:List Int)(k:Nat):(Fo l k).length=64:=by
 induction k with
 | zero=>exact FJ l 16
 | succ k ih=>simp[Fo,ih]
theorem NO(l:List Int):(MR l).length=64:=DW l 48
theorem JV(n:Int)(h:0≤n∧n<256):uw (Cc n)=n:=by
 unfold uw Cc;rw[BitVec.toNat_ofNat];omega
def QO:List Int:=[1116352408,1899447441,3049323471,3921009573,961987163,1508970993,2453635748,2870763221,3624381080,310598401,607225278,1426881987,1925078388,2162078206,2614888103,3248222580,3835390401,4022224774,264347078,604807628,770255983,1249150122,1555081692,1996064986,2554220882,2821834349,2952996808,3210313671,3336571891,3584528711,113926993,338241895,666307205,773529912,1294757372,1396182291,1695183700,1986661051,2177026350,2456956037,2730485921,2820302411,3259730800,3345764771,3516065817,3600352804,4094571909,275423344,430227734,506948616,659060556,883997877,958139571,1322822218,1537002063,1747873779,1955562222,2024104815,2227730452,2361852424,2428436474,2756734187,3204031479,3329325298]
def kAt(i:Nat):BitVec 32:=BitVec.ofNat 32 (QO.getD i 0).toNat
structure St where
 a:BitVec 32
 b:BitVec 32
 c:BitVec 32
 d:BitVec 32
 e:BitVec 32
 f:BitVec 32
 g:BitVec 32
 h:BitVec 32
def St.cells(s:St):Array Value:=#[.int .u32 (uw s.a),.int .u32 (uw s.b),.int .u32 (uw s.c),.int .u32 (uw s.d),.int .u32 (uw s.e),.int .u32 (uw s.f),.int .u32 (uw s.g),.int .u32 (uw s.h)]
def St.list(s:St):List (BitVec 32):=[s.a,s.b,s.c,s.d,s.e,s.f,s.g,s.h]
def Qn(e f g:BitVec 32):BitVec 32:=(e &&& f) ^^^ (~~~e &&& g)
def most(a b c:BitVec 32):BitVec 32:=(a &&& b) ^^^ (a &&& c) ^^^ (b &&& c)
def fd(e:BitVec 32):BitVec 32:=e.rotateRight 6 ^^^ e.rotateRight 11 ^^^ e.rotateRight 25
def fc(a:BitVec 32):BitVec 32:=a.rotateRight 2 ^^^ a.rotateRight 13 ^^^ a.rotateRight 22
def upS(s:St)(k w:BitVec 32):BitVec 32:=s.h+fd s.e+Qn s.e s.f s.g+k+w
def bD(s:St):BitVec 32:=fc s.a+most s.a s.b s.c
def XP(s:St)(k w:BitVec 32):St:={ a:=upS s k w+bD s,b:=s.a,c:=s.b,d:=s.c,e:=s.d+upS s k w,f:=s.e,g:=s.f,h:=s.g }
def Bu(ws:List (BitVec 32))(s:St):Nat→St
 | 0=>s
 | k+1=>XP (Bu ws s k) (kAt k) (ws.getD k 0#32)
def gM(s t:St):St:={ a:=s.a+t.a,b:=s.b+t.b,c:=s.c+t.c,d:=s.d+t.d,e:=s.e+t.e,f:=s.f+t.f,g:=s.g+t.g,h:=s.h+t.h }
def D4(s t:St):Nat→List (BitVec 32)
 | 0=>s.list
 | i+1=>(D4 s t i).set i ((D4 s t i).getD i 0#32+t.list.getD i 0#32)
theorem EA(s t:St)(i:Nat):(D4 s t i).length=8:=by
 induction i with
 | zero=>rfl
 | succ i ih=>simp[D4,ih]
def WS(s:St)(ws:List (BitVec 32)):St:=gM s (Bu ws s 64)
def start:St:={ a:=1779033703#32,b:=3144134277#32,c:=1013904242#32,d:=2773480762#32,e:=1359893119#32,f:=2600822924#32,g:=528734635#32,h:=1541459225#32 }
def EB(x:BitVec 32):List Int:=[uw x/16777216%256,uw x/65536%256,uw x/256%256,uw x%256]
def Ch:List (BitVec 32)→List Int
 | []=>[]
 | x::r=>EB x++Ch r
def Nk(s:St):List Int:=Ch s.list
theorem IS(x:BitVec 32):∀ n∈EB x,0≤n∧n<256:=by
 intro n hn;simp only[EB,List.mem_cons,List.not_mem_nil,or_false]at hn;rcases hn with rfl|rfl|rfl|rfl<;>omega
theorem Oo(l:List (BitVec 32)):∀ n∈Ch l,0≤n∧n<256:=by
 induction l with
 | nil=>intro n hn;cases hn
 | cons x r ih =>
  intro n hn;rcases List.mem_append.1 hn with h|h
  ·exact IS x n h
  ·exact ih n h
theorem Oq(l:List (BitVec 32))(x:BitVec 32):Ch (l++[x])=Ch l++EB x:=by
 induction l with
 | nil=>simp[Ch]
 | cons y r ih=>simp[Ch,ih]
theorem Gt(l:List (BitVec 32)):(Ch l).length=4*l.length:=by
 induction l with
 | nil=>rfl
 | cons x r ih=>simp[Ch,EB,ih];omega
def Np(l:List Int):Nat→St
 | 0=>start
 | k+1=>WS (Np l k) (MR ((l.drop (64*k)).take 64))
def dig(l:List Int):List Int:=Nk (Np (pad l) ((pad l).length/64))
theorem Aw(l:List Int):(dig l).length=32:=rfl
theorem Di(l:List Int):∀ n∈dig l,0≤n∧n<256:=Oo _
def LO(s:List (BitVec 32))(a b:Nat):List (BitVec 32):=s.set a (s.getD a 0#32+s.getD b 0#32)
def dj(s:List (BitVec 32))(a t n:Nat):List (BitVec 32):=s.set t ((s.getD t 0#32 ^^^ s.getD a 0#32).rotateLeft n)
def IY(s:List (BitVec 32))(a b t n:Nat):List (BitVec 32):=dj (LO s a b) a t n
def KX(s:List (BitVec 32))(a b c d:Nat):List (BitVec 32):=IY (IY (IY (IY s a b d 16) c d b 12) a b d 8) c d b 7
theorem IX(s:List (BitVec 32))(a b:Nat):(LO s a b).length=s.length:=by simp[LO]
theorem OO(s:List (BitVec 32))(a t n:Nat):(dj s a t n).length=s.length:=by simp[dj]
theorem BD(s:List (BitVec 32))(a b t n:Nat):(IY s a b t n).length=s.length:=by rw[IY,OO,IX]
theorem LV(s:List (BitVec 32))(a b c d:Nat):(KX s a b c d).length=s.length:=by simp only[KX,BD]
def E3:List Nat:=[0,4,8,12,1,5,9,13,2,6,10,14,3,7,11,15,0,5,10,15,1,6,11,12,2,7,8,13,3,4,9,14]
def G7(s:List (BitVec 32)):Nat→List (BitVec 32)
 | 0=>s
 | k+1=>KX (G7 s k) (E3.getD (4*k) 0) (E3.getD (4*k+1) 0) (E3.getD (4*k+2) 0) (E3.getD (4*k+3) 0)
def Dn(s:List (BitVec 32)):Nat→List (BitVec 32)
 | 0=>s
 | k+1=>G7 (Dn s k) 8
theorem In(s:List (BitVec 32))(k:Nat):(G7 s k).length=s.length:=by
 induction k with
 | zero=>rfl
 | succ k ih=>rw[G7,LV,ih]
theorem G8(s:List (BitVec 32))(k:Nat):(Dn s k).length=s.length:=by
 induction k with
 | zero=>rfl
 | succ k ih=>rw[Dn,In,ih]
theorem JQ(i:Nat):E3.getD i 0<16:=by
 have all:∀ j:Fin 32,E3.getD j.val 0<16:=by decide
 rcases Nat.lt_or_ge i 32 with h|h
 ·exact all ⟨i,h⟩
 ·rw[List.getD,List.getElem?_eq_none (by simpa[E3]using h)];decide
def Kf(x:BitVec 32):List Int:=[uw x%256,uw x/256%256,uw x/65536%256,uw x/16777216%256]
def cx(s t:List (BitVec 32))(i:Nat):BitVec 32:=s.getD i 0#32+t.getD i 0#32
def Ro(s t:List (BitVec 32)):Nat→List Int
 | 0=>[]
 | k+1=>Ro s t k++Kf (cx s t k)
theorem F7(s t:List (BitVec 32))(k:Nat):(Ro s t k).length=4*k:=by
 induction k with
 | zero=>rfl
 | succ k ih=>simp[Ro,Kf,ih];omega
theorem Ot(x:BitVec 32):∀ n∈Kf x,0≤n∧n<256:=by
 intro n hn;simp only[Kf,List.mem_cons,List.not_mem_nil,or_false]at hn;rcases hn with rfl|rfl|rfl|rfl<;>omega
theorem Ul(s t:List (BitVec 32))(k:Nat):∀ n∈Ro s t k,0≤n∧n<256:=by
 induction k with
 | zero=>intro n hn;cases hn
 | succ k ih =>
  intro n hn;rcases List.mem_append.1 hn with h|h
  ·exact ih n h
  ·exact Ot _ n h
def Cf(s:List (BitVec 32)):List Int:=Ro (Dn s 10) s 16
theorem Ee(s:List (BitVec 32)):(Cf s).length=64:=F7 _ _ _
theorem Fr(s:List (BitVec 32)):∀ n∈Cf s,0≤n∧n<256:=Ul _ _ _
def Yv(l:List Int)(i:Nat):BitVec 32:=Cc (l.getD (4*i) 0) ||| Cc (l.getD (4*i+1) 0) <<< 8 ||| Cc (l.getD (4*i+2) 0) <<< 16 ||| Cc (l.getD (4*i+3) 0) <<< 24
def Dq(s:List (BitVec 32))(off:Nat)(l:List Int):Nat→List (BitVec 32)
 | 0=>s
 | k+1=>(Dq s off l k).set (off+k) (Yv l k)
theorem Dv(s:List (BitVec 32))(off:Nat)(l:List Int)(k:Nat):(Dq s off l k).length=s.length:=by
 induction k with
 | zero=>rfl
 | succ k ih=>simp[Dq,ih]
def GU:List (BitVec 32):=[1634760805#32,857760878#32,2036477234#32,1797285236#32,0#32,0#32,0#32,0#32,0#32,0#32,0#32,0#32,0#32,0#32,0#32,0#32]
def BB(key:List Int)(c:BitVec 32)(nonce:List Int):List (BitVec 32):=Dq ((Dq GU 4 key 8).set 12 c) 13 nonce 3
theorem Gs(key:List Int)(c:BitVec 32)(nonce:List Int):(BB key c nonce).length=16:=by
 simp[BB,Dv,GU]
def bx(x y:Int):Int:=((x.toNat ^^^ y.toNat:Nat):Int)
theorem Nj{x y:Int}(hx:0≤x∧x<256)(hy:0≤y∧y<256):0≤bx x y∧bx x y<256:=by
 unfold bx;have:x.toNat ^^^ y.toNat<2^8:=Nat.xor_lt_two_pow (by omega) (by omega);omega
def MU(s:List (BitVec 32))(i:Nat):Int:=(Cf (s.set 12 (s.getD 12 0#32+BitVec.ofNat 32 (i/64)))).getD (i%64) 0
theorem RG(s:List (BitVec 32))(i:Nat):0≤MU s i∧MU s i<256:=Ak (Fr _) _
def CI(s:List (BitVec 32))(d:List Int):Nat→List Int
 | 0=>[]
 | k+1=>CI s d k++[bx (MU s k) (d.getD k 0)]
def OY(s:List (BitVec 32))(d:List Int):List Int:=CI s d d.length
theorem EI(s:List (BitVec 32))(d:List Int)(k:Nat):(CI s d k).length=k:=by
 induction k with
 | zero=>rfl
 | succ k ih=>simp[CI,ih]
theorem OZ(s:List (BitVec 32))(d:List Int):(OY s d).length=d.length:=EI _ _ _
theorem QZ(s:List (BitVec 32)){d:List Int}(hd:∀ x∈d,0≤x∧x<256)(k:Nat):∀ n∈CI s d k,0≤n∧n<256:=by
 induction k with
 | zero=>intro n hn;cases hn
 | succ k ih =>
  intro n hn;rcases List.mem_append.1 hn with h|h
  ·exact ih n h
  ·obtain rfl:n=_:=by simpa using h
   exact Nj (RG _ _) (Ak hd k)
theorem I6(s:List (BitVec 32)){d:List Int}(hd:∀ x∈d,0≤x∧x<256):∀ n∈OY s d,0≤n∧n<256:=QZ s hd _
theorem BV{P:Program}{ops:Array Oper}{w:World}{Q:Act→Prop}:∀ (l:List Oper) (a:Act),wpQuiet P ops (fun w'=>w'=w) Q l a→wpStill P ops w Q l a
 | [],_,h=>h
 | o::rest,a,h=>by
  unfold wpQuiet at h;unfold wpStill;split
  ·rename_i hw
   rw[if_pos hw]at h
   obtain⟨v,h1,h2⟩:=h;have h3:=h1 w rfl;unfold Oper.quietAt at h3;unfold Oper.still;generalize (execOp a.eval o).run P w=r at h3 ⊢;cases r with
   | ok n w' =>
    cases n<;>simp only[Oper.quietUpon]at h3<;>simp only[Oper.stillUpon]
    case value u =>
     obtain⟨e1,e2⟩:=h3;rw[e2];exact⟨e1,BV rest _ h2⟩
    case skip =>
     obtain⟨e1,e2⟩:=h3;rw[← e2];exact⟨e1,BV rest _ h2⟩
    case enter f args=>exact⟨h3.1,v,h3.2,BV rest _ h2⟩
   | halt x w'=>simp only[Oper.quietUpon]at h3
  ·rename_i hw
   rw[if_neg hw]at h
   exact BV rest _ h
theorem Ar{P:Program}{id:Nat}{Q:Exit→Act→World→Prop}{a:Act}{w:World}{l:List Oper}(n:Nat)(hm:P.follows .mixedOrders=true)(hB:Region.lexTailB .any l.toArray n=true)
  (h:wpQuiet P l.toArray (fun w'=>w'=w.drew) (fun a'=>wpList P l.toArray Q (l.drop n) a' w.drew) (l.take n) a):(Code.region id l.toArray true).wp P Q a w :=
 wp_region_still_tail n hm hB (BV _ _ h)
theorem X0{a b:Int}(h:a=b):Ending.returned (.int .u32 a)=.returned (.int .u32 b):=by rw[h]
theorem cB(n:Nat)(h1:n≤31):bits .and .u64 (n:Int) 31=(n:Int):=by
 rw[show(31:Int)=((31:Nat):Int)from rfl,u64_and_nat _ _ (by omega) (by omega),nat_mask5];omega
theorem aR(x:BitVec 32)(n:Nat)(h0:1≤n)(h1:n≤31):bits .or .u32 (uw x*2^n%4294967296) (uw x/2^(32-n))=uw (x.rotateLeft n):=by
 rw[FP,Od,Ju,RQ];rw[BitVec.rotateLeft_def,Nat.mod_eq_of_lt (by omega:n<32)]
theorem X7(x:BitVec 32)(n:Nat)(w:World)(h0:1≤n)(h1:n≤31) :
  Calls prog 199 #[.int .u32 (uw x),.int .i64 (n:Int)] w fun e w'=>e=.returned (.int .u32 (uw (x.rotateLeft n)))∧w'=w:=by
 have a1:=Dr x;have a2:=Yk x;have a3:=cB n h1;go_enter func199,ntmps199
 go_wp2
 go_ret;exact⟨X0 (aR x n h0 h1),rfl⟩
theorem ai(v:Int)(x:BitVec 32)(hv:v=uw x)(n:Nat)(w:World)(h0:1≤n)(h1:n≤31) :
  Calls prog 199 #[.int .u32 v,.int .i64 (n:Int)] w fun e w'=>e=.returned (.int .u32 (uw (x.rotateLeft n)))∧w'=w:=by
 subst hv;exact X7 x n w h0 h1
theorem E5{w:World}{g:Nat}{ws:List (BitVec 32)}(h:w.heap[g]?=some (.cells (Av ws) 254 (0,0)))(k:Nat)(x:BitVec 32) :
  (w.setCell ⟨g,k,none⟩ (.int .u32 (uw x))).heap[g]?=some (.cells (Av (ws.set k x)) 254 (0,0)):=by
 rw[heap_setCell_same _ _ _ _ _ _ h,L2]
theorem Ho(g:Nat)(ws:List (BitVec 32))(w:World)(hw:w.heap[g]?=some (.cells (Av ws) 254 (0,0)))(hl:ws.length=16)(a b t n:Nat)(ha:a<16)(hb:b<16)(ht:t<16)(h0:1≤n)(h1:n≤31) :
  Calls prog 207 #[.pointer (some ⟨g,0,none⟩),.int .i64 a,.int .i64 b,.int .i64 t,.int .i64 n] w fun e w'=>e=.returned (.tuple #[])∧w'.heap[g]?=some (.cells (Av (IY ws a b t n)) 254 (0,0))∧Below g w w':=by
 have ca:=(cell_of_row w _ a _ _ _ hw).trans (B1 ws a (by omega));have cb:=(cell_of_row w _ b _ _ _ hw).trans (B1 ws b (by omega));have fa:=frozen_of_row w _ a _ _ hw;have HA:Hid (LO ws a b=ws.set a (ws.getD a 0#32+ws.getD b 0#32)):=rfl;have HW:Hid _:=hw;have HL:Hid (ws.length=16):=hl;clear hw hl;generalize ws.getD a 0#32=x at ca HA;generalize ws.getD b 0#32=y at cb HA;go_enter func207,ntmps207
 go_wp2_with fail
 refine Ar 13 (by kernel_rfl) (by kernel_rfl) ?_;simp only[List.take_succ_cons,List.take_zero,List.drop_succ_cons,List.drop_zero]
 repeat (go_big_quiet_step (fail))
 refine wpQuiet_nil ?_;go_wp2_with fail
 rw[CO];generalize hW1:(w.setCell _ _).drew=W1;have r1:W1.heap[g]?=some (.cells (Av (LO ws a b)) 254 (0,0)):=by rw[← hW1,HA.out];exact E5 HW.out a _
 have b1:Below g w W1:=by rw[← hW1];exact((Below.refl g w).setCell (p:=⟨g,a,none⟩) (Nat.le_refl _) _).drew
 have hl1:(LO ws a b).length=16:=by rw[IX];exact HL.out
 have H2:Hid (IY ws a b t n=(LO ws a b).set t (((LO ws a b).getD t 0#32 ^^^ (LO ws a b).getD a 0#32).rotateLeft n)):=rfl;clear hW1 HA HW HL ca cb fa;generalize LO ws a b=vs at r1 hl1 H2;have ca:=(cell_of_row W1 _ a _ _ _ r1).trans (B1 vs a (by omega));have ct:=(cell_of_row W1 _ t _ _ _ r1).trans (B1 vs t (by omega));have ft:=frozen_of_row W1 _ t _ _ r1;generalize vs.getD a 0#32=x2 at ca H2;generalize vs.getD t 0#32=y2 at ct H2;have HR:Hid _:=r1;clear r1 hl1;refine Ar 17 (by kernel_rfl) (by kernel_rfl) ?_;simp only[List.take_succ_cons,List.take_zero,List.drop_succ_cons,List.drop_zero]
 repeat (go_big_quiet_step (fail))
 go_big_quiet_want
 go_big_quiet_op
 refine⟨_,ai _ (y2 ^^^ x2) (Db y2 x2) n _ h0 h1,?_⟩
 go_big_quiet_on
 repeat (go_big_quiet_step (fail))
 refine wpQuiet_nil ?_;go_wp2
 go_end0
 refine⟨rfl,?_,b1.trans (((Below.refl g W1).setCell (p:=⟨g,t,none⟩) (Nat.le_refl _) _).drew)⟩;rw[H2.out];exact E5 (w:=W1.drew) HR.out t _
theorem Pv(g:Nat)(ws:List (BitVec 32))(w:World)(hw:w.heap[g]?=some (.cells (Av ws) 254 (0,0)))(hl:ws.length=16)(a b c d:Nat)(ha:a<16)(hb:b<16)(hc:c<16)(hd:d<16) :
  Calls prog 200 #[.pointer (some ⟨g,0,none⟩),.int .i64 a,.int .i64 b,.int .i64 c,.int .i64 d] w fun e w'=>e=.returned (.tuple #[])∧w'.heap[g]?=some (.cells (Av (KX ws a b c d)) 254 (0,0))∧Below g w w':=by
 go_enter func200,ntmps200
 go_wp2_with fail
 refine(Ho g ws w hw hl a b d 16 ha hb hd (by omega) (by omega)).mono ?_;rintro e w1 ⟨rfl,r1,b1⟩;go_wp2_with fail
 refine(Ho g _ w1 r1 (by rw[BD];exact hl) c d b 12 hc hd hb (by omega) (by omega)).mono ?_;rintro e w2 ⟨rfl,r2,b2⟩;go_wp2_with fail
 refine(Ho g _ w2 r2 (by rw[BD,BD];exact hl) a b d 8 ha hb hd (by omega) (by omega)).mono ?_;rintro e w3 ⟨rfl,r3,b3⟩;go_wp2_with fail
 refine(Ho g _ w3 r3 (by rw[BD,BD,BD];exact hl) c d b 7 hc hd hb (by omega) (by omega)).mono ?_;rintro e w4 ⟨rfl,r4,b4⟩;go_wp2
 go_end0
 exact⟨rfl,r4,((b1.trans b2).trans b3).trans b4⟩
end
section
theorem At:(prog.info? 5).map (fun i=>(i.zero,i.size,i.bytes))=some (some (.int .u8 0),1,1):=by kernel_rfl
end
section
open Go.RowKit
theorem IF(x:BitVec 32)(h:uw x<256):uw x*16777216=uw (x <<< 24)∧uw x*65536=uw (x <<< 16)∧uw x*256=uw (x <<< 8):=by
 have h0:=Dr x;have e24:=FP x 24;have e16:=FP x 16;have e8:=FP x 8;rw[← e24,← e16,← e8];refine⟨?_,?_,?_⟩
 ·rw[show(2:Int)^24=16777216 from rfl];omega
 ·rw[show(2:Int)^16=65536 from rfl];omega
 ·rw[show(2:Int)^8=256 from rfl];omega
theorem G1(g off n cap:Nat)(ws:List (BitVec 32))(v:Value)(l:List Int)(w:World)(hw:w.heap[g]?=some (.cells (Av ws) 254 (0,0)))(hws:ws.length=16)(hoff:off+n≤16)(hn0:0<n)
  (h:Sl w v l)(hl:l.length=4*n)(hvb:∀ b o m c,v=.slice (some ⟨b,o,none⟩) m c→b<g) :
  Calls prog 188 #[.slice (some ⟨g,off,none⟩) n cap,v] w fun e w'=>e=.returned (.tuple #[])∧w'.heap[g]?=some (.cells (Av (Dq ws off l n)) 254 (0,0))∧Below g w w':=by
 obtain⟨⟨a,cap',rfl,hc,hn,h1⟩,hla,hba⟩:=h;rcases h1 with rfl|⟨b,o,rfl,hb,hcell⟩
 ·simp at hl;omega
 have hbg:=hvb _ _ _ _ rfl;clear hvb;rw[hl]at hc hla hcell ⊢
 have HC:Hid (∀ i,i<4*n→w.cell? ⟨b,o+i,none⟩=some (.int .u8 (uw (Cc (l.getD i 0))))):=fun i hi=>by rw[JV _ (Ak hba i)];exact hcell i hi
 have HB:Hid (∀ i,uw (Cc (l.getD i 0))<256):=fun i=>by rw[JV _ (Ak hba i)];exact(Ak hba i).2
 clear hl hn hcell hba;go_enter func188,ntmps188
 go_wp2_with fail
 go_loopw [7] (fun i wr=>∃ k:Nat,k≤n∧i=.int .i64 k∧wr.heap[g]?=some (.cells (Av (Dq ws off l k)) 254 (0,0))∧Below g w wr) (fun i _=>n-(intOf i).toNat)
 case atStart=>exact⟨0,by omega,rfl,hw,Below.refl _ _⟩
 case round =>
  clear hw;obtain⟨k,hk,rfl,hW,hbel⟩:=hrel;by_cases hkn:k<n
  ·have hfw:wr.frozen? ⟨g,off+k,none⟩=false:=frozen_of_row wr _ (off+k) _ _ hW;have hz:=B1 (Dq ws off l k) (off+k) (by rw[Dv];omega);have hcw:wr.cell? ⟨g,off+k,none⟩=some (.int .u32 (uw ((Dq ws off l k).getD (off+k) 0#32))):=(cell_of_row wr _ (off+k) _ _ _ hW).trans hz;have c0:=(hbel.cell (p:=⟨b,o+(4*k),none⟩) hbg).trans (HC.out (4*k) (by omega));have c1:=(hbel.cell (p:=⟨b,o+(4*k+1),none⟩) hbg).trans (HC.out (4*k+1) (by omega));have c2:=(hbel.cell (p:=⟨b,o+(4*k+2),none⟩) hbg).trans (HC.out (4*k+2) (by omega));have c3:=(hbel.cell (p:=⟨b,o+(4*k+3),none⟩) hbg).trans (HC.out (4*k+3) (by omega));have l0:=HB.out (4*k);have l1:=HB.out (4*k+1);have l2:=HB.out (4*k+2);have l3:=HB.out (4*k+3);obtain⟨wd,HW,HV⟩:∃ wd,Hid (wd=Yv l k)∧Hid (Dq ws off l (k+1)=(Dq ws off l k).set (off+k) wd):=⟨_,rfl,rfl⟩;unfold Yv at HW;generalize Cc (l.getD (4*k) 0)=x0 at c0 l0 HW;generalize Cc (l.getD (4*k+1) 0)=x1 at c1 l1 HW;generalize Cc (l.getD (4*k+2) 0)=x2 at c2 l2 HW;generalize Cc (l.getD (4*k+3) 0)=x3 at c3 l3 HW;obtain⟨y1,s1,e1⟩:∃ y,uw x1*256=uw y∧x1 <<< 8=y:=⟨_,(IF x1 l1).2.2,rfl⟩;obtain⟨y2,s2,e2⟩:∃ y,uw x2*65536=uw y∧x2 <<< 16=y:=⟨_,(IF x2 l2).2.1,rfl⟩;obtain⟨y3,s3,e3⟩:∃ y,uw x3*16777216=uw y∧x3 <<< 24=y:=⟨_,(IF x3 l3).1,rfl⟩;rw[e1,e2,e3]at HW
   clear e1 e2 e3;have z0:=Dr x0;have z1:=Dr x1;have z2:=Dr x2;have z3:=Dr x3;clear hz;go_wp2_with fail
   refine Ar 36 (by kernel_rfl) (by kernel_rfl) ?_;simp only[List.take_succ_cons,List.take_zero,List.drop_succ_cons,List.drop_zero]
   repeat (go_big_quiet_step (fail))
   refine wpQuiet_nil ?_;go_wp2
   rw[Ju,Ju,Ju,← HW.out];go_roundw
   case rel=>exact⟨k+1,by omega,by go_num,by rw[HV.out];exact E5 hW (off+k) wd,(hbel.setCell (p:=⟨g,off+k,none⟩) (Nat.le_refl _) _).drew⟩
   case measure=>simp[intOf];omega
  ·have HK:Hid (k=n):=by unfold Hid;omega
   go_wp2
   go_end0
   exact⟨rfl,by rw[← HK.out];exact hW,hbel⟩
theorem Cq{B:Nat}{a w:World}(h:Below B a w){g:Nat}(hg:B≤g)(cs:Array Value):Below B a (w.setRow g cs) :=
 h.trans ⟨rfl,rfl,rfl,by simp,fun k hk=>setRow_other w g k cs (by omega)⟩
theorem Mk(vk vn:Value)(key nonce:List Int)(c:Nat)(w:World)(hk:Sl w vk key)(hn:Sl w vn nonce)(lk:key.length=32)(ln:nonce.length=12)(hc:c≤2000000000) :
  Calls prog 176 #[vk,.int .i64 c,vn] w fun e w'=>e=.returned (.agg (Av (BB key (BitVec.ofNat 32 c) nonce)))∧Bw w w':=by
 have hvk:∀ b o m c,vk=.slice (some ⟨b,o,none⟩) m c→b<w.heap.size:=by
  intro b o m c e;obtain⟨⟨a,cap,rfl,_,_,h1⟩,_,_⟩:=hk;rcases h1 with rfl|⟨b',off',e',hb,_⟩
  ·simp at lk
  ·rw[e']at e
   simp only[Value.slice.injEq,Option.some.injEq,Addr.mk.injEq,and_true]at e;omega
 have hvn:∀ b o m c,vn=.slice (some ⟨b,o,none⟩) m c→b<w.heap.size:=by
  intro b o m c e;obtain⟨⟨a,cap,rfl,_,_,h1⟩,_,_⟩:=hn;rcases h1 with rfl|⟨b',off',e',hb,_⟩
  ·simp at ln
  ·rw[e']at e
   simp only[Value.slice.injEq,Option.some.injEq,Addr.mk.injEq,and_true]at e;omega
 go_enter func176,ntmps176
 go_wp2_with fail
 generalize hW0:(w.alloc _).alloc _=W0;have hr0:W0.heap[w.heap.size+1]?=some (.cells (Av GU) 254 (0,0)):=by rw[← hW0];exact heap_alloc2_new _ _ _
 have hq0:W0.heap[w.heap.size]?=some (.cells (Av (List.replicate 16 0#32)) 254 (0,0)):=by rw[← hW0];exact heap_alloc2_old _ _ _
 have hb0:Bw w W0:=by rw[← hW0];exact((Below.refl _ _).alloc (Nat.le_refl _) _).alloc (by simp) _
 clear hW0;refine(G1 (w.heap.size+1) 4 8 12 GU vk key W0 hr0 rfl (by omega) (by omega) (hk.below hb0) lk (fun b o m c e=>Nat.lt_succ_of_lt (hvk b o m c e))).mono ?_;rintro e w1 ⟨rfl,hr1,hb1⟩;have hq1:=(hb1.block w.heap.size (by omega)).trans hq0;have hB1:Bw w w1:=hb0.trans (hb1.mono (by omega));have hl1:(Dq GU 4 key 8).length=16:=by rw[Dv];rfl
 have HG:Hid (BB key (BitVec.ofNat 32 c) nonce=Dq ((Dq GU 4 key 8).set 12 (BitVec.ofNat 32 c)) 13 nonce 3):=rfl;have hcv:(c:Int)=uw (BitVec.ofNat 32 c):=by unfold uw;rw[BitVec.toNat_ofNat,Nat.mod_eq_of_lt (by omega)]
 have HCV:Hid ((c:Int)=uw (BitVec.ofNat 32 c)):=hcv;clear hr0 hq0 hb0 hb1 hcv;generalize Dq GU 4 key 8=vs at hr1 hl1 HG;have hcw:=(cell_of_row w1 _ 12 _ _ _ hr1).trans (B1 vs 12 (by omega));have hfw:=frozen_of_row w1 _ 12 _ _ hr1;go_wp2_with fail
 rw[HCV.out];generalize hcw2:BitVec.ofNat 32 c=cw at HG ⊢;have HCW:Hid (BitVec.ofNat 32 c=cw):=hcw2;clear hcw2;generalize hW2:w1.setCell _ _=W2;have hr2:W2.heap[w.heap.size+1]?=some (.cells (Av (vs.set 12 cw)) 254 (0,0)):=by rw[← hW2];exact E5 hr1 12 cw
 have hq2:W2.heap[w.heap.size]?=some (.cells (Av (List.replicate 16 0#32)) 254 (0,0)):=by rw[← hW2];exact(heap_setCell_other _ _ _ _ (by simp)).trans hq1
 have hB2:Bw w W2:=by rw[← hW2];exact hB1.setCell (p:=⟨w.heap.size+1,12,none⟩) (by simp) _
 clear hW2 hr1 hq1 hB1 hcw hfw;refine(G1 (w.heap.size+1) 13 3 3 (vs.set 12 cw) vn nonce W2 hr2 (by simpa using hl1) (by omega) (by omega) (hn.below hB2) ln (fun b o m c e=>Nat.lt_succ_of_lt (hvn b o m c e))).mono ?_;rintro e w3 ⟨rfl,hr3,hb3⟩;have hq3:=(hb3.block w.heap.size (by omega)).trans hq2;have hB3:Bw w w3:=hB2.trans (hb3.mono (by omega));have hl3:(Dq (vs.set 12 cw) 13 nonce 3).length=16:=by rw[Dv];simpa using hl1
 clear hr2 hq2 hB2 hb3;rw[← HG.out]at hr3 hl3
 generalize hus:BB key cw nonce=us at hr3 hl3;have HUS:Hid (BB key cw nonce=us):=hus;clear hus;have hsz:(prog.info? 254).map (·.size)=some (Av us).size:=by rw[AV,hl3];kernel_rfl
 have hone:(Av us).all (·.oneCell')=true:=by simp[Av,Value.oneCell']
 go_wp2_with (first|(refine wpList_load_row rfl 254 _ rfl (w.heap.size+1) rfl 254 _ (0,0) _ hr3 underlying254 rfl hsz ?_)|(refine wpList_store_row rfl 254 _ _ rfl w.heap.size _ rfl rfl 254 _ hq3 hsz (by rw[AV,AV,hl3];rfl) hone ?_))
 refine bodyPost_ret (v:=.agg (Av us)) (results_cell_row rfl _ _ w.heap.size 254 _ (0,0) _ rfl (setRow_heap w3 w.heap.size _ _ 254 _ hq3) underlying254 rfl hsz) rfl ⟨by rw[HCW.out,HUS.out],Cq hB3 (Nat.le_refl _) _⟩
def Ut:Array Value:=(E3.map fun(n:Nat)=>Value.int .i64 (n:Int)).toArray
def Cr(w:World):Prop:=∃ t fr,w.heap[4]?=some (.cells Ut t fr)
theorem Cr.below{w w':World}(h:Cr w){B:Nat}(hB:4<B)(hb:Below B w w'):Cr w':=by
 obtain⟨t,fr,h⟩:=h;exact⟨t,fr,(hb.block _ hB).trans h⟩
theorem Cr.pos{w:World}(h:Cr w):4<w.heap.size:=by
 obtain⟨t,fr,h⟩:=h;exact(Array.getElem?_eq_some_iff.1 h).1
theorem dl(j:Nat)(hj:j<8):∀ w,(Instr.index 278 (.agg Ut) (.int .i64 (j:Int))).run prog w=.ok (.agg #[.int .i64 ((E3.getD (4*j) 0:Nat):Int),.int .i64 ((E3.getD (4*j+1) 0:Nat):Int),.int .i64 ((E3.getD (4*j+2) 0:Nat):Int),.int .i64 ((E3.getD (4*j+3) 0:Nat):Int)]) w:=by
 intro w;obtain rfl|rfl|rfl|rfl|rfl|rfl|rfl|rfl:j=0∨j=1∨j=2∨j=3∨j=4∨j=5∨j=6∨j=7:=by omega
 all_goals kernel_rfl
theorem il(w:World)(o1 o2 o3:Obj){W:World}(h:((w.alloc o1).alloc o2).alloc o3=W) :
  W.heap[w.heap.size]?=some o1∧W.heap[w.heap.size+1]?=some o2∧W.heap[w.heap.size+1+1]?=some o3∧W.heap.size=w.heap.size+3∧Bw w W:=by
 subst h;refine⟨?_,?_,?_,by simp,(((Below.refl _ _).alloc (Nat.le_refl _) _).alloc (by simp) _).alloc (by simp;omega) _⟩
 ·rw[heap_alloc_old _ _ (by simp;omega)];exact heap_alloc2_old w o1 o2
 ·rw[heap_alloc_old _ _ (by simp)];exact heap_alloc2_new w o1 o2
 ·have:=heap_alloc_new ((w.alloc o1).alloc o2) o3;simpa using this
theorem dw:∀ (S:List (BitVec 32)),S.length=16→∃ s0 s1 s2 s3 s4 s5 s6 s7 s8 s9 s10 s11 s12 s13 s14 s15,S=[s0,s1,s2,s3,s4,s5,s6,s7,s8,s9,s10,s11,s12,s13,s14,s15]
 | [s0,s1,s2,s3,s4,s5,s6,s7,s8,s9,s10,s11,s12,s13,s14,s15],_=>⟨s0,s1,s2,s3,s4,s5,s6,s7,s8,s9,s10,s11,s12,s13,s14,s15,rfl⟩
theorem Zk(S:List (BitVec 32))(hS:S.length=16)(j:Nat)(hj:j<16):∀ w,(Instr.index 254 (.agg (Av S)) (.int .i64 (j:Int))).run prog w=.ok (.int .u32 (uw (S.getD j 0#32))) w:=by
 intro w;obtain⟨s0,s1,s2,s3,s4,s5,s6,s7,s8,s9,s10,s11,s12,s13,s14,s15,rfl⟩:=dw S hS;obtain rfl|rfl|rfl|rfl|rfl|rfl|rfl|rfl|rfl|rfl|rfl|rfl|rfl|rfl|rfl|rfl:j=0∨j=1∨j=2∨j=3∨j=4∨j=5∨j=6∨j=7∨j=8∨j=9∨j=10∨j=11∨j=12∨j=13∨j=14∨j=15:=by omega
 all_goals kernel_rfl
theorem CA{P:Program}{ops:Array Oper}{Q:Exit→Act→World→Prop}{l:List Oper}{a:Act}{w:World}(h:wpList P ops Q l a w):wpList P ops Q l a w:=h
theorem Ff(w:World)(o1 o2 o3:Obj):(((w.alloc o1).alloc o2).alloc o3).heap[w.heap.size+1+1]?=some o3:=by
 have:=heap_alloc_new ((w.alloc o1).alloc o2) o3;simpa using this
theorem PE(w:World)(o1 o2 o3:Obj)(cs old:Array Value)(t:TypeId)(h3:o3=.cells old t (0,0)){W:World}(h:(((w.alloc o1).alloc o2).alloc o3).setRow (w.heap.size+1+1) cs=W) :
  W.heap[w.heap.size]?=some o1∧W.heap[w.heap.size+1]?=some o2∧W.heap[w.heap.size+1+1]?=some (.cells cs t (0,0))∧W.heap.size=w.heap.size+3∧Bw w W:=by
 subst h;subst h3;have n3:=Ff w o1 o2 (.cells old t (0,0));refine⟨?_,?_,setRow_heap _ _ _ _ t _ n3,by simp,Cq ((((Below.refl _ _).alloc (Nat.le_refl _) _).alloc (by simp) _).alloc (by simp;omega) _) (by omega) _⟩
 ·rw[setRow_other _ _ _ _ (by omega),heap_alloc_old _ _ (by simp;omega)];exact heap_alloc2_old w o1 o2
 ·rw[setRow_other _ _ _ _ (by omega),heap_alloc_old _ _ (by simp)];exact heap_alloc2_new w o1 o2
theorem ie(A:List Int)(n:Nat)(z0 z1 z2 z3 a b c d:Int)(R:List Int)(hA:A.length=n):((((A++z0::z1::z2::z3::R).set n a).set (n+1) b).set (n+2) c).set (n+3) d=A++[a,b,c,d]++R:=by
 subst hA;rw[List.set_append_right _ _ (Nat.le_refl _),List.set_append_right _ _ (by omega),List.set_append_right _ _ (by omega),List.set_append_right _ _ (by omega)];simp
theorem JM{w:World}{g:Nat}{l:List Int}{t:TypeId}(h:w.heap[g]?=some (.cells (AL l) t (0,0)))(k:Nat)(x:Int) :
  (w.setCell ⟨g,k,none⟩ (.int .u8 x)).heap[g]?=some (.cells (AL (l.set k x)) t (0,0)):=by
 rw[heap_setCell_same _ _ _ _ _ _ h,Vn]
theorem K3(w:World)(G k:Nat)(h:k≠G)(a b c d:Nat)(x y z u:Value):((((w.setCell ⟨G,a,none⟩ x).setCell ⟨G,b,none⟩ y).setCell ⟨G,c,none⟩ z).setCell ⟨G,d,none⟩ u).heap[k]?=w.heap[k]?:=by
 rw[heap_setCell_other _ _ _ _ (by simpa using h),heap_setCell_other _ _ _ _ (by simpa using h),heap_setCell_other _ _ _ _ (by simpa using h),heap_setCell_other _ _ _ _ (by simpa using h)]
def DE(s t:List (BitVec 32))(j:Nat):List Int:=Ro s t j++List.replicate (64-4*j) 0
theorem Hy(s t:List (BitVec 32))(j:Nat)(hj:j≤16):(DE s t j).length=64:=by
 rw[DE,List.length_append,F7,List.length_replicate];omega
theorem Rx(s t:List (BitVec 32))(j:Nat)(hj:j<16)(x:BitVec 32)(hx:cx s t j=x):((((DE s t j).set (4*j) (uw x%256)).set (4*j+1) (uw x/256%256)).set (4*j+2) (uw x/65536%256)).set (4*j+3) (uw x/16777216%256)=DE s t (j+1):=by
 have e:List.replicate (64-4*j) (0:Int)=0::0::0::0::List.replicate (64-4*(j+1)) 0:=by
  rw[show 64-4*j=64-4*(j+1)+1+1+1+1 by omega];rfl
 rw[DE,e,ie _ _ _ _ _ _ _ _ _ _ _ (F7 s t j),DE,Ro,Kf,hx]
theorem G4(ws:List (BitVec 32))(w:World)(hws:ws.length=16)(ht:Cr w) :
  Calls prog 187 #[.agg (Av ws)] w fun e w'=>e=.returned (.agg (AL (Cf ws)))∧Bw w w':=by
 have hpos:=ht.pos;have hsz:(prog.info? 254).map (·.size)=some (Av ws).size:=by rw[AV,hws];kernel_rfl
 have hone:(Av ws).all (·.oneCell')=true:=by simp[Av,Value.oneCell']
 go_enter func187,ntmps187
 go_wp2_with ((with_reducible (refine CA ?_));first
  | (refine wpList_load_row rfl 254 _ rfl w.heap.size rfl 254 _ (0,0) _ (heap_alloc2_old _ _ _) underlying254 rfl hsz ?_)
  | (refine wpList_store_row rfl 254 _ _ rfl (w.heap.size+1+1) _ rfl rfl 254 (Av (List.replicate 16 0#32)) (Ff _ _ _ _) hsz (by rw[AV,AV,hws];rfl) hone ?_))
 generalize hW0:World.setRow _ _ _=W0;obtain⟨hF,hR,hS,hs0,hb0⟩:=PE w _ _ _ _ (Av (List.replicate 16 0#32)) 254 rfl hW0;clear hW0;have hR:W0.heap[w.heap.size+1]?=some (.cells (AL (List.replicate 64 0)) 223 (0,0)):=hR;have hq0:Cr W0:=ht.below hpos hb0
 go_loopw [10] (fun i wr=>∃ k:Nat,k≤10∧i=.int .i64 k∧wr.heap[w.heap.size+1+1]?=some (.cells (Av (Dn ws k)) 254 (0,0))∧Below (w.heap.size+1+1) W0 wr) (fun i _=>10-(intOf i).toNat)
 case atStart=>exact⟨0,by omega,rfl,hS,Below.refl _ _⟩
 case round =>
  clear hS;obtain⟨k,hk,rfl,hS,hbel⟩:=hrel;by_cases hk10:k<10
  ·obtain⟨tq,frq,hq⟩:=hq0.below (by omega) hbel;have hk10i:(k:Int)<10:=by omega
   have hixA:=dl;have hszq:(prog.info? 278).map (·.size)=some Ut.size:=by kernel_rfl
   generalize Ut=qa at hq hszq hixA;have HT:Hid (Dn ws (k+1)=G7 (Dn ws k) 8):=rfl;have hl0:(Dn ws k).length=16:=by rw[G8];exact hws
   generalize Dn ws k=S at HT hS hl0;go_wp2_with ((with_reducible (refine CA ?_));refine wpList_load_row rfl 278 (.global 4) rfl 4 rfl tq _ frq _ hq underlying278 rfl hszq ?_)
   clear hq
   go_loopw [13] (fun i wr=>∃ j:Nat,j≤8∧i=.int .i64 j∧wr.heap[w.heap.size+1+1]?=some (.cells (Av (G7 S j)) 254 (0,0))∧Below (w.heap.size+1+1) W0 wr) (fun i _=>8-(intOf i).toNat)
   case atStart=>exact⟨0,by omega,rfl,hS,hbel⟩
   case round =>
    clear hS hbel;obtain⟨j,hj,rfl,hS,hbel⟩:=hrel;have hbs:=hbel.size;by_cases hj8:j<8
    ·have hix:=hixA j hj8;have hj8i:(j:Int)<8:=by omega
     have HU:Hid (G7 S (j+1)=KX (G7 S j) (E3.getD (4*j) 0) (E3.getD (4*j+1) 0) (E3.getD (4*j+2) 0) (E3.getD (4*j+3) 0)):=rfl;have l0:=JQ (4*j);have l1:=JQ (4*j+1);have l2:=JQ (4*j+2);have l3:=JQ (4*j+3);have hlj:(G7 S j).length=16:=by rw[In];exact hl0
     generalize E3.getD (4*j) 0=q0 at hix HU l0;generalize E3.getD (4*j+1) 0=q1 at hix HU l1;generalize E3.getD (4*j+2) 0=q2 at hix HU l2;generalize E3.getD (4*j+3) 0=q3 at hix HU l3;generalize G7 S j=X at HU hS hlj;clear hixA;go_wp2_with fail
     refine(Pv (w.heap.size+1+1) X _ ((heap_alloc_old _ _ (by omega)).trans hS) hlj q0 q1 q2 q3 l0 l1 l2 l3).mono ?_;rintro e w1 ⟨rfl,hS1,hb1⟩;have hb2:Below (w.heap.size+1+1) W0 w1:=(hbel.alloc (by omega) _).trans hb1;clear hS hbel hb1 hbs hix;go_wp2
     go_roundw
     case rel=>exact⟨j+1,by omega,by go_num,by rw[HU.out];exact hS1,hb2⟩
     case measure=>simp[intOf];omega
    ·have HJ:Hid (j=8):=by unfold Hid;omega
     have hj8i:¬ (j:Int)<8:=by omega
     go_wp2
     go_roundw
     case rel=>exact⟨k+1,by omega,by go_num,by rw[HT.out,← HJ.out];exact hS,hbel⟩
     case measure=>simp[intOf];omega
  ·have HK:Hid (k=10):=by unfold Hid;omega
   have hk10i:¬ (k:Int)<10:=by omega
   have HB:Hid (k=10→Cf ws=DE (Dn ws k) ws 16):=by rintro rfl;simp[Cf,DE]
   have hl0:(Dn ws k).length=16:=by rw[G8];exact hws
   generalize Dn ws k=S at HB hS hl0;have hbs:=hbel.size;have hF1:=(hbel.block w.heap.size (by omega)).trans hF;have hR1:=(hbel.block (w.heap.size+1) (by omega)).trans hR;have hB1:Bw w wr:=hb0.trans (hbel.mono (by omega));have hsz1:(prog.info? 254).map (·.size)=some (Av S).size:=by rw[AV,hl0];kernel_rfl
   clear hF hR hb0 hbel hq0;go_wp2_with ((with_reducible (refine CA ?_));refine wpList_load_row rfl 254 _ rfl (w.heap.size+1+1) rfl 254 _ (0,0) _ ((heap_alloc_old _ _ (by omega)).trans hS) underlying254 rfl hsz1 ?_)
   have hBG:w.heap.size+1<wr.heap.size:=by omega
   generalize hW1:wr.alloc _=W1;have hN:W1.heap[wr.heap.size]?=some (.cells (AL (DE S ws 0)) 223 (0,0)):=by rw[← hW1];exact heap_alloc_new _ _
   have hF2:W1.heap[w.heap.size]?=some (.cells (Av ws) 254 (0,0)):=by rw[← hW1];exact(heap_alloc_old _ _ (by omega)).trans hF1
   have hR2:W1.heap[w.heap.size+1]?=some (.cells (AL (List.replicate 64 0)) 223 (0,0)):=by rw[← hW1];exact(heap_alloc_old _ _ (by omega)).trans hR1
   have hB2:Bw w W1:=by rw[← hW1];exact hB1.alloc hB1.size _
   clear hW1 hF1 hR1 hB1 hbs hS ht hsz hsz1 hone hk10i;generalize wr.heap.size=G at hN hBG ⊢
   go_loopw [28] (fun i wr=>∃ j:Nat,j≤16∧i=.int .i64 j∧wr.heap[G]?=some (.cells (AL (DE S ws j)) 223 (0,0))∧wr.heap[w.heap.size]?=some (.cells (Av ws) 254 (0,0))∧wr.heap[w.heap.size+1]?=some (.cells (AL (List.replicate 64 0)) 223 (0,0))∧Bw w wr) (fun i _=>16-(intOf i).toNat)
   case atStart=>exact⟨0,by omega,rfl,hN,hF2,hR2,hB2⟩
   case round =>
    clear hN hF2 hR2 hB2;obtain⟨j,hj,rfl,hN,hF,hR,hbel⟩:=hrel;by_cases hj16:j<16
    ·have hj16i:(j:Int)<16:=by omega
     have hix:=Zk S hl0 j hj16;have cf:=(cell_of_row wr _ j _ _ _ hF).trans (B1 ws j (by omega));have hpl:=Hy S ws j hj;have c0:=(cell_of_row wr _ (4*j) _ _ _ hN).trans (D5 _ (4*j) (by omega));have c1:=(cell_of_row wr _ (4*j+1) _ _ _ hN).trans (D5 _ (4*j+1) (by omega));have c2:=(cell_of_row wr _ (4*j+2) _ _ _ hN).trans (D5 _ (4*j+2) (by omega));have c3:=(cell_of_row wr _ (4*j+3) _ _ _ hN).trans (D5 _ (4*j+3) (by omega));have f0:=frozen_of_row wr _ (4*j) _ _ hN;have f1:=frozen_of_row wr _ (4*j+1) _ _ hN;have f2:=frozen_of_row wr _ (4*j+2) _ _ hN;have f3:=frozen_of_row wr _ (4*j+3) _ _ hN;obtain⟨x,hx,HX⟩:∃ x,(uw (S.getD j 0#32)+uw (ws.getD j 0#32))%(4294967296:Int)=uw x∧Hid (cx S ws j=x):=⟨_,CO _ _,rfl⟩;generalize S.getD j 0#32=xa at hix hx;generalize ws.getD j 0#32=xb at cf hx;have nx:=Dr x;have HN:Hid _:=hN;have HF:Hid _:=hF;have HR:Hid _:=hR;have HBE:Hid _:=hbel;have HPS:Hid (((((DE S ws j).set (4*j) (uw x%256)).set (4*j+1) (uw x/256%256)).set (4*j+2) (uw x/65536%256)).set (4*j+3) (uw x/16777216)=DE S ws (j+1)):=by
      have h1:=Rx S ws j hj16 x HX.out;rw[show uw x/16777216%256=uw x/16777216 by have:=Yk x;omega]at h1
      exact h1
     clear hN hF hR hbel hpl;go_wp2
     go_roundw
     case rel=>exact⟨j+1,by omega,by go_num,by rw[← HPS.out];exact JM (JM (JM (JM HN.out _ _) _ _) _ _) _ _,(K3 wr G _ (by omega) _ _ _ _ _ _ _ _).trans HF.out,(K3 wr G _ (by omega) _ _ _ _ _ _ _ _).trans HR.out,
       (((HBE.out.setCell (p:=⟨G,_,none⟩) (by simp;omega) _).setCell (p:=⟨G,_,none⟩) (by simp;omega) _).setCell (p:=⟨G,_,none⟩) (by simp;omega) _).setCell (p:=⟨G,_,none⟩) (by simp;omega) _⟩
     case measure=>simp[intOf];omega
    ·have HJ:Hid (j=16):=by unfold Hid;omega
     have hj16i:¬ (j:Int)<16:=by omega
     have hpl:=Hy S ws j hj;have hsz:(prog.info? 223).map (·.size)=some (AL (DE S ws j)).size:=by rw[Az,hpl];kernel_rfl
     have hone:(AL (DE S ws j)).all (·.oneCell')=true:=by simp[AL,Value.oneCell']
     go_wp2_with ((with_reducible (refine CA ?_));first|(refine wpList_load_row rfl 223 _ rfl G rfl 223 _ (0,0) _ hN underlying223 rfl hsz ?_)|(refine wpList_store_row rfl 223 _ _ rfl (w.heap.size+1) _ rfl rfl 223 _ hR hsz (by rw[Az,Az,hpl];rfl) hone ?_))
     refine bodyPost_ret (v:=.agg (AL (DE S ws j))) (results_cell_row rfl _ _ (w.heap.size+1) 223 _ (0,0) _ rfl (setRow_heap wr _ _ _ 223 _ hR) underlying223 rfl hsz) rfl ⟨?_,Cq hbel (by omega) _⟩;rw[HB.out HK.out,HJ.out]
def D7(key nonce:List Int)(c:Int):Int:=if key.length≠32∨nonce.length≠12 then 1 else if c<0∨1073741824<c then 2 else 0
theorem Oz{key nonce:List Int}{c:Int}(h:key.length≠32∨nonce.length≠12):D7 key nonce c=1:=by unfold D7;rw[if_pos h]
theorem Nl{key nonce:List Int}{c:Int}(hk:key.length=32)(hn:nonce.length=12)(h:c<0∨1073741824<c):D7 key nonce c=2:=by unfold D7;rw[if_neg (by omega),if_pos h]
theorem Iu{key nonce:List Int}{c:Int}(hk:key.length=32)(hn:nonce.length=12)(h:0≤c∧c≤1073741824):D7 key nonce c=0:=by unfold D7;rw[if_neg (by omega),if_neg (by omega)]
theorem Jn(vk vn:Value)(key nonce:List Int)(c:Int)(w:World)(hk:Sl w vk key)(hn:Sl w vn nonce) :
  Calls prog 174 #[vk,.int .i64 c,vn] w fun e w'=>e=.returned (.int .i64 (D7 key nonce c))∧w'=w:=by
 obtain⟨⟨ak,ck,rfl,_,_,_⟩,lk,_⟩:=hk;obtain⟨⟨an,cn,rfl,_,_,_⟩,ln,_⟩:=hn;have H1:Hid (key.length≠32∨nonce.length≠12→D7 key nonce c=1):=Oz;have H2:Hid (key.length=32→nonce.length=12→(c<0∨1073741824<c)→D7 key nonce c=2):=Nl;have H3:Hid (key.length=32→nonce.length=12→(0≤c∧c≤1073741824)→D7 key nonce c=0):=Iu;generalize D7 key nonce c=E at H1 H2 H3 ⊢;generalize key.length=n at *;generalize nonce.length=m at *;go_enter func174,ntmps174
 by_cases h1:(n:Int)=32
 ·by_cases h2:(m:Int)=12
  ·by_cases h3:c<0
   ·go_wp2
    go_ret;exact⟨by rw[H2.out (by omega) (by omega) (by omega)];rfl,rfl⟩
   ·by_cases h4:1073741824<c
    ·go_wp2
     go_ret;exact⟨by rw[H2.out (by omega) (by omega) (by omega)];rfl,rfl⟩
    ·go_wp2
     go_ret;exact⟨by rw[H3.out (by omega) (by omega) (by omega)];rfl,rfl⟩
  ·go_wp2
   go_ret;exact⟨by rw[H1.out (by omega)];rfl,rfl⟩
 ·go_wp2
  go_ret;exact⟨by rw[H1.out (by omega)];rfl,rfl⟩
theorem It(w:World)(l:List Int)(o:Obj)(t:TypeId)(old:Array Value)(ho:o=.cells old t (0,0)){W:World}(hW:(w.alloc o).setRow w.heap.size (AL l)=W) :
  W.heap[w.heap.size]?=some (.cells (AL l) t (0,0))∧Bw w W∧W.heap.size=w.heap.size+1:=by
 subst hW;subst ho;exact⟨setRow_heap _ _ _ _ t _ (heap_alloc_new _ _),Cq ((Below.refl _ _).alloc (Nat.le_refl _) _) (Nat.le_refl _) _,by simp⟩
theorem Sl.ofRow{w:World}{g:Nat}{l:List Int}{t:TypeId}{fr:Nat × Nat}(h:w.heap[g]?=some (.cells (AL l) t fr))(hl:l.length≤140737488351232)(hb:∀ x∈l,0≤x∧x<256):Sl w (.slice (some ⟨g,0,none⟩) l.length l.length) l:=by
 refine⟨⟨_,l.length,rfl,by simp,by simp,.inr ⟨g,0,rfl,(Array.getElem?_eq_some_iff.1 h).1,fun i hi=>?_⟩⟩,hl,hb⟩;rw[Nat.zero_add];exact(cell_of_row w _ i _ _ _ h).trans (D5 l i hi)
structure Got(w w':World)(v:Value)(l:List Int):Prop where
 sl:Sl w' v l
 bel:Bw w w'
 new:∀ b o n c,v=.slice (some ⟨b,o,none⟩) n c→w.heap.size≤b
theorem Vr(vk vn:Value)(key nonce:List Int)(c:Nat)(w:World)(hk:Sl w vk key)(hn:Sl w vn nonce)(lk:key.length=32)(ln:nonce.length=12)(hc:c≤1073741824)(ht:Cr w) :
  Calls prog 177 #[vk,.int .i64 c,vn] w fun e w'=>∃ v',e=.returned (.tuple #[v',.int .i64 0])∧Got w w' v' (Cf (BB key (BitVec.ofNat 32 c) nonce)):=by
 go_enter func177,ntmps177
 go_wp2_with fail
 refine(Jn vk vn key nonce c w hk hn).mono ?_;rintro e w1 ⟨rfl,rfl⟩;rw[Iu lk ln (by omega)];go_wp2_with fail
 refine(Mk vk vn key nonce c w1 hk hn lk ln (by omega)).mono ?_;rintro e w2 ⟨rfl,b2⟩;have hl:=Gs key (BitVec.ofNat 32 c) nonce;generalize hus:BB key (BitVec.ofNat 32 c) nonce=us at hl;have HUS:Hid (BB key (BitVec.ofNat 32 c) nonce=us):=hus;clear hus;go_wp2_with fail
 refine(G4 us w2 hl (ht.below ht.pos b2)).mono ?_;rintro e w3 ⟨rfl,b3⟩;have hbl:=Ee us;have hbb:=Fr us;generalize hbs:Cf us=bs at hbl hbb;have HBS:Hid (Cf us=bs):=hbs;clear hbs;have hsz:(prog.info? 223).map (·.size)=some (AL bs).size:=by rw[Az,hbl];kernel_rfl
 have hone:(AL bs).all (·.oneCell')=true:=by simp[AL,Value.oneCell']
 go_wp2_with ((with_reducible (refine CA ?_));refine wpList_store_row rfl 223 _ _ rfl w3.heap.size _ rfl rfl 223 (AL (List.replicate 64 0)) (heap_alloc_new _ _) hsz (by rw[Az,Az,hbl];rfl) hone ?_)
 generalize hW4:World.setRow _ _ _=W4;obtain⟨hr,b4,_⟩:=It w3 bs _ 223 (AL (List.replicate 64 0)) rfl hW4
 go_ret2
 refine⟨_,rfl,?_,(b2.trans (b3.mono b2.size)).trans (b4.mono (Nat.le_trans b2.size b3.size)),fun b o n c e=>?_⟩
 ·rw[HUS.out,HBS.out];have:=Sl.ofRow hr (by omega) hbb;rw[hbl]at this
  exact this
 ·have:=Nat.le_trans b2.size b3.size;injection e with e1
  injection e1 with e2
  injection e2 with e3
  omega
theorem RZ{x y:Int}(hx:0≤x∧x<256)(hy:0≤y∧y<256):bits .xor .u8 x y=bx x y:=by
 obtain⟨a,rfl⟩:∃ a:Nat,x=a:=⟨x.toNat,by omega⟩;obtain⟨b,rfl⟩:∃ b:Nat,y=b:=⟨y.toNat,by omega⟩;rw[u8_xor_nat _ _ (by omega) (by omega)];rfl
theorem I9{w:World}{base e:Nat}{v:Value}{n:Nat}{xs:List Value}(h:w.ownsRow base e 1 v n xs){g:Nat}{cs:Array Value}{t:TypeId}{fr:Nat × Nat}(hg:w.heap[g]?=some (.cells cs t fr))(ht:t≠e):v.ownBlock≠some g:=by
 intro hv;rcases h.2 with⟨rfl,_⟩|⟨g',cap,cur,rfl,_,hg',_⟩
 ·simp[Value.ownBlock]at hv
 ·simp only[Value.ownBlock,Option.some.injEq]at hv;subst hv;rw[hg']at hg
  simp only[Option.some.injEq,Obj.cells.injEq]at hg;exact ht hg.2.1.symm
theorem E2{w w':World}{base e:Nat}{v:Value}{n:Nat}{xs:List Value}(h:w.ownsRow base e 1 v n xs)(hk:∀ k,v.ownBlock=some k→w'.heap[k]?=w.heap[k]?):w'.ownsRow base e 1 v n xs:=by
 refine⟨h.1,?_⟩;rcases h.2 with h2|⟨g,cap,cur,hv,hb,hg,hr⟩
 ·exact .inl h2
 ·exact .inr ⟨g,cap,cur,hv,hb,(hk g (by rw[hv];rfl)).trans hg,hr⟩
theorem Sl.one2(w:World)(b b':Int)(e:TypeId){g:Nat}(hg:g=w.heap.size)(hb:0≤b∧b<256)(he:b'=b):Sl (w.alloc (.cells #[.int .u8 b'] e)) (.slice (some ⟨g,0,none⟩) 1 1) [b]:=by
 subst he;exact Sl.one w b' e hg hb
theorem Yl(x:BitVec 32):(uw x+1)%(4294967296:Int)=uw (x+1#32):=CO x 1#32
theorem Qw(c:BitVec 32)(q:Nat):c+BitVec.ofNat 32 q+1#32=c+BitVec.ofNat 32 (q+1):=by
 rw[BitVec.add_assoc]
 congr 1
 apply BitVec.eq_of_toNat_eq;simp[BitVec.toNat_add,BitVec.toNat_ofNat]
def Eh(ws:List (BitVec 32))(q:Nat):List (BitVec 32):=ws.set 12 (ws.getD 12 0#32+BitVec.ofNat 32 q)
theorem O3(ws:List (BitVec 32))(q:Nat):(Eh ws q).length=ws.length:=by simp[Eh]
theorem Tu(ws:List (BitVec 32))(h:ws.length=16):Eh ws 0=ws:=by
 unfold Eh;rw[show BitVec.ofNat 32 0=0#32 from rfl,BitVec.add_zero,List.getD,List.getElem?_eq_getElem (by omega),Option.getD_some,List.set_getElem_self]
theorem YF(ws:List (BitVec 32))(q:Nat)(h:ws.length=16):(Eh ws q).getD 12 0#32=ws.getD 12 0#32+BitVec.ofNat 32 q:=by
 unfold Eh;simp[List.getD,h]
theorem Tt(ws:List (BitVec 32))(q:Nat)(h:ws.length=16):(Eh ws q).set 12 ((Eh ws q).getD 12 0#32+1#32)=Eh ws (q+1):=by
 rw[YF ws q h,Qw];unfold Eh;rw[List.set_set]
theorem PF(ws:List (BitVec 32))(q j:Nat)(hj:j<64):MU ws (64*q+j)=(Cf (Eh ws q)).getD j 0:=by
 unfold MU Eh;rw[show(64*q+j)/64=q by omega,show(64*q+j)%64=j by omega]
theorem Qq(ws:List (BitVec 32))(vd:Value)(d:List Int)(w:World)(hws:ws.length=16)(hd:Sl w vd d)(hl:d.length≤100000)(ht:Cr w) :
  Calls prog 175 #[.agg (Av ws),vd] w fun e w'=>∃ v',e=.returned v'∧w'.ownsRow w.heap.size 5 1 v' (OY ws d).length ((OY ws d).map (Value.int .u8))∧Bw w w':=by
 obtain⟨i0,hi,hz0,hz1,hz2⟩:=info_parts At;have hds:=hd;obtain⟨⟨ad,capd,rfl,hc,hn,h1⟩,hla,hba⟩:=hd;have hpos:=ht.pos;generalize hnn:d.length=n at *;have HN:Hid (d.length=n):=hnn;clear hnn h1 hn;go_enter func175,ntmps175
 go_wp2_with (at_make;refine wpList_make_own _ rfl _ _ 25 rfl w.heap.size 5 i0 (.int .u8 0) 1 underlying25 hi hz0 hz1 _ _ _ n rfl rfl (by omega) (by rw[hz2];omega) (by unfold maxLen;omega) (by simp) ?_)
 intro w1 ho1 hg1;have hrow:w1.heap[w.heap.size]?=some (.cells (Av (Eh ws 0)) 254 (0,0)):=by
  rw[hg1.block w.heap.size (by simp) (by simp),Tu ws hws];exact heap_alloc_new _ _
 have hb1:Bw w w1:=((Below.refl _ _).alloc (Nat.le_refl _) _).grown hg1 (by simp) (by simp);have ho1':w1.ownsRow w.heap.size 5 1 (.slice (some ⟨w.heap.size+1,0,none⟩) 0 n) (CI ws d 0).length ((CI ws d 0).map (Value.int .u8)):=ho1;clear hg1 ho1 hz0 hz1 hz2 hi;go_wp2_with fail
 go_loopw [5] (fun v wr=>∃ (q m:Nat) (a:Option Addr) (cap:Nat),m=min (64*q) n∧v=.slice a m cap∧wr.ownsRow w.heap.size 5 1 v (CI ws d m).length ((CI ws d m).map (Value.int .u8))∧wr.heap[w.heap.size]?=some (.cells (Av (Eh ws q)) 254 (0,0))∧Bw w wr) (fun v _=>n-WL v)
 case atStart=>exact⟨0,0,_,_,by omega,rfl,ho1',hrow,hb1⟩
 case round =>
  clear ho1' hrow hb1;obtain⟨q,m,a,cap,hm,rfl,hown,hrow,hb⟩:=hrel;have HM:Hid (m=min (64*q) n):=hm;have hmle:m≤n:=by omega
  clear hm;have hBlt:w.heap.size<wr.heap.size:=(Array.getElem?_eq_some_iff.1 hrow).1;by_cases hmn:m<n
  ·have hmni:(m:Int)<(n:Int):=by omega
   have HM64:Hid (m=64*q):=by have:=HM.out;unfold Hid;omega
   have hul:(Eh ws q).length=16:=by rw[O3];exact hws
   have HBL:Hid (∀ j,j<64→MU ws (m+j)=(Cf (Eh ws q)).getD j 0):=fun j hj=>by rw[HM64.out];exact PF ws q j hj
   have hsz:(prog.info? 254).map (·.size)=some (Av (Eh ws q)).size:=by rw[AV,hul];kernel_rfl
   have HSU:Hid ((Eh ws q).set 12 ((Eh ws q).getD 12 0#32+1#32)=Eh ws (q+1)):=Tt ws q hws;generalize Eh ws q=us at hrow hul HBL hsz HSU;go_wp2_with ((with_reducible (refine CA ?_));refine wpList_load_row rfl 254 _ rfl w.heap.size rfl 254 _ (0,0) _ hrow underlying254 rfl hsz ?_)
   refine(G4 us wr hul (ht.below hpos hb)).mono ?_;rintro e w2 ⟨rfl,b2⟩;have hbl:=Ee us;have hbb:=Fr us;generalize Cf us=bs at hbl hbb HBL;have hsz2:(prog.info? 223).map (·.size)=some (AL bs).size:=by rw[Az,hbl];kernel_rfl
   have hone:(AL bs).all (·.oneCell')=true:=by simp[AL,Value.oneCell']
   have hkeep:∀ k,Value.ownBlock (.slice a m cap)=some k→k<wr.heap.size:=fun k hk=>(hown.lt k hk).2;by_cases h64:(64:Int)≤(n:Int)-(m:Int)
   ·have HRr:Hid (m+64=min (64*(q+1)) n):=by have:=HM64.out;unfold Hid;omega
    have hrn:m+64≤n:=by omega
    have hr64:64≤64:=by omega
    go_wp2_with ((with_reducible (refine CA ?_));refine wpList_store_row rfl 223 _ _ rfl w2.heap.size _ rfl rfl 223 (AL (List.replicate 64 0)) (heap_alloc_new _ _) hsz2 (by rw[Az,Az,hbl];rfl) hone ?_)
    generalize hW3:World.setRow _ _ _=W3;obtain⟨hg3,b3,hs3⟩:=It w2 bs _ 223 (AL (List.replicate 64 0)) rfl hW3;clear hW3;have b23:Bw wr W3:=b2.trans (b3.mono b2.size);have hrow3:=(b23.block w.heap.size hBlt).trans hrow;have hown3:=E2 hown (fun k hk=>b23.block k (hkeep k hk));have hb3:Bw w W3:=hb.trans (b23.mono hb.size);have hgB:w.heap.size<w2.heap.size:=Nat.lt_of_lt_of_le hBlt b2.size;clear hown hrow hb b2 b3 b23 hkeep hs3 hsz hsz2 hone hmn hmni;generalize w2.heap.size=g at hg3 hgB ⊢
    go_loopw [5,27] (fun v i wr=>∃ (j:Nat) (a:Option Addr) (cap:Nat),j≤64∧i=.int .i64 j∧v=.slice a (m+j) cap∧wr.ownsRow w.heap.size 5 1 v (CI ws d (m+j)).length ((CI ws d (m+j)).map (Value.int .u8))∧wr.heap[w.heap.size]?=some (.cells (Av us) 254 (0,0))∧wr.heap[g]?=some (.cells (AL bs) 223 (0,0))∧Bw w wr) (fun _ i _=>64-(intOf i).toNat)
    case atStart=>exact⟨0,a,cap,by omega,rfl,rfl,hown3,hrow3,hg3,hb3⟩
    case round =>
     clear hown3 hrow3 hg3 hb3;obtain⟨j,a2,cap2,hj,rfl,rfl,hown,hrow,hg,hb⟩:=hrel;by_cases hjr:j<64
     ·have hjri:(j:Int)<(64:Int):=by omega
      have hlt:=hown.lt;have cb:=(cell_of_row wr _ j _ _ _ hg).trans (D5 bs j (by omega));obtain⟨bd,od,rfl,hbd,hcd⟩:∃ bd od,ad=some ⟨bd,od,none⟩∧bd<w.heap.size∧w.cell? ⟨bd,od+(m+j),none⟩=some (.int .u8 (d.getD (m+j) 0)):=by
       obtain⟨⟨a',cap',e',_,_,h1'⟩,_,_⟩:=hds;rw[HN.out]at e' h1'
       simp only[Value.slice.injEq]at e';obtain⟨rfl,_,_⟩:=e';rcases h1' with h1'|⟨b',o',rfl,hb',hc'⟩
       ·have:=HN.out;rw[h1']at this;simp at this;omega
       ·exact⟨b',o',rfl,hb',hc' (m+j) (by omega)⟩
      have cd:=(hb.cell (p:=⟨bd,od+(m+j),none⟩) hbd).trans hcd;have y1:=Ak hbb j;have y2:=Ak hba (m+j);have HV:Hid (CI ws d (m+(j+1))=CI ws d (m+j)++[bx (bs.getD j 0) (d.getD (m+j) 0)]):=by
       unfold Hid;rw[← HBL.out j (by omega)];rfl
      have hml:=EI ws d (m+j);have HBX:=Nj y1 y2;have HXX:Hid (bits .xor .u8 (bs.getD j 0) (d.getD (m+j) 0)=bx (bs.getD j 0) (d.getD (m+j) 0)):=RZ y1 y2;have HBB:Hid (0≤bx (bs.getD j 0) (d.getD (m+j) 0)∧bx (bs.getD j 0) (d.getD (m+j) 0)<256):=HBX;clear HBX hcd;generalize bs.getD j 0=x at cb y1 HV HXX HBB;generalize d.getD (m+j) 0=y at cd y2 HV HXX HBB;generalize bx x y=xy at HV HXX HBB;generalize CI ws d (m+j)=pre at hown hml HV;go_wp2_with (at_builtin;refine Aa _ rfl _ _ 25 rfl w.heap.size 5 underlying25 At _ _ rfl rfl pre [xy] (hown.alloc _) (Sl.one2 _ _ _ _ rfl HBB.out HXX.out) (by rw[hml];simp;omega) (by have:=hb.size;simp;omega) ?_)
      intro v' w' ho hgr;have ho':w'.ownsRow w.heap.size 5 1 v' (pre++[xy]).length ((pre++[xy]).map (Value.int .u8)):=by simpa[hml]using ho
      have hb':Bw w w':=(hb.alloc hb.size _).grown hgr (by have:=hb.size;simp;omega) (fun k hk=>(hlt k hk).1);have n1:=I9 hown hrow (by decide);have n2:=I9 hown hg (by decide);have hBs:w.heap.size<wr.heap.size:=(Array.getElem?_eq_some_iff.1 hrow).1;have hgs:g<wr.heap.size:=(Array.getElem?_eq_some_iff.1 hg).1;have hrow':w'.heap[w.heap.size]?=some (.cells (Av us) 254 (0,0)):=((hgr.block w.heap.size (by simp;omega) n1.symm).trans (heap_alloc_old _ _ hBs)).trans hrow;have hg':w'.heap[g]?=some (.cells (AL bs) 223 (0,0)):=((hgr.block g (by simp;omega) n2.symm).trans (heap_alloc_old _ _ hgs)).trans hg;obtain⟨a3,c3,hv3⟩:=DU ho';rw[List.length_append,hml,List.length_singleton]at hv3
      subst hv3;clear ho hgr hown hlt hb hrow hg cb cd n1 n2;go_wp2
      go_roundw
      case rel=>exact⟨j+1,a3,c3,by omega,by go_num,rfl,by rw[HV.out];exact ho',hrow',hg',hb'⟩
      case measure=>simp[intOf];omega
     ·have hjri:¬ (j:Int)<(64:Int):=by omega
      have HJ:Hid (j=64):=by unfold Hid;omega
      have c12:=(cell_of_row wr _ 12 _ _ _ hrow).trans (B1 us 12 (by omega));have f12:=frozen_of_row wr _ 12 _ _ hrow;generalize hcw:us.getD 12 0#32=cw at c12;have HCW:Hid (us.getD 12 0#32=cw):=hcw;clear hcw;have hinc:=Yl cw;have n1:=I9 hown hrow (by decide);go_wp2
      go_roundw
      case rel =>
       refine⟨q+1,m+j,a2,cap2,by rw[HJ.out];exact HRr.out,rfl,E2 hown (fun k hk=>heap_setCell_other _ _ _ _ (by simp;intro e;subst e;exact n1 hk)),?_,hb.setCell (p:=⟨w.heap.size,12,none⟩) (Nat.le_refl _) _⟩;rw[← HSU.out,HCW.out];exact E5 hrow 12 _
      case measure=>simp[WL];have:=HJ.out;omega
   ·obtain⟨r,hrsub⟩:∃ r:Nat,(n:Int)-(m:Int)=(r:Int):=⟨n-m,by omega⟩;have HRr:Hid (m+r=min (64*(q+1)) n):=by have:=HM64.out;unfold Hid;omega
    have hrn:m+r≤n:=by omega
    have hr64:r≤64:=by omega
    have hr64i:(r:Int)≤64:=by omega
    have hr0i:(0:Int)≤(r:Int):=by omega
    have hr1:0<r:=by omega
    go_wp2_with ((with_reducible (refine CA ?_));refine wpList_store_row rfl 223 _ _ rfl w2.heap.size _ rfl rfl 223 (AL (List.replicate 64 0)) (heap_alloc_new _ _) hsz2 (by rw[Az,Az,hbl];rfl) hone ?_)
    generalize hW3:World.setRow _ _ _=W3;obtain⟨hg3,b3,hs3⟩:=It w2 bs _ 223 (AL (List.replicate 64 0)) rfl hW3;clear hW3;have b23:Bw wr W3:=b2.trans (b3.mono b2.size);have hrow3:=(b23.block w.heap.size hBlt).trans hrow;have hown3:=E2 hown (fun k hk=>b23.block k (hkeep k hk));have hb3:Bw w W3:=hb.trans (b23.mono hb.size);have hgB:w.heap.size<w2.heap.size:=Nat.lt_of_lt_of_le hBlt b2.size;clear hown hrow hb b2 b3 b23 hkeep hs3 hsz hsz2 hone hmn hmni;generalize w2.heap.size=g at hg3 hgB ⊢
    go_loopw [5,27] (fun v i wr=>∃ (j:Nat) (a:Option Addr) (cap:Nat),j≤r∧i=.int .i64 j∧v=.slice a (m+j) cap∧wr.ownsRow w.heap.size 5 1 v (CI ws d (m+j)).length ((CI ws d (m+j)).map (Value.int .u8))∧wr.heap[w.heap.size]?=some (.cells (Av us) 254 (0,0))∧wr.heap[g]?=some (.cells (AL bs) 223 (0,0))∧Bw w wr) (fun _ i _=>r-(intOf i).toNat)
    case atStart=>exact⟨0,a,cap,by omega,rfl,rfl,hown3,hrow3,hg3,hb3⟩
    case round =>
     clear hown3 hrow3 hg3 hb3;obtain⟨j,a2,cap2,hj,rfl,rfl,hown,hrow,hg,hb⟩:=hrel;by_cases hjr:j<r
     ·have hjri:(j:Int)<(r:Int):=by omega
      have hlt:=hown.lt;have cb:=(cell_of_row wr _ j _ _ _ hg).trans (D5 bs j (by omega));obtain⟨bd,od,rfl,hbd,hcd⟩:∃ bd od,ad=some ⟨bd,od,none⟩∧bd<w.heap.size∧w.cell? ⟨bd,od+(m+j),none⟩=some (.int .u8 (d.getD (m+j) 0)):=by
       obtain⟨⟨a',cap',e',_,_,h1'⟩,_,_⟩:=hds;rw[HN.out]at e' h1'
       simp only[Value.slice.injEq]at e';obtain⟨rfl,_,_⟩:=e';rcases h1' with h1'|⟨b',o',rfl,hb',hc'⟩
       ·have:=HN.out;rw[h1']at this;simp at this;omega
       ·exact⟨b',o',rfl,hb',hc' (m+j) (by omega)⟩
      have cd:=(hb.cell (p:=⟨bd,od+(m+j),none⟩) hbd).trans hcd;have y1:=Ak hbb j;have y2:=Ak hba (m+j);have HV:Hid (CI ws d (m+(j+1))=CI ws d (m+j)++[bx (bs.getD j 0) (d.getD (m+j) 0)]):=by
       unfold Hid;rw[← HBL.out j (by omega)];rfl
      have hml:=EI ws d (m+j);have HBX:=Nj y1 y2;have HXX:Hid (bits .xor .u8 (bs.getD j 0) (d.getD (m+j) 0)=bx (bs.getD j 0) (d.getD (m+j) 0)):=RZ y1 y2;have HBB:Hid (0≤bx (bs.getD j 0) (d.getD (m+j) 0)∧bx (bs.getD j 0) (d.getD (m+j) 0)<256):=HBX;clear HBX hcd;generalize bs.getD j 0=x at cb y1 HV HXX HBB;generalize d.getD (m+j) 0=y at cd y2 HV HXX HBB;generalize bx x y=xy at HV HXX HBB;generalize CI ws d (m+j)=pre at hown hml HV;go_wp2_with (at_builtin;refine Aa _ rfl _ _ 25 rfl w.heap.size 5 underlying25 At _ _ rfl rfl pre [xy] (hown.alloc _) (Sl.one2 _ _ _ _ rfl HBB.out HXX.out) (by rw[hml];simp;omega) (by have:=hb.size;simp;omega) ?_)
      intro v' w' ho hgr;have ho':w'.ownsRow w.heap.size 5 1 v' (pre++[xy]).length ((pre++[xy]).map (Value.int .u8)):=by simpa[hml]using ho
      have hb':Bw w w':=(hb.alloc hb.size _).grown hgr (by have:=hb.size;simp;omega) (fun k hk=>(hlt k hk).1);have n1:=I9 hown hrow (by decide);have n2:=I9 hown hg (by decide);have hBs:w.heap.size<wr.heap.size:=(Array.getElem?_eq_some_iff.1 hrow).1;have hgs:g<wr.heap.size:=(Array.getElem?_eq_some_iff.1 hg).1;have hrow':w'.heap[w.heap.size]?=some (.cells (Av us) 254 (0,0)):=((hgr.block w.heap.size (by simp;omega) n1.symm).trans (heap_alloc_old _ _ hBs)).trans hrow;have hg':w'.heap[g]?=some (.cells (AL bs) 223 (0,0)):=((hgr.block g (by simp;omega) n2.symm).trans (heap_alloc_old _ _ hgs)).trans hg;obtain⟨a3,c3,hv3⟩:=DU ho';rw[List.length_append,hml,List.length_singleton]at hv3
      subst hv3;clear ho hgr hown hlt hb hrow hg cb cd n1 n2;go_wp2
      go_roundw
      case rel=>exact⟨j+1,a3,c3,by omega,by go_num,rfl,by rw[HV.out];exact ho',hrow',hg',hb'⟩
      case measure=>simp[intOf];omega
     ·have hjri:¬ (j:Int)<(r:Int):=by omega
      have HJ:Hid (j=r):=by unfold Hid;omega
      have c12:=(cell_of_row wr _ 12 _ _ _ hrow).trans (B1 us 12 (by omega));have f12:=frozen_of_row wr _ 12 _ _ hrow;generalize hcw:us.getD 12 0#32=cw at c12;have HCW:Hid (us.getD 12 0#32=cw):=hcw;clear hcw;have hinc:=Yl cw;have n1:=I9 hown hrow (by decide);go_wp2
      go_roundw
      case rel =>
       refine⟨q+1,m+j,a2,cap2,by rw[HJ.out];exact HRr.out,rfl,E2 hown (fun k hk=>heap_setCell_other _ _ _ _ (by simp;intro e;subst e;exact n1 hk)),?_,hb.setCell (p:=⟨w.heap.size,12,none⟩) (Nat.le_refl _) _⟩;rw[← HSU.out,HCW.out];exact E5 hrow 12 _
      case measure=>simp[WL];have:=HJ.out;omega
  ·have hmni:¬ (m:Int)<(n:Int):=by omega
   have HMN:Hid (n=m):=by unfold Hid;omega
   go_wp2
   go_ret;refine⟨_,rfl,?_,hb⟩;unfold OY;rw[HN.out,HMN.out];exact hown
theorem Zx(vk vn vd:Value)(key nonce d:List Int)(c:Nat)(w:World)(hk:Sl w vk key)(hn:Sl w vn nonce)(hd:Sl w vd d)(lk:key.length=32)(ln:nonce.length=12)(hc:c≤1073741824)(ld:d.length≤2000)(ht:Cr w) :
  Calls prog 151 #[vk,.int .i64 c,vn,vd] w fun e w'=>∃ v',e=.returned (.tuple #[v',.int .i64 0])∧w'.ownsRow w.heap.size 5 1 v' (OY (BB key (BitVec.ofNat 32 c) nonce) d).length ((OY (BB key (BitVec.ofNat 32 c) nonce) d).map (Value.int .u8))∧Bw w w':=by
 have hds:=hd;obtain⟨⟨ad,capd,rfl,hcd,hnd,h1⟩,hla,hba⟩:=hd;clear h1;have ldi:(d.length:Int)≤2000:=by omega
 go_enter func151,ntmps151
 go_wp2_with fail
 refine(Jn vk vn key nonce c w hk hn).mono ?_;rintro e w1 ⟨rfl,rfl⟩;rw[Iu lk ln (by omega)];go_wp2_with fail
 refine(Mk vk vn key nonce c w1 hk hn lk ln (by omega)).mono ?_;rintro e w2 ⟨rfl,b2⟩;have hl:=Gs key (BitVec.ofNat 32 c) nonce;generalize hus:BB key (BitVec.ofNat 32 c) nonce=us at hl;have HUS:Hid (BB key (BitVec.ofNat 32 c) nonce=us):=hus;clear hus;go_wp2_with fail
 refine(Qq us _ d w2 hl (hds.below b2) (by omega) (ht.below ht.pos b2)).mono ?_;rintro e w3 ⟨v3,rfl,ho3,b3⟩;go_wp2
 go_ret2
 refine⟨v3,rfl,?_,b2.trans (b3.mono b2.size)⟩;rw[HUS.out];exact AP ho3 b2.size
def Ah(l:List Int):Array Value:=(l.map (Value.int .u64)).toArray
theorem Al(l:List Int):(Ah l).size=l.length:=by simp[Ah]
theorem Aq(l:List Int)(i:Nat)(h:i<l.length):(Ah l)[i]?=some (.int .u64 (l.getD i 0)):=by
 simp[Ah,List.getD,List.getElem?_eq_getElem h]
theorem WW(l:List Int)(i:Nat)(x:Int):(Ah l).setIfInBounds i (.int .u64 x)=Ah (l.set i x):=by
 apply Array.ext';simp[Ah,List.map_set]
theorem DT{w:World}{g:Nat}{l:List Int}{t:TypeId}(h:w.heap[g]?=some (.cells (Ah l) t (0,0)))(k:Nat)(x:Int) :
  (w.setCell ⟨g,k,none⟩ (.int .u64 x)).heap[g]?=some (.cells (Ah (l.set k x)) t (0,0)):=by
 rw[heap_setCell_same _ _ _ _ _ _ h,WW]
theorem Bn(l:List Int):(Ah l).all (·.oneCell')=true:=by simp[Ah,Value.oneCell']
theorem MA:∀ (S:List Int),S.length=5→∃ a b c d e,S=[a,b,c,d,e]
 | [a,b,c,d,e],_=>⟨a,b,c,d,e,rfl⟩
def val:List Int→Int
 | []=>0
 | x::l=>x+67108864*val l
def Lim(B:Int)(l:List Int):Prop:=l.length=5∧∀ j,0≤l.getD j 0∧l.getD j 0<B
theorem Lim.of5{B a b c d e:Int}(ha:0≤a∧a<B)(hb:0≤b∧b<B)(hc:0≤c∧c<B)(hd:0≤d∧d<B)(he:0≤e∧e<B):Lim B [a,b,c,d,e]:=by
 refine⟨rfl,fun j=>?_⟩
 match j with
 | 0=>exact ha
 | 1=>exact hb
 | 2=>exact hc
 | 3=>exact hd
 | 4=>exact he
 | j+5=>simp[List.getD];omega
theorem Lim.split{B:Int}{l:List Int}(h:Lim B l):∃ a b c d e,l=[a,b,c,d,e]∧(0≤a∧a<B)∧(0≤b∧b<B)∧(0≤c∧c<B)∧(0≤d∧d<B)∧(0≤e∧e<B):=by
 obtain⟨a,b,c,d,e,rfl⟩:=MA l h.1;exact⟨a,b,c,d,e,rfl,h.2 0,h.2 1,h.2 2,h.2 3,h.2 4⟩
theorem Lim.mono{B C:Int}{l:List Int}(h:Lim B l)(hBC:B≤C):Lim C l:=⟨h.1,fun j=>⟨(h.2 j).1,by have:=(h.2 j).2;omega⟩⟩
theorem CP(a b c d e:Int):val [a,b,c,d,e]=a+67108864*b+4503599627370496*c+302231454903657293676544*d+20282409603651670423947251286016*e:=by
 simp only[val];omega
structure Carr(l m:List Int)(k:Nat)(o:Int):Prop where
 len:m.length=5
 sum:val m+o*67108864^k=val l
 done:∀ j,j<k→0≤m.getD j 0∧m.getD j 0<67108864
 rest:∀ j,k≤j→m.getD j 0=l.getD j 0
 lo:0≤o
 hi:o<274877906944
theorem Carr.zero{l:List Int}(h:l.length=5):Carr l l 0 0:=⟨h,by omega,fun _ h=>by omega,fun _ _=>rfl,by omega,by omega⟩
theorem Carr.succ{l m:List Int}{k:Nat}{o:Int}(h:Carr l m k o)(hl:Lim 9223372036854775808 l)(hk:k<5) :
  Carr l (m.set k ((m.getD k 0+o)%67108864)) (k+1) ((m.getD k 0+o)/67108864):=by
 obtain⟨l0,l1,l2,l3,l4,rfl,b0,b1,b2,b3,b4⟩:=hl.split;obtain⟨m0,m1,m2,m3,m4,rfl⟩:=MA m h.len;have hs:=h.sum;have hd:=h.done;have hr:=h.rest;have h1:=h.lo;have h2:=h.hi;rw[CP]at hs
 rw[CP]at hs
 obtain rfl|rfl|rfl|rfl|rfl:k=0∨k=1∨k=2∨k=3∨k=4:=by omega
 ·have e0:m0=l0:=hr 0 (by omega);have e1:m1=l1:=hr 1 (by omega);have e2:m2=l2:=hr 2 (by omega);have e3:m3=l3:=hr 3 (by omega);have e4:m4=l4:=hr 4 (by omega);simp only[List.set_cons_zero,List.getD_cons_zero];refine⟨rfl,?_,fun j hj=>?_,fun j hj=>?_,by omega,by omega⟩
  ·rw[CP,CP];omega
  ·obtain rfl:j=0:=by omega
   simp only[List.getD_cons_zero];omega
  ·obtain⟨j,rfl⟩:∃ i,j=i+1:=⟨j-1,by omega⟩;have:=hr (j+1) (by omega);simpa using this
 ·have e1:m1=l1:=hr 1 (by omega);have d0:0≤m0∧m0<67108864:=hd 0 (by omega);simp only[List.set_cons_zero,List.set_cons_succ,List.getD_cons_zero,List.getD_cons_succ];refine⟨rfl,?_,fun j hj=>?_,fun j hj=>?_,by omega,by omega⟩
  ·rw[CP,CP];omega
  ·obtain rfl|rfl:j=0∨j=1:=by omega
   ·exact d0
   ·simp only[List.getD_cons_zero,List.getD_cons_succ];omega
  ·obtain⟨j,rfl⟩:∃ i,j=i+2:=⟨j-2,by omega⟩;have:=hr (j+2) (by omega);simpa using this
 ·have e1:m2=l2:=hr 2 (by omega);have d0:0≤m0∧m0<67108864:=hd 0 (by omega);have d1:0≤m1∧m1<67108864:=hd 1 (by omega);simp only[List.set_cons_zero,List.set_cons_succ,List.getD_cons_zero,List.getD_cons_succ];refine⟨rfl,?_,fun j hj=>?_,fun j hj=>?_,by omega,by omega⟩
  ·rw[CP,CP];omega
  ·obtain rfl|rfl|rfl:j=0∨j=1∨j=2:=by omega
   ·exact d0
   ·exact d1
   ·simp only[List.getD_cons_zero,List.getD_cons_succ];omega
  ·obtain⟨j,rfl⟩:∃ i,j=i+3:=⟨j-3,by omega⟩;have:=hr (j+3) (by omega);simpa using this
 ·have e1:m3=l3:=hr 3 (by omega);have d0:0≤m0∧m0<67108864:=hd 0 (by omega);have d1:0≤m1∧m1<67108864:=hd 1 (by omega);have d2:0≤m2∧m2<67108864:=hd 2 (by omega);simp only[List.set_cons_zero,List.set_cons_succ,List.getD_cons_zero,List.getD_cons_succ];refine⟨rfl,?_,fun j hj=>?_,fun j hj=>?_,by omega,by omega⟩
  ·rw[CP,CP];omega
  ·obtain rfl|rfl|rfl|rfl:j=0∨j=1∨j=2∨j=3:=by omega
   ·exact d0
   ·exact d1
   ·exact d2
   ·simp only[List.getD_cons_zero,List.getD_cons_succ];omega
  ·obtain⟨j,rfl⟩:∃ i,j=i+4:=⟨j-4,by omega⟩;have:=hr (j+4) (by omega);simpa using this
 ·have e1:m4=l4:=hr 4 (by omega);have d0:0≤m0∧m0<67108864:=hd 0 (by omega);have d1:0≤m1∧m1<67108864:=hd 1 (by omega);have d2:0≤m2∧m2<67108864:=hd 2 (by omega);have d3:0≤m3∧m3<67108864:=hd 3 (by omega);simp only[List.set_cons_zero,List.set_cons_succ,List.getD_cons_zero,List.getD_cons_succ];refine⟨rfl,?_,fun j hj=>?_,fun j hj=>?_,by omega,by omega⟩
  ·rw[CP,CP];omega
  ·obtain rfl|rfl|rfl|rfl|rfl:j=0∨j=1∨j=2∨j=3∨j=4:=by omega
   ·exact d0
   ·exact d1
   ·exact d2
   ·exact d3
   ·simp only[List.getD_cons_zero,List.getD_cons_succ];omega
  ·obtain⟨j,rfl⟩:∃ i,j=i+5:=⟨j-5,by omega⟩;simp[List.getD]
theorem Carr.five{l m:List Int}{o:Int}(h:Carr l m 5 o):Lim 67108864 m∧val m+1361129467683753853853498429727072845824*o=val l:=by
 refine⟨⟨h.len,fun j=>?_⟩,?_⟩
 ·by_cases hj:j<5
  ·exact h.done j hj
  ·rw[Gb (by have:=h.len;omega)];omega
 ·have:=h.sum;omega
def pp:Int:=1361129467683753853853498429727072845819
theorem Of{l:List Int}(h:l.length=5)(t:Nat)(ht:t<5)(y:Int):val (l.set t y)=val l+(y-l.getD t 0)*67108864^t:=by
 obtain⟨a,b,c,d,e,rfl⟩:=MA l h;obtain rfl|rfl|rfl|rfl|rfl:t=0∨t=1∨t=2∨t=3∨t=4:=by omega
 all_goals
  simp only[List.set_cons_zero,List.set_cons_succ,List.getD_cons_zero,List.getD_cons_succ,CP];omega
def pv(n:List Int):Nat→Int
 | 0=>0
 | k+1=>pv n k+n.getD k 0*67108864^k
theorem SI{n:List Int}(h:n.length=5):pv n 5=val n:=by
 obtain⟨a,b,c,d,e,rfl⟩:=MA n h;simp only[pv,List.getD_cons_zero,List.getD_cons_succ,CP];omega
structure Adds(l m r:List Int)(k:Nat):Prop where
 len:r.length=5
 done:∀ j,j<k→r.getD j 0=l.getD j 0+m.getD j 0
 rest:∀ j,k≤j→r.getD j 0=l.getD j 0
theorem Adds.zero{l m:List Int}(h:l.length=5):Adds l m l 0:=⟨h,fun _ h=>by omega,fun _ _=>rfl⟩
theorem AH{l:List Int}{k:Nat}(h:k<l.length)(x:Int):(l.set k x).getD k 0=x:=by
 simp[List.getD,h]
theorem Ax{l:List Int}{k j:Nat}(h:k≠j)(x:Int):(l.set k x).getD j 0=l.getD j 0:=by
 simp[List.getD,List.getElem?_set_ne h]
theorem Adds.succ{l m r:List Int}{k:Nat}(h:Adds l m r k)(hk:k<5):Adds l m (r.set k (r.getD k 0+m.getD k 0)) (k+1):=by
 refine⟨by simpa using h.len,fun j hj=>?_,fun j hj=>?_⟩
 ·by_cases e:k=j
  ·subst e;rw[AH (by rw[h.len];omega),h.rest k (by omega)]
  ·rw[Ax e];exact h.done j (by omega)
 ·rw[Ax (by omega)];exact h.rest j (by omega)
theorem Adds.five{l m r:List Int}(h:Adds l m r 5)(hl:Lim 67108864 l)(hm:Lim 67108864 m):Lim 134217728 r∧val r=val l+val m:=by
 obtain⟨l0,l1,l2,l3,l4,rfl,b0,b1,b2,b3,b4⟩:=hl.split;obtain⟨m0,m1,m2,m3,m4,rfl,c0,c1,c2,c3,c4⟩:=hm.split;obtain⟨r0,r1,r2,r3,r4,rfl⟩:=MA r h.len;have d0:r0=l0+m0:=h.done 0 (by omega);have d1:r1=l1+m1:=h.done 1 (by omega);have d2:r2=l2+m2:=h.done 2 (by omega);have d3:r3=l3+m3:=h.done 3 (by omega);have d4:r4=l4+m4:=h.done 4 (by omega);exact⟨Lim.of5 (by omega) (by omega) (by omega) (by omega) (by omega),by rw[CP,CP,CP];omega⟩
structure Prods(n m r:List Int)(i j:Nat):Prop where
 len:r.length=5
 sum:val r%pp=(pv n i*val m+n.getD i 0*67108864^i*pv m j)%pp
 low:∀ t,0≤r.getD t 0
 high:∀ t,r.getD t 0≤(5*(i:Int)+(j:Int))*45035996273704960
theorem Prods.zero(n m:List Int):Prods n m [0,0,0,0,0] 0 0:=by
 refine⟨rfl,?_,fun t=>?_,fun t=>?_⟩
 ·simp[pv,val]
 ·match t with
  | 0|1|2|3|4=>simp
  | t+5=>simp[List.getD]
 ·match t with
  | 0|1|2|3|4=>simp
  | t+5=>simp[List.getD]
theorem GQ{x y:Int}(hx:0≤x∧x<134217728)(hy:0≤y∧y<67108864):0≤x*y∧x*y≤9007199254740992:=by
 refine⟨Int.mul_nonneg hx.1 hy.1,?_⟩;have h1:=Int.mul_le_mul (Int.le_of_lt hx.2) (Int.le_of_lt hy.2) hy.1 (by omega);omega
theorem Prods.low_step{n m r:List Int}{i j:Nat}(h:Prods n m r i j)(hn:Lim 134217728 n)(hm:Lim 67108864 m)(hij:i+j<5) :
  Prods n m (r.set (i+j) (r.getD (i+j) 0+n.getD i 0*m.getD j 0)) i (j+1):=by
 have hb:=GQ (hn.2 i) (hm.2 j);have h1:=h.low (i+j);have h2:=h.high (i+j);refine⟨by simpa using h.len,?_,fun t=>?_,fun t=>?_⟩
 ·rw[Of h.len _ hij,Int.add_emod,h.sum,← Int.add_emod]
  congr 1
  rw[Int.pow_add];simp only[pv]
  grind
 ·by_cases e:i+j=t
  ·subst e;rw[AH (by rw[h.len];omega)];omega
  ·rw[Ax e];exact h.low t
 ·by_cases e:i+j=t
  ·subst e;rw[AH (by rw[h.len];omega)];omega
  ·rw[Ax e];have:=h.high t;omega
theorem Prods.high_step{n m r:List Int}{i j:Nat}(h:Prods n m r i j)(hn:Lim 134217728 n)(hm:Lim 67108864 m)(hij:5≤i+j)(hi:i<5)(hj:j<5) :
  Prods n m (r.set (i+j-5) (r.getD (i+j-5) 0+n.getD i 0*m.getD j 0*5)) i (j+1):=by
 have hb:=GQ (hn.2 i) (hm.2 j);have h1:=h.low (i+j-5);have h2:=h.high (i+j-5);refine⟨by simpa using h.len,?_,fun t=>?_,fun t=>?_⟩
 ·rw[Of h.len _ (by omega),Int.add_emod,h.sum,← Int.add_emod];have e:(67108864:Int)^i*67108864^j=67108864^(i+j-5)*(pp+5):=by
   rw[← Int.pow_add,show pp+5=(67108864:Int)^5 by unfold pp;rfl,← Int.pow_add];congr 1;omega
  have e2:pv n i*val m+n.getD i 0*67108864^i*pv m (j+1)=pv n i*val m+n.getD i 0*67108864^i*pv m j+(r.getD (i+j-5) 0+n.getD i 0*m.getD j 0*5-r.getD (i+j-5) 0)*67108864^(i+j-5)+pp*(n.getD i 0*m.getD j 0*67108864^(i+j-5)):=by
   simp only[pv]
   grind
  rw[e2,Int.add_mul_emod_self_left]
 ·by_cases e:i+j-5=t
  ·subst e;rw[AH (by rw[h.len];omega)];omega
  ·rw[Ax e];exact h.low t
 ·by_cases e:i+j-5=t
  ·subst e;rw[AH (by rw[h.len];omega)];omega
  ·rw[Ax e];have:=h.high t;omega
theorem Prods.row{n m r:List Int}{i:Nat}(h:Prods n m r i 5)(hm:m.length=5):Prods n m r (i+1) 0:=by
 refine⟨h.len,?_,h.low,fun t=>?_⟩
 ·rw[h.sum,SI hm]
  congr 1
  simp only[pv]
  grind
 ·have:=h.high t;omega
theorem Prods.five{n m r:List Int}(h:Prods n m r 5 0)(hn:n.length=5):Lim 1152921504606846976 r∧val r%pp=(val n*val m)%pp:=by
 refine⟨⟨h.len,fun t=>⟨h.low t,?_⟩⟩,?_⟩
 ·have:=h.high t;omega
 ·rw[h.sum,SI hn];congr 1;simp only[pv];grind
theorem QU{n m:List Int}{o:Int}(hn:Lim 67108864 n)(hc:Carr (n.set 0 (n.getD 0 0+5)) m 5 o):Lim 67108864 m∧(0<o→val m=val n%pp)∧(¬ 0<o→val n=val n%pp):=by
 obtain⟨h1,h2⟩:=hc.five;refine⟨h1,?_⟩;have o1:=hc.lo;obtain⟨n0,n1,n2,n3,n4,rfl,b0,b1,b2,b3,b4⟩:=hn.split;obtain⟨m0,m1,m2,m3,m4,rfl,c0,c1,c2,c3,c4⟩:=h1.split;simp only[List.set_cons_zero,List.getD_cons_zero]at h2;have v1:val [n0+5,n1,n2,n3,n4]=val [n0,n1,n2,n3,n4]+5:=by rw[CP,CP];omega
 have v2:0≤val [n0,n1,n2,n3,n4]∧val [n0,n1,n2,n3,n4]<1361129467683753853853498429727072845824:=by rw[CP];omega
 have v3:0≤val [m0,m1,m2,m3,m4]∧val [m0,m1,m2,m3,m4]<1361129467683753853853498429727072845824:=by rw[CP];omega
 rw[v1]at h2
 generalize val [n0,n1,n2,n3,n4]=V at *;generalize val [m0,m1,m2,m3,m4]=M at *;unfold pp;constructor
 ·intro ho;obtain rfl:o=1:=by omega
  omega
 ·intro ho;obtain rfl:o=0:=by omega
  omega
def leP(l:List Int):Nat→Int
 | 0=>0
 | k+1=>leP l k+l.getD k 0*256^k
def leN(l:List Int):Int:=leP l l.length
theorem WI{l:List Int}(k:Nat)(h:l.length≤k):leP l k=leN l:=by
 obtain⟨d,rfl⟩:∃ d,k=l.length+d:=⟨k-l.length,by omega⟩;clear h;induction d with
 | zero=>rfl
 | succ d ih=>rw[← Nat.add_assoc,leP,ih,Gb (by omega)];omega
theorem TU{l m:List Int}(k:Nat)(h:∀ j,j<k→l.getD j 0=m.getD j 0):leP l k=leP m k:=by
 induction k with
 | zero=>rfl
 | succ k ih=>rw[leP,leP,ih (fun j hj=>h j (by omega)),h k (by omega)]
theorem QS{l m:List Int}(k:Nat):leP (l++m) (l.length+k)=leN l+256^l.length*leP m k:=by
 induction k with
 | zero =>
  simp only[Nat.add_zero,leP,Int.mul_zero,Int.add_zero];unfold leN;exact TU _ (fun j hj=>by simp[List.getD,List.getElem?_append_left hj])
 | succ k ih =>
  rw[← Nat.add_assoc,leP,ih,leP,Int.mul_add,Int.pow_add];have:(l++m).getD (l.length+k) 0=m.getD k 0:=by simp[List.getD,List.getElem?_append_right]
  rw[this]
  grind
theorem QR(l m:List Int):leN (l++m)=leN l+256^l.length*leN m:=by
 have h:=QS (l:=l) (m:=m) m.length;rw[← List.length_append]at h
 exact h
theorem TT(n:Nat):leN (List.replicate n 0)=0:=by
 unfold leN;generalize (List.replicate n (0:Int)).length=k;induction k with
 | zero=>rfl
 | succ k ih =>
  rw[leP,ih];have:(List.replicate n (0:Int)).getD k 0=0:=by
   rcases Nat.lt_or_ge k n with h|h
   ·simp[List.getD,h]
   ·exact Gb (by simpa using h)
  rw[this];omega
structure Reads(b r:List Int)(k:Nat):Prop where
 len:r.length=5
 sum:val r=leP b k
 low:∀ t,0≤r.getD t 0
 high:∀ t,r.getD t 0≤(k:Int)*17179869184
theorem Reads.zero(b:List Int):Reads b [0,0,0,0,0] 0:=by
 refine⟨rfl,rfl,fun t=>?_,fun t=>?_⟩
 ·match t with
  | 0|1|2|3|4=>simp
  | t+5=>simp[List.getD]
 ·match t with
  | 0|1|2|3|4=>simp
  | t+5=>simp[List.getD]
theorem Reads.succ{b r:List Int}{k:Nat}(h:Reads b r k)(hb:0≤b.getD k 0∧b.getD k 0<256)(q:Nat)(m:Int)(hq:q<5)(hm:0≤m∧m≤33554432)(he:m*67108864^q=256^k):Reads b (r.set q (r.getD q 0+b.getD k 0*m)) (k+1):=by
 have h1:0≤b.getD k 0*m:=Int.mul_nonneg hb.1 hm.1;have h2:b.getD k 0*m≤256*33554432:=Int.mul_le_mul (by omega) hm.2 hm.1 (by omega);refine⟨by simpa using h.len,?_,fun t=>?_,fun t=>?_⟩
 ·rw[Of h.len q hq,h.sum,leP,← he]
  grind
 ·have:=h.low q;by_cases e:q=t
  ·subst e;rw[AH (by rw[h.len];omega)];omega
  ·rw[Ax e];exact h.low t
 ·have:=h.high q;by_cases e:q=t
  ·subst e;rw[AH (by rw[h.len];omega)];omega
  ·rw[Ax e];have:=h.high t;omega
def piece(l:List Int)(k:Nat):List Int:=(l.drop (16*k)).take 16
def Jw(R:Int)(l:List Int):Nat→Int
 | 0=>0
 | k+1=>(Jw R l k+leN (piece l k++[1]))*R%pp
def NH(l:List Int):Nat:=(l.length+15)/16
def bX(R:Int)(l:List Int):Int:=Jw R l (NH l)
theorem R3:0<pp:=by unfold pp;omega
theorem Qa(R:Int)(l:List Int)(k:Nat):0≤Jw R l k∧Jw R l k<pp:=by
 cases k with
 | zero=>exact⟨by simp[Jw],R3⟩
 | succ k=>exact⟨Int.emod_nonneg _ (by have:=R3;omega),Int.emod_lt_of_pos _ R3⟩
theorem Vb{n m s t r:List Int}{R:Int}{l:List Int}{k:Nat}(hn:val n%pp=Jw R l k%pp)(hm:val m%pp=leN (piece l k++[1])%pp)(hs:val s=val n+val m)(hr:val r%pp=R%pp)(ht:val t%pp=(val s*val r)%pp) :
  val t%pp=Jw R l (k+1)%pp:=by
 rw[ht,Jw,Int.emod_emod_of_dvd _ (Int.dvd_refl _),Int.mul_emod,hs,Int.add_emod,hn,hm,hr,← Int.add_emod,← Int.mul_emod]
theorem CG(l:List Int)(n i:Nat):(l.drop n).getD i 0=l.getD (n+i) 0:=by simp[List.getD]
theorem Bh(l:List Int)(n i:Nat)(h:i<n):(l.take n).getD i 0=l.getD i 0:=by simp[List.getD,h]
theorem Sl.window{w:World}{a:Option Addr}{n cap:Nat}{l:List Int}(h:Sl w (.slice a n cap) l)(lo hi:Nat)(hlo:lo≤hi)(hhi:hi≤l.length):Sl w (sliced a lo hi cap 1) ((l.take hi).drop lo):=by
 have hd:=(h.take hi hhi).len;have hb:=h.byte;obtain⟨⟨a',cap',e,hc,hn,h1⟩,hla,hba⟩:=h;simp only[Value.slice.injEq]at e;obtain⟨rfl,rfl,rfl⟩:=e;have hl:((l.take hi).drop lo).length=hi-lo:=by rw[List.length_drop,List.length_take];omega
 have hbb:∀ x∈(l.take hi).drop lo,0≤x∧x<256:=fun x hx=>hb x (List.mem_of_mem_take (List.mem_of_mem_drop hx));cases a with
 | none =>
  have c0:=hn rfl;subst c0;have h0:l.length=0:=by omega
  refine⟨⟨_,_,by rw[hl];rfl,by omega,fun _=>by omega,.inl (List.eq_nil_of_length_eq_zero (by omega))⟩,by omega,hbb⟩
 | some ad =>
  refine⟨⟨_,_,by rw[hl];rfl,by omega,(by intro h;split at h<;>simp at h),?_⟩,by omega,hbb⟩;rcases Nat.eq_or_lt_of_le hlo with he|hlt
  ·exact .inl (List.eq_nil_of_length_eq_zero (by omega))
  ·rcases h1 with rfl|⟨b,off,e2,hbs,hcell⟩
   ·simp at hhi;omega
   ·simp only[Option.some.injEq]at e2;subst e2;refine .inr ⟨b,off+lo,?_,hbs,fun i hi2=>?_⟩
    ·rw[if_neg (by omega)];simp[Addr.add]
    ·rw[hl]at hi2
     rw[Nat.add_assoc,hcell (lo+i) (by omega),CG,Bh _ _ _ (by omega)]
theorem GV(w:World):(Go.sizeOf 5).run prog w=.ok 1 w:=by
 obtain⟨i,hi,_,hsz,_⟩:=info_parts At;simp[sizeOf,typeInfo,hi,hsz]
theorem Sl.upTo{w:World}{a:Option Addr}{n cap:Nat}{l:List Int}(h:Sl w (.slice a n cap) l)(hi:Nat)(hhi:hi≤l.length) :
  ∃ a' c',(∀ W,(Instr.slice 25 (.slice a n cap) none (some (.int .i64 (hi:Int))) none).run prog W=.ok (.slice a' hi c') W)∧Sl w (.slice a' hi c') (l.take hi):=by
 have hw:=h.window 0 hi (by omega) hhi;obtain⟨⟨a',cap',e,hc,hn,h1⟩,hla,hba⟩:=h;simp only[Value.slice.injEq]at e;obtain⟨rfl,rfl,rfl⟩:=e;refine⟨_,_,fun W=>?_,by simpa[sliced]using hw⟩;rw[run_slice_h (P:=prog) W 25 a _ cap underlying25 .i64 _ (by omega) (by omega)];have e:prog.elem 25=5:=by kernel_rfl
 rw[e,GV];simp[Result.andThen,sliced]
theorem Sl.from{w:World}{a:Option Addr}{n cap:Nat}{l:List Int}(h:Sl w (.slice a n cap) l)(lo:Nat)(hlo:lo≤l.length) :
  ∃ a' c',(∀ W,(Instr.slice 25 (.slice a n cap) (some (.int .i64 (lo:Int))) none none).run prog W=.ok (.slice a' (n-lo) c') W)∧Sl w (.slice a' (n-lo) c') (l.drop lo):=by
 have hw:=h.window lo l.length hlo (Nat.le_refl _);obtain⟨⟨a',cap',e,hc,hn,h1⟩,hla,hba⟩:=h;simp only[Value.slice.injEq]at e;obtain⟨rfl,rfl,rfl⟩:=e;refine⟨_,_,fun W=>?_,by simpa[sliced]using hw⟩;rw[run_slice_l (P:=prog) W 25 a _ cap underlying25 .i64 _ (by omega) (by omega)];have e:prog.elem 25=5:=by kernel_rfl
 rw[e,GV];simp[Result.andThen,sliced]
theorem eY(x:Int)(h0:0≤x)(h1:x<18446744073709551616):bits .and .u64 x 67108863=x%67108864:=by
 obtain⟨n,rfl⟩:=Int.eq_ofNat_of_zero_le h0;rw[show(67108863:Int)=((67108863:Nat):Int)from rfl,u64_and_nat _ _ (by omega) (by omega),show(67108863:Nat)=2^26-1 from rfl,Nat.and_two_pow_sub_one_eq_mod];omega
theorem Cx{l:List Int}(h:l.length=5):(prog.info? 271).map (·.size)=some (Ah l).size:=by rw[Al,h];kernel_rfl
theorem AU{B:Nat}{a w:World}(h:Below B a w){g:Nat}(hg:B≤g)(cs:Array Value):Below B a (w.setRow g cs) :=
 h.trans ⟨rfl,rfl,rfl,by simp,fun k hk=>setRow_other w g k cs (by omega)⟩
theorem FG{P:Program}{fn:Func}{p u:Tmp}{ty:TypeId}(h:fn.results=#[.cell p ty,.tmp u])(tmps:Array Value)(w:World)(g:Nat)(t:TypeId)(cs:Array Value)(fr:Nat × Nat)(d:TypeDesc)
  (hp:tmps.getD p undef=.pointer (some ⟨g,0,none⟩))(hg:w.heap[g]?=some (.cells cs t fr))
  (hu:P.underlying ty=some d)(hd:(match d with|.struct _|.array _ _=>true|_=>false)=true)(hi:(P.info? ty).map (·.size)=some cs.size){v:Value}(hv:tmps.getD u undef=v) :
  (results fn tmps).run P w=.ok (.tuple #[.agg cs,v]) w:=by
 have hp':tmps[p]?.getD undef=.pointer (some ⟨g,0,none⟩):=by simpa using hp
 rw[results_cell_tmp h,hv];simp[hp',asAddr,run_loadVar_row w g t ty cs fr d hg hu hd hi]
theorem Ap{P:Program}{ops:Array Oper}{Q:Exit→Act→World→Prop}{l:List Oper}{a:Act}{w:World}(h:wpList P ops Q l a w):wpList P ops Q l a w:=h
theorem Ph(l:List Int)(w:World)(hl:Lim 9223372036854775808 l) :
  Calls prog 209 #[.agg (Ah l)] w fun e w'=>∃ m o,e=.returned (.tuple #[.agg (Ah m),.int .u64 o])∧Carr l m 5 o∧Bw w w':=by
 have h5:=hl.1;have hsz:=Cx h5;go_enter func209,ntmps209
 go_wp2_with fail
 go_loopw [4,6] (fun o i wr=>∃ (k:Nat) (m:List Int) (ov:Int),k≤5∧i=.int .i64 k∧o=.int .u64 ov∧Carr l m k ov∧wr.heap[w.heap.size]?=some (.cells (Ah m) 271 (0,0))∧wr.heap[w.heap.size+1]?=some (.cells (Ah [0,0,0,0,0]) 271 (0,0))∧Bw w wr) (fun _ i _=>5-(intOf i).toNat)
 case atStart=>
  refine⟨0,l,0,by omega,rfl,rfl,Carr.zero h5,?_,?_,?_⟩
  ·exact heap_alloc2_old _ _ _
  ·exact heap_alloc2_new _ _ _
  ·exact((Below.refl _ _).alloc (Nat.le_refl _) _).alloc (by simp) _
 case round =>
  obtain⟨k,m,ov,hk,rfl,rfl,hc,hn,hr,hb⟩:=hrel;by_cases hk5:k<5
  ·have hki:(k:Int)<5:=by omega
   have cn:=(cell_of_row wr _ k _ _ _ hn).trans (Aq m k (by rw[hc.len];omega));have fn:=frozen_of_row wr _ k _ _ hn;have hs:=hc.succ hl hk5;have o1:=hc.lo;have o2:=hc.hi;have e1:m.getD k 0=l.getD k 0:=hc.rest k (by omega);have b1:=hl.2 k;rw[← e1]at b1
   have HS:Hid (Carr l (m.set k ((m.getD k 0+ov)%67108864)) (k+1) ((m.getD k 0+ov)/67108864)):=hs;clear hs hc e1;generalize m.getD k 0=x at cn HS b1;obtain⟨b1,b2⟩:=b1;have ha:=eY (x+ov) (by omega) (by omega);go_wp2
   go_roundw
   case rel =>
    refine⟨k+1,_,_,by omega,by go_num,rfl,HS.out,?_,?_,?_⟩
    ·have h1:=DT (DT hn k (x+ov)) k ((x+ov)%67108864);rw[List.set_set]at h1
     exact h1
    ·rw[heap_setCell_other _ _ _ _ (by simp),heap_setCell_other _ _ _ _ (by simp)];exact hr
    ·exact(hb.setCell (p:=⟨w.heap.size,k,none⟩) (Nat.le_refl _) _).setCell (p:=⟨w.heap.size,k,none⟩) (Nat.le_refl _) _
   case measure=>simp[intOf];omega
  ·have HK:Hid (k=5):=by unfold Hid;omega
   have hki:¬ (k:Int)<5:=by omega
   have hsz1:=Cx hc.len;go_wp2_with ((with_reducible (refine Ap ?_));first
    | (refine wpList_load_row rfl 271 _ rfl w.heap.size rfl 271 _ (0,0) _ hn underlying271 rfl hsz1 ?_)
    | (refine wpList_store_row rfl 271 _ _ rfl (w.heap.size+1) _ rfl rfl 271 _ hr hsz1 (by rw[Al,Al,hc.len];rfl) (Bn m) ?_))
   refine bodyPost_ret (v:=.tuple #[.agg (Ah m),.int .u64 ov]) (FG rfl _ _ (w.heap.size+1) 271 _ (0,0) _ rfl (setRow_heap wr (w.heap.size+1) _ _ 271 _ hr) underlying271 rfl hsz1 rfl) rfl ⟨m,ov,rfl,by have:=HK.out;subst this;exact hc,AU hb (by omega) _⟩
def PZ:Nat→List Int→Prop
 | 0,m=>Lim 1152921504606846976 m
 | 1,m=>Lim 274877906944 m∧val m<1361129467683753853853498429727072845824+274877906944
 | 2,m=>Lim 274877906944 m∧val m<1361129467683753853853498429727072845824
 | _,m=>Lim 67108864 m
theorem PZ.lim:∀ {k:Nat} {m:List Int},PZ k m→Lim 9223372036854775808 m
 | 0,_,h=>Lim.mono h (by omega)
 | 1,_,h=>Lim.mono h.1 (by omega)
 | 2,_,h=>Lim.mono h.1 (by omega)
 | _+3,_,h=>Lim.mono (B:=67108864) h (by omega)
theorem dA(a b o:Int)(h:a+1361129467683753853853498429727072845824*o=b):(a+5*o)%pp=b%pp:=by
 rw[← h,show a+1361129467683753853853498429727072845824*o=a+5*o+pp*o by unfold pp;omega,Int.add_mul_emod_self_left]
theorem PZ.succ{k:Nat}{l m:List Int}{o:Int}(h:PZ k l)(hk:k<3)(hc:Carr l m 5 o):PZ (k+1) (m.set 0 (m.getD 0 0+o*5))∧val (m.set 0 (m.getD 0 0+o*5))%pp=val l%pp∧0≤m.getD 0 0∧m.getD 0 0<67108864∧0≤o∧o<274877906944:=by
 obtain⟨h1,h2⟩:=hc.five;obtain⟨m0,m1,m2,m3,m4,rfl,b0,b1,b2,b3,b4⟩:=h1.split;have o1:=hc.lo;have o2:=hc.hi;simp only[List.set_cons_zero,List.getD_cons_zero];have hm:=dA _ _ _ h2;rw[CP]at h2
 have e:val [m0+o*5,m1,m2,m3,m4]=val [m0,m1,m2,m3,m4]+5*o:=by rw[CP,CP];omega
 rw[← e]at hm
 refine⟨?_,hm,b0.1,b0.2,o1,o2⟩;obtain rfl|rfl|rfl:k=0∨k=1∨k=2:=by omega
 ·obtain⟨l0,l1,l2,l3,l4,rfl,c0,c1,c2,c3,c4⟩:=Lim.split h;rw[CP]at h2
  refine⟨Lim.of5 (by omega) (by omega) (by omega) (by omega) (by omega),?_⟩;rw[CP];omega
 ·obtain⟨h3,h4⟩:=h;obtain⟨l0,l1,l2,l3,l4,rfl,c0,c1,c2,c3,c4⟩:=Lim.split h3;rw[CP]at h2 h4
  refine⟨Lim.of5 (by omega) (by omega) (by omega) (by omega) (by omega),?_⟩;rw[CP];omega
 ·obtain⟨h3,h4⟩:=h;have ho:o=0:=by omega
  subst ho;show Lim 67108864 _;exact Lim.of5 (by omega) (by omega) (by omega) (by omega) (by omega)
theorem IT(l:List Int)(w:World)(hl:Lim 1152921504606846976 l) :
  Calls prog 208 #[.agg (Ah l)] w fun e w'=>∃ m,e=.returned (.agg (Ah m))∧Lim 67108864 m∧val m%pp=val l%pp∧Bw w w':=by
 have h5:=hl.1;have hsz:=Cx h5;go_enter func208,ntmps208
 go_wp2_with fail
 go_loopw [4] (fun i wr=>∃ (k:Nat) (m:List Int),k≤3∧i=.int .i64 k∧PZ k m∧val m%pp=val l%pp∧wr.heap[w.heap.size]?=some (.cells (Ah m) 271 (0,0))∧wr.heap[w.heap.size+1]?=some (.cells (Ah [0,0,0,0,0]) 271 (0,0))∧w.heap.size+2≤wr.heap.size∧Bw w wr) (fun i _=>3-(intOf i).toNat)
 case atStart=>
  refine⟨0,l,by omega,rfl,hl,rfl,?_,?_,by simp,?_⟩
  ·exact heap_alloc2_old _ _ _
  ·exact heap_alloc2_new _ _ _
  ·exact((Below.refl _ _).alloc (Nat.le_refl _) _).alloc (by simp) _
 case round =>
  obtain⟨k,m,hk,rfl,hc,hv,hn,hr,hz,hb⟩:=hrel;have hm5:=hc.lim.1;have hsz1:=Cx hm5;by_cases hk3:k<3
  ·have hki:(k:Int)<3:=by omega
   go_wp2_with ((with_reducible (refine Ap ?_));refine wpList_load_row rfl 271 _ rfl w.heap.size rfl 271 _ (0,0) _ hn underlying271 rfl hsz1 ?_)
   refine(Ph m wr hc.lim).mono ?_;rintro e w1 ⟨m1,o,rfl,hc1,hb1⟩;obtain⟨hs,hv1,x1,x2,o1,o2⟩:=hc.succ hk3 hc1;have hl1:=hc1.len;have hsz2:=Cx hl1;have hn1:=(hb1.block w.heap.size (by omega)).trans hn;have hr1:=(hb1.block (w.heap.size+1) (by omega)).trans hr;have hz1:=hb1.size;have hB1:Bw w w1:=hb.trans (hb1.mono (by omega));have hn2:=setRow_heap w1 w.heap.size (Ah m) (Ah m1) 271 (0,0) hn1;have hr2:(w1.setRow w.heap.size (Ah m1)).heap[w.heap.size+1]?=some (.cells (Ah [0,0,0,0,0]) 271 (0,0)):=(setRow_other _ _ _ _ (by omega)).trans hr1;have hB2:Bw w (w1.setRow w.heap.size (Ah m1)):=AU hB1 (Nat.le_refl _) _;have hz2:(w1.setRow w.heap.size (Ah m1)).heap.size=w1.heap.size:=by simp
   have cn:=(cell_of_row _ _ 0 _ _ _ hn2).trans (Aq m1 0 (by omega));have fn:=frozen_of_row _ _ 0 _ _ hn2;have hs':Hid (PZ (k+1) (m1.set 0 (m1.getD 0 0+o*5))):=hs;have hv':Hid (val (m1.set 0 (m1.getD 0 0+o*5))%pp=val m%pp):=hv1;have hst:Hid (((w1.setRow w.heap.size (Ah m1)).setCell ⟨w.heap.size,0,none⟩ (.int .u64 (m1.getD 0 0+o*5))).heap[w.heap.size]?=some (.cells (Ah (m1.set 0 (m1.getD 0 0+o*5))) 271 (0,0))):=DT hn2 0 _;clear hb hn hr hb1 hr1 hB1 hc hc1 hs hv1;generalize m1.getD 0 0=x at cn hs' hv' hst x1 x2;go_wp2_with ((with_reducible (refine Ap ?_));refine wpList_store_row rfl 271 _ _ rfl w.heap.size _ rfl rfl 271 _ hn1 hsz2 (by rw[Al,Al,hl1,hm5]) (Bn m1) ?_)
   go_roundw
   case rel =>
    refine⟨k+1,_,by omega,by go_num,hs'.out,hv'.out.trans hv,hst.out,?_,?_,?_⟩
    ·rw[heap_setCell_other _ _ _ _ (by simp)];exact hr2
    ·simp;omega
    ·exact hB2.setCell (p:=⟨w.heap.size,0,none⟩) (Nat.le_refl _) _
   case measure=>simp[intOf];omega
  ·have hki:¬ (k:Int)<3:=by omega
   have hc3:Lim 67108864 m:=by
    obtain rfl:k=3:=by omega
    exact hc
   go_wp2_with ((with_reducible (refine Ap ?_));first
    | (refine wpList_load_row rfl 271 _ rfl w.heap.size rfl 271 _ (0,0) _ hn underlying271 rfl hsz1 ?_)
    | (refine wpList_store_row rfl 271 _ _ rfl (w.heap.size+1) _ rfl rfl 271 _ hr hsz1 (by rw[Al,Al,hm5];rfl) (Bn m) ?_))
   refine bodyPost_ret (v:=.agg (Ah m)) (results_cell_row rfl _ _ (w.heap.size+1) 271 _ (0,0) _ rfl (setRow_heap wr (w.heap.size+1) _ _ 271 _ hr) underlying271 rfl hsz1) rfl ⟨m,rfl,hc3,hv,AU hb (by omega) _⟩
theorem LC(n:Int):IntKind.u64.wrap n=n%18446744073709551616:=by simp[IntKind.wrap,IntKind.bits,IntKind.signed]
theorem QJ(S:List Int)(hS:S.length=5)(j:Nat)(hj:j<5):∀ w,(Instr.index 271 (.agg (Ah S)) (.int .i64 (j:Int))).run prog w=.ok (.int .u64 (S.getD j 0)) w:=by
 intro w;obtain⟨a,b,c,d,e,rfl⟩:=MA S hS;obtain rfl|rfl|rfl|rfl|rfl:j=0∨j=1∨j=2∨j=3∨j=4:=by omega
 all_goals kernel_rfl
theorem Fq(w:World)(o1 o2 o3:Obj):(((w.alloc o1).alloc o2).alloc o3).heap[w.heap.size]?=some o1∧(((w.alloc o1).alloc o2).alloc o3).heap[w.heap.size+1]?=some o2∧(((w.alloc o1).alloc o2).alloc o3).heap[w.heap.size+1+1]?=some o3∧Bw w (((w.alloc o1).alloc o2).alloc o3):=by
 refine⟨?_,?_,?_,(((Below.refl _ _).alloc (Nat.le_refl _) _).alloc (by simp) _).alloc (by simp;omega) _⟩
 ·rw[heap_alloc_old _ _ (by simp;omega)];exact heap_alloc2_old w o1 o2
 ·rw[heap_alloc_old _ _ (by simp)];exact heap_alloc2_new w o1 o2
 ·have:=heap_alloc_new ((w.alloc o1).alloc o2) o3;simpa using this
theorem Ka(w:World)(o1 o2 o3 o4:Obj):((((w.alloc o1).alloc o2).alloc o3).alloc o4).heap[w.heap.size]?=some o1∧((((w.alloc o1).alloc o2).alloc o3).alloc o4).heap[w.heap.size+1]?=some o2∧((((w.alloc o1).alloc o2).alloc o3).alloc o4).heap[w.heap.size+1+1]?=some o3∧((((w.alloc o1).alloc o2).alloc o3).alloc o4).heap[w.heap.size+1+1+1]?=some o4∧Bw w ((((w.alloc o1).alloc o2).alloc o3).alloc o4):=by
 obtain⟨h1,h2,h3,hb⟩:=Fq w o1 o2 o3;refine⟨?_,?_,?_,?_,hb.alloc (by simp;omega) _⟩
 ·rw[heap_alloc_old _ _ (by simp;omega)];exact h1
 ·rw[heap_alloc_old _ _ (by simp)];exact h2
 ·rw[heap_alloc_old _ _ (by simp)];exact h3
 ·have:=heap_alloc_new (((w.alloc o1).alloc o2).alloc o3) o4;simpa using this
theorem Xr(l m:List Int)(w:World)(hl:Lim 67108864 l)(hm:Lim 67108864 m) :
  Calls prog 202 #[.agg (Ah l),.agg (Ah m)] w fun e w'=>∃ r,e=.returned (.agg (Ah r))∧Lim 134217728 r∧val r=val l+val m∧Bw w w':=by
 have h5:=hl.1;have hszm:=Cx hm.1;go_enter func202,ntmps202
 go_wp2_with ((with_reducible (refine Ap ?_));(refine wpList_load_row rfl 271 _ rfl (w.heap.size+1) rfl 271 _ (0,0) _ (Fq w _ _ _).2.1 underlying271 rfl hszm ?_))
 go_loopw [8] (fun i wr=>∃ (k:Nat) (r:List Int),k≤5∧i=.int .i64 k∧Adds l m r k∧wr.heap[w.heap.size]?=some (.cells (Ah r) 271 (0,0))∧wr.heap[w.heap.size+1+1]?=some (.cells (Ah [0,0,0,0,0]) 271 (0,0))∧Bw w wr) (fun i _=>5-(intOf i).toNat)
 case atStart=>exact⟨0,l,by omega,rfl,Adds.zero h5,(Fq w _ _ _).1,(Fq w _ _ _).2.2.1,(Fq w _ _ _).2.2.2⟩
 case round =>
  obtain⟨k,r,hk,rfl,hc,hn,hr,hb⟩:=hrel;have hr5:=hc.len;by_cases hk5:k<5
  ·have hki:(k:Int)<5:=by omega
   have hix:=QJ m hm.1 k hk5;have cn:=(cell_of_row wr _ k _ _ _ hn).trans (Aq r k (by omega));have fn:=frozen_of_row wr _ k _ _ hn;have HS:Hid (Adds l m (r.set k (r.getD k 0+m.getD k 0)) (k+1)):=hc.succ hk5;have b1:=hl.2 k;rw[← hc.rest k (by omega)]at b1
   have b2:=hm.2 k;generalize r.getD k 0=x at cn HS b1;generalize m.getD k 0=y at hix HS b2;obtain⟨b1,b3⟩:=b1;obtain⟨b2,b4⟩:=b2;go_wp2
   go_roundw
   case rel =>
    refine⟨k+1,_,by omega,by go_num,HS.out,DT hn k _,?_,?_⟩
    ·rw[heap_setCell_other _ _ _ _ (by simp;omega)];exact hr
    ·exact hb.setCell (p:=⟨w.heap.size,k,none⟩) (Nat.le_refl _) _
   case measure=>simp[intOf];omega
  ·have HK:Hid (k=5):=by unfold Hid;omega
   have hki:¬ (k:Int)<5:=by omega
   have hsz1:=Cx hr5;go_wp2_with ((with_reducible (refine Ap ?_));first
    | (refine wpList_load_row rfl 271 _ rfl (w.heap.size) rfl 271 _ (0,0) _ hn underlying271 rfl hsz1 ?_)
    | (refine wpList_store_row rfl 271 _ _ rfl (w.heap.size+1+1) _ rfl rfl 271 _ hr hsz1 (by rw[Al,Al,hr5];rfl) (Bn r) ?_))
   have hc5:Adds l m r 5:=by have:=HK.out;subst this;exact hc
   refine bodyPost_ret (v:=.agg (Ah r)) (results_cell_row rfl _ _ (w.heap.size+1+1) 271 _ (0,0) _ rfl (setRow_heap wr (w.heap.size+1+1) _ _ 271 _ hr) underlying271 rfl hsz1) rfl ⟨r,rfl,(hc5.five hl hm).1,(hc5.five hl hm).2,AU hb (by omega) _⟩
theorem UQ(n m:List Int)(w:World)(hn:Lim 134217728 n)(hm:Lim 67108864 m) :
  Calls prog 204 #[.agg (Ah n),.agg (Ah m)] w fun e w'=>∃ r,e=.returned (.agg (Ah r))∧Lim 67108864 r∧val r%pp=(val n*val m)%pp∧Bw w w':=by
 have hszn:=Cx hn.1;have hszm:=Cx hm.1;go_enter func204,ntmps204
 go_wp2_with ((with_reducible (refine Ap ?_));(refine wpList_load_row rfl 271 _ rfl (w.heap.size) rfl 271 _ (0,0) _ (Ka w _ _ _ _).1 underlying271 rfl hszn ?_))
 go_loopw [11] (fun i wr=>∃ (k:Nat) (r:List Int),k≤5∧i=.int .i64 k∧Prods n m r k 0∧wr.heap[w.heap.size+1]?=some (.cells (Ah m) 271 (0,0))∧wr.heap[w.heap.size+1+1]?=some (.cells (Ah [0,0,0,0,0]) 271 (0,0))∧wr.heap[w.heap.size+1+1+1]?=some (.cells (Ah r) 271 (0,0))∧Bw w wr) (fun i _=>5-(intOf i).toNat)
 case atStart=>exact⟨0,_,by omega,rfl,Prods.zero n m,(Ka w _ _ _ _).2.1,(Ka w _ _ _ _).2.2.1,(Ka w _ _ _ _).2.2.2.1,(Ka w _ _ _ _).2.2.2.2⟩
 case round =>
  obtain⟨k,r,hk,rfl,hc,hm1,hz,ho,hb⟩:=hrel;have hr5:=hc.len;by_cases hk5:k<5
  ·have hki:(k:Int)<5:=by omega
   have hix:=QJ n hn.1 k hk5;obtain⟨x,hx⟩:∃ x,n.getD k 0=x:=⟨_,rfl⟩;rw[hx]at hix
   have HX:Hid (n.getD k 0=x):=hx;clear hx;go_wp2_with ((with_reducible (refine Ap ?_));(refine wpList_load_row rfl 271 _ rfl (w.heap.size+1) rfl 271 _ (0,0) _ hm1 underlying271 rfl hszm ?_))
   go_loopw [16] (fun i wr=>∃ (j:Nat) (r:List Int),j≤5∧i=.int .i64 j∧Prods n m r k j∧wr.heap[w.heap.size+1]?=some (.cells (Ah m) 271 (0,0))∧wr.heap[w.heap.size+1+1]?=some (.cells (Ah [0,0,0,0,0]) 271 (0,0))∧wr.heap[w.heap.size+1+1+1]?=some (.cells (Ah r) 271 (0,0))∧Bw w wr) (fun i _=>5-(intOf i).toNat)
   case atStart=>exact⟨0,r,by omega,rfl,hc,hm1,hz,ho,hb⟩
   case round =>
    clear hix;clear hc hm1 hz ho hb hr5;obtain⟨j,r,hj,rfl,hc,hm1,hz,ho,hb⟩:=hrel;have hr5:=hc.len;by_cases hj5:j<5
    ·have hji:(j:Int)<5:=by omega
     have hix:=QJ m hm.1 j hj5;have hxy:=GQ (hn.2 k) (hm.2 j);rw[HX.out]at hxy
     by_cases hs:k+j<5
     ·have hsi:(k:Int)+(j:Int)<5:=by omega
      have cn:=(cell_of_row _ _ (k+j) _ _ _ ho).trans (Aq r (k+j) (by omega));have fn:=frozen_of_row _ _ (k+j) _ _ ho;have HS:Hid (Prods n m (r.set (k+j) (r.getD (k+j) 0+x*m.getD j 0)) k (j+1)):=by rw[← HX.out];exact hc.low_step hn hm hs
      have b1:=hc.low (k+j);have b2:r.getD (k+j) 0≤1152921504606846976:=by have:=hc.high (k+j);omega
      generalize r.getD (k+j) 0=z at cn HS b1 b2;generalize m.getD j 0=y at hix HS hxy;obtain⟨xy1,xy2⟩:=hxy;have e1:IntKind.u64.wrap (x*y)=x*y:=by rw[LC];omega
      have e2:IntKind.u64.wrap (z+x*y)=z+x*y:=by rw[LC];omega
      clear hc;go_wp2
      go_roundw
      case rel =>
       refine⟨j+1,_,by omega,by go_num,HS.out,?_,?_,DT ho (k+j) _,?_⟩
       ·rw[heap_setCell_other _ _ _ _ (by simp)];exact hm1
       ·rw[heap_setCell_other _ _ _ _ (by simp)];exact hz
       ·exact hb.setCell (p:=⟨w.heap.size+1+1+1,k+j,none⟩) (by simp;omega) _
      case measure=>simp[intOf];omega
     ·have hsi:¬ (k:Int)+(j:Int)<5:=by omega
      have cn:=(cell_of_row _ _ (k+j-5) _ _ _ ho).trans (Aq r (k+j-5) (by omega));have fn:=frozen_of_row _ _ (k+j-5) _ _ ho;have HS:Hid (Prods n m (r.set (k+j-5) (r.getD (k+j-5) 0+x*m.getD j 0*5)) k (j+1)):=by rw[← HX.out];exact hc.high_step hn hm (by omega) hk5 hj5
      have b1:=hc.low (k+j-5);have b2:r.getD (k+j-5) 0≤1152921504606846976:=by have:=hc.high (k+j-5);omega
      generalize r.getD (k+j-5) 0=z at cn HS b1 b2;generalize m.getD j 0=y at hix HS hxy;obtain⟨xy1,xy2⟩:=hxy;have e1:IntKind.u64.wrap (x*y)=x*y:=by rw[LC];omega
      have e3:IntKind.u64.wrap (x*y*5)=x*y*5:=by rw[LC];omega
      have e2:IntKind.u64.wrap (z+x*y*5)=z+x*y*5:=by rw[LC];omega
      clear hc;obtain⟨t,ht⟩:∃ t:Nat,k+j=t+5:=⟨k+j-5,by omega⟩;have e4:(k:Int)+(j:Int)-5=(t:Int):=by omega
      have ht':k+j-5=t:=by omega
      rw[ht']at cn fn HS
      go_wp2
      go_roundw
      case rel =>
       refine⟨j+1,_,by omega,by go_num,HS.out,?_,?_,DT ho t _,?_⟩
       ·rw[heap_setCell_other _ _ _ _ (by simp)];exact hm1
       ·rw[heap_setCell_other _ _ _ _ (by simp)];exact hz
       ·exact hb.setCell (p:=⟨w.heap.size+1+1+1,t,none⟩) (by simp;omega) _
      case measure=>simp[intOf];omega
    ·have HJ:Hid (j=5):=by unfold Hid;omega
     have hji:¬ (j:Int)<5:=by omega
     go_wp2
     go_roundw
     case rel=>exact⟨k+1,r,by omega,by go_num,by have:=HJ.out;subst this;exact hc.row hm.1,hm1,hz,ho,hb⟩
     case measure=>simp[intOf];omega
  ·have HK:Hid (k=5):=by unfold Hid;omega
   have hki:¬ (k:Int)<5:=by omega
   have hsz1:=Cx hr5;have hc5:Prods n m r 5 0:=by have:=HK.out;subst this;exact hc
   obtain⟨l5,v5⟩:=hc5.five hn.1;have hzz:w.heap.size+1+1<wr.heap.size:=(Array.getElem?_eq_some_iff.1 hz).1;clear hc hc5 hm1;go_wp2_with ((with_reducible (refine Ap ?_));(refine wpList_load_row rfl 271 _ rfl (w.heap.size+1+1+1) rfl 271 _ (0,0) _ ho underlying271 rfl hsz1 ?_))
   refine(IT r wr l5).mono ?_;rintro e w1 ⟨r1,rfl,l1,v1,hb1⟩;have hz1:=(hb1.block (w.heap.size+1+1) hzz).trans hz;have hB1:Bw w w1:=hb.trans (hb1.mono hb.size);have hsz2:=Cx l1.1;go_wp2_with ((with_reducible (refine Ap ?_));(refine wpList_store_row rfl 271 _ _ rfl (w.heap.size+1+1) _ rfl rfl 271 _ hz1 hsz2 (by rw[Al,Al,l1.1];rfl) (Bn r1) ?_))
   refine bodyPost_ret (v:=.agg (Ah r1)) (results_cell_row rfl _ _ (w.heap.size+1+1) 271 _ (0,0) _ rfl (setRow_heap w1 (w.heap.size+1+1) _ _ 271 _ hz1) underlying271 rfl hsz2) rfl ⟨r1,rfl,l1,v1.trans v5,AU hB1 (by omega) _⟩
end
end Go.Proofs.YtfhbkoflaekhpadGreatDoor
