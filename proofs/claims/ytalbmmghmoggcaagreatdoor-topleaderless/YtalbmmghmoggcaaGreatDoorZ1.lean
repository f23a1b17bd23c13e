/- Part 1 of the walk. -/
import Derived.WalkKit
import Derived.ProofKit
import Derived.Laws.AppendOwnNone
import Derived.Laws.BytesArg
import Derived.BigQuiet
import Derived.OpenShut
import Derived.StillTail
import Derived.Test.YtalbmmghmoggcaaGreatDoorProg
import Derived.Deep.QuietTactic
import Derived.BigRegion
import Derived.Laws.ResultCell
import Derived.Laws.CopyOwn
import Derived.Deep.RegionWith
set_option maxRecDepth 100000
set_option maxHeartbeats 4000000
open Go.Proofs.Tryz
namespace Go.Proofs.YtalbmmghmoggcaaGreatDoor
section
open Go.RowKit Go.ChangeShapes Go.WideShapes Go.ChangeAt
abbrev Bw(w w':World):Prop:=Below w.heap.size w w'
abbrev zV5:Array Value:=#[.int .i64 0,.int .i64 0,.int .i64 0,.int .i64 0,.int .i64 0]
abbrev zV8:Array Value:=#[.int .i64 0,.int .i64 0,.int .i64 0,.int .i64 0,.int .i64 0,.int .i64 0,.int .i64 0,.int .i64 0]
structure Sl(w:World)(v:Value)(l:List Int):Prop where
 ex:∃ a cap,v=.slice a l.length cap/\l.length<=cap/\(a=none->cap=0)/\(l=[]\/∃ b off,a=some ⟨b,off,none⟩/\b<w.heap.size/\∀ i,i<l.length->w.cell? ⟨b,off+i,none⟩=some (.int .u8 (l.getD i 0)))
 len:l.length<=140737488351232
 byte:∀ x∈l,0<=x/\x<256
theorem Sl.below{w w':World}{v:Value}{l:List Int}(h:Sl w v l)(hb:Below w.heap.size w w'):Sl w' v l:=by
 obtain⟨⟨a,cap,rfl,hc,hn,h1⟩,h2,h3⟩:=h;refine⟨⟨a,cap,rfl,hc,hn,?_⟩,h2,h3⟩;rcases h1 with h1|⟨b,off,ha,hbs,hcell⟩
 .exact .inl h1
 .exact .inr ⟨b,off,ha,Nat.lt_of_lt_of_le hbs hb.size,fun i hi=>(hb.cell (p:=⟨b,off+i,none⟩) hbs).trans (hcell i hi)⟩
theorem Sl.nil(w:World)(a:Option Addr):Sl w (.slice a 0 0) []:=⟨⟨a,0,rfl,by simp,by simp,.inl rfl⟩,by simp,by simp⟩
theorem Sl.ofOwns{w:World}{base e:Nat}{v:Value}{l:List Int}(h:w.ownsRow base e 1 v l.length (l.map (Value.int .u8)))(hl:l.length<=140737488351232)(hb:∀ x∈l,0<=x/\x<256):Sl w v l:=by
 refine⟨?_,hl,hb⟩;rcases h.2 with⟨rfl,h0⟩|⟨g,cap,cur,rfl,_,hg,hn,_,hcs,ht⟩
 .exact⟨none,0,by rw[h0],by omega,fun _=>rfl,.inl (List.eq_nil_of_length_eq_zero h0)⟩
 .refine⟨_,cap,rfl,hn,by simp,.inr ⟨g,0,rfl,(Array.getElem?_eq_some_iff.1 hg).1,fun i hi=>?_⟩⟩;have hc:=h.cells (g:=g) rfl i (.int .u8 (l.getD i 0)) (by simp[List.getElem?_eq_getElem hi,List.getD]);have hadd:(⟨g,0,none⟩:Addr).add i=⟨g,i,none⟩:=by unfold Addr.add;split<;>simp_all
  rw[hadd]at hc
  simpa using hc
theorem AK{l:List Int}{i:Nat}(hi:i<l.length):l.getD i 0=l[i]:=by simp[List.getD,List.getElem?_eq_getElem hi]
theorem FC{l:List Int}{i:Nat}(hi:l.length<=i):l.getD i 0=0:=by simp[List.getD,List.getElem?_eq_none hi]
theorem Aj{l:List Int}(h:∀ x∈l,0<=x/\x<256)(i:Nat):0<=l.getD i 0/\l.getD i 0<256:=by
 rcases Nat.lt_or_ge i l.length with hi|hi
 .rw[AK hi];exact h _ (List.getElem_mem hi)
 .rw[FC hi];omega
theorem Ee(l:List Int):∀ u∈l.map (Value.int .u8),u.oneCell'=true:=by
 intro u hu;obtain⟨x,_,rfl⟩:=List.mem_map.1 hu;rfl
theorem FY{P:Program}(w:World)(base t ty e:Nat)(ht:P.underlying t=some (.slice e))(hinfo:(P.info? e).map (fun i=>(i.zero,i.size,i.bytes))=some (some (.int .u8 0),1,1))
  (v:Value)(l:List Int)(hown:w.ownsRow base e 1 v l.length (l.map (Value.int .u8)))(u:Value)(m:List Int)(hu:Sl w u m)
  (hlen:l.length+m.length<=140737488355328)(hbase:base<=w.heap.size) :
  ∃ v' w',(Builtin.append_ #[t,t] ty #[v,u]).run P w=.ok v' w'/\w'.ownsRow base e 1 v' (l++m).length ((l++m).map (Value.int .u8))/\w.grownBy w' v.ownBlock:=by
 obtain⟨i,hi,hz,hsz,hby⟩:=info_parts hinfo;obtain⟨⟨a,cap,rfl,hc,hn,h1⟩,_,_⟩:=hu;cases a with
 | none =>
  have hc0:=hn rfl;subst hc0;have hm:m=[]:=List.eq_nil_of_length_eq_zero (by omega);subst hm;refine⟨v,w,?_,by simpa using hown,⟨rfl,rfl,rfl,Nat.le_refl _,fun _ _ _=>rfl⟩⟩;exact run_append_owned_none (P:=P) (w:=w) base t ty e i 1 ht hi v l.length _ hown
 | some ad =>
  have hcells:∀ j u,(m.map (Value.int .u8))[j]?=some u->w.cell? (ad.add j)=some u:=by
   intro j u hj;rcases h1 with rfl|⟨b,off,hab,_,hcell⟩
   .simp at hj
   .obtain rfl:ad=⟨b,off,none⟩:=by simpa using hab
    have hjl:j<m.length:=by
     have:=(List.getElem?_eq_some_iff.1 hj).1;simpa using this
    have hadd:(⟨b,off,none⟩:Addr).add j=⟨b,off+j,none⟩:=by unfold Addr.add;split<;>simp_all
    rw[hadd,hcell j hjl];simp[List.getElem?_eq_getElem hjl]at hj
    rw[AK hjl,hj]
  obtain⟨v',w',hr,ho,hg,_⟩:=run_append_own (P:=P) w base t ty e i (.int .u8 0) 1 1 ht hi hz hsz hby rfl (by decide) v l.length _ hown ad m.length cap (m.map (Value.int .u8)) (by simp) hcells (Ee m)
   (by unfold maxLen;omega) (by omega) hbase
  exact⟨v',w',hr,by simpa using ho,hg⟩
theorem Aa{P:Program}(w:World){ops:Array Oper}{rest:List Oper}{o:Oper}{a:Act}{Q:Exit->Act->World->Prop}(hgd:o.guard=none)(s x:Operand)(t:TypeId)
  (ho:o.op=.call { callee:=.builtin .append,args:=#[s,x],argTypes:=#[t,t] })
  (base e:Nat)(ht:P.underlying t=some (.slice e))(hinfo:(P.info? e).map (fun i=>(i.zero,i.size,i.bytes))=some (some (.int .u8 0),1,1))
  (v u:Value)(hs:a.eval s=v)(hx:a.eval x=u)(l m:List Int)(hown:w.ownsRow base e 1 v l.length (l.map (Value.int .u8)))(hu:Sl w u m)
  (hlen:l.length+m.length<=140737488355328)(hbase:base<=w.heap.size)
  (h:∀ v' w',w'.ownsRow base e 1 v' (l++m).length ((l++m).map (Value.int .u8))->w.grownBy w' v.ownBlock->wpList P ops Q rest (a.put o.dst v') w'):wpList P ops Q (o::rest) a w:=by
 refine wpList_plain hgd fun K hK=>?_;obtain⟨v',w',hrun,r1,r2⟩:=FY (P:=P) w base t o.type e ht hinfo v l hown u m hu hlen hbase;unfold Oper.wp execOp;simp only[ho,resolve,invoke,builtin,Sem.run_bind,Sem.run_pure,Result.andThen_ok,List.map_toArray,List.map_cons,List.map_nil,hs,hx,hrun];exact hK _ _ (h v' w' r1 r2)
theorem Sl.take{w:World}{a:Option Addr}{cap n:Nat}{l:List Int}(h:Sl w (.slice a n cap) l)(m:Nat)(hm:m<=l.length):Sl w (.slice a m cap) (l.take m):=by
 obtain⟨⟨a',cap',e,hc,hn,h1⟩,hla,hba⟩:=h;simp only[Value.slice.injEq]at e;obtain⟨rfl,rfl,rfl⟩:=e;have hl:(l.take m).length=m:=by rw[List.length_take];omega
 refine⟨⟨a,cap,by rw[hl],by omega,hn,?_⟩,by omega,fun x hx=>hba x (List.mem_of_mem_take hx)⟩;rcases h1 with rfl|⟨b,off,rfl,hb,hcell⟩
 .exact .inl (by simp)
 .refine .inr ⟨b,off,rfl,hb,fun i hi=>?_⟩;rw[hcell i (by omega),AK (by omega),AK hi];simp
theorem Sl.drop{w:World}{b off n cap:Nat}{l:List Int}(h:Sl w (.slice (some ⟨b,off,none⟩) n cap) l)(k:Nat)(hk:k<=l.length)(c':Nat)(hc':l.length<=c'+k):Sl w (.slice (some ⟨b,off+k,none⟩) (l.length-k) c') (l.drop k):=by
 obtain⟨⟨a',cap',e,hc,hn,h1⟩,hla,hba⟩:=h;simp only[Value.slice.injEq]at e;obtain⟨rfl,rfl,rfl⟩:=e;have hl:(l.drop k).length=l.length-k:=by rw[List.length_drop]
 refine⟨⟨_,c',by rw[hl],by omega,by simp,?_⟩,by omega,fun x hx=>hba x (List.mem_of_mem_drop hx)⟩;rcases h1 with rfl|⟨b,off,e,hb,hcell⟩
 .exact .inl (by simp)
 .simp only[Option.some.injEq,Addr.mk.injEq,and_true]at e;obtain⟨rfl,rfl⟩:=e;refine .inr ⟨_,_,rfl,hb,fun i hi=>?_⟩;rw[Nat.add_assoc,hcell (k+i) (by omega),AK (by omega),AK hi];simp
theorem Dw{w:World}{base e:Nat}{v:Value}{l:List Int}(h:w.ownsRow base e 1 v l.length (l.map (Value.int .u8)))(hl:l≠[]) :
  ∃ g cap,v=.slice (some ⟨g,0,none⟩) l.length cap/\base<=g/\g<w.heap.size/\l.length<=cap/\(∀ i,i<l.length->w.cell? ⟨g,i,none⟩=some (.int .u8 (l.getD i 0)))/\(∀ i,w.frozen? ⟨g,i,none⟩=false):=by
 rcases h.2 with⟨rfl,h0⟩|⟨g,cap,cur,rfl,hb,hg,hn,_,hcs,ht⟩
 .exact absurd (List.eq_nil_of_length_eq_zero h0) hl
 .refine⟨g,cap,rfl,hb,(Array.getElem?_eq_some_iff.1 hg).1,hn,fun i hi=>?_,fun i=>?_⟩
  .have hc:=h.cells (g:=g) rfl i (.int .u8 (l.getD i 0)) (by simp[List.getElem?_eq_getElem hi,List.getD]);have hadd:(⟨g,0,none⟩:Addr).add i=⟨g,i,none⟩:=by unfold Addr.add;split<;>simp_all
   rwa [hadd]at hc
  .simp[World.frozen?,hg]
theorem Sl.built(w:World)(l:List Int)(e:TypeId){g:Nat}(hg:g=w.heap.size)(hl:l.length<=140737488351232)(hb:∀ x∈l,0<=x/\x<256):Sl (w.alloc (.cells (l.map (Value.int .u8)).toArray e)) (.slice (some ⟨g,0,none⟩) l.length l.length) l:=by
 subst hg;refine⟨⟨_,l.length,rfl,by simp,by simp,.inr ⟨w.heap.size,0,rfl,by simp,fun i hi=>?_⟩⟩,hl,hb⟩;rw[cell_of_row _ _ (0+i) _ _ _ (heap_alloc_new w _)];simp[List.getElem?_eq_getElem hi,List.getD]
theorem Sl.one(w:World)(b:Int)(e:TypeId){g:Nat}(hg:g=w.heap.size)(hb:0<=b/\b<256):Sl (w.alloc (.cells #[.int .u8 b] e)) (.slice (some ⟨g,0,none⟩) 1 1) [b]:=by
 subst hg;refine⟨⟨_,1,rfl,by simp,by simp,.inr ⟨w.heap.size,0,rfl,by simp,fun i hi=>?_⟩⟩,by simp,by simpa using hb⟩;obtain rfl:i=0:=by simpa using hi
 simp
theorem Sl.drew{w:World}{v:Value}{l:List Int}(h:Sl w v l):Sl w.drew v l:=h.below (Below.refl _ _).drew
theorem Ac{a b:Bool}(h:a=b):Ending.returned (.bool a)=.returned (.bool b):=by rw[h]
theorem An{B:Nat}{a w:World}(h:Below B a w)(n:Nat):Below B a (w.drewN n):=h.trans ⟨rfl,rfl,rfl,Nat.le_refl _,fun _ _=>rfl⟩
end
section
open Go.RowKit
def VF:Value->Nat
 | .slice _ n _=>n
 | _=>0
theorem DC{w:World}{base e:Nat}{v:Value}{n:Nat}{xs:List Value}(h:w.ownsRow base e 1 v n xs):∃ a cap,v=.slice a n cap:=by
 rcases h.2 with⟨rfl,rfl⟩|⟨g,cap,cur,rfl,_⟩
 .exact⟨none,0,rfl⟩
 .exact⟨_,cap,rfl⟩
theorem AM{w:World}{base base':Nat}{e:TypeId}{size:Nat}{v:Value}{n:Nat}{xs:List Value}(h:w.ownsRow base e size v n xs)(hb:base'<=base):w.ownsRow base' e size v n xs:=by
 refine⟨h.1,?_⟩;rcases h.2 with h2|⟨g,cap,cur,hv,hg,hr⟩
 .exact .inl h2
 .exact .inr ⟨g,cap,cur,hv,Nat.le_trans hb hg,hr⟩
theorem K6(l:List Int)(j:Nat):l++List.replicate j 0++[0]=l++List.replicate (j+1) 0:=by
 rw[List.append_assoc,<- List.replicate_succ']
theorem Sl.shape{w:World}{v:Value}{l:List Int}(h:Sl w v l):∃ a cap,v=.slice a l.length cap:=by
 obtain⟨⟨a,cap,e,_⟩,_⟩:=h;exact⟨a,cap,e⟩
def AI(l:List Int):Array Value:=(l.map (Value.int .u8)).toArray
theorem Aw(l:List Int):(AI l).size=l.length:=by simp[AI]
theorem J8(l:List Int):(AI l).all (·.oneCell')=true:=by simp[AI,Value.oneCell']
theorem Dp(l:List Int)(i:Nat)(h:i<l.length):(AI l)[i]?=some (.int .u8 (l.getD i 0)):=by
 simp[AI,List.getD,List.getElem?_eq_getElem h]
theorem Uv(l:List Int)(i:Nat)(x:Int):(AI l).setIfInBounds i (.int .u8 x)=AI (l.set i x):=by
 apply Array.ext';simp[AI,List.map_set]
def uw(x:BitVec 32):Int:=(x.toNat:Int)
theorem Db(x:BitVec 32):0<=uw x:=Int.natCast_nonneg _
theorem Xk(x:BitVec 32):uw x<4294967296:=by unfold uw;have:=x.isLt;omega
theorem Re{x y:BitVec 32}:uw x=uw y↔x=y:=by
 unfold uw;constructor
 .intro h;exact BitVec.eq_of_toNat_eq (by omega)
 .rintro rfl;rfl
theorem KJ(x y:BitVec 32):bits .and .u32 (uw x) (uw y)=uw (x &&& y):=by
 unfold uw;rw[u32_and_nat _ _ x.isLt y.isLt,BitVec.toNat_and]
theorem IU(x y:BitVec 32):bits .or .u32 (uw x) (uw y)=uw (x ||| y):=by
 unfold uw;rw[u32_or_nat _ _ x.isLt y.isLt,BitVec.toNat_or]
theorem CM(x y:BitVec 32):bits .xor .u32 (uw x) (uw y)=uw (x ^^^ y):=by
 unfold uw;rw[u32_xor_nat _ _ x.isLt y.isLt,BitVec.toNat_xor]
theorem fN(x y:BitVec 32):IntKind.u32.wrap (uw x+uw y)=uw (x+y):=by
 unfold uw;rw[IntKind.wrap_u32',BitVec.toNat_add];omega
theorem CA(a b:BitVec 32):(uw a+uw b)%(4294967296:Int)=uw (a+b):=by
 unfold uw;rw[BitVec.toNat_add];omega
theorem Zr(a b c:BitVec 32):(uw a+uw b+uw c)%(4294967296:Int)=uw (a+b+c):=by
 rw[<- CA,<- CA];omega
theorem RZ(a b c d:BitVec 32):(uw a+uw b+uw c+uw d)%(4294967296:Int)=uw (a+b+c+d):=by
 rw[<- CA,<- Zr];omega
theorem Fx(x:BitVec 32)(k:Nat):uw x*(2:Int)^k%(4294967296:Int)=uw (x <<< k):=by
 unfold uw;rw[BitVec.toNat_shiftLeft,Nat.shiftLeft_eq,Int.natCast_emod,Int.natCast_mul,Int.natCast_pow];rfl
theorem Nh(x:BitVec 32)(k:Nat):uw x/(2:Int)^k=uw (x >>> k):=by
 unfold uw;rw[BitVec.toNat_ushiftRight,Nat.shiftRight_eq_div_pow,Int.natCast_ediv,Int.natCast_pow];rfl
theorem Zq(x:BitVec 32):uw x/(8:Int)=uw (x >>> 3):=Nh x 3
theorem Xm(x:BitVec 32):uw x/(1024:Int)=uw (x >>> 10):=Nh x 10
theorem db(x:BitVec 32)(n:Nat)(h0:1<=n)(h1:n<=31):bits .or .u32 (uw x*2^(32-n)%4294967296) (uw x/2^(32-(32-n)))=uw (x.rotateRight n):=by
 rw[Fx,Nh,IU,Re];rw[show 32-(32-n)=n by omega,BitVec.rotateRight_def,Nat.mod_eq_of_lt (by omega:n<32),BitVec.or_comm]
def Eo(n:Nat):Nat:=(119-n%64)%64
def Ca(n:Nat):List Int:=[((n*8/2^56%256:Nat):Int),((n*8/2^48%256:Nat):Int),((n*8/2^40%256:Nat):Int),((n*8/2^32%256:Nat):Int),
 ((n*8/2^24%256:Nat):Int),((n*8/2^16%256:Nat):Int),((n*8/2^8%256:Nat):Int),((n*8/2^0%256:Nat):Int)]
def Cc(l:List Int)(j:Nat):List Int:=l++[128]++List.replicate j 0
def pad(l:List Int):List Int:=Cc l (Eo l.length)++Ca l.length
theorem C1(l:List Int)(j:Nat):(Cc l j).length=l.length+1+j:=by simp[Cc];omega
theorem QA(l:List Int)(j:Nat):Cc l j++[0]=Cc l (j+1):=by
 simp only[Cc,List.append_assoc];rw[<- List.replicate_succ']
theorem Jf(n:Nat):(Ca n).length=8:=rfl
theorem QB(l:List Int):(pad l).length%64=0/\l.length<(pad l).length/\(pad l).length<=l.length+72:=by
 unfold pad;rw[List.length_append,C1,Jf];unfold Eo;omega
theorem Q9{l:List Int}(h:∀ x∈l,0<=x/\x<256)(j:Nat):∀ x∈Cc l j,0<=x/\x<256:=by
 intro x hx;simp only[Cc,List.mem_append,List.mem_singleton,List.mem_replicate]at hx;rcases hx with(hx|rfl)|⟨_,rfl⟩
 .exact h x hx
 .omega
 .omega
theorem Lh(n:Nat):∀ x∈Ca n,0<=x/\x<256:=by
 intro x hx;simp only[Ca,List.mem_cons,List.not_mem_nil,or_false]at hx;rcases hx with rfl|rfl|rfl|rfl|rfl|rfl|rfl|rfl<;>omega
theorem We{l:List Int}(h:∀ x∈l,0<=x/\x<256):∀ x∈pad l,0<=x/\x<256:=by
 intro x hx;rcases List.mem_append.1 hx with h1|h1
 .exact Q9 h _ x h1
 .exact Lh _ x h1
theorem MD(n s:Nat):((n*8/2^s%256:Nat):Int)=(n:Int)*8/2^s%256:=by
 rw[Int.natCast_emod,Int.natCast_ediv,Int.natCast_mul,Int.natCast_pow];rfl
theorem Li(n k:Nat)(hk:k<8):(Ca n).take (k+1)=(Ca n).take k++[(n:Int)*8/2^(56-8*k)%256]:=by
 rw[<- MD];obtain rfl|rfl|rfl|rfl|rfl|rfl|rfl|rfl:k=0\/k=1\/k=2\/k=3\/k=4\/k=5\/k=6\/k=7:=by omega
 all_goals rfl
def Au(ws:List (BitVec 32)):Array Value:=(ws.map fun x=>Value.int .u32 (uw x)).toArray
theorem AQ(ws:List (BitVec 32)):(Au ws).size=ws.length:=by simp[Au]
theorem Bp(ws:List (BitVec 32))(i:Nat)(h:i<ws.length):(Au ws)[i]?=some (.int .u32 (uw (ws.getD i 0#32))):=by
 simp[Au,List.getD,List.getElem?_eq_getElem h]
theorem KM(ws:List (BitVec 32))(i:Nat)(x:BitVec 32):(Au ws).setIfInBounds i (.int .u32 (uw x))=Au (ws.set i x):=by
 apply Array.ext';simp[Au,List.map_set]
def BQ(n:Int):BitVec 32:=BitVec.ofNat 32 n.toNat
def Rj(l:List Int)(i:Nat):BitVec 32:=BQ (l.getD (4*i) 0) <<< 24 ||| BQ (l.getD (4*i+1) 0) <<< 16 ||| BQ (l.getD (4*i+2) 0) <<< 8 ||| BQ (l.getD (4*i+3) 0)
def cJ(x:BitVec 32):BitVec 32:=x.rotateRight 7 ^^^ x.rotateRight 18 ^^^ x >>> 3
def cK(x:BitVec 32):BitVec 32:=x.rotateRight 17 ^^^ x.rotateRight 19 ^^^ x >>> 10
def Jj(l:List Int):Nat->List (BitVec 32)
 | 0=>List.replicate 64 0#32
 | k+1=>(Jj l k).set k (Rj l k)
def VQ(ws:List (BitVec 32))(i:Nat):BitVec 32:=ws.getD (i-16) 0#32+cJ (ws.getD (i-15) 0#32)+ws.getD (i-7) 0#32+cK (ws.getD (i-2) 0#32)
def EQ(l:List Int):Nat->List (BitVec 32)
 | 0=>Jj l 16
 | k+1=>(EQ l k).set (16+k) (VQ (EQ l k) (16+k))
def Me(l:List Int):List (BitVec 32):=EQ l 48
theorem Fq(l:List Int)(k:Nat):(Jj l k).length=64:=by
 induction k with
 | zero=>simp[Jj]
 | succ k ih=>simp[Jj,ih]
theorem DE(l:List Int)(k:Nat):(EQ l k).length=64:=by
 induction k with
 | zero=>exact Fq l 16
 | succ k ih=>simp[EQ,ih]
theorem MU(l:List Int):(Me l).length=64:=DE l 48
theorem J0(n:Int)(h:0<=n/\n<256):uw (BQ n)=n:=by
 unfold uw BQ;rw[BitVec.toNat_ofNat];omega
def Qf:List Int:=[1116352408,1899447441,3049323471,3921009573,961987163,1508970993,2453635748,2870763221,3624381080,310598401,607225278,1426881987,1925078388,2162078206,2614888103,3248222580,3835390401,4022224774,264347078,604807628,770255983,1249150122,1555081692,1996064986,2554220882,2821834349,2952996808,3210313671,3336571891,3584528711,113926993,338241895,666307205,773529912,1294757372,1396182291,1695183700,1986661051,2177026350,2456956037,2730485921,2820302411,3259730800,3345764771,3516065817,3600352804,4094571909,275423344,430227734,506948616,659060556,883997877,958139571,1322822218,1537002063,1747873779,1955562222,2024104815,2227730452,2361852424,2428436474,2756734187,3204031479,3329325298]
def kAt(i:Nat):BitVec 32:=BitVec.ofNat 32 (Qf.getD i 0).toNat
structure St where
 a:BitVec 32
 b:BitVec 32
 c:BitVec 32
 d:BitVec 32
 e:BitVec 32
 f:BitVec 32
 g:BitVec 32
 h:BitVec 32
def St.cells(s:St):Array Value:=#[.int .u32 (uw s.a),.int .u32 (uw s.b),.int .u32 (uw s.c),.int .u32 (uw s.d),.int .u32 (uw s.e),.int .u32 (uw s.f),.int .u32 (uw s.g),.int .u32 (uw s.h)]
def St.list(s:St):List (BitVec 32):=[s.a,s.b,s.c,s.d,s.e,s.f,s.g,s.h]
def P6(e f g:BitVec 32):BitVec 32:=(e &&& f) ^^^ (~~~e &&& g)
def most(a b c:BitVec 32):BitVec 32:=(a &&& b) ^^^ (a &&& c) ^^^ (b &&& c)
def d8(e:BitVec 32):BitVec 32:=e.rotateRight 6 ^^^ e.rotateRight 11 ^^^ e.rotateRight 25
def dz(a:BitVec 32):BitVec 32:=a.rotateRight 2 ^^^ a.rotateRight 13 ^^^ a.rotateRight 22
def upS(s:St)(k w:BitVec 32):BitVec 32:=s.h+d8 s.e+P6 s.e s.f s.g+k+w
def ZH(s:St):BitVec 32:=dz s.a+most s.a s.b s.c
def WQ(s:St)(k w:BitVec 32):St:={ a:=upS s k w+ZH s,b:=s.a,c:=s.b,d:=s.c,e:=s.d+upS s k w,f:=s.e,g:=s.f,h:=s.g }
def Bl(ws:List (BitVec 32))(s:St):Nat->St
 | 0=>s
 | k+1=>WQ (Bl ws s k) (kAt k) (ws.getD k 0#32)
def fg(s t:St):St:={ a:=s.a+t.a,b:=s.b+t.b,c:=s.c+t.c,d:=s.d+t.d,e:=s.e+t.e,f:=s.f+t.f,g:=s.g+t.g,h:=s.h+t.h }
def Dn(s t:St):Nat->List (BitVec 32)
 | 0=>s.list
 | i+1=>(Dn s t i).set i ((Dn s t i).getD i 0#32+t.list.getD i 0#32)
theorem Er(s t:St)(i:Nat):(Dn s t i).length=8:=by
 induction i with
 | zero=>rfl
 | succ i ih=>simp[Dn,ih]
def VL(s:St)(ws:List (BitVec 32)):St:=fg s (Bl ws s 64)
def start:St:={ a:=1779033703#32,b:=3144134277#32,c:=1013904242#32,d:=2773480762#32,e:=1359893119#32,f:=2600822924#32,g:=528734635#32,h:=1541459225#32 }
def Es(x:BitVec 32):List Int:=[uw x/16777216%256,uw x/65536%256,uw x/256%256,uw x%256]
def BU:List (BitVec 32)->List Int
 | []=>[]
 | x::r=>Es x++BU r
def Mt(s:St):List Int:=BU s.list
theorem I2(x:BitVec 32):∀ n∈Es x,0<=n/\n<256:=by
 intro n hn;simp only[Es,List.mem_cons,List.not_mem_nil,or_false]at hn;rcases hn with rfl|rfl|rfl|rfl<;>omega
theorem Nq(l:List (BitVec 32)):∀ n∈BU l,0<=n/\n<256:=by
 induction l with
 | nil=>intro n hn;cases hn
 | cons x r ih =>
  intro n hn;rcases List.mem_append.1 hn with h|h
  .exact I2 x n h
  .exact ih n h
theorem Nr(l:List (BitVec 32))(x:BitVec 32):BU (l++[x])=BU l++Es x:=by
 induction l with
 | nil=>simp[BU]
 | cons y r ih=>simp[BU,ih]
theorem FQ(l:List (BitVec 32)):(BU l).length=4*l.length:=by
 induction l with
 | nil=>rfl
 | cons x r ih=>simp[BU,Es,ih];omega
def Mz(l:List Int):Nat->St
 | 0=>start
 | k+1=>VL (Mz l k) (Me ((l.drop (64*k)).take 64))
def dig(l:List Int):List Int:=Mt (Mz (pad l) ((pad l).length/64))
theorem Ay(l:List Int):(dig l).length=32:=rfl
theorem CS(l:List Int):∀ n∈dig l,0<=n/\n<256:=Nq _
def Lg(s:List (BitVec 32))(a b:Nat):List (BitVec 32):=s.set a (s.getD a 0#32+s.getD b 0#32)
def bf(s:List (BitVec 32))(a t n:Nat):List (BitVec 32):=s.set t ((s.getD t 0#32 ^^^ s.getD a 0#32).rotateLeft n)
def I8(s:List (BitVec 32))(a b t n:Nat):List (BitVec 32):=bf (Lg s a b) a t n
def Kz(s:List (BitVec 32))(a b c d:Nat):List (BitVec 32):=I8 (I8 (I8 (I8 s a b d 16) c d b 12) a b d 8) c d b 7
theorem I7(s:List (BitVec 32))(a b:Nat):(Lg s a b).length=s.length:=by simp[Lg]
theorem Oc(s:List (BitVec 32))(a t n:Nat):(bf s a t n).length=s.length:=by simp[bf]
theorem Bu(s:List (BitVec 32))(a b t n:Nat):(I8 s a b t n).length=s.length:=by rw[I8,Oc,I7]
theorem Lm(s:List (BitVec 32))(a b c d:Nat):(Kz s a b c d).length=s.length:=by simp only[Kz,Bu]
def Eh:List Nat:=[0,4,8,12,1,5,9,13,2,6,10,14,3,7,11,15,0,5,10,15,1,6,11,12,2,7,8,13,3,4,9,14]
def Ga(s:List (BitVec 32)):Nat->List (BitVec 32)
 | 0=>s
 | k+1=>Kz (Ga s k) (Eh.getD (4*k) 0) (Eh.getD (4*k+1) 0) (Eh.getD (4*k+2) 0) (Eh.getD (4*k+3) 0)
def CZ(s:List (BitVec 32)):Nat->List (BitVec 32)
 | 0=>s
 | k+1=>Ga (CZ s k) 8
theorem Hr(s:List (BitVec 32))(k:Nat):(Ga s k).length=s.length:=by
 induction k with
 | zero=>rfl
 | succ k ih=>rw[Ga,Lm,ih]
theorem Gb(s:List (BitVec 32))(k:Nat):(CZ s k).length=s.length:=by
 induction k with
 | zero=>rfl
 | succ k ih=>rw[CZ,Hr,ih]
theorem Jx(i:Nat):Eh.getD i 0<16:=by
 have all:∀ j:Fin 32,Eh.getD j.val 0<16:=by decide
 rcases Nat.lt_or_ge i 32 with h|h
 .exact all ⟨i,h⟩
 .rw[List.getD,List.getElem?_eq_none (by simpa[Eh]using h)];decide
def JD(x:BitVec 32):List Int:=[uw x%256,uw x/256%256,uw x/65536%256,uw x/16777216%256]
def ao(s t:List (BitVec 32))(i:Nat):BitVec 32:=s.getD i 0#32+t.getD i 0#32
def Q5(s t:List (BitVec 32)):Nat->List Int
 | 0=>[]
 | k+1=>Q5 s t k++JD (ao s t k)
theorem Fg(s t:List (BitVec 32))(k:Nat):(Q5 s t k).length=4*k:=by
 induction k with
 | zero=>rfl
 | succ k ih=>simp[Q5,JD,ih];omega
theorem Ns(x:BitVec 32):∀ n∈JD x,0<=n/\n<256:=by
 intro n hn;simp only[JD,List.mem_cons,List.not_mem_nil,or_false]at hn;rcases hn with rfl|rfl|rfl|rfl<;>omega
theorem To(s t:List (BitVec 32))(k:Nat):∀ n∈Q5 s t k,0<=n/\n<256:=by
 induction k with
 | zero=>intro n hn;cases hn
 | succ k ih =>
  intro n hn;rcases List.mem_append.1 hn with h|h
  .exact ih n h
  .exact Ns _ n h
def BT(s:List (BitVec 32)):List Int:=Q5 (CZ s 10) s 16
theorem DL(s:List (BitVec 32)):(BT s).length=64:=Fg _ _ _
theorem ES(s:List (BitVec 32)):∀ n∈BT s,0<=n/\n<256:=To _ _ _
def Xw(l:List Int)(i:Nat):BitVec 32:=BQ (l.getD (4*i) 0) ||| BQ (l.getD (4*i+1) 0) <<< 8 ||| BQ (l.getD (4*i+2) 0) <<< 16 ||| BQ (l.getD (4*i+3) 0) <<< 24
def Da(s:List (BitVec 32))(off:Nat)(l:List Int):Nat->List (BitVec 32)
 | 0=>s
 | k+1=>(Da s off l k).set (off+k) (Xw l k)
theorem Df(s:List (BitVec 32))(off:Nat)(l:List Int)(k:Nat):(Da s off l k).length=s.length:=by
 induction k with
 | zero=>rfl
 | succ k ih=>simp[Da,ih]
def Gx:List (BitVec 32):=[1634760805#32,857760878#32,2036477234#32,1797285236#32,0#32,0#32,0#32,0#32,0#32,0#32,0#32,0#32,0#32,0#32,0#32,0#32]
def Bq(key:List Int)(c:BitVec 32)(nonce:List Int):List (BitVec 32):=Da ((Da Gx 4 key 8).set 12 c) 13 nonce 3
theorem FO(key:List Int)(c:BitVec 32)(nonce:List Int):(Bq key c nonce).length=16:=by
 simp[Bq,Df,Gx]
def bx(x y:Int):Int:=((x.toNat ^^^ y.toNat:Nat):Int)
theorem Ms{x y:Int}(hx:0<=x/\x<256)(hy:0<=y/\y<256):0<=bx x y/\bx x y<256:=by
 unfold bx;have:x.toNat ^^^ y.toNat<2^8:=Nat.xor_lt_two_pow (by omega) (by omega);omega
def Mf(s:List (BitVec 32))(i:Nat):Int:=(BT (s.set 12 (s.getD 12 0#32+BitVec.ofNat 32 (i/64)))).getD (i%64) 0
theorem QU(s:List (BitVec 32))(i:Nat):0<=Mf s i/\Mf s i<256:=Aj (ES _) _
def Cy(s:List (BitVec 32))(d:List Int):Nat->List Int
 | 0=>[]
 | k+1=>Cy s d k++[bx (Mf s k) (d.getD k 0)]
def Oo(s:List (BitVec 32))(d:List Int):List Int:=Cy s d d.length
theorem Ez(s:List (BitVec 32))(d:List Int)(k:Nat):(Cy s d k).length=k:=by
 induction k with
 | zero=>rfl
 | succ k ih=>simp[Cy,ih]
theorem Oq(s:List (BitVec 32))(d:List Int):(Oo s d).length=d.length:=Ez _ _ _
theorem Qq(s:List (BitVec 32)){d:List Int}(hd:∀ x∈d,0<=x/\x<256)(k:Nat):∀ n∈Cy s d k,0<=n/\n<256:=by
 induction k with
 | zero=>intro n hn;cases hn
 | succ k ih =>
  intro n hn;rcases List.mem_append.1 hn with h|h
  .exact ih n h
  .obtain rfl:n=_:=by simpa using h
   exact Ms (QU _ _) (Aj hd k)
theorem Ih(s:List (BitVec 32)){d:List Int}(hd:∀ x∈d,0<=x/\x<256):∀ n∈Oo s d,0<=n/\n<256:=Qq s hd _
theorem BM{P:Program}{ops:Array Oper}{w:World}{Q:Act->Prop}:∀ (l:List Oper) (a:Act),wpQuiet P ops (fun w'=>w'=w) Q l a->wpStill P ops w Q l a
 | [],_,h=>h
 | o::rest,a,h=>by
  unfold wpQuiet at h;unfold wpStill;split
  .rename_i hw
   rw[if_pos hw]at h
   obtain⟨v,h1,h2⟩:=h;have h3:=h1 w rfl;unfold Oper.quietAt at h3;unfold Oper.still;generalize (execOp a.eval o).run P w=r at h3 ⊢;cases r with
   | ok n w' =>
    cases n<;>simp only[Oper.quietUpon]at h3<;>simp only[Oper.stillUpon]
    case value u =>
     obtain⟨e1,e2⟩:=h3;rw[e2];exact⟨e1,BM rest _ h2⟩
    case skip =>
     obtain⟨e1,e2⟩:=h3;rw[<- e2];exact⟨e1,BM rest _ h2⟩
    case enter f args=>exact⟨h3.1,v,h3.2,BM rest _ h2⟩
   | halt x w'=>simp only[Oper.quietUpon]at h3
  .rename_i hw
   rw[if_neg hw]at h
   exact BM rest _ h
theorem Aq{P:Program}{id:Nat}{Q:Exit->Act->World->Prop}{a:Act}{w:World}{l:List Oper}(n:Nat)(hm:P.follows .mixedOrders=true)(hB:Region.lexTailB .any l.toArray n=true)
  (h:wpQuiet P l.toArray (fun w'=>w'=w.drew) (fun a'=>wpList P l.toArray Q (l.drop n) a' w.drew) (l.take n) a):(Code.region id l.toArray true).wp P Q a w :=
 wp_region_still_tail n hm hB (BM _ _ h)
theorem Ws{a b:Int}(h:a=b):Ending.returned (.int .u32 a)=.returned (.int .u32 b):=by rw[h]
theorem az(n:Nat)(h1:n<=31):bits .and .u64 (n:Int) 31=(n:Int):=by
 rw[show(31:Int)=((31:Nat):Int)from rfl,u64_and_nat _ _ (by omega) (by omega),nat_mask5];omega
theorem Zp(x:BitVec 32)(n:Nat)(h0:1<=n)(h1:n<=31):bits .or .u32 (uw x*2^n%4294967296) (uw x/2^(32-n))=uw (x.rotateLeft n):=by
 rw[Fx,Nh,IU,Re];rw[BitVec.rotateLeft_def,Nat.mod_eq_of_lt (by omega:n<32)]
theorem Wy(x:BitVec 32)(n:Nat)(w:World)(h0:1<=n)(h1:n<=31) :
  Calls prog 198 #[.int .u32 (uw x),.int .i64 (n:Int)] w fun e w'=>e=.returned (.int .u32 (uw (x.rotateLeft n)))/\w'=w:=by
 have a1:=Db x;have a2:=Xk x;have a3:=az n h1;go_enter func198,ntmps198
 go_wp2
 go_ret;exact⟨Ws (Zp x n h0 h1),rfl⟩
theorem YS(v:Int)(x:BitVec 32)(hv:v=uw x)(n:Nat)(w:World)(h0:1<=n)(h1:n<=31) :
  Calls prog 198 #[.int .u32 v,.int .i64 (n:Int)] w fun e w'=>e=.returned (.int .u32 (uw (x.rotateLeft n)))/\w'=w:=by
 subst hv;exact Wy x n w h0 h1
theorem Ek{w:World}{g:Nat}{ws:List (BitVec 32)}(h:w.heap[g]?=some (.cells (Au ws) 254 (0,0)))(k:Nat)(x:BitVec 32) :
  (w.setCell ⟨g,k,none⟩ (.int .u32 (uw x))).heap[g]?=some (.cells (Au (ws.set k x)) 254 (0,0)):=by
 rw[heap_setCell_same _ _ _ _ _ _ h,KM]
theorem GN(g:Nat)(ws:List (BitVec 32))(w:World)(hw:w.heap[g]?=some (.cells (Au ws) 254 (0,0)))(hl:ws.length=16)(a b t n:Nat)(ha:a<16)(hb:b<16)(ht:t<16)(h0:1<=n)(h1:n<=31) :
  Calls prog 206 #[.pointer (some ⟨g,0,none⟩),.int .i64 a,.int .i64 b,.int .i64 t,.int .i64 n] w fun e w'=>e=.returned (.tuple #[])/\w'.heap[g]?=some (.cells (Au (I8 ws a b t n)) 254 (0,0))/\Below g w w':=by
 have ca:=(cell_of_row w _ a _ _ _ hw).trans (Bp ws a (by omega));have cb:=(cell_of_row w _ b _ _ _ hw).trans (Bp ws b (by omega));have fa:=frozen_of_row w _ a _ _ hw;have HA:Hid (Lg ws a b=ws.set a (ws.getD a 0#32+ws.getD b 0#32)):=rfl;have HW:Hid _:=hw;have HL:Hid (ws.length=16):=hl;clear hw hl;generalize ws.getD a 0#32=x at ca HA;generalize ws.getD b 0#32=y at cb HA;go_enter func206,ntmps206
 go_wp2_with fail
 refine Aq 13 (by kernel_rfl) (by kernel_rfl) ?_;simp only[List.take_succ_cons,List.take_zero,List.drop_succ_cons,List.drop_zero]
 repeat (go_big_quiet_step (fail))
 refine wpQuiet_nil ?_;go_wp2_with fail
 rw[CA];generalize hW1:(w.setCell _ _).drew=W1;have r1:W1.heap[g]?=some (.cells (Au (Lg ws a b)) 254 (0,0)):=by rw[<- hW1,HA.out];exact Ek HW.out a _
 have b1:Below g w W1:=by rw[<- hW1];exact((Below.refl g w).setCell (p:=⟨g,a,none⟩) (Nat.le_refl _) _).drew
 have hl1:(Lg ws a b).length=16:=by rw[I7];exact HL.out
 have H2:Hid (I8 ws a b t n=(Lg ws a b).set t (((Lg ws a b).getD t 0#32 ^^^ (Lg ws a b).getD a 0#32).rotateLeft n)):=rfl;clear hW1 HA HW HL ca cb fa;generalize Lg ws a b=vs at r1 hl1 H2;have ca:=(cell_of_row W1 _ a _ _ _ r1).trans (Bp vs a (by omega));have ct:=(cell_of_row W1 _ t _ _ _ r1).trans (Bp vs t (by omega));have ft:=frozen_of_row W1 _ t _ _ r1;generalize vs.getD a 0#32=x2 at ca H2;generalize vs.getD t 0#32=y2 at ct H2;have HR:Hid _:=r1;clear r1 hl1;refine Aq 17 (by kernel_rfl) (by kernel_rfl) ?_;simp only[List.take_succ_cons,List.take_zero,List.drop_succ_cons,List.drop_zero]
 repeat (go_big_quiet_step (fail))
 go_big_quiet_want
 go_big_quiet_op
 refine⟨_,YS _ (y2 ^^^ x2) (CM y2 x2) n _ h0 h1,?_⟩
 go_big_quiet_on
 repeat (go_big_quiet_step (fail))
 refine wpQuiet_nil ?_;go_wp2
 go_end0
 refine⟨rfl,?_,b1.trans (((Below.refl g W1).setCell (p:=⟨g,t,none⟩) (Nat.le_refl _) _).drew)⟩;rw[H2.out];exact Ek (w:=W1.drew) HR.out t _
theorem OF(g:Nat)(ws:List (BitVec 32))(w:World)(hw:w.heap[g]?=some (.cells (Au ws) 254 (0,0)))(hl:ws.length=16)(a b c d:Nat)(ha:a<16)(hb:b<16)(hc:c<16)(hd:d<16) :
  Calls prog 199 #[.pointer (some ⟨g,0,none⟩),.int .i64 a,.int .i64 b,.int .i64 c,.int .i64 d] w fun e w'=>e=.returned (.tuple #[])/\w'.heap[g]?=some (.cells (Au (Kz ws a b c d)) 254 (0,0))/\Below g w w':=by
 go_enter func199,ntmps199
 go_wp2_with fail
 refine(GN g ws w hw hl a b d 16 ha hb hd (by omega) (by omega)).mono ?_;rintro e w1 ⟨rfl,r1,b1⟩;go_wp2_with fail
 refine(GN g _ w1 r1 (by rw[Bu];exact hl) c d b 12 hc hd hb (by omega) (by omega)).mono ?_;rintro e w2 ⟨rfl,r2,b2⟩;go_wp2_with fail
 refine(GN g _ w2 r2 (by rw[Bu,Bu];exact hl) a b d 8 ha hb hd (by omega) (by omega)).mono ?_;rintro e w3 ⟨rfl,r3,b3⟩;go_wp2_with fail
 refine(GN g _ w3 r3 (by rw[Bu,Bu,Bu];exact hl) c d b 7 hc hd hb (by omega) (by omega)).mono ?_;rintro e w4 ⟨rfl,r4,b4⟩;go_wp2
 go_end0
 exact⟨rfl,r4,((b1.trans b2).trans b3).trans b4⟩
end
section
theorem As:(prog.info? 5).map (fun i=>(i.zero,i.size,i.bytes))=some (some (.int .u8 0),1,1):=by kernel_rfl
end
section
open Go.RowKit
theorem Ip(x:BitVec 32)(h:uw x<256):uw x*16777216=uw (x <<< 24)/\uw x*65536=uw (x <<< 16)/\uw x*256=uw (x <<< 8):=by
 have h0:=Db x;have e24:=Fx x 24;have e16:=Fx x 16;have e8:=Fx x 8;rw[<- e24,<- e16,<- e8];refine⟨?_,?_,?_⟩
 .rw[show(2:Int)^24=16777216 from rfl];omega
 .rw[show(2:Int)^16=65536 from rfl];omega
 .rw[show(2:Int)^8=256 from rfl];omega
theorem FX(g off n cap:Nat)(ws:List (BitVec 32))(v:Value)(l:List Int)(w:World)(hw:w.heap[g]?=some (.cells (Au ws) 254 (0,0)))(hws:ws.length=16)(hoff:off+n<=16)(hn0:0<n)
  (h:Sl w v l)(hl:l.length=4*n)(hvb:∀ b o m c,v=.slice (some ⟨b,o,none⟩) m c->b<g) :
  Calls prog 187 #[.slice (some ⟨g,off,none⟩) n cap,v] w fun e w'=>e=.returned (.tuple #[])/\w'.heap[g]?=some (.cells (Au (Da ws off l n)) 254 (0,0))/\Below g w w':=by
 obtain⟨⟨a,cap',rfl,hc,hn,h1⟩,hla,hba⟩:=h;rcases h1 with rfl|⟨b,o,rfl,hb,hcell⟩
 .simp at hl;omega
 have hbg:=hvb _ _ _ _ rfl;clear hvb;rw[hl]at hc hla hcell ⊢
 have HC:Hid (∀ i,i<4*n->w.cell? ⟨b,o+i,none⟩=some (.int .u8 (uw (BQ (l.getD i 0))))):=fun i hi=>by rw[J0 _ (Aj hba i)];exact hcell i hi
 have HB:Hid (∀ i,uw (BQ (l.getD i 0))<256):=fun i=>by rw[J0 _ (Aj hba i)];exact(Aj hba i).2
 clear hl hn hcell hba;go_enter func187,ntmps187
 go_wp2_with fail
 go_loopw [7] (fun i wr=>∃ k:Nat,k<=n/\i=.int .i64 k/\wr.heap[g]?=some (.cells (Au (Da ws off l k)) 254 (0,0))/\Below g w wr) (fun i _=>n-(intOf i).toNat)
 case atStart=>exact⟨0,by omega,rfl,hw,Below.refl _ _⟩
 case round =>
  clear hw;obtain⟨k,hk,rfl,hW,hbel⟩:=hrel;by_cases hkn:k<n
  .have hfw:wr.frozen? ⟨g,off+k,none⟩=false:=frozen_of_row wr _ (off+k) _ _ hW;have hz:=Bp (Da ws off l k) (off+k) (by rw[Df];omega);have hcw:wr.cell? ⟨g,off+k,none⟩=some (.int .u32 (uw ((Da ws off l k).getD (off+k) 0#32))):=(cell_of_row wr _ (off+k) _ _ _ hW).trans hz;have c0:=(hbel.cell (p:=⟨b,o+(4*k),none⟩) hbg).trans (HC.out (4*k) (by omega));have c1:=(hbel.cell (p:=⟨b,o+(4*k+1),none⟩) hbg).trans (HC.out (4*k+1) (by omega));have c2:=(hbel.cell (p:=⟨b,o+(4*k+2),none⟩) hbg).trans (HC.out (4*k+2) (by omega));have c3:=(hbel.cell (p:=⟨b,o+(4*k+3),none⟩) hbg).trans (HC.out (4*k+3) (by omega));have l0:=HB.out (4*k);have l1:=HB.out (4*k+1);have l2:=HB.out (4*k+2);have l3:=HB.out (4*k+3);obtain⟨wd,HW,HV⟩:∃ wd,Hid (wd=Xw l k)/\Hid (Da ws off l (k+1)=(Da ws off l k).set (off+k) wd):=⟨_,rfl,rfl⟩;unfold Xw at HW;generalize BQ (l.getD (4*k) 0)=x0 at c0 l0 HW;generalize BQ (l.getD (4*k+1) 0)=x1 at c1 l1 HW;generalize BQ (l.getD (4*k+2) 0)=x2 at c2 l2 HW;generalize BQ (l.getD (4*k+3) 0)=x3 at c3 l3 HW;obtain⟨y1,s1,e1⟩:∃ y,uw x1*256=uw y/\x1 <<< 8=y:=⟨_,(Ip x1 l1).2.2,rfl⟩;obtain⟨y2,s2,e2⟩:∃ y,uw x2*65536=uw y/\x2 <<< 16=y:=⟨_,(Ip x2 l2).2.1,rfl⟩;obtain⟨y3,s3,e3⟩:∃ y,uw x3*16777216=uw y/\x3 <<< 24=y:=⟨_,(Ip x3 l3).1,rfl⟩;rw[e1,e2,e3]at HW
   clear e1 e2 e3;have z0:=Db x0;have z1:=Db x1;have z2:=Db x2;have z3:=Db x3;clear hz;go_wp2_with fail
   refine Aq 36 (by kernel_rfl) (by kernel_rfl) ?_;simp only[List.take_succ_cons,List.take_zero,List.drop_succ_cons,List.drop_zero]
   repeat (go_big_quiet_step (fail))
   refine wpQuiet_nil ?_;go_wp2
   rw[IU,IU,IU,<- HW.out];go_roundw
   case rel=>exact⟨k+1,by omega,by go_num,by rw[HV.out];exact Ek hW (off+k) wd,(hbel.setCell (p:=⟨g,off+k,none⟩) (Nat.le_refl _) _).drew⟩
   case measure=>simp[intOf];omega
  .have HK:Hid (k=n):=by unfold Hid;omega
   go_wp2
   go_end0
   exact⟨rfl,by rw[<- HK.out];exact hW,hbel⟩
theorem Ce{B:Nat}{a w:World}(h:Below B a w){g:Nat}(hg:B<=g)(cs:Array Value):Below B a (w.setRow g cs) :=
 h.trans ⟨rfl,rfl,rfl,by simp,fun k hk=>setRow_other w g k cs (by omega)⟩
theorem Ly(vk vn:Value)(key nonce:List Int)(c:Nat)(w:World)(hk:Sl w vk key)(hn:Sl w vn nonce)(lk:key.length=32)(ln:nonce.length=12)(hc:c<=2000000000) :
  Calls prog 175 #[vk,.int .i64 c,vn] w fun e w'=>e=.returned (.agg (Au (Bq key (BitVec.ofNat 32 c) nonce)))/\Bw w w':=by
 have hvk:∀ b o m c,vk=.slice (some ⟨b,o,none⟩) m c->b<w.heap.size:=by
  intro b o m c e;obtain⟨⟨a,cap,rfl,_,_,h1⟩,_,_⟩:=hk;rcases h1 with rfl|⟨b',off',e',hb,_⟩
  .simp at lk
  .rw[e']at e
   simp only[Value.slice.injEq,Option.some.injEq,Addr.mk.injEq,and_true]at e;omega
 have hvn:∀ b o m c,vn=.slice (some ⟨b,o,none⟩) m c->b<w.heap.size:=by
  intro b o m c e;obtain⟨⟨a,cap,rfl,_,_,h1⟩,_,_⟩:=hn;rcases h1 with rfl|⟨b',off',e',hb,_⟩
  .simp at ln
  .rw[e']at e
   simp only[Value.slice.injEq,Option.some.injEq,Addr.mk.injEq,and_true]at e;omega
 go_enter func175,ntmps175
 go_wp2_with fail
 generalize hW0:(w.alloc _).alloc _=W0;have hr0:W0.heap[w.heap.size+1]?=some (.cells (Au Gx) 254 (0,0)):=by rw[<- hW0];exact heap_alloc2_new _ _ _
 have hq0:W0.heap[w.heap.size]?=some (.cells (Au (List.replicate 16 0#32)) 254 (0,0)):=by rw[<- hW0];exact heap_alloc2_old _ _ _
 have hb0:Bw w W0:=by rw[<- hW0];exact((Below.refl _ _).alloc (Nat.le_refl _) _).alloc (by simp) _
 clear hW0;refine(FX (w.heap.size+1) 4 8 12 Gx vk key W0 hr0 rfl (by omega) (by omega) (hk.below hb0) lk (fun b o m c e=>Nat.lt_succ_of_lt (hvk b o m c e))).mono ?_;rintro e w1 ⟨rfl,hr1,hb1⟩;have hq1:=(hb1.block w.heap.size (by omega)).trans hq0;have hB1:Bw w w1:=hb0.trans (hb1.mono (by omega));have hl1:(Da Gx 4 key 8).length=16:=by rw[Df];rfl
 have HG:Hid (Bq key (BitVec.ofNat 32 c) nonce=Da ((Da Gx 4 key 8).set 12 (BitVec.ofNat 32 c)) 13 nonce 3):=rfl;have hcv:(c:Int)=uw (BitVec.ofNat 32 c):=by unfold uw;rw[BitVec.toNat_ofNat,Nat.mod_eq_of_lt (by omega)]
 have HCV:Hid ((c:Int)=uw (BitVec.ofNat 32 c)):=hcv;clear hr0 hq0 hb0 hb1 hcv;generalize Da Gx 4 key 8=vs at hr1 hl1 HG;have hcw:=(cell_of_row w1 _ 12 _ _ _ hr1).trans (Bp vs 12 (by omega));have hfw:=frozen_of_row w1 _ 12 _ _ hr1;go_wp2_with fail
 rw[HCV.out];generalize hcw2:BitVec.ofNat 32 c=cw at HG ⊢;have HCW:Hid (BitVec.ofNat 32 c=cw):=hcw2;clear hcw2;generalize hW2:w1.setCell _ _=W2;have hr2:W2.heap[w.heap.size+1]?=some (.cells (Au (vs.set 12 cw)) 254 (0,0)):=by rw[<- hW2];exact Ek hr1 12 cw
 have hq2:W2.heap[w.heap.size]?=some (.cells (Au (List.replicate 16 0#32)) 254 (0,0)):=by rw[<- hW2];exact(heap_setCell_other _ _ _ _ (by simp)).trans hq1
 have hB2:Bw w W2:=by rw[<- hW2];exact hB1.setCell (p:=⟨w.heap.size+1,12,none⟩) (by simp) _
 clear hW2 hr1 hq1 hB1 hcw hfw;refine(FX (w.heap.size+1) 13 3 3 (vs.set 12 cw) vn nonce W2 hr2 (by simpa using hl1) (by omega) (by omega) (hn.below hB2) ln (fun b o m c e=>Nat.lt_succ_of_lt (hvn b o m c e))).mono ?_;rintro e w3 ⟨rfl,hr3,hb3⟩;have hq3:=(hb3.block w.heap.size (by omega)).trans hq2;have hB3:Bw w w3:=hB2.trans (hb3.mono (by omega));have hl3:(Da (vs.set 12 cw) 13 nonce 3).length=16:=by rw[Df];simpa using hl1
 clear hr2 hq2 hB2 hb3;rw[<- HG.out]at hr3 hl3
 generalize hus:Bq key cw nonce=us at hr3 hl3;have HUS:Hid (Bq key cw nonce=us):=hus;clear hus;have hsz:(prog.info? 254).map (·.size)=some (Au us).size:=by rw[AQ,hl3];kernel_rfl
 have hone:(Au us).all (·.oneCell')=true:=by simp[Au,Value.oneCell']
 go_wp2_with (first|(refine wpList_load_row rfl 254 _ rfl (w.heap.size+1) rfl 254 _ (0,0) _ hr3 underlying254 rfl hsz ?_)|(refine wpList_store_row rfl 254 _ _ rfl w.heap.size _ rfl rfl 254 _ hq3 hsz (by rw[AQ,AQ,hl3];rfl) hone ?_))
 refine bodyPost_ret (v:=.agg (Au us)) (results_cell_row rfl _ _ w.heap.size 254 _ (0,0) _ rfl (setRow_heap w3 w.heap.size _ _ 254 _ hq3) underlying254 rfl hsz) rfl ⟨by rw[HCW.out,HUS.out],Ce hB3 (Nat.le_refl _) _⟩
def Tw:Array Value:=(Eh.map fun(n:Nat)=>Value.int .i64 (n:Int)).toArray
def Cf(w:World):Prop:=∃ t fr,w.heap[4]?=some (.cells Tw t fr)
theorem Cf.below{w w':World}(h:Cf w){B:Nat}(hB:4<B)(hb:Below B w w'):Cf w':=by
 obtain⟨t,fr,h⟩:=h;exact⟨t,fr,(hb.block _ hB).trans h⟩
theorem Cf.pos{w:World}(h:Cf w):4<w.heap.size:=by
 obtain⟨t,fr,h⟩:=h;exact(Array.getElem?_eq_some_iff.1 h).1
theorem bi(j:Nat)(hj:j<8):∀ w,(Instr.index 278 (.agg Tw) (.int .i64 (j:Int))).run prog w=.ok (.agg #[.int .i64 ((Eh.getD (4*j) 0:Nat):Int),.int .i64 ((Eh.getD (4*j+1) 0:Nat):Int),.int .i64 ((Eh.getD (4*j+2) 0:Nat):Int),.int .i64 ((Eh.getD (4*j+3) 0:Nat):Int)]) w:=by
 intro w;obtain rfl|rfl|rfl|rfl|rfl|rfl|rfl|rfl:j=0\/j=1\/j=2\/j=3\/j=4\/j=5\/j=6\/j=7:=by omega
 all_goals kernel_rfl
theorem fM(w:World)(o1 o2 o3:Obj){W:World}(h:((w.alloc o1).alloc o2).alloc o3=W) :
  W.heap[w.heap.size]?=some o1/\W.heap[w.heap.size+1]?=some o2/\W.heap[w.heap.size+1+1]?=some o3/\W.heap.size=w.heap.size+3/\Bw w W:=by
 subst h;refine⟨?_,?_,?_,by simp,(((Below.refl _ _).alloc (Nat.le_refl _) _).alloc (by simp) _).alloc (by simp;omega) _⟩
 .rw[heap_alloc_old _ _ (by simp;omega)];exact heap_alloc2_old w o1 o2
 .rw[heap_alloc_old _ _ (by simp)];exact heap_alloc2_new w o1 o2
 .have:=heap_alloc_new ((w.alloc o1).alloc o2) o3;simpa using this
theorem bC:∀ (S:List (BitVec 32)),S.length=16->∃ s0 s1 s2 s3 s4 s5 s6 s7 s8 s9 s10 s11 s12 s13 s14 s15,S=[s0,s1,s2,s3,s4,s5,s6,s7,s8,s9,s10,s11,s12,s13,s14,s15]
 | [s0,s1,s2,s3,s4,s5,s6,s7,s8,s9,s10,s11,s12,s13,s14,s15],_=>⟨s0,s1,s2,s3,s4,s5,s6,s7,s8,s9,s10,s11,s12,s13,s14,s15,rfl⟩
theorem Yj(S:List (BitVec 32))(hS:S.length=16)(j:Nat)(hj:j<16):∀ w,(Instr.index 254 (.agg (Au S)) (.int .i64 (j:Int))).run prog w=.ok (.int .u32 (uw (S.getD j 0#32))) w:=by
 intro w;obtain⟨s0,s1,s2,s3,s4,s5,s6,s7,s8,s9,s10,s11,s12,s13,s14,s15,rfl⟩:=bC S hS;obtain rfl|rfl|rfl|rfl|rfl|rfl|rfl|rfl|rfl|rfl|rfl|rfl|rfl|rfl|rfl|rfl:j=0\/j=1\/j=2\/j=3\/j=4\/j=5\/j=6\/j=7\/j=8\/j=9\/j=10\/j=11\/j=12\/j=13\/j=14\/j=15:=by omega
 all_goals kernel_rfl
theorem Cr{P:Program}{ops:Array Oper}{Q:Exit->Act->World->Prop}{l:List Oper}{a:Act}{w:World}(h:wpList P ops Q l a w):wpList P ops Q l a w:=h
theorem EI(w:World)(o1 o2 o3:Obj):(((w.alloc o1).alloc o2).alloc o3).heap[w.heap.size+1+1]?=some o3:=by
 have:=heap_alloc_new ((w.alloc o1).alloc o2) o3;simpa using this
theorem OU(w:World)(o1 o2 o3:Obj)(cs old:Array Value)(t:TypeId)(h3:o3=.cells old t (0,0)){W:World}(h:(((w.alloc o1).alloc o2).alloc o3).setRow (w.heap.size+1+1) cs=W) :
  W.heap[w.heap.size]?=some o1/\W.heap[w.heap.size+1]?=some o2/\W.heap[w.heap.size+1+1]?=some (.cells cs t (0,0))/\W.heap.size=w.heap.size+3/\Bw w W:=by
 subst h;subst h3;have n3:=EI w o1 o2 (.cells old t (0,0));refine⟨?_,?_,setRow_heap _ _ _ _ t _ n3,by simp,Ce ((((Below.refl _ _).alloc (Nat.le_refl _) _).alloc (by simp) _).alloc (by simp;omega) _) (by omega) _⟩
 .rw[setRow_other _ _ _ _ (by omega),heap_alloc_old _ _ (by simp;omega)];exact heap_alloc2_old w o1 o2
 .rw[setRow_other _ _ _ _ (by omega),heap_alloc_old _ _ (by simp)];exact heap_alloc2_new w o1 o2
theorem fH(A:List Int)(n:Nat)(z0 z1 z2 z3 a b c d:Int)(R:List Int)(hA:A.length=n):((((A++z0::z1::z2::z3::R).set n a).set (n+1) b).set (n+2) c).set (n+3) d=A++[a,b,c,d]++R:=by
 subst hA;rw[List.set_append_right _ _ (Nat.le_refl _),List.set_append_right _ _ (by omega),List.set_append_right _ _ (by omega),List.set_append_right _ _ (by omega)];simp
theorem Jr{w:World}{g:Nat}{l:List Int}{t:TypeId}(h:w.heap[g]?=some (.cells (AI l) t (0,0)))(k:Nat)(x:Int) :
  (w.setCell ⟨g,k,none⟩ (.int .u8 x)).heap[g]?=some (.cells (AI (l.set k x)) t (0,0)):=by
 rw[heap_setCell_same _ _ _ _ _ _ h,Uv]
theorem JS(w:World)(G k:Nat)(h:k≠G)(a b c d:Nat)(x y z u:Value):((((w.setCell ⟨G,a,none⟩ x).setCell ⟨G,b,none⟩ y).setCell ⟨G,c,none⟩ z).setCell ⟨G,d,none⟩ u).heap[k]?=w.heap[k]?:=by
 rw[heap_setCell_other _ _ _ _ (by simpa using h),heap_setCell_other _ _ _ _ (by simpa using h),heap_setCell_other _ _ _ _ (by simpa using h),heap_setCell_other _ _ _ _ (by simpa using h)]
def Dx(s t:List (BitVec 32))(j:Nat):List Int:=Q5 s t j++List.replicate (64-4*j) 0
theorem GX(s t:List (BitVec 32))(j:Nat)(hj:j<=16):(Dx s t j).length=64:=by
 rw[Dx,List.length_append,Fg,List.length_replicate];omega
theorem QD(s t:List (BitVec 32))(j:Nat)(hj:j<16)(x:BitVec 32)(hx:ao s t j=x):((((Dx s t j).set (4*j) (uw x%256)).set (4*j+1) (uw x/256%256)).set (4*j+2) (uw x/65536%256)).set (4*j+3) (uw x/16777216%256)=Dx s t (j+1):=by
 have e:List.replicate (64-4*j) (0:Int)=0::0::0::0::List.replicate (64-4*(j+1)) 0:=by
  rw[show 64-4*j=64-4*(j+1)+1+1+1+1 by omega];rfl
 rw[Dx,e,fH _ _ _ _ _ _ _ _ _ _ _ (Fg s t j),Dx,Q5,JD,hx]
theorem FZ(ws:List (BitVec 32))(w:World)(hws:ws.length=16)(ht:Cf w) :
  Calls prog 186 #[.agg (Au ws)] w fun e w'=>e=.returned (.agg (AI (BT ws)))/\Bw w w':=by
 have hpos:=ht.pos;have hsz:(prog.info? 254).map (·.size)=some (Au ws).size:=by rw[AQ,hws];kernel_rfl
 have hone:(Au ws).all (·.oneCell')=true:=by simp[Au,Value.oneCell']
 go_enter func186,ntmps186
 go_wp2_with ((with_reducible (refine Cr ?_));first
  | (refine wpList_load_row rfl 254 _ rfl w.heap.size rfl 254 _ (0,0) _ (heap_alloc2_old _ _ _) underlying254 rfl hsz ?_)
  | (refine wpList_store_row rfl 254 _ _ rfl (w.heap.size+1+1) _ rfl rfl 254 (Au (List.replicate 16 0#32)) (EI _ _ _ _) hsz (by rw[AQ,AQ,hws];rfl) hone ?_))
 generalize hW0:World.setRow _ _ _=W0;obtain⟨hF,hR,hS,hs0,hb0⟩:=OU w _ _ _ _ (Au (List.replicate 16 0#32)) 254 rfl hW0;clear hW0;have hR:W0.heap[w.heap.size+1]?=some (.cells (AI (List.replicate 64 0)) 223 (0,0)):=hR;have hq0:Cf W0:=ht.below hpos hb0
 go_loopw [10] (fun i wr=>∃ k:Nat,k<=10/\i=.int .i64 k/\wr.heap[w.heap.size+1+1]?=some (.cells (Au (CZ ws k)) 254 (0,0))/\Below (w.heap.size+1+1) W0 wr) (fun i _=>10-(intOf i).toNat)
 case atStart=>exact⟨0,by omega,rfl,hS,Below.refl _ _⟩
 case round =>
  clear hS;obtain⟨k,hk,rfl,hS,hbel⟩:=hrel;by_cases hk10:k<10
  .obtain⟨tq,frq,hq⟩:=hq0.below (by omega) hbel;have hk10i:(k:Int)<10:=by omega
   have hixA:=bi;have hszq:(prog.info? 278).map (·.size)=some Tw.size:=by kernel_rfl
   generalize Tw=qa at hq hszq hixA;have HT:Hid (CZ ws (k+1)=Ga (CZ ws k) 8):=rfl;have hl0:(CZ ws k).length=16:=by rw[Gb];exact hws
   generalize CZ ws k=S at HT hS hl0;go_wp2_with ((with_reducible (refine Cr ?_));refine wpList_load_row rfl 278 (.global 4) rfl 4 rfl tq _ frq _ hq underlying278 rfl hszq ?_)
   clear hq
   go_loopw [13] (fun i wr=>∃ j:Nat,j<=8/\i=.int .i64 j/\wr.heap[w.heap.size+1+1]?=some (.cells (Au (Ga S j)) 254 (0,0))/\Below (w.heap.size+1+1) W0 wr) (fun i _=>8-(intOf i).toNat)
   case atStart=>exact⟨0,by omega,rfl,hS,hbel⟩
   case round =>
    clear hS hbel;obtain⟨j,hj,rfl,hS,hbel⟩:=hrel;have hbs:=hbel.size;by_cases hj8:j<8
    .have hix:=hixA j hj8;have hj8i:(j:Int)<8:=by omega
     have HU:Hid (Ga S (j+1)=Kz (Ga S j) (Eh.getD (4*j) 0) (Eh.getD (4*j+1) 0) (Eh.getD (4*j+2) 0) (Eh.getD (4*j+3) 0)):=rfl;have l0:=Jx (4*j);have l1:=Jx (4*j+1);have l2:=Jx (4*j+2);have l3:=Jx (4*j+3);have hlj:(Ga S j).length=16:=by rw[Hr];exact hl0
     generalize Eh.getD (4*j) 0=q0 at hix HU l0;generalize Eh.getD (4*j+1) 0=q1 at hix HU l1;generalize Eh.getD (4*j+2) 0=q2 at hix HU l2;generalize Eh.getD (4*j+3) 0=q3 at hix HU l3;generalize Ga S j=X at HU hS hlj;clear hixA;go_wp2_with fail
     refine(OF (w.heap.size+1+1) X _ ((heap_alloc_old _ _ (by omega)).trans hS) hlj q0 q1 q2 q3 l0 l1 l2 l3).mono ?_;rintro e w1 ⟨rfl,hS1,hb1⟩;have hb2:Below (w.heap.size+1+1) W0 w1:=(hbel.alloc (by omega) _).trans hb1;clear hS hbel hb1 hbs hix;go_wp2
     go_roundw
     case rel=>exact⟨j+1,by omega,by go_num,by rw[HU.out];exact hS1,hb2⟩
     case measure=>simp[intOf];omega
    .have HJ:Hid (j=8):=by unfold Hid;omega
     have hj8i:¬ (j:Int)<8:=by omega
     go_wp2
     go_roundw
     case rel=>exact⟨k+1,by omega,by go_num,by rw[HT.out,<- HJ.out];exact hS,hbel⟩
     case measure=>simp[intOf];omega
  .have HK:Hid (k=10):=by unfold Hid;omega
   have hk10i:¬ (k:Int)<10:=by omega
   have HB:Hid (k=10->BT ws=Dx (CZ ws k) ws 16):=by rintro rfl;simp[BT,Dx]
   have hl0:(CZ ws k).length=16:=by rw[Gb];exact hws
   generalize CZ ws k=S at HB hS hl0;have hbs:=hbel.size;have hF1:=(hbel.block w.heap.size (by omega)).trans hF;have hR1:=(hbel.block (w.heap.size+1) (by omega)).trans hR;have hB1:Bw w wr:=hb0.trans (hbel.mono (by omega));have hsz1:(prog.info? 254).map (·.size)=some (Au S).size:=by rw[AQ,hl0];kernel_rfl
   clear hF hR hb0 hbel hq0;go_wp2_with ((with_reducible (refine Cr ?_));refine wpList_load_row rfl 254 _ rfl (w.heap.size+1+1) rfl 254 _ (0,0) _ ((heap_alloc_old _ _ (by omega)).trans hS) underlying254 rfl hsz1 ?_)
   have hBG:w.heap.size+1<wr.heap.size:=by omega
   generalize hW1:wr.alloc _=W1;have hN:W1.heap[wr.heap.size]?=some (.cells (AI (Dx S ws 0)) 223 (0,0)):=by rw[<- hW1];exact heap_alloc_new _ _
   have hF2:W1.heap[w.heap.size]?=some (.cells (Au ws) 254 (0,0)):=by rw[<- hW1];exact(heap_alloc_old _ _ (by omega)).trans hF1
   have hR2:W1.heap[w.heap.size+1]?=some (.cells (AI (List.replicate 64 0)) 223 (0,0)):=by rw[<- hW1];exact(heap_alloc_old _ _ (by omega)).trans hR1
   have hB2:Bw w W1:=by rw[<- hW1];exact hB1.alloc hB1.size _
   clear hW1 hF1 hR1 hB1 hbs hS ht hsz hsz1 hone hk10i;generalize wr.heap.size=G at hN hBG ⊢
   go_loopw [28] (fun i wr=>∃ j:Nat,j<=16/\i=.int .i64 j/\wr.heap[G]?=some (.cells (AI (Dx S ws j)) 223 (0,0))/\wr.heap[w.heap.size]?=some (.cells (Au ws) 254 (0,0))/\wr.heap[w.heap.size+1]?=some (.cells (AI (List.replicate 64 0)) 223 (0,0))/\Bw w wr) (fun i _=>16-(intOf i).toNat)
   case atStart=>exact⟨0,by omega,rfl,hN,hF2,hR2,hB2⟩
   case round =>
    clear hN hF2 hR2 hB2;obtain⟨j,hj,rfl,hN,hF,hR,hbel⟩:=hrel;by_cases hj16:j<16
    .have hj16i:(j:Int)<16:=by omega
     have hix:=Yj S hl0 j hj16;have cf:=(cell_of_row wr _ j _ _ _ hF).trans (Bp ws j (by omega));have hpl:=GX S ws j hj;have c0:=(cell_of_row wr _ (4*j) _ _ _ hN).trans (Dp _ (4*j) (by omega));have c1:=(cell_of_row wr _ (4*j+1) _ _ _ hN).trans (Dp _ (4*j+1) (by omega));have c2:=(cell_of_row wr _ (4*j+2) _ _ _ hN).trans (Dp _ (4*j+2) (by omega));have c3:=(cell_of_row wr _ (4*j+3) _ _ _ hN).trans (Dp _ (4*j+3) (by omega));have f0:=frozen_of_row wr _ (4*j) _ _ hN;have f1:=frozen_of_row wr _ (4*j+1) _ _ hN;have f2:=frozen_of_row wr _ (4*j+2) _ _ hN;have f3:=frozen_of_row wr _ (4*j+3) _ _ hN;obtain⟨x,hx,HX⟩:∃ x,(uw (S.getD j 0#32)+uw (ws.getD j 0#32))%(4294967296:Int)=uw x/\Hid (ao S ws j=x):=⟨_,CA _ _,rfl⟩;generalize S.getD j 0#32=xa at hix hx;generalize ws.getD j 0#32=xb at cf hx;have nx:=Db x;have HN:Hid _:=hN;have HF:Hid _:=hF;have HR:Hid _:=hR;have HBE:Hid _:=hbel;have HPS:Hid (((((Dx S ws j).set (4*j) (uw x%256)).set (4*j+1) (uw x/256%256)).set (4*j+2) (uw x/65536%256)).set (4*j+3) (uw x/16777216)=Dx S ws (j+1)):=by
      have h1:=QD S ws j hj16 x HX.out;rw[show uw x/16777216%256=uw x/16777216 by have:=Xk x;omega]at h1
      exact h1
     clear hN hF hR hbel hpl;go_wp2
     go_roundw
     case rel=>exact⟨j+1,by omega,by go_num,by rw[<- HPS.out];exact Jr (Jr (Jr (Jr HN.out _ _) _ _) _ _) _ _,(JS wr G _ (by omega) _ _ _ _ _ _ _ _).trans HF.out,(JS wr G _ (by omega) _ _ _ _ _ _ _ _).trans HR.out,
       (((HBE.out.setCell (p:=⟨G,_,none⟩) (by simp;omega) _).setCell (p:=⟨G,_,none⟩) (by simp;omega) _).setCell (p:=⟨G,_,none⟩) (by simp;omega) _).setCell (p:=⟨G,_,none⟩) (by simp;omega) _⟩
     case measure=>simp[intOf];omega
    .have HJ:Hid (j=16):=by unfold Hid;omega
     have hj16i:¬ (j:Int)<16:=by omega
     have hpl:=GX S ws j hj;have hsz:(prog.info? 223).map (·.size)=some (AI (Dx S ws j)).size:=by rw[Aw,hpl];kernel_rfl
     have hone:(AI (Dx S ws j)).all (·.oneCell')=true:=by simp[AI,Value.oneCell']
     go_wp2_with ((with_reducible (refine Cr ?_));first|(refine wpList_load_row rfl 223 _ rfl G rfl 223 _ (0,0) _ hN underlying223 rfl hsz ?_)|(refine wpList_store_row rfl 223 _ _ rfl (w.heap.size+1) _ rfl rfl 223 _ hR hsz (by rw[Aw,Aw,hpl];rfl) hone ?_))
     refine bodyPost_ret (v:=.agg (AI (Dx S ws j))) (results_cell_row rfl _ _ (w.heap.size+1) 223 _ (0,0) _ rfl (setRow_heap wr _ _ _ 223 _ hR) underlying223 rfl hsz) rfl ⟨?_,Ce hbel (by omega) _⟩;rw[HB.out HK.out,HJ.out]
def Dr(key nonce:List Int)(c:Int):Int:=if key.length≠32\/nonce.length≠12 then 1 else if c<0\/1073741824<c then 2 else 0
theorem N1{key nonce:List Int}{c:Int}(h:key.length≠32\/nonce.length≠12):Dr key nonce c=1:=by unfold Dr;rw[if_pos h]
theorem Mu{key nonce:List Int}{c:Int}(hk:key.length=32)(hn:nonce.length=12)(h:c<0\/1073741824<c):Dr key nonce c=2:=by unfold Dr;rw[if_neg (by omega),if_pos h]
theorem Hy{key nonce:List Int}{c:Int}(hk:key.length=32)(hn:nonce.length=12)(h:0<=c/\c<=1073741824):Dr key nonce c=0:=by unfold Dr;rw[if_neg (by omega),if_neg (by omega)]
theorem IL(vk vn:Value)(key nonce:List Int)(c:Int)(w:World)(hk:Sl w vk key)(hn:Sl w vn nonce) :
  Calls prog 173 #[vk,.int .i64 c,vn] w fun e w'=>e=.returned (.int .i64 (Dr key nonce c))/\w'=w:=by
 obtain⟨⟨ak,ck,rfl,_,_,_⟩,lk,_⟩:=hk;obtain⟨⟨an,cn,rfl,_,_,_⟩,ln,_⟩:=hn;have H1:Hid (key.length≠32\/nonce.length≠12->Dr key nonce c=1):=N1;have H2:Hid (key.length=32->nonce.length=12->(c<0\/1073741824<c)->Dr key nonce c=2):=Mu;have H3:Hid (key.length=32->nonce.length=12->(0<=c/\c<=1073741824)->Dr key nonce c=0):=Hy;generalize Dr key nonce c=E at H1 H2 H3 ⊢;generalize key.length=n at *;generalize nonce.length=m at *;go_enter func173,ntmps173
 by_cases h1:(n:Int)=32
 .by_cases h2:(m:Int)=12
  .by_cases h3:c<0
   .go_wp2
    go_ret;exact⟨by rw[H2.out (by omega) (by omega) (by omega)];rfl,rfl⟩
   .by_cases h4:1073741824<c
    .go_wp2
     go_ret;exact⟨by rw[H2.out (by omega) (by omega) (by omega)];rfl,rfl⟩
    .go_wp2
     go_ret;exact⟨by rw[H3.out (by omega) (by omega) (by omega)];rfl,rfl⟩
  .go_wp2
   go_ret;exact⟨by rw[H1.out (by omega)];rfl,rfl⟩
 .go_wp2
  go_ret;exact⟨by rw[H1.out (by omega)];rfl,rfl⟩
theorem Hx(w:World)(l:List Int)(o:Obj)(t:TypeId)(old:Array Value)(ho:o=.cells old t (0,0)){W:World}(hW:(w.alloc o).setRow w.heap.size (AI l)=W) :
  W.heap[w.heap.size]?=some (.cells (AI l) t (0,0))/\Bw w W/\W.heap.size=w.heap.size+1:=by
 subst hW;subst ho;exact⟨setRow_heap _ _ _ _ t _ (heap_alloc_new _ _),Ce ((Below.refl _ _).alloc (Nat.le_refl _) _) (Nat.le_refl _) _,by simp⟩
theorem Sl.ofRow{w:World}{g:Nat}{l:List Int}{t:TypeId}{fr:Nat × Nat}(h:w.heap[g]?=some (.cells (AI l) t fr))(hl:l.length<=140737488351232)(hb:∀ x∈l,0<=x/\x<256):Sl w (.slice (some ⟨g,0,none⟩) l.length l.length) l:=by
 refine⟨⟨_,l.length,rfl,by simp,by simp,.inr ⟨g,0,rfl,(Array.getElem?_eq_some_iff.1 h).1,fun i hi=>?_⟩⟩,hl,hb⟩;rw[Nat.zero_add];exact(cell_of_row w _ i _ _ _ h).trans (Dp l i hi)
structure Got(w w':World)(v:Value)(l:List Int):Prop where
 sl:Sl w' v l
 bel:Bw w w'
 new:∀ b o n c,v=.slice (some ⟨b,o,none⟩) n c->w.heap.size<=b
theorem Uz(vk vn:Value)(key nonce:List Int)(c:Nat)(w:World)(hk:Sl w vk key)(hn:Sl w vn nonce)(lk:key.length=32)(ln:nonce.length=12)(hc:c<=1073741824)(ht:Cf w) :
  Calls prog 176 #[vk,.int .i64 c,vn] w fun e w'=>∃ v',e=.returned (.tuple #[v',.int .i64 0])/\Got w w' v' (BT (Bq key (BitVec.ofNat 32 c) nonce)):=by
 go_enter func176,ntmps176
 go_wp2_with fail
 refine(IL vk vn key nonce c w hk hn).mono ?_;rintro e w1 ⟨rfl,rfl⟩;rw[Hy lk ln (by omega)];go_wp2_with fail
 refine(Ly vk vn key nonce c w1 hk hn lk ln (by omega)).mono ?_;rintro e w2 ⟨rfl,b2⟩;have hl:=FO key (BitVec.ofNat 32 c) nonce;generalize hus:Bq key (BitVec.ofNat 32 c) nonce=us at hl;have HUS:Hid (Bq key (BitVec.ofNat 32 c) nonce=us):=hus;clear hus;go_wp2_with fail
 refine(FZ us w2 hl (ht.below ht.pos b2)).mono ?_;rintro e w3 ⟨rfl,b3⟩;have hbl:=DL us;have hbb:=ES us;generalize hbs:BT us=bs at hbl hbb;have HBS:Hid (BT us=bs):=hbs;clear hbs;have hsz:(prog.info? 223).map (·.size)=some (AI bs).size:=by rw[Aw,hbl];kernel_rfl
 have hone:(AI bs).all (·.oneCell')=true:=by simp[AI,Value.oneCell']
 go_wp2_with ((with_reducible (refine Cr ?_));refine wpList_store_row rfl 223 _ _ rfl w3.heap.size _ rfl rfl 223 (AI (List.replicate 64 0)) (heap_alloc_new _ _) hsz (by rw[Aw,Aw,hbl];rfl) hone ?_)
 generalize hW4:World.setRow _ _ _=W4;obtain⟨hr,b4,_⟩:=Hx w3 bs _ 223 (AI (List.replicate 64 0)) rfl hW4
 go_ret2
 refine⟨_,rfl,?_,(b2.trans (b3.mono b2.size)).trans (b4.mono (Nat.le_trans b2.size b3.size)),fun b o n c e=>?_⟩
 .rw[HUS.out,HBS.out];have:=Sl.ofRow hr (by omega) hbb;rw[hbl]at this
  exact this
 .have:=Nat.le_trans b2.size b3.size;injection e with e1
  injection e1 with e2
  injection e2 with e3
  omega
theorem Rn{x y:Int}(hx:0<=x/\x<256)(hy:0<=y/\y<256):bits .xor .u8 x y=bx x y:=by
 obtain⟨a,rfl⟩:∃ a:Nat,x=a:=⟨x.toNat,by omega⟩;obtain⟨b,rfl⟩:∃ b:Nat,y=b:=⟨y.toNat,by omega⟩;rw[u8_xor_nat _ _ (by omega) (by omega)];rfl
theorem Ik{w:World}{base e:Nat}{v:Value}{n:Nat}{xs:List Value}(h:w.ownsRow base e 1 v n xs){g:Nat}{cs:Array Value}{t:TypeId}{fr:Nat × Nat}(hg:w.heap[g]?=some (.cells cs t fr))(ht:t≠e):v.ownBlock≠some g:=by
 intro hv;rcases h.2 with⟨rfl,_⟩|⟨g',cap,cur,rfl,_,hg',_⟩
 .simp[Value.ownBlock]at hv
 .simp only[Value.ownBlock,Option.some.injEq]at hv;subst hv;rw[hg']at hg
  simp only[Option.some.injEq,Obj.cells.injEq]at hg;exact ht hg.2.1.symm
theorem Eg{w w':World}{base e:Nat}{v:Value}{n:Nat}{xs:List Value}(h:w.ownsRow base e 1 v n xs)(hk:∀ k,v.ownBlock=some k->w'.heap[k]?=w.heap[k]?):w'.ownsRow base e 1 v n xs:=by
 refine⟨h.1,?_⟩;rcases h.2 with h2|⟨g,cap,cur,hv,hb,hg,hr⟩
 .exact .inl h2
 .exact .inr ⟨g,cap,cur,hv,hb,(hk g (by rw[hv];rfl)).trans hg,hr⟩
theorem Sl.one2(w:World)(b b':Int)(e:TypeId){g:Nat}(hg:g=w.heap.size)(hb:0<=b/\b<256)(he:b'=b):Sl (w.alloc (.cells #[.int .u8 b'] e)) (.slice (some ⟨g,0,none⟩) 1 1) [b]:=by
 subst he;exact Sl.one w b' e hg hb
theorem Xl(x:BitVec 32):(uw x+1)%(4294967296:Int)=uw (x+1#32):=CA x 1#32
theorem PE(c:BitVec 32)(q:Nat):c+BitVec.ofNat 32 q+1#32=c+BitVec.ofNat 32 (q+1):=by
 rw[BitVec.add_assoc]
 congr 1
 apply BitVec.eq_of_toNat_eq;simp[BitVec.toNat_add,BitVec.toNat_ofNat]
def DO(ws:List (BitVec 32))(q:Nat):List (BitVec 32):=ws.set 12 (ws.getD 12 0#32+BitVec.ofNat 32 q)
theorem NC(ws:List (BitVec 32))(q:Nat):(DO ws q).length=ws.length:=by simp[DO]
theorem S5(ws:List (BitVec 32))(h:ws.length=16):DO ws 0=ws:=by
 unfold DO;rw[show BitVec.ofNat 32 0=0#32 from rfl,BitVec.add_zero,List.getD,List.getElem?_eq_getElem (by omega),Option.getD_some,List.set_getElem_self]
theorem XH(ws:List (BitVec 32))(q:Nat)(h:ws.length=16):(DO ws q).getD 12 0#32=ws.getD 12 0#32+BitVec.ofNat 32 q:=by
 unfold DO;simp[List.getD,h]
theorem S4(ws:List (BitVec 32))(q:Nat)(h:ws.length=16):(DO ws q).set 12 ((DO ws q).getD 12 0#32+1#32)=DO ws (q+1):=by
 rw[XH ws q h,PE];unfold DO;rw[List.set_set]
theorem OW(ws:List (BitVec 32))(q j:Nat)(hj:j<64):Mf ws (64*q+j)=(BT (DO ws q)).getD j 0:=by
 unfold Mf DO;rw[show(64*q+j)/64=q by omega,show(64*q+j)%64=j by omega]
theorem P9(ws:List (BitVec 32))(vd:Value)(d:List Int)(w:World)(hws:ws.length=16)(hd:Sl w vd d)(hl:d.length<=100000)(ht:Cf w) :
  Calls prog 174 #[.agg (Au ws),vd] w fun e w'=>∃ v',e=.returned v'/\w'.ownsRow w.heap.size 5 1 v' (Oo ws d).length ((Oo ws d).map (Value.int .u8))/\Bw w w':=by
 obtain⟨i0,hi,hz0,hz1,hz2⟩:=info_parts As;have hds:=hd;obtain⟨⟨ad,capd,rfl,hc,hn,h1⟩,hla,hba⟩:=hd;have hpos:=ht.pos;generalize hnn:d.length=n at *;have HN:Hid (d.length=n):=hnn;clear hnn h1 hn;go_enter func174,ntmps174
 go_wp2_with (at_make;refine wpList_make_own _ rfl _ _ 25 rfl w.heap.size 5 i0 (.int .u8 0) 1 underlying25 hi hz0 hz1 _ _ _ n rfl rfl (by omega) (by rw[hz2];omega) (by unfold maxLen;omega) (by simp) ?_)
 intro w1 ho1 hg1;have hrow:w1.heap[w.heap.size]?=some (.cells (Au (DO ws 0)) 254 (0,0)):=by
  rw[hg1.block w.heap.size (by simp) (by simp),S5 ws hws];exact heap_alloc_new _ _
 have hb1:Bw w w1:=((Below.refl _ _).alloc (Nat.le_refl _) _).grown hg1 (by simp) (by simp);have ho1':w1.ownsRow w.heap.size 5 1 (.slice (some ⟨w.heap.size+1,0,none⟩) 0 n) (Cy ws d 0).length ((Cy ws d 0).map (Value.int .u8)):=ho1;clear hg1 ho1 hz0 hz1 hz2 hi;go_wp2_with fail
 go_loopw [5] (fun v wr=>∃ (q m:Nat) (a:Option Addr) (cap:Nat),m=min (64*q) n/\v=.slice a m cap/\wr.ownsRow w.heap.size 5 1 v (Cy ws d m).length ((Cy ws d m).map (Value.int .u8))/\wr.heap[w.heap.size]?=some (.cells (Au (DO ws q)) 254 (0,0))/\Bw w wr) (fun v _=>n-VF v)
 case atStart=>exact⟨0,0,_,_,by omega,rfl,ho1',hrow,hb1⟩
 case round =>
  clear ho1' hrow hb1;obtain⟨q,m,a,cap,hm,rfl,hown,hrow,hb⟩:=hrel;have HM:Hid (m=min (64*q) n):=hm;have hmle:m<=n:=by omega
  clear hm;have hBlt:w.heap.size<wr.heap.size:=(Array.getElem?_eq_some_iff.1 hrow).1;by_cases hmn:m<n
  .have hmni:(m:Int)<(n:Int):=by omega
   have HM64:Hid (m=64*q):=by have:=HM.out;unfold Hid;omega
   have hul:(DO ws q).length=16:=by rw[NC];exact hws
   have HBL:Hid (∀ j,j<64->Mf ws (m+j)=(BT (DO ws q)).getD j 0):=fun j hj=>by rw[HM64.out];exact OW ws q j hj
   have hsz:(prog.info? 254).map (·.size)=some (Au (DO ws q)).size:=by rw[AQ,hul];kernel_rfl
   have HSU:Hid ((DO ws q).set 12 ((DO ws q).getD 12 0#32+1#32)=DO ws (q+1)):=S4 ws q hws;generalize DO ws q=us at hrow hul HBL hsz HSU;go_wp2_with ((with_reducible (refine Cr ?_));refine wpList_load_row rfl 254 _ rfl w.heap.size rfl 254 _ (0,0) _ hrow underlying254 rfl hsz ?_)
   refine(FZ us wr hul (ht.below hpos hb)).mono ?_;rintro e w2 ⟨rfl,b2⟩;have hbl:=DL us;have hbb:=ES us;generalize BT us=bs at hbl hbb HBL;have hsz2:(prog.info? 223).map (·.size)=some (AI bs).size:=by rw[Aw,hbl];kernel_rfl
   have hone:(AI bs).all (·.oneCell')=true:=by simp[AI,Value.oneCell']
   have hkeep:∀ k,Value.ownBlock (.slice a m cap)=some k->k<wr.heap.size:=fun k hk=>(hown.lt k hk).2;by_cases h64:(64:Int)<=(n:Int)-(m:Int)
   .have HRr:Hid (m+64=min (64*(q+1)) n):=by have:=HM64.out;unfold Hid;omega
    have hrn:m+64<=n:=by omega
    have hr64:64<=64:=by omega
    go_wp2_with ((with_reducible (refine Cr ?_));refine wpList_store_row rfl 223 _ _ rfl w2.heap.size _ rfl rfl 223 (AI (List.replicate 64 0)) (heap_alloc_new _ _) hsz2 (by rw[Aw,Aw,hbl];rfl) hone ?_)
    generalize hW3:World.setRow _ _ _=W3;obtain⟨hg3,b3,hs3⟩:=Hx w2 bs _ 223 (AI (List.replicate 64 0)) rfl hW3;clear hW3;have b23:Bw wr W3:=b2.trans (b3.mono b2.size);have hrow3:=(b23.block w.heap.size hBlt).trans hrow;have hown3:=Eg hown (fun k hk=>b23.block k (hkeep k hk));have hb3:Bw w W3:=hb.trans (b23.mono hb.size);have hgB:w.heap.size<w2.heap.size:=Nat.lt_of_lt_of_le hBlt b2.size;clear hown hrow hb b2 b3 b23 hkeep hs3 hsz hsz2 hone hmn hmni;generalize w2.heap.size=g at hg3 hgB ⊢
    go_loopw [5,27] (fun v i wr=>∃ (j:Nat) (a:Option Addr) (cap:Nat),j<=64/\i=.int .i64 j/\v=.slice a (m+j) cap/\wr.ownsRow w.heap.size 5 1 v (Cy ws d (m+j)).length ((Cy ws d (m+j)).map (Value.int .u8))/\wr.heap[w.heap.size]?=some (.cells (Au us) 254 (0,0))/\wr.heap[g]?=some (.cells (AI bs) 223 (0,0))/\Bw w wr) (fun _ i _=>64-(intOf i).toNat)
    case atStart=>exact⟨0,a,cap,by omega,rfl,rfl,hown3,hrow3,hg3,hb3⟩
    case round =>
     clear hown3 hrow3 hg3 hb3;obtain⟨j,a2,cap2,hj,rfl,rfl,hown,hrow,hg,hb⟩:=hrel;by_cases hjr:j<64
     .have hjri:(j:Int)<(64:Int):=by omega
      have hlt:=hown.lt;have cb:=(cell_of_row wr _ j _ _ _ hg).trans (Dp bs j (by omega));obtain⟨bd,od,rfl,hbd,hcd⟩:∃ bd od,ad=some ⟨bd,od,none⟩/\bd<w.heap.size/\w.cell? ⟨bd,od+(m+j),none⟩=some (.int .u8 (d.getD (m+j) 0)):=by
       obtain⟨⟨a',cap',e',_,_,h1'⟩,_,_⟩:=hds;rw[HN.out]at e' h1'
       simp only[Value.slice.injEq]at e';obtain⟨rfl,_,_⟩:=e';rcases h1' with h1'|⟨b',o',rfl,hb',hc'⟩
       .have:=HN.out;rw[h1']at this;simp at this;omega
       .exact⟨b',o',rfl,hb',hc' (m+j) (by omega)⟩
      have cd:=(hb.cell (p:=⟨bd,od+(m+j),none⟩) hbd).trans hcd;have y1:=Aj hbb j;have y2:=Aj hba (m+j);have HV:Hid (Cy ws d (m+(j+1))=Cy ws d (m+j)++[bx (bs.getD j 0) (d.getD (m+j) 0)]):=by
       unfold Hid;rw[<- HBL.out j (by omega)];rfl
      have hml:=Ez ws d (m+j);have HBX:=Ms y1 y2;have HXX:Hid (bits .xor .u8 (bs.getD j 0) (d.getD (m+j) 0)=bx (bs.getD j 0) (d.getD (m+j) 0)):=Rn y1 y2;have HBB:Hid (0<=bx (bs.getD j 0) (d.getD (m+j) 0)/\bx (bs.getD j 0) (d.getD (m+j) 0)<256):=HBX;clear HBX hcd;generalize bs.getD j 0=x at cb y1 HV HXX HBB;generalize d.getD (m+j) 0=y at cd y2 HV HXX HBB;generalize bx x y=xy at HV HXX HBB;generalize Cy ws d (m+j)=pre at hown hml HV;go_wp2_with (at_builtin;refine Aa _ rfl _ _ 25 rfl w.heap.size 5 underlying25 As _ _ rfl rfl pre [xy] (hown.alloc _) (Sl.one2 _ _ _ _ rfl HBB.out HXX.out) (by rw[hml];simp;omega) (by have:=hb.size;simp;omega) ?_)
      intro v' w' ho hgr;have ho':w'.ownsRow w.heap.size 5 1 v' (pre++[xy]).length ((pre++[xy]).map (Value.int .u8)):=by simpa[hml]using ho
      have hb':Bw w w':=(hb.alloc hb.size _).grown hgr (by have:=hb.size;simp;omega) (fun k hk=>(hlt k hk).1);have n1:=Ik hown hrow (by decide);have n2:=Ik hown hg (by decide);have hBs:w.heap.size<wr.heap.size:=(Array.getElem?_eq_some_iff.1 hrow).1;have hgs:g<wr.heap.size:=(Array.getElem?_eq_some_iff.1 hg).1;have hrow':w'.heap[w.heap.size]?=some (.cells (Au us) 254 (0,0)):=((hgr.block w.heap.size (by simp;omega) n1.symm).trans (heap_alloc_old _ _ hBs)).trans hrow;have hg':w'.heap[g]?=some (.cells (AI bs) 223 (0,0)):=((hgr.block g (by simp;omega) n2.symm).trans (heap_alloc_old _ _ hgs)).trans hg;obtain⟨a3,c3,hv3⟩:=DC ho';rw[List.length_append,hml,List.length_singleton]at hv3
      subst hv3;clear ho hgr hown hlt hb hrow hg cb cd n1 n2;go_wp2
      go_roundw
      case rel=>exact⟨j+1,a3,c3,by omega,by go_num,rfl,by rw[HV.out];exact ho',hrow',hg',hb'⟩
      case measure=>simp[intOf];omega
     .have hjri:¬ (j:Int)<(64:Int):=by omega
      have HJ:Hid (j=64):=by unfold Hid;omega
      have c12:=(cell_of_row wr _ 12 _ _ _ hrow).trans (Bp us 12 (by omega));have f12:=frozen_of_row wr _ 12 _ _ hrow;generalize hcw:us.getD 12 0#32=cw at c12;have HCW:Hid (us.getD 12 0#32=cw):=hcw;clear hcw;have hinc:=Xl cw;have n1:=Ik hown hrow (by decide);go_wp2
      go_roundw
      case rel =>
       refine⟨q+1,m+j,a2,cap2,by rw[HJ.out];exact HRr.out,rfl,Eg hown (fun k hk=>heap_setCell_other _ _ _ _ (by simp;intro e;subst e;exact n1 hk)),?_,hb.setCell (p:=⟨w.heap.size,12,none⟩) (Nat.le_refl _) _⟩;rw[<- HSU.out,HCW.out];exact Ek hrow 12 _
      case measure=>simp[VF];have:=HJ.out;omega
   .obtain⟨r,hrsub⟩:∃ r:Nat,(n:Int)-(m:Int)=(r:Int):=⟨n-m,by omega⟩;have HRr:Hid (m+r=min (64*(q+1)) n):=by have:=HM64.out;unfold Hid;omega
    have hrn:m+r<=n:=by omega
    have hr64:r<=64:=by omega
    have hr64i:(r:Int)<=64:=by omega
    have hr0i:(0:Int)<=(r:Int):=by omega
    have hr1:0<r:=by omega
    go_wp2_with ((with_reducible (refine Cr ?_));refine wpList_store_row rfl 223 _ _ rfl w2.heap.size _ rfl rfl 223 (AI (List.replicate 64 0)) (heap_alloc_new _ _) hsz2 (by rw[Aw,Aw,hbl];rfl) hone ?_)
    generalize hW3:World.setRow _ _ _=W3;obtain⟨hg3,b3,hs3⟩:=Hx w2 bs _ 223 (AI (List.replicate 64 0)) rfl hW3;clear hW3;have b23:Bw wr W3:=b2.trans (b3.mono b2.size);have hrow3:=(b23.block w.heap.size hBlt).trans hrow;have hown3:=Eg hown (fun k hk=>b23.block k (hkeep k hk));have hb3:Bw w W3:=hb.trans (b23.mono hb.size);have hgB:w.heap.size<w2.heap.size:=Nat.lt_of_lt_of_le hBlt b2.size;clear hown hrow hb b2 b3 b23 hkeep hs3 hsz hsz2 hone hmn hmni;generalize w2.heap.size=g at hg3 hgB ⊢
    go_loopw [5,27] (fun v i wr=>∃ (j:Nat) (a:Option Addr) (cap:Nat),j<=r/\i=.int .i64 j/\v=.slice a (m+j) cap/\wr.ownsRow w.heap.size 5 1 v (Cy ws d (m+j)).length ((Cy ws d (m+j)).map (Value.int .u8))/\wr.heap[w.heap.size]?=some (.cells (Au us) 254 (0,0))/\wr.heap[g]?=some (.cells (AI bs) 223 (0,0))/\Bw w wr) (fun _ i _=>r-(intOf i).toNat)
    case atStart=>exact⟨0,a,cap,by omega,rfl,rfl,hown3,hrow3,hg3,hb3⟩
    case round =>
     clear hown3 hrow3 hg3 hb3;obtain⟨j,a2,cap2,hj,rfl,rfl,hown,hrow,hg,hb⟩:=hrel;by_cases hjr:j<r
     .have hjri:(j:Int)<(r:Int):=by omega
      have hlt:=hown.lt;have cb:=(cell_of_row wr _ j _ _ _ hg).trans (Dp bs j (by omega));obtain⟨bd,od,rfl,hbd,hcd⟩:∃ bd od,ad=some ⟨bd,od,none⟩/\bd<w.heap.size/\w.cell? ⟨bd,od+(m+j),none⟩=some (.int .u8 (d.getD (m+j) 0)):=by
       obtain⟨⟨a',cap',e',_,_,h1'⟩,_,_⟩:=hds;rw[HN.out]at e' h1'
       simp only[Value.slice.injEq]at e';obtain⟨rfl,_,_⟩:=e';rcases h1' with h1'|⟨b',o',rfl,hb',hc'⟩
       .have:=HN.out;rw[h1']at this;simp at this;omega
       .exact⟨b',o',rfl,hb',hc' (m+j) (by omega)⟩
      have cd:=(hb.cell (p:=⟨bd,od+(m+j),none⟩) hbd).trans hcd;have y1:=Aj hbb j;have y2:=Aj hba (m+j);have HV:Hid (Cy ws d (m+(j+1))=Cy ws d (m+j)++[bx (bs.getD j 0) (d.getD (m+j) 0)]):=by
       unfold Hid;rw[<- HBL.out j (by omega)];rfl
      have hml:=Ez ws d (m+j);have HBX:=Ms y1 y2;have HXX:Hid (bits .xor .u8 (bs.getD j 0) (d.getD (m+j) 0)=bx (bs.getD j 0) (d.getD (m+j) 0)):=Rn y1 y2;have HBB:Hid (0<=bx (bs.getD j 0) (d.getD (m+j) 0)/\bx (bs.getD j 0) (d.getD (m+j) 0)<256):=HBX;clear HBX hcd;generalize bs.getD j 0=x at cb y1 HV HXX HBB;generalize d.getD (m+j) 0=y at cd y2 HV HXX HBB;generalize bx x y=xy at HV HXX HBB;generalize Cy ws d (m+j)=pre at hown hml HV;go_wp2_with (at_builtin;refine Aa _ rfl _ _ 25 rfl w.heap.size 5 underlying25 As _ _ rfl rfl pre [xy] (hown.alloc _) (Sl.one2 _ _ _ _ rfl HBB.out HXX.out) (by rw[hml];simp;omega) (by have:=hb.size;simp;omega) ?_)
      intro v' w' ho hgr;have ho':w'.ownsRow w.heap.size 5 1 v' (pre++[xy]).length ((pre++[xy]).map (Value.int .u8)):=by simpa[hml]using ho
      have hb':Bw w w':=(hb.alloc hb.size _).grown hgr (by have:=hb.size;simp;omega) (fun k hk=>(hlt k hk).1);have n1:=Ik hown hrow (by decide);have n2:=Ik hown hg (by decide);have hBs:w.heap.size<wr.heap.size:=(Array.getElem?_eq_some_iff.1 hrow).1;have hgs:g<wr.heap.size:=(Array.getElem?_eq_some_iff.1 hg).1;have hrow':w'.heap[w.heap.size]?=some (.cells (Au us) 254 (0,0)):=((hgr.block w.heap.size (by simp;omega) n1.symm).trans (heap_alloc_old _ _ hBs)).trans hrow;have hg':w'.heap[g]?=some (.cells (AI bs) 223 (0,0)):=((hgr.block g (by simp;omega) n2.symm).trans (heap_alloc_old _ _ hgs)).trans hg;obtain⟨a3,c3,hv3⟩:=DC ho';rw[List.length_append,hml,List.length_singleton]at hv3
      subst hv3;clear ho hgr hown hlt hb hrow hg cb cd n1 n2;go_wp2
      go_roundw
      case rel=>exact⟨j+1,a3,c3,by omega,by go_num,rfl,by rw[HV.out];exact ho',hrow',hg',hb'⟩
      case measure=>simp[intOf];omega
     .have hjri:¬ (j:Int)<(r:Int):=by omega
      have HJ:Hid (j=r):=by unfold Hid;omega
      have c12:=(cell_of_row wr _ 12 _ _ _ hrow).trans (Bp us 12 (by omega));have f12:=frozen_of_row wr _ 12 _ _ hrow;generalize hcw:us.getD 12 0#32=cw at c12;have HCW:Hid (us.getD 12 0#32=cw):=hcw;clear hcw;have hinc:=Xl cw;have n1:=Ik hown hrow (by decide);go_wp2
      go_roundw
      case rel =>
       refine⟨q+1,m+j,a2,cap2,by rw[HJ.out];exact HRr.out,rfl,Eg hown (fun k hk=>heap_setCell_other _ _ _ _ (by simp;intro e;subst e;exact n1 hk)),?_,hb.setCell (p:=⟨w.heap.size,12,none⟩) (Nat.le_refl _) _⟩;rw[<- HSU.out,HCW.out];exact Ek hrow 12 _
      case measure=>simp[VF];have:=HJ.out;omega
  .have hmni:¬ (m:Int)<(n:Int):=by omega
   have HMN:Hid (n=m):=by unfold Hid;omega
   go_wp2
   go_ret;refine⟨_,rfl,?_,hb⟩;unfold Oo;rw[HN.out,HMN.out];exact hown
theorem Yv(vk vn vd:Value)(key nonce d:List Int)(c:Nat)(w:World)(hk:Sl w vk key)(hn:Sl w vn nonce)(hd:Sl w vd d)(lk:key.length=32)(ln:nonce.length=12)(hc:c<=1073741824)(ld:d.length<=2000)(ht:Cf w) :
  Calls prog 150 #[vk,.int .i64 c,vn,vd] w fun e w'=>∃ v',e=.returned (.tuple #[v',.int .i64 0])/\w'.ownsRow w.heap.size 5 1 v' (Oo (Bq key (BitVec.ofNat 32 c) nonce) d).length ((Oo (Bq key (BitVec.ofNat 32 c) nonce) d).map (Value.int .u8))/\Bw w w':=by
 have hds:=hd;obtain⟨⟨ad,capd,rfl,hcd,hnd,h1⟩,hla,hba⟩:=hd;clear h1;have ldi:(d.length:Int)<=2000:=by omega
 go_enter func150,ntmps150
 go_wp2_with fail
 refine(IL vk vn key nonce c w hk hn).mono ?_;rintro e w1 ⟨rfl,rfl⟩;rw[Hy lk ln (by omega)];go_wp2_with fail
 refine(Ly vk vn key nonce c w1 hk hn lk ln (by omega)).mono ?_;rintro e w2 ⟨rfl,b2⟩;have hl:=FO key (BitVec.ofNat 32 c) nonce;generalize hus:Bq key (BitVec.ofNat 32 c) nonce=us at hl;have HUS:Hid (Bq key (BitVec.ofNat 32 c) nonce=us):=hus;clear hus;go_wp2_with fail
 refine(P9 us _ d w2 hl (hds.below b2) (by omega) (ht.below ht.pos b2)).mono ?_;rintro e w3 ⟨v3,rfl,ho3,b3⟩;go_wp2
 go_ret2
 refine⟨v3,rfl,?_,b2.trans (b3.mono b2.size)⟩;rw[HUS.out];exact AM ho3 b2.size
def Ah(l:List Int):Array Value:=(l.map (Value.int .u64)).toArray
theorem Ak(l:List Int):(Ah l).size=l.length:=by simp[Ah]
theorem Ap(l:List Int)(i:Nat)(h:i<l.length):(Ah l)[i]?=some (.int .u64 (l.getD i 0)):=by
 simp[Ah,List.getD,List.getElem?_eq_getElem h]
theorem VP(l:List Int)(i:Nat)(x:Int):(Ah l).setIfInBounds i (.int .u64 x)=Ah (l.set i x):=by
 apply Array.ext';simp[Ah,List.map_set]
theorem DB{w:World}{g:Nat}{l:List Int}{t:TypeId}(h:w.heap[g]?=some (.cells (Ah l) t (0,0)))(k:Nat)(x:Int) :
  (w.setCell ⟨g,k,none⟩ (.int .u64 x)).heap[g]?=some (.cells (Ah (l.set k x)) t (0,0)):=by
 rw[heap_setCell_same _ _ _ _ _ _ h,VP]
theorem Bg(l:List Int):(Ah l).all (·.oneCell')=true:=by simp[Ah,Value.oneCell']
theorem LN:∀ (S:List Int),S.length=5->∃ a b c d e,S=[a,b,c,d,e]
 | [a,b,c,d,e],_=>⟨a,b,c,d,e,rfl⟩
def val:List Int->Int
 | []=>0
 | x::l=>x+67108864*val l
def Lim(B:Int)(l:List Int):Prop:=l.length=5/\∀ j,0<=l.getD j 0/\l.getD j 0<B
theorem Lim.of5{B a b c d e:Int}(ha:0<=a/\a<B)(hb:0<=b/\b<B)(hc:0<=c/\c<B)(hd:0<=d/\d<B)(he:0<=e/\e<B):Lim B [a,b,c,d,e]:=by
 refine⟨rfl,fun j=>?_⟩
 match j with
 | 0=>exact ha
 | 1=>exact hb
 | 2=>exact hc
 | 3=>exact hd
 | 4=>exact he
 | j+5=>simp[List.getD];omega
theorem Lim.split{B:Int}{l:List Int}(h:Lim B l):∃ a b c d e,l=[a,b,c,d,e]/\(0<=a/\a<B)/\(0<=b/\b<B)/\(0<=c/\c<B)/\(0<=d/\d<B)/\(0<=e/\e<B):=by
 obtain⟨a,b,c,d,e,rfl⟩:=LN l h.1;exact⟨a,b,c,d,e,rfl,h.2 0,h.2 1,h.2 2,h.2 3,h.2 4⟩
theorem Lim.mono{B C:Int}{l:List Int}(h:Lim B l)(hBC:B<=C):Lim C l:=⟨h.1,fun j=>⟨(h.2 j).1,by have:=(h.2 j).2;omega⟩⟩
theorem CB(a b c d e:Int):val [a,b,c,d,e]=a+67108864*b+4503599627370496*c+302231454903657293676544*d+20282409603651670423947251286016*e:=by
 simp only[val];omega
structure Carr(l m:List Int)(k:Nat)(o:Int):Prop where
 len:m.length=5
 sum:val m+o*67108864^k=val l
 done:∀ j,j<k->0<=m.getD j 0/\m.getD j 0<67108864
 rest:∀ j,k<=j->m.getD j 0=l.getD j 0
 lo:0<=o
 hi:o<274877906944
theorem Carr.zero{l:List Int}(h:l.length=5):Carr l l 0 0:=⟨h,by omega,fun _ h=>by omega,fun _ _=>rfl,by omega,by omega⟩
theorem Carr.succ{l m:List Int}{k:Nat}{o:Int}(h:Carr l m k o)(hl:Lim 9223372036854775808 l)(hk:k<5) :
  Carr l (m.set k ((m.getD k 0+o)%67108864)) (k+1) ((m.getD k 0+o)/67108864):=by
 obtain⟨l0,l1,l2,l3,l4,rfl,b0,b1,b2,b3,b4⟩:=hl.split;obtain⟨m0,m1,m2,m3,m4,rfl⟩:=LN m h.len;have hs:=h.sum;have hd:=h.done;have hr:=h.rest;have h1:=h.lo;have h2:=h.hi;rw[CB]at hs
 rw[CB]at hs
 obtain rfl|rfl|rfl|rfl|rfl:k=0\/k=1\/k=2\/k=3\/k=4:=by omega
 .have e0:m0=l0:=hr 0 (by omega);have e1:m1=l1:=hr 1 (by omega);have e2:m2=l2:=hr 2 (by omega);have e3:m3=l3:=hr 3 (by omega);have e4:m4=l4:=hr 4 (by omega);simp only[List.set_cons_zero,List.getD_cons_zero];refine⟨rfl,?_,fun j hj=>?_,fun j hj=>?_,by omega,by omega⟩
  .rw[CB,CB];omega
  .obtain rfl:j=0:=by omega
   simp only[List.getD_cons_zero];omega
  .obtain⟨j,rfl⟩:∃ i,j=i+1:=⟨j-1,by omega⟩;have:=hr (j+1) (by omega);simpa using this
 .have e1:m1=l1:=hr 1 (by omega);have d0:0<=m0/\m0<67108864:=hd 0 (by omega);simp only[List.set_cons_zero,List.set_cons_succ,List.getD_cons_zero,List.getD_cons_succ];refine⟨rfl,?_,fun j hj=>?_,fun j hj=>?_,by omega,by omega⟩
  .rw[CB,CB];omega
  .obtain rfl|rfl:j=0\/j=1:=by omega
   .exact d0
   .simp only[List.getD_cons_zero,List.getD_cons_succ];omega
  .obtain⟨j,rfl⟩:∃ i,j=i+2:=⟨j-2,by omega⟩;have:=hr (j+2) (by omega);simpa using this
 .have e1:m2=l2:=hr 2 (by omega);have d0:0<=m0/\m0<67108864:=hd 0 (by omega);have d1:0<=m1/\m1<67108864:=hd 1 (by omega);simp only[List.set_cons_zero,List.set_cons_succ,List.getD_cons_zero,List.getD_cons_succ];refine⟨rfl,?_,fun j hj=>?_,fun j hj=>?_,by omega,by omega⟩
  .rw[CB,CB];omega
  .obtain rfl|rfl|rfl:j=0\/j=1\/j=2:=by omega
   .exact d0
   .exact d1
   .simp only[List.getD_cons_zero,List.getD_cons_succ];omega
  .obtain⟨j,rfl⟩:∃ i,j=i+3:=⟨j-3,by omega⟩;have:=hr (j+3) (by omega);simpa using this
 .have e1:m3=l3:=hr 3 (by omega);have d0:0<=m0/\m0<67108864:=hd 0 (by omega);have d1:0<=m1/\m1<67108864:=hd 1 (by omega);have d2:0<=m2/\m2<67108864:=hd 2 (by omega);simp only[List.set_cons_zero,List.set_cons_succ,List.getD_cons_zero,List.getD_cons_succ];refine⟨rfl,?_,fun j hj=>?_,fun j hj=>?_,by omega,by omega⟩
  .rw[CB,CB];omega
  .obtain rfl|rfl|rfl|rfl:j=0\/j=1\/j=2\/j=3:=by omega
   .exact d0
   .exact d1
   .exact d2
   .simp only[List.getD_cons_zero,List.getD_cons_succ];omega
  .obtain⟨j,rfl⟩:∃ i,j=i+4:=⟨j-4,by omega⟩;have:=hr (j+4) (by omega);simpa using this
 .have e1:m4=l4:=hr 4 (by omega);have d0:0<=m0/\m0<67108864:=hd 0 (by omega);have d1:0<=m1/\m1<67108864:=hd 1 (by omega);have d2:0<=m2/\m2<67108864:=hd 2 (by omega);have d3:0<=m3/\m3<67108864:=hd 3 (by omega);simp only[List.set_cons_zero,List.set_cons_succ,List.getD_cons_zero,List.getD_cons_succ];refine⟨rfl,?_,fun j hj=>?_,fun j hj=>?_,by omega,by omega⟩
  .rw[CB,CB];omega
  .obtain rfl|rfl|rfl|rfl|rfl:j=0\/j=1\/j=2\/j=3\/j=4:=by omega
   .exact d0
   .exact d1
   .exact d2
   .exact d3
   .simp only[List.getD_cons_zero,List.getD_cons_succ];omega
  .obtain⟨j,rfl⟩:∃ i,j=i+5:=⟨j-5,by omega⟩;simp[List.getD]
theorem Carr.five{l m:List Int}{o:Int}(h:Carr l m 5 o):Lim 67108864 m/\val m+1361129467683753853853498429727072845824*o=val l:=by
 refine⟨⟨h.len,fun j=>?_⟩,?_⟩
 .by_cases hj:j<5
  .exact h.done j hj
  .rw[FC (by have:=h.len;omega)];omega
 .have:=h.sum;omega
def pp:Int:=1361129467683753853853498429727072845819
theorem Ni{l:List Int}(h:l.length=5)(t:Nat)(ht:t<5)(y:Int):val (l.set t y)=val l+(y-l.getD t 0)*67108864^t:=by
 obtain⟨a,b,c,d,e,rfl⟩:=LN l h;obtain rfl|rfl|rfl|rfl|rfl:t=0\/t=1\/t=2\/t=3\/t=4:=by omega
 all_goals
  simp only[List.set_cons_zero,List.set_cons_succ,List.getD_cons_zero,List.getD_cons_succ,CB];omega
def pv(n:List Int):Nat->Int
 | 0=>0
 | k+1=>pv n k+n.getD k 0*67108864^k
theorem RM{n:List Int}(h:n.length=5):pv n 5=val n:=by
 obtain⟨a,b,c,d,e,rfl⟩:=LN n h;simp only[pv,List.getD_cons_zero,List.getD_cons_succ,CB];omega
structure Adds(l m r:List Int)(k:Nat):Prop where
 len:r.length=5
 done:∀ j,j<k->r.getD j 0=l.getD j 0+m.getD j 0
 rest:∀ j,k<=j->r.getD j 0=l.getD j 0
theorem Adds.zero{l m:List Int}(h:l.length=5):Adds l m l 0:=⟨h,fun _ h=>by omega,fun _ _=>rfl⟩
theorem AE{l:List Int}{k:Nat}(h:k<l.length)(x:Int):(l.set k x).getD k 0=x:=by
 simp[List.getD,h]
theorem Av{l:List Int}{k j:Nat}(h:k≠j)(x:Int):(l.set k x).getD j 0=l.getD j 0:=by
 simp[List.getD,List.getElem?_set_ne h]
theorem Adds.succ{l m r:List Int}{k:Nat}(h:Adds l m r k)(hk:k<5):Adds l m (r.set k (r.getD k 0+m.getD k 0)) (k+1):=by
 refine⟨by simpa using h.len,fun j hj=>?_,fun j hj=>?_⟩
 .by_cases e:k=j
  .subst e;rw[AE (by rw[h.len];omega),h.rest k (by omega)]
  .rw[Av e];exact h.done j (by omega)
 .rw[Av (by omega)];exact h.rest j (by omega)
theorem Adds.five{l m r:List Int}(h:Adds l m r 5)(hl:Lim 67108864 l)(hm:Lim 67108864 m):Lim 134217728 r/\val r=val l+val m:=by
 obtain⟨l0,l1,l2,l3,l4,rfl,b0,b1,b2,b3,b4⟩:=hl.split;obtain⟨m0,m1,m2,m3,m4,rfl,c0,c1,c2,c3,c4⟩:=hm.split;obtain⟨r0,r1,r2,r3,r4,rfl⟩:=LN r h.len;have d0:r0=l0+m0:=h.done 0 (by omega);have d1:r1=l1+m1:=h.done 1 (by omega);have d2:r2=l2+m2:=h.done 2 (by omega);have d3:r3=l3+m3:=h.done 3 (by omega);have d4:r4=l4+m4:=h.done 4 (by omega);exact⟨Lim.of5 (by omega) (by omega) (by omega) (by omega) (by omega),by rw[CB,CB,CB];omega⟩
structure Prods(n m r:List Int)(i j:Nat):Prop where
 len:r.length=5
 sum:val r%pp=(pv n i*val m+n.getD i 0*67108864^i*pv m j)%pp
 low:∀ t,0<=r.getD t 0
 high:∀ t,r.getD t 0<=(5*(i:Int)+(j:Int))*45035996273704960
theorem Prods.zero(n m:List Int):Prods n m [0,0,0,0,0] 0 0:=by
 refine⟨rfl,?_,fun t=>?_,fun t=>?_⟩
 .simp[pv,val]
 .match t with
  | 0|1|2|3|4=>simp
  | t+5=>simp[List.getD]
 .match t with
  | 0|1|2|3|4=>simp
  | t+5=>simp[List.getD]
theorem Gq{x y:Int}(hx:0<=x/\x<134217728)(hy:0<=y/\y<67108864):0<=x*y/\x*y<=9007199254740992:=by
 refine⟨Int.mul_nonneg hx.1 hy.1,?_⟩;have h1:=Int.mul_le_mul (Int.le_of_lt hx.2) (Int.le_of_lt hy.2) hy.1 (by omega);omega
theorem Prods.low_step{n m r:List Int}{i j:Nat}(h:Prods n m r i j)(hn:Lim 134217728 n)(hm:Lim 67108864 m)(hij:i+j<5) :
  Prods n m (r.set (i+j) (r.getD (i+j) 0+n.getD i 0*m.getD j 0)) i (j+1):=by
 have hb:=Gq (hn.2 i) (hm.2 j);have h1:=h.low (i+j);have h2:=h.high (i+j);refine⟨by simpa using h.len,?_,fun t=>?_,fun t=>?_⟩
 .rw[Ni h.len _ hij,Int.add_emod,h.sum,<- Int.add_emod]
  congr 1
  rw[Int.pow_add];simp only[pv]
  grind
 .by_cases e:i+j=t
  .subst e;rw[AE (by rw[h.len];omega)];omega
  .rw[Av e];exact h.low t
 .by_cases e:i+j=t
  .subst e;rw[AE (by rw[h.len];omega)];omega
  .rw[Av e];have:=h.high t;omega
theorem Prods.high_step{n m r:List Int}{i j:Nat}(h:Prods n m r i j)(hn:Lim 134217728 n)(hm:Lim 67108864 m)(hij:5<=i+j)(hi:i<5)(hj:j<5) :
  Prods n m (r.set (i+j-5) (r.getD (i+j-5) 0+n.getD i 0*m.getD j 0*5)) i (j+1):=by
 have hb:=Gq (hn.2 i) (hm.2 j);have h1:=h.low (i+j-5);have h2:=h.high (i+j-5);refine⟨by simpa using h.len,?_,fun t=>?_,fun t=>?_⟩
 .rw[Ni h.len _ (by omega),Int.add_emod,h.sum,<- Int.add_emod];have e:(67108864:Int)^i*67108864^j=67108864^(i+j-5)*(pp+5):=by
   rw[<- Int.pow_add,show pp+5=(67108864:Int)^5 by unfold pp;rfl,<- Int.pow_add];congr 1;omega
  have e2:pv n i*val m+n.getD i 0*67108864^i*pv m (j+1)=pv n i*val m+n.getD i 0*67108864^i*pv m j+(r.getD (i+j-5) 0+n.getD i 0*m.getD j 0*5-r.getD (i+j-5) 0)*67108864^(i+j-5)+pp*(n.getD i 0*m.getD j 0*67108864^(i+j-5)):=by
   simp only[pv]
   grind
  rw[e2,Int.add_mul_emod_self_left]
 .by_cases e:i+j-5=t
  .subst e;rw[AE (by rw[h.len];omega)];omega
  .rw[Av e];exact h.low t
 .by_cases e:i+j-5=t
  .subst e;rw[AE (by rw[h.len];omega)];omega
  .rw[Av e];have:=h.high t;omega
theorem Prods.row{n m r:List Int}{i:Nat}(h:Prods n m r i 5)(hm:m.length=5):Prods n m r (i+1) 0:=by
 refine⟨h.len,?_,h.low,fun t=>?_⟩
 .rw[h.sum,RM hm]
  congr 1
  simp only[pv]
  grind
 .have:=h.high t;omega
theorem Prods.five{n m r:List Int}(h:Prods n m r 5 0)(hn:n.length=5):Lim 1152921504606846976 r/\val r%pp=(val n*val m)%pp:=by
 refine⟨⟨h.len,fun t=>⟨h.low t,?_⟩⟩,?_⟩
 .have:=h.high t;omega
 .rw[h.sum,RM hn];congr 1;simp only[pv];grind
theorem Ql{n m:List Int}{o:Int}(hn:Lim 67108864 n)(hc:Carr (n.set 0 (n.getD 0 0+5)) m 5 o):Lim 67108864 m/\(0<o->val m=val n%pp)/\(¬ 0<o->val n=val n%pp):=by
 obtain⟨h1,h2⟩:=hc.five;refine⟨h1,?_⟩;have o1:=hc.lo;obtain⟨n0,n1,n2,n3,n4,rfl,b0,b1,b2,b3,b4⟩:=hn.split;obtain⟨m0,m1,m2,m3,m4,rfl,c0,c1,c2,c3,c4⟩:=h1.split;simp only[List.set_cons_zero,List.getD_cons_zero]at h2;have v1:val [n0+5,n1,n2,n3,n4]=val [n0,n1,n2,n3,n4]+5:=by rw[CB,CB];omega
 have v2:0<=val [n0,n1,n2,n3,n4]/\val [n0,n1,n2,n3,n4]<1361129467683753853853498429727072845824:=by rw[CB];omega
 have v3:0<=val [m0,m1,m2,m3,m4]/\val [m0,m1,m2,m3,m4]<1361129467683753853853498429727072845824:=by rw[CB];omega
 rw[v1]at h2
 generalize val [n0,n1,n2,n3,n4]=V at *;generalize val [m0,m1,m2,m3,m4]=M at *;unfold pp;constructor
 .intro ho;obtain rfl:o=1:=by omega
  omega
 .intro ho;obtain rfl:o=0:=by omega
  omega
def leP(l:List Int):Nat->Int
 | 0=>0
 | k+1=>leP l k+l.getD k 0*256^k
def leN(l:List Int):Int:=leP l l.length
theorem VC{l:List Int}(k:Nat)(h:l.length<=k):leP l k=leN l:=by
 obtain⟨d,rfl⟩:∃ d,k=l.length+d:=⟨k-l.length,by omega⟩;clear h;induction d with
 | zero=>rfl
 | succ d ih=>rw[<- Nat.add_assoc,leP,ih,FC (by omega)];omega
theorem Ta{l m:List Int}(k:Nat)(h:∀ j,j<k->l.getD j 0=m.getD j 0):leP l k=leP m k:=by
 induction k with
 | zero=>rfl
 | succ k ih=>rw[leP,leP,ih (fun j hj=>h j (by omega)),h k (by omega)]
theorem Qj{l m:List Int}(k:Nat):leP (l++m) (l.length+k)=leN l+256^l.length*leP m k:=by
 induction k with
 | zero =>
  simp only[Nat.add_zero,leP,Int.mul_zero,Int.add_zero];unfold leN;exact Ta _ (fun j hj=>by simp[List.getD,List.getElem?_append_left hj])
 | succ k ih =>
  rw[<- Nat.add_assoc,leP,ih,leP,Int.mul_add,Int.pow_add];have:(l++m).getD (l.length+k) 0=m.getD k 0:=by simp[List.getD,List.getElem?_append_right]
  rw[this]
  grind
theorem Qi(l m:List Int):leN (l++m)=leN l+256^l.length*leN m:=by
 have h:=Qj (l:=l) (m:=m) m.length;rw[<- List.length_append]at h
 exact h
theorem SZ(n:Nat):leN (List.replicate n 0)=0:=by
 unfold leN;generalize (List.replicate n (0:Int)).length=k;induction k with
 | zero=>rfl
 | succ k ih =>
  rw[leP,ih];have:(List.replicate n (0:Int)).getD k 0=0:=by
   rcases Nat.lt_or_ge k n with h|h
   .simp[List.getD,h]
   .exact FC (by simpa using h)
  rw[this];omega
structure Reads(b r:List Int)(k:Nat):Prop where
 len:r.length=5
 sum:val r=leP b k
 low:∀ t,0<=r.getD t 0
 high:∀ t,r.getD t 0<=(k:Int)*17179869184
theorem Reads.zero(b:List Int):Reads b [0,0,0,0,0] 0:=by
 refine⟨rfl,rfl,fun t=>?_,fun t=>?_⟩
 .match t with
  | 0|1|2|3|4=>simp
  | t+5=>simp[List.getD]
 .match t with
  | 0|1|2|3|4=>simp
  | t+5=>simp[List.getD]
theorem Reads.succ{b r:List Int}{k:Nat}(h:Reads b r k)(hb:0<=b.getD k 0/\b.getD k 0<256)(q:Nat)(m:Int)(hq:q<5)(hm:0<=m/\m<=33554432)(he:m*67108864^q=256^k):Reads b (r.set q (r.getD q 0+b.getD k 0*m)) (k+1):=by
 have h1:0<=b.getD k 0*m:=Int.mul_nonneg hb.1 hm.1;have h2:b.getD k 0*m<=256*33554432:=Int.mul_le_mul (by omega) hm.2 hm.1 (by omega);refine⟨by simpa using h.len,?_,fun t=>?_,fun t=>?_⟩
 .rw[Ni h.len q hq,h.sum,leP,<- he]
  grind
 .have:=h.low q;by_cases e:q=t
  .subst e;rw[AE (by rw[h.len];omega)];omega
  .rw[Av e];exact h.low t
 .have:=h.high q;by_cases e:q=t
  .subst e;rw[AE (by rw[h.len];omega)];omega
  .rw[Av e];have:=h.high t;omega
def piece(l:List Int)(k:Nat):List Int:=(l.drop (16*k)).take 16
def IW(R:Int)(l:List Int):Nat->Int
 | 0=>0
 | k+1=>(IW R l k+leN (piece l k++[1]))*R%pp
def MN(l:List Int):Nat:=(l.length+15)/16
def ZY(R:Int)(l:List Int):Int:=IW R l (MN l)
theorem QI:0<pp:=by unfold pp;omega
theorem Ps(R:Int)(l:List Int)(k:Nat):0<=IW R l k/\IW R l k<pp:=by
 cases k with
 | zero=>exact⟨by simp[IW],QI⟩
 | succ k=>exact⟨Int.emod_nonneg _ (by have:=QI;omega),Int.emod_lt_of_pos _ QI⟩
theorem Uk{n m s t r:List Int}{R:Int}{l:List Int}{k:Nat}(hn:val n%pp=IW R l k%pp)(hm:val m%pp=leN (piece l k++[1])%pp)(hs:val s=val n+val m)(hr:val r%pp=R%pp)(ht:val t%pp=(val s*val r)%pp) :
  val t%pp=IW R l (k+1)%pp:=by
 rw[ht,IW,Int.emod_emod_of_dvd _ (Int.dvd_refl _),Int.mul_emod,hs,Int.add_emod,hn,hm,hr,<- Int.add_emod,<- Int.mul_emod]
theorem Cw(l:List Int)(n i:Nat):(l.drop n).getD i 0=l.getD (n+i) 0:=by simp[List.getD]
theorem AY(l:List Int)(n i:Nat)(h:i<n):(l.take n).getD i 0=l.getD i 0:=by simp[List.getD,h]
theorem Sl.window{w:World}{a:Option Addr}{n cap:Nat}{l:List Int}(h:Sl w (.slice a n cap) l)(lo hi:Nat)(hlo:lo<=hi)(hhi:hi<=l.length):Sl w (sliced a lo hi cap 1) ((l.take hi).drop lo):=by
 have hd:=(h.take hi hhi).len;have hb:=h.byte;obtain⟨⟨a',cap',e,hc,hn,h1⟩,hla,hba⟩:=h;simp only[Value.slice.injEq]at e;obtain⟨rfl,rfl,rfl⟩:=e;have hl:((l.take hi).drop lo).length=hi-lo:=by rw[List.length_drop,List.length_take];omega
 have hbb:∀ x∈(l.take hi).drop lo,0<=x/\x<256:=fun x hx=>hb x (List.mem_of_mem_take (List.mem_of_mem_drop hx));cases a with
 | none =>
  have c0:=hn rfl;subst c0;have h0:l.length=0:=by omega
  refine⟨⟨_,_,by rw[hl];rfl,by omega,fun _=>by omega,.inl (List.eq_nil_of_length_eq_zero (by omega))⟩,by omega,hbb⟩
 | some ad =>
  refine⟨⟨_,_,by rw[hl];rfl,by omega,(by intro h;split at h<;>simp at h),?_⟩,by omega,hbb⟩;rcases Nat.eq_or_lt_of_le hlo with he|hlt
  .exact .inl (List.eq_nil_of_length_eq_zero (by omega))
  .rcases h1 with rfl|⟨b,off,e2,hbs,hcell⟩
   .simp at hhi;omega
   .simp only[Option.some.injEq]at e2;subst e2;refine .inr ⟨b,off+lo,?_,hbs,fun i hi2=>?_⟩
    .rw[if_neg (by omega)];simp[Addr.add]
    .rw[hl]at hi2
     rw[Nat.add_assoc,hcell (lo+i) (by omega),Cw,AY _ _ _ (by omega)]
theorem Gy(w:World):(Go.sizeOf 5).run prog w=.ok 1 w:=by
 obtain⟨i,hi,_,hsz,_⟩:=info_parts As;simp[sizeOf,typeInfo,hi,hsz]
theorem Sl.upTo{w:World}{a:Option Addr}{n cap:Nat}{l:List Int}(h:Sl w (.slice a n cap) l)(hi:Nat)(hhi:hi<=l.length) :
  ∃ a' c',(∀ W,(Instr.slice 25 (.slice a n cap) none (some (.int .i64 (hi:Int))) none).run prog W=.ok (.slice a' hi c') W)/\Sl w (.slice a' hi c') (l.take hi):=by
 have hw:=h.window 0 hi (by omega) hhi;obtain⟨⟨a',cap',e,hc,hn,h1⟩,hla,hba⟩:=h;simp only[Value.slice.injEq]at e;obtain⟨rfl,rfl,rfl⟩:=e;refine⟨_,_,fun W=>?_,by simpa[sliced]using hw⟩;rw[run_slice_h (P:=prog) W 25 a _ cap underlying25 .i64 _ (by omega) (by omega)];have e:prog.elem 25=5:=by kernel_rfl
 rw[e,Gy];simp[Result.andThen,sliced]
theorem Sl.from{w:World}{a:Option Addr}{n cap:Nat}{l:List Int}(h:Sl w (.slice a n cap) l)(lo:Nat)(hlo:lo<=l.length) :
  ∃ a' c',(∀ W,(Instr.slice 25 (.slice a n cap) (some (.int .i64 (lo:Int))) none none).run prog W=.ok (.slice a' (n-lo) c') W)/\Sl w (.slice a' (n-lo) c') (l.drop lo):=by
 have hw:=h.window lo l.length hlo (Nat.le_refl _);obtain⟨⟨a',cap',e,hc,hn,h1⟩,hla,hba⟩:=h;simp only[Value.slice.injEq]at e;obtain⟨rfl,rfl,rfl⟩:=e;refine⟨_,_,fun W=>?_,by simpa[sliced]using hw⟩;rw[run_slice_l (P:=prog) W 25 a _ cap underlying25 .i64 _ (by omega) (by omega)];have e:prog.elem 25=5:=by kernel_rfl
 rw[e,Gy];simp[Result.andThen,sliced]
theorem dw(x:Int)(h0:0<=x)(h1:x<18446744073709551616):bits .and .u64 x 67108863=x%67108864:=by
 obtain⟨n,rfl⟩:=Int.eq_ofNat_of_zero_le h0;rw[show(67108863:Int)=((67108863:Nat):Int)from rfl,u64_and_nat _ _ (by omega) (by omega),show(67108863:Nat)=2^26-1 from rfl,Nat.and_two_pow_sub_one_eq_mod];omega
theorem Cm{l:List Int}(h:l.length=5):(prog.info? 271).map (·.size)=some (Ah l).size:=by rw[Ak,h];kernel_rfl
theorem AP{B:Nat}{a w:World}(h:Below B a w){g:Nat}(hg:B<=g)(cs:Array Value):Below B a (w.setRow g cs) :=
 h.trans ⟨rfl,rfl,rfl,by simp,fun k hk=>setRow_other w g k cs (by omega)⟩
theorem Fo{P:Program}{fn:Func}{p u:Tmp}{ty:TypeId}(h:fn.results=#[.cell p ty,.tmp u])(tmps:Array Value)(w:World)(g:Nat)(t:TypeId)(cs:Array Value)(fr:Nat × Nat)(d:TypeDesc)
  (hp:tmps.getD p undef=.pointer (some ⟨g,0,none⟩))(hg:w.heap[g]?=some (.cells cs t fr))
  (hu:P.underlying ty=some d)(hd:(match d with|.struct _|.array _ _=>true|_=>false)=true)(hi:(P.info? ty).map (·.size)=some cs.size){v:Value}(hv:tmps.getD u undef=v) :
  (results fn tmps).run P w=.ok (.tuple #[.agg cs,v]) w:=by
 have hp':tmps[p]?.getD undef=.pointer (some ⟨g,0,none⟩):=by simpa using hp
 rw[results_cell_tmp h,hv];simp[hp',asAddr,run_loadVar_row w g t ty cs fr d hg hu hd hi]
theorem Ao{P:Program}{ops:Array Oper}{Q:Exit->Act->World->Prop}{l:List Oper}{a:Act}{w:World}(h:wpList P ops Q l a w):wpList P ops Q l a w:=h
theorem O0(l:List Int)(w:World)(hl:Lim 9223372036854775808 l) :
  Calls prog 208 #[.agg (Ah l)] w fun e w'=>∃ m o,e=.returned (.tuple #[.agg (Ah m),.int .u64 o])/\Carr l m 5 o/\Bw w w':=by
 have h5:=hl.1;have hsz:=Cm h5;go_enter func208,ntmps208
 go_wp2_with fail
 go_loopw [4,6] (fun o i wr=>∃ (k:Nat) (m:List Int) (ov:Int),k<=5/\i=.int .i64 k/\o=.int .u64 ov/\Carr l m k ov/\wr.heap[w.heap.size]?=some (.cells (Ah m) 271 (0,0))/\wr.heap[w.heap.size+1]?=some (.cells (Ah [0,0,0,0,0]) 271 (0,0))/\Bw w wr) (fun _ i _=>5-(intOf i).toNat)
 case atStart=>
  refine⟨0,l,0,by omega,rfl,rfl,Carr.zero h5,?_,?_,?_⟩
  .exact heap_alloc2_old _ _ _
  .exact heap_alloc2_new _ _ _
  .exact((Below.refl _ _).alloc (Nat.le_refl _) _).alloc (by simp) _
 case round =>
  obtain⟨k,m,ov,hk,rfl,rfl,hc,hn,hr,hb⟩:=hrel;by_cases hk5:k<5
  .have hki:(k:Int)<5:=by omega
   have cn:=(cell_of_row wr _ k _ _ _ hn).trans (Ap m k (by rw[hc.len];omega));have fn:=frozen_of_row wr _ k _ _ hn;have hs:=hc.succ hl hk5;have o1:=hc.lo;have o2:=hc.hi;have e1:m.getD k 0=l.getD k 0:=hc.rest k (by omega);have b1:=hl.2 k;rw[<- e1]at b1
   have HS:Hid (Carr l (m.set k ((m.getD k 0+ov)%67108864)) (k+1) ((m.getD k 0+ov)/67108864)):=hs;clear hs hc e1;generalize m.getD k 0=x at cn HS b1;obtain⟨b1,b2⟩:=b1;have ha:=dw (x+ov) (by omega) (by omega);go_wp2
   go_roundw
   case rel =>
    refine⟨k+1,_,_,by omega,by go_num,rfl,HS.out,?_,?_,?_⟩
    .have h1:=DB (DB hn k (x+ov)) k ((x+ov)%67108864);rw[List.set_set]at h1
     exact h1
    .rw[heap_setCell_other _ _ _ _ (by simp),heap_setCell_other _ _ _ _ (by simp)];exact hr
    .exact(hb.setCell (p:=⟨w.heap.size,k,none⟩) (Nat.le_refl _) _).setCell (p:=⟨w.heap.size,k,none⟩) (Nat.le_refl _) _
   case measure=>simp[intOf];omega
  .have HK:Hid (k=5):=by unfold Hid;omega
   have hki:¬ (k:Int)<5:=by omega
   have hsz1:=Cm hc.len;go_wp2_with ((with_reducible (refine Ao ?_));first
    | (refine wpList_load_row rfl 271 _ rfl w.heap.size rfl 271 _ (0,0) _ hn underlying271 rfl hsz1 ?_)
    | (refine wpList_store_row rfl 271 _ _ rfl (w.heap.size+1) _ rfl rfl 271 _ hr hsz1 (by rw[Ak,Ak,hc.len];rfl) (Bg m) ?_))
   refine bodyPost_ret (v:=.tuple #[.agg (Ah m),.int .u64 ov]) (Fo rfl _ _ (w.heap.size+1) 271 _ (0,0) _ rfl (setRow_heap wr (w.heap.size+1) _ _ 271 _ hr) underlying271 rfl hsz1 rfl) rfl ⟨m,ov,rfl,by have:=HK.out;subst this;exact hc,AP hb (by omega) _⟩
def Pq:Nat->List Int->Prop
 | 0,m=>Lim 1152921504606846976 m
 | 1,m=>Lim 274877906944 m/\val m<1361129467683753853853498429727072845824+274877906944
 | 2,m=>Lim 274877906944 m/\val m<1361129467683753853853498429727072845824
 | _,m=>Lim 67108864 m
theorem Pq.lim:∀ {k:Nat} {m:List Int},Pq k m->Lim 9223372036854775808 m
 | 0,_,h=>Lim.mono h (by omega)
 | 1,_,h=>Lim.mono h.1 (by omega)
 | 2,_,h=>Lim.mono h.1 (by omega)
 | _+3,_,h=>Lim.mono (B:=67108864) h (by omega)
theorem bG(a b o:Int)(h:a+1361129467683753853853498429727072845824*o=b):(a+5*o)%pp=b%pp:=by
 rw[<- h,show a+1361129467683753853853498429727072845824*o=a+5*o+pp*o by unfold pp;omega,Int.add_mul_emod_self_left]
theorem Pq.succ{k:Nat}{l m:List Int}{o:Int}(h:Pq k l)(hk:k<3)(hc:Carr l m 5 o):Pq (k+1) (m.set 0 (m.getD 0 0+o*5))/\val (m.set 0 (m.getD 0 0+o*5))%pp=val l%pp/\0<=m.getD 0 0/\m.getD 0 0<67108864/\0<=o/\o<274877906944:=by
 obtain⟨h1,h2⟩:=hc.five;obtain⟨m0,m1,m2,m3,m4,rfl,b0,b1,b2,b3,b4⟩:=h1.split;have o1:=hc.lo;have o2:=hc.hi;simp only[List.set_cons_zero,List.getD_cons_zero];have hm:=bG _ _ _ h2;rw[CB]at h2
 have e:val [m0+o*5,m1,m2,m3,m4]=val [m0,m1,m2,m3,m4]+5*o:=by rw[CB,CB];omega
 rw[<- e]at hm
 refine⟨?_,hm,b0.1,b0.2,o1,o2⟩;obtain rfl|rfl|rfl:k=0\/k=1\/k=2:=by omega
 .obtain⟨l0,l1,l2,l3,l4,rfl,c0,c1,c2,c3,c4⟩:=Lim.split h;rw[CB]at h2
  refine⟨Lim.of5 (by omega) (by omega) (by omega) (by omega) (by omega),?_⟩;rw[CB];omega
 .obtain⟨h3,h4⟩:=h;obtain⟨l0,l1,l2,l3,l4,rfl,c0,c1,c2,c3,c4⟩:=Lim.split h3;rw[CB]at h2 h4
  refine⟨Lim.of5 (by omega) (by omega) (by omega) (by omega) (by omega),?_⟩;rw[CB];omega
 .obtain⟨h3,h4⟩:=h;have ho:o=0:=by omega
  subst ho;show Lim 67108864 _;exact Lim.of5 (by omega) (by omega) (by omega) (by omega) (by omega)
theorem I3(l:List Int)(w:World)(hl:Lim 1152921504606846976 l) :
  Calls prog 207 #[.agg (Ah l)] w fun e w'=>∃ m,e=.returned (.agg (Ah m))/\Lim 67108864 m/\val m%pp=val l%pp/\Bw w w':=by
 have h5:=hl.1;have hsz:=Cm h5;go_enter func207,ntmps207
 go_wp2_with fail
 go_loopw [4] (fun i wr=>∃ (k:Nat) (m:List Int),k<=3/\i=.int .i64 k/\Pq k m/\val m%pp=val l%pp/\wr.heap[w.heap.size]?=some (.cells (Ah m) 271 (0,0))/\wr.heap[w.heap.size+1]?=some (.cells (Ah [0,0,0,0,0]) 271 (0,0))/\w.heap.size+2<=wr.heap.size/\Bw w wr) (fun i _=>3-(intOf i).toNat)
 case atStart=>
  refine⟨0,l,by omega,rfl,hl,rfl,?_,?_,by simp,?_⟩
  .exact heap_alloc2_old _ _ _
  .exact heap_alloc2_new _ _ _
  .exact((Below.refl _ _).alloc (Nat.le_refl _) _).alloc (by simp) _
 case round =>
  obtain⟨k,m,hk,rfl,hc,hv,hn,hr,hz,hb⟩:=hrel;have hm5:=hc.lim.1;have hsz1:=Cm hm5;by_cases hk3:k<3
  .have hki:(k:Int)<3:=by omega
   go_wp2_with ((with_reducible (refine Ao ?_));refine wpList_load_row rfl 271 _ rfl w.heap.size rfl 271 _ (0,0) _ hn underlying271 rfl hsz1 ?_)
   refine(O0 m wr hc.lim).mono ?_;rintro e w1 ⟨m1,o,rfl,hc1,hb1⟩;obtain⟨hs,hv1,x1,x2,o1,o2⟩:=hc.succ hk3 hc1;have hl1:=hc1.len;have hsz2:=Cm hl1;have hn1:=(hb1.block w.heap.size (by omega)).trans hn;have hr1:=(hb1.block (w.heap.size+1) (by omega)).trans hr;have hz1:=hb1.size;have hB1:Bw w w1:=hb.trans (hb1.mono (by omega));have hn2:=setRow_heap w1 w.heap.size (Ah m) (Ah m1) 271 (0,0) hn1;have hr2:(w1.setRow w.heap.size (Ah m1)).heap[w.heap.size+1]?=some (.cells (Ah [0,0,0,0,0]) 271 (0,0)):=(setRow_other _ _ _ _ (by omega)).trans hr1;have hB2:Bw w (w1.setRow w.heap.size (Ah m1)):=AP hB1 (Nat.le_refl _) _;have hz2:(w1.setRow w.heap.size (Ah m1)).heap.size=w1.heap.size:=by simp
   have cn:=(cell_of_row _ _ 0 _ _ _ hn2).trans (Ap m1 0 (by omega));have fn:=frozen_of_row _ _ 0 _ _ hn2;have hs':Hid (Pq (k+1) (m1.set 0 (m1.getD 0 0+o*5))):=hs;have hv':Hid (val (m1.set 0 (m1.getD 0 0+o*5))%pp=val m%pp):=hv1;have hst:Hid (((w1.setRow w.heap.size (Ah m1)).setCell ⟨w.heap.size,0,none⟩ (.int .u64 (m1.getD 0 0+o*5))).heap[w.heap.size]?=some (.cells (Ah (m1.set 0 (m1.getD 0 0+o*5))) 271 (0,0))):=DB hn2 0 _;clear hb hn hr hb1 hr1 hB1 hc hc1 hs hv1;generalize m1.getD 0 0=x at cn hs' hv' hst x1 x2;go_wp2_with ((with_reducible (refine Ao ?_));refine wpList_store_row rfl 271 _ _ rfl w.heap.size _ rfl rfl 271 _ hn1 hsz2 (by rw[Ak,Ak,hl1,hm5]) (Bg m1) ?_)
   go_roundw
   case rel =>
    refine⟨k+1,_,by omega,by go_num,hs'.out,hv'.out.trans hv,hst.out,?_,?_,?_⟩
    .rw[heap_setCell_other _ _ _ _ (by simp)];exact hr2
    .simp;omega
    .exact hB2.setCell (p:=⟨w.heap.size,0,none⟩) (Nat.le_refl _) _
   case measure=>simp[intOf];omega
  .have hki:¬ (k:Int)<3:=by omega
   have hc3:Lim 67108864 m:=by
    obtain rfl:k=3:=by omega
    exact hc
   go_wp2_with ((with_reducible (refine Ao ?_));first
    | (refine wpList_load_row rfl 271 _ rfl w.heap.size rfl 271 _ (0,0) _ hn underlying271 rfl hsz1 ?_)
    | (refine wpList_store_row rfl 271 _ _ rfl (w.heap.size+1) _ rfl rfl 271 _ hr hsz1 (by rw[Ak,Ak,hm5];rfl) (Bg m) ?_))
   refine bodyPost_ret (v:=.agg (Ah m)) (results_cell_row rfl _ _ (w.heap.size+1) 271 _ (0,0) _ rfl (setRow_heap wr (w.heap.size+1) _ _ 271 _ hr) underlying271 rfl hsz1) rfl ⟨m,rfl,hc3,hv,AP hb (by omega) _⟩
theorem KT(n:Int):IntKind.u64.wrap n=n%18446744073709551616:=by simp[IntKind.wrap,IntKind.bits,IntKind.signed]
theorem Qa(S:List Int)(hS:S.length=5)(j:Nat)(hj:j<5):∀ w,(Instr.index 271 (.agg (Ah S)) (.int .i64 (j:Int))).run prog w=.ok (.int .u64 (S.getD j 0)) w:=by
 intro w;obtain⟨a,b,c,d,e,rfl⟩:=LN S hS;obtain rfl|rfl|rfl|rfl|rfl:j=0\/j=1\/j=2\/j=3\/j=4:=by omega
 all_goals kernel_rfl
theorem ER(w:World)(o1 o2 o3:Obj):(((w.alloc o1).alloc o2).alloc o3).heap[w.heap.size]?=some o1/\(((w.alloc o1).alloc o2).alloc o3).heap[w.heap.size+1]?=some o2/\(((w.alloc o1).alloc o2).alloc o3).heap[w.heap.size+1+1]?=some o3/\Bw w (((w.alloc o1).alloc o2).alloc o3):=by
 refine⟨?_,?_,?_,(((Below.refl _ _).alloc (Nat.le_refl _) _).alloc (by simp) _).alloc (by simp;omega) _⟩
 .rw[heap_alloc_old _ _ (by simp;omega)];exact heap_alloc2_old w o1 o2
 .rw[heap_alloc_old _ _ (by simp)];exact heap_alloc2_new w o1 o2
 .have:=heap_alloc_new ((w.alloc o1).alloc o2) o3;simpa using this
theorem J7(w:World)(o1 o2 o3 o4:Obj):((((w.alloc o1).alloc o2).alloc o3).alloc o4).heap[w.heap.size]?=some o1/\((((w.alloc o1).alloc o2).alloc o3).alloc o4).heap[w.heap.size+1]?=some o2/\((((w.alloc o1).alloc o2).alloc o3).alloc o4).heap[w.heap.size+1+1]?=some o3/\((((w.alloc o1).alloc o2).alloc o3).alloc o4).heap[w.heap.size+1+1+1]?=some o4/\Bw w ((((w.alloc o1).alloc o2).alloc o3).alloc o4):=by
 obtain⟨h1,h2,h3,hb⟩:=ER w o1 o2 o3;refine⟨?_,?_,?_,?_,hb.alloc (by simp;omega) _⟩
 .rw[heap_alloc_old _ _ (by simp;omega)];exact h1
 .rw[heap_alloc_old _ _ (by simp)];exact h2
 .rw[heap_alloc_old _ _ (by simp)];exact h3
 .have:=heap_alloc_new (((w.alloc o1).alloc o2).alloc o3) o4;simpa using this
theorem Wk(l m:List Int)(w:World)(hl:Lim 67108864 l)(hm:Lim 67108864 m) :
  Calls prog 201 #[.agg (Ah l),.agg (Ah m)] w fun e w'=>∃ r,e=.returned (.agg (Ah r))/\Lim 134217728 r/\val r=val l+val m/\Bw w w':=by
 have h5:=hl.1;have hszm:=Cm hm.1;go_enter func201,ntmps201
 go_wp2_with ((with_reducible (refine Ao ?_));(refine wpList_load_row rfl 271 _ rfl (w.heap.size+1) rfl 271 _ (0,0) _ (ER w _ _ _).2.1 underlying271 rfl hszm ?_))
 go_loopw [8] (fun i wr=>∃ (k:Nat) (r:List Int),k<=5/\i=.int .i64 k/\Adds l m r k/\wr.heap[w.heap.size]?=some (.cells (Ah r) 271 (0,0))/\wr.heap[w.heap.size+1+1]?=some (.cells (Ah [0,0,0,0,0]) 271 (0,0))/\Bw w wr) (fun i _=>5-(intOf i).toNat)
 case atStart=>exact⟨0,l,by omega,rfl,Adds.zero h5,(ER w _ _ _).1,(ER w _ _ _).2.2.1,(ER w _ _ _).2.2.2⟩
 case round =>
  obtain⟨k,r,hk,rfl,hc,hn,hr,hb⟩:=hrel;have hr5:=hc.len;by_cases hk5:k<5
  .have hki:(k:Int)<5:=by omega
   have hix:=Qa m hm.1 k hk5;have cn:=(cell_of_row wr _ k _ _ _ hn).trans (Ap r k (by omega));have fn:=frozen_of_row wr _ k _ _ hn;have HS:Hid (Adds l m (r.set k (r.getD k 0+m.getD k 0)) (k+1)):=hc.succ hk5;have b1:=hl.2 k;rw[<- hc.rest k (by omega)]at b1
   have b2:=hm.2 k;generalize r.getD k 0=x at cn HS b1;generalize m.getD k 0=y at hix HS b2;obtain⟨b1,b3⟩:=b1;obtain⟨b2,b4⟩:=b2;go_wp2
   go_roundw
   case rel =>
    refine⟨k+1,_,by omega,by go_num,HS.out,DB hn k _,?_,?_⟩
    .rw[heap_setCell_other _ _ _ _ (by simp;omega)];exact hr
    .exact hb.setCell (p:=⟨w.heap.size,k,none⟩) (Nat.le_refl _) _
   case measure=>simp[intOf];omega
  .have HK:Hid (k=5):=by unfold Hid;omega
   have hki:¬ (k:Int)<5:=by omega
   have hsz1:=Cm hr5;go_wp2_with ((with_reducible (refine Ao ?_));first
    | (refine wpList_load_row rfl 271 _ rfl (w.heap.size) rfl 271 _ (0,0) _ hn underlying271 rfl hsz1 ?_)
    | (refine wpList_store_row rfl 271 _ _ rfl (w.heap.size+1+1) _ rfl rfl 271 _ hr hsz1 (by rw[Ak,Ak,hr5];rfl) (Bg r) ?_))
   have hc5:Adds l m r 5:=by have:=HK.out;subst this;exact hc
   refine bodyPost_ret (v:=.agg (Ah r)) (results_cell_row rfl _ _ (w.heap.size+1+1) 271 _ (0,0) _ rfl (setRow_heap wr (w.heap.size+1+1) _ _ 271 _ hr) underlying271 rfl hsz1) rfl ⟨r,rfl,(hc5.five hl hm).1,(hc5.five hl hm).2,AP hb (by omega) _⟩
theorem TZ(n m:List Int)(w:World)(hn:Lim 134217728 n)(hm:Lim 67108864 m) :
  Calls prog 203 #[.agg (Ah n),.agg (Ah m)] w fun e w'=>∃ r,e=.returned (.agg (Ah r))/\Lim 67108864 r/\val r%pp=(val n*val m)%pp/\Bw w w':=by
 have hszn:=Cm hn.1;have hszm:=Cm hm.1;go_enter func203,ntmps203
 go_wp2_with ((with_reducible (refine Ao ?_));(refine wpList_load_row rfl 271 _ rfl (w.heap.size) rfl 271 _ (0,0) _ (J7 w _ _ _ _).1 underlying271 rfl hszn ?_))
 go_loopw [11] (fun i wr=>∃ (k:Nat) (r:List Int),k<=5/\i=.int .i64 k/\Prods n m r k 0/\wr.heap[w.heap.size+1]?=some (.cells (Ah m) 271 (0,0))/\wr.heap[w.heap.size+1+1]?=some (.cells (Ah [0,0,0,0,0]) 271 (0,0))/\wr.heap[w.heap.size+1+1+1]?=some (.cells (Ah r) 271 (0,0))/\Bw w wr) (fun i _=>5-(intOf i).toNat)
 case atStart=>exact⟨0,_,by omega,rfl,Prods.zero n m,(J7 w _ _ _ _).2.1,(J7 w _ _ _ _).2.2.1,(J7 w _ _ _ _).2.2.2.1,(J7 w _ _ _ _).2.2.2.2⟩
 case round =>
  obtain⟨k,r,hk,rfl,hc,hm1,hz,ho,hb⟩:=hrel;have hr5:=hc.len;by_cases hk5:k<5
  .have hki:(k:Int)<5:=by omega
   have hix:=Qa n hn.1 k hk5;obtain⟨x,hx⟩:∃ x,n.getD k 0=x:=⟨_,rfl⟩;rw[hx]at hix
   have HX:Hid (n.getD k 0=x):=hx;clear hx;go_wp2_with ((with_reducible (refine Ao ?_));(refine wpList_load_row rfl 271 _ rfl (w.heap.size+1) rfl 271 _ (0,0) _ hm1 underlying271 rfl hszm ?_))
   go_loopw [16] (fun i wr=>∃ (j:Nat) (r:List Int),j<=5/\i=.int .i64 j/\Prods n m r k j/\wr.heap[w.heap.size+1]?=some (.cells (Ah m) 271 (0,0))/\wr.heap[w.heap.size+1+1]?=some (.cells (Ah [0,0,0,0,0]) 271 (0,0))/\wr.heap[w.heap.size+1+1+1]?=some (.cells (Ah r) 271 (0,0))/\Bw w wr) (fun i _=>5-(intOf i).toNat)
   case atStart=>exact⟨0,r,by omega,rfl,hc,hm1,hz,ho,hb⟩
   case round =>
    clear hix;clear hc hm1 hz ho hb hr5;obtain⟨j,r,hj,rfl,hc,hm1,hz,ho,hb⟩:=hrel;have hr5:=hc.len;by_cases hj5:j<5
    .have hji:(j:Int)<5:=by omega
     have hix:=Qa m hm.1 j hj5;have hxy:=Gq (hn.2 k) (hm.2 j);rw[HX.out]at hxy
     by_cases hs:k+j<5
     .have hsi:(k:Int)+(j:Int)<5:=by omega
      have cn:=(cell_of_row _ _ (k+j) _ _ _ ho).trans (Ap r (k+j) (by omega));have fn:=frozen_of_row _ _ (k+j) _ _ ho;have HS:Hid (Prods n m (r.set (k+j) (r.getD (k+j) 0+x*m.getD j 0)) k (j+1)):=by rw[<- HX.out];exact hc.low_step hn hm hs
      have b1:=hc.low (k+j);have b2:r.getD (k+j) 0<=1152921504606846976:=by have:=hc.high (k+j);omega
      generalize r.getD (k+j) 0=z at cn HS b1 b2;generalize m.getD j 0=y at hix HS hxy;obtain⟨xy1,xy2⟩:=hxy;have e1:IntKind.u64.wrap (x*y)=x*y:=by rw[KT];omega
      have e2:IntKind.u64.wrap (z+x*y)=z+x*y:=by rw[KT];omega
      clear hc;go_wp2
      go_roundw
      case rel =>
       refine⟨j+1,_,by omega,by go_num,HS.out,?_,?_,DB ho (k+j) _,?_⟩
       .rw[heap_setCell_other _ _ _ _ (by simp)];exact hm1
       .rw[heap_setCell_other _ _ _ _ (by simp)];exact hz
       .exact hb.setCell (p:=⟨w.heap.size+1+1+1,k+j,none⟩) (by simp;omega) _
      case measure=>simp[intOf];omega
     .have hsi:¬ (k:Int)+(j:Int)<5:=by omega
      have cn:=(cell_of_row _ _ (k+j-5) _ _ _ ho).trans (Ap r (k+j-5) (by omega));have fn:=frozen_of_row _ _ (k+j-5) _ _ ho;have HS:Hid (Prods n m (r.set (k+j-5) (r.getD (k+j-5) 0+x*m.getD j 0*5)) k (j+1)):=by rw[<- HX.out];exact hc.high_step hn hm (by omega) hk5 hj5
      have b1:=hc.low (k+j-5);have b2:r.getD (k+j-5) 0<=1152921504606846976:=by have:=hc.high (k+j-5);omega
      generalize r.getD (k+j-5) 0=z at cn HS b1 b2;generalize m.getD j 0=y at hix HS hxy;obtain⟨xy1,xy2⟩:=hxy;have e1:IntKind.u64.wrap (x*y)=x*y:=by rw[KT];omega
      have e3:IntKind.u64.wrap (x*y*5)=x*y*5:=by rw[KT];omega
      have e2:IntKind.u64.wrap (z+x*y*5)=z+x*y*5:=by rw[KT];omega
      clear hc;obtain⟨t,ht⟩:∃ t:Nat,k+j=t+5:=⟨k+j-5,by omega⟩;have e4:(k:Int)+(j:Int)-5=(t:Int):=by omega
      have ht':k+j-5=t:=by omega
      rw[ht']at cn fn HS
      go_wp2
      go_roundw
      case rel =>
       refine⟨j+1,_,by omega,by go_num,HS.out,?_,?_,DB ho t _,?_⟩
       .rw[heap_setCell_other _ _ _ _ (by simp)];exact hm1
       .rw[heap_setCell_other _ _ _ _ (by simp)];exact hz
       .exact hb.setCell (p:=⟨w.heap.size+1+1+1,t,none⟩) (by simp;omega) _
      case measure=>simp[intOf];omega
    .have HJ:Hid (j=5):=by unfold Hid;omega
     have hji:¬ (j:Int)<5:=by omega
     go_wp2
     go_roundw
     case rel=>exact⟨k+1,r,by omega,by go_num,by have:=HJ.out;subst this;exact hc.row hm.1,hm1,hz,ho,hb⟩
     case measure=>simp[intOf];omega
  .have HK:Hid (k=5):=by unfold Hid;omega
   have hki:¬ (k:Int)<5:=by omega
   have hsz1:=Cm hr5;have hc5:Prods n m r 5 0:=by have:=HK.out;subst this;exact hc
   obtain⟨l5,v5⟩:=hc5.five hn.1;have hzz:w.heap.size+1+1<wr.heap.size:=(Array.getElem?_eq_some_iff.1 hz).1;clear hc hc5 hm1;go_wp2_with ((with_reducible (refine Ao ?_));(refine wpList_load_row rfl 271 _ rfl (w.heap.size+1+1+1) rfl 271 _ (0,0) _ ho underlying271 rfl hsz1 ?_))
   refine(I3 r wr l5).mono ?_;rintro e w1 ⟨r1,rfl,l1,v1,hb1⟩;have hz1:=(hb1.block (w.heap.size+1+1) hzz).trans hz;have hB1:Bw w w1:=hb.trans (hb1.mono hb.size);have hsz2:=Cm l1.1;go_wp2_with ((with_reducible (refine Ao ?_));(refine wpList_store_row rfl 271 _ _ rfl (w.heap.size+1+1) _ rfl rfl 271 _ hz1 hsz2 (by rw[Ak,Ak,l1.1];rfl) (Bg r1) ?_))
   refine bodyPost_ret (v:=.agg (Ah r1)) (results_cell_row rfl _ _ (w.heap.size+1+1) 271 _ (0,0) _ rfl (setRow_heap w1 (w.heap.size+1+1) _ _ 271 _ hz1) underlying271 rfl hsz2) rfl ⟨r1,rfl,l1,v1.trans v5,AP hB1 (by omega) _⟩
theorem Oh(w:World)(n:List Int)(_hn:n.length=5){A W:World}(hA:A=((w.alloc (.cells (Ah n) 271 (0,0))).alloc (.cells (Ah [0,0,0,0,0]) 271 (0,0))).alloc (.cells (Ah [0,0,0,0,0]) 271 (0,0)))(hW:A.setRow (w.heap.size+1+1) (Ah n)=W) :
  W.heap[w.heap.size]?=some (.cells (Ah n) 271 (0,0))/\W.heap[w.heap.size+1]?=some (.cells (Ah [0,0,0,0,0]) 271 (0,0))/\W.heap[w.heap.size+1+1]?=some (.cells (Ah n) 271 (0,0))/\Bw w W:=by
 obtain⟨a1,a2,a3,a4⟩:=ER w (.cells (Ah n) 271 (0,0)) (.cells (Ah [0,0,0,0,0]) 271 (0,0)) (.cells (Ah [0,0,0,0,0]) 271 (0,0));rw[<- hA]at a1 a2 a3 a4
 subst hW;refine⟨?_,?_,setRow_heap _ _ _ _ 271 _ a3,AP a4 (by omega) _⟩
 .rw[setRow_other _ _ _ _ (by omega)];exact a1
 .rw[setRow_other _ _ _ _ (by omega)];exact a2
theorem Tb(n:List Int)(w:World)(hn:Lim 67108864 n) :
  Calls prog 204 #[.agg (Ah n)] w fun e w'=>∃ r,e=.returned (.agg (Ah r))/\Lim 67108864 r/\val r=val n%pp/\Bw w w':=by
 have h5:=hn.1;have hszn:=Cm h5;have x0:=hn.2 0;have hset:(n.set 0 (n.getD 0 0+5)).length=5:=by simpa using h5
 have hlim:Lim 9223372036854775808 (n.set 0 (n.getD 0 0+5)):=by
  refine⟨hset,fun j=>?_⟩;by_cases e:0=j
  .subst e;rw[AE (by omega)];omega
  .rw[Av e];have:=hn.2 j;omega
 have hszs:=Cm hset;have HL:Hid (∀ m o,Carr (n.set 0 (n.getD 0 0+5)) m 5 o->Lim 67108864 m/\(0<o->val m=val n%pp)/\(¬ 0<o->val n=val n%pp)):=fun m o h=>Ql hn h;have HST:Hid (∀ W:World,W.heap[w.heap.size+1+1]?=some (.cells (Ah n) 271 (0,0))->(W.setCell ⟨w.heap.size+1+1,0,none⟩ (.int .u64 (n.getD 0 0+5))).heap[w.heap.size+1+1]?=some (.cells (Ah (n.set 0 (n.getD 0 0+5))) 271 (0,0))):=fun W h=>DB h 0 _;have HC:Hid (∀ W:World,W.heap[w.heap.size+1+1]?=some (.cells (Ah n) 271 (0,0))->W.cell? ⟨w.heap.size+1+1,0,none⟩=some (.int .u64 (n.getD 0 0))):=fun W h=>(cell_of_row W _ 0 _ _ _ h).trans (Ap n 0 (by omega));generalize n.set 0 (n.getD 0 0+5)=m0 at hlim HL hszs HST hset;generalize n.getD 0 0=x at x0 HST HC;obtain⟨x1,x2⟩:=x0;obtain⟨A,hA⟩:∃ A,A=((w.alloc (.cells (Ah n) 271 (0,0))).alloc (.cells (Ah [0,0,0,0,0]) 271 (0,0))).alloc (.cells (Ah [0,0,0,0,0]) 271 (0,0)):=⟨_,rfl⟩;obtain⟨W1,hW1⟩:∃ W,A.setRow (w.heap.size+1+1) (Ah n)=W:=⟨_,rfl⟩;obtain⟨s1,s2,s3,s4⟩:=Oh w n h5 hA hW1;rw[hA]at hW1
 clear hA;have c0:=HC.out W1 s3;have f0:=frozen_of_row W1 _ 0 _ _ s3;have t3:=HST.out W1 s3;have t1:(W1.setCell ⟨w.heap.size+1+1,0,none⟩ (.int .u64 (x+5))).heap[w.heap.size]?=some (.cells (Ah n) 271 (0,0)):=by rw[heap_setCell_other _ _ _ _ (by simp;omega)];exact s1
 have t2:(W1.setCell ⟨w.heap.size+1+1,0,none⟩ (.int .u64 (x+5))).heap[w.heap.size+1]?=some (.cells (Ah [0,0,0,0,0]) 271 (0,0)):=by rw[heap_setCell_other _ _ _ _ (by simp)];exact s2
 have t4:Bw w (W1.setCell ⟨w.heap.size+1+1,0,none⟩ (.int .u64 (x+5))):=s4.setCell (p:=⟨w.heap.size+1+1,0,none⟩) (by simp;omega) _;have tz:w.heap.size+1+1<(W1.setCell ⟨w.heap.size+1+1,0,none⟩ (.int .u64 (x+5))).heap.size:=(Array.getElem?_eq_some_iff.1 t3).1;have HW:Hid _:=hW1;clear hW1 s1 s2 s3 s4 HST HC;go_enter func204,ntmps204
 go_wp2_with ((with_reducible (refine Ao ?_));first
  | (refine wpList_load_row rfl 271 _ rfl (w.heap.size) rfl 271 _ (0,0) _ (heap_alloc2_old _ _ _) underlying271 rfl hszn ?_)
  | (refine wpList_store_row rfl 271 _ _ rfl (w.heap.size+1+1) _ rfl rfl 271 (Ah [0,0,0,0,0]) (ER w _ _ _).2.2.1 hszn (by rw[Ak,Ak,h5];rfl) (Bg n) ?_;refine(congrArg (wpList _ _ _ _ _) HW.out).mpr ?_)
  | (refine wpList_load_row rfl 271 _ rfl (w.heap.size+1+1) rfl 271 _ (0,0) _ t3 underlying271 rfl hszs ?_))
 refine(O0 m0 _ hlim).mono ?_;rintro e w1 ⟨m1,o,rfl,hc1,hb1⟩;obtain⟨l1,g1,g2⟩:=HL.out m1 o hc1;have o1:=hc1.lo;generalize W1.setCell _ _=W2 at hb1 t1 t2 t3 t4 tz;have u1:=(hb1.block w.heap.size (by omega)).trans t1;have u2:=(hb1.block (w.heap.size+1) (by omega)).trans t2;have u3:=(hb1.block (w.heap.size+1+1) (by omega)).trans t3;have u4:Bw w w1:=t4.trans (hb1.mono t4.size);have v1:(w1.setRow (w.heap.size+1+1) (Ah m1)).heap[w.heap.size]?=some (.cells (Ah n) 271 (0,0)):=(setRow_other _ _ _ _ (by omega)).trans u1;have v2:(w1.setRow (w.heap.size+1+1) (Ah m1)).heap[w.heap.size+1]?=some (.cells (Ah [0,0,0,0,0]) 271 (0,0)):=(setRow_other _ _ _ _ (by omega)).trans u2;have v3:=setRow_heap w1 (w.heap.size+1+1) _ (Ah m1) 271 _ u3;have v4:Bw w (w1.setRow (w.heap.size+1+1) (Ah m1)):=AP u4 (by omega) _;have hsz1:=Cm l1.1;by_cases ho:0<o
 .have g1':=g1 ho;clear g1 g2 hc1 HL c0 f0 HW;go_wp2_with ((with_reducible (refine Ao ?_));first
   | (refine wpList_store_row rfl 271 _ _ rfl (w.heap.size+1+1) _ rfl rfl 271 _ u3 hsz1 (by rw[Ak,Ak,l1.1,hset]) (Bg m1) ?_)
   | (refine wpList_load_row rfl 271 _ rfl (w.heap.size+1+1) rfl 271 _ (0,0) _ v3 underlying271 rfl hsz1 ?_)
   | (refine wpList_store_row rfl 271 _ _ rfl (w.heap.size+1) _ rfl rfl 271 _ v2 hsz1 (by rw[Ak,Ak,l1.1];rfl) (Bg m1) ?_))
  exact bodyPost_ret (v:=.agg (Ah m1)) (results_cell_row rfl _ _ (w.heap.size+1) 271 _ (0,0) _ rfl (setRow_heap _ (w.heap.size+1) _ _ 271 _ v2) underlying271 rfl hsz1) rfl ⟨m1,rfl,l1,g1',AP v4 (by omega) _⟩
 .have g2':=g2 (by omega);clear g1 g2 hc1 HL c0 f0 HW;go_wp2_with ((with_reducible (refine Ao ?_));first
   | (refine wpList_store_row rfl 271 _ _ rfl (w.heap.size+1+1) _ rfl rfl 271 _ u3 hsz1 (by rw[Ak,Ak,l1.1,hset]) (Bg m1) ?_)
   | (refine wpList_load_row rfl 271 _ rfl (w.heap.size) rfl 271 _ (0,0) _ v1 underlying271 rfl hszn ?_)
   | (refine wpList_store_row rfl 271 _ _ rfl (w.heap.size+1) _ rfl rfl 271 _ v2 hszn (by rw[Ak,Ak,h5];rfl) (Bg n) ?_))
  exact bodyPost_ret (v:=.agg (Ah n)) (results_cell_row rfl _ _ (w.heap.size+1) 271 _ (0,0) _ rfl (setRow_heap _ (w.heap.size+1) _ _ 271 _ v2) underlying271 rfl hszn) rfl ⟨n,rfl,hn,g2',AP v4 (by omega) _⟩
theorem Tt(k q sh:Nat)(h:sh+26*q=8*k)(hs:sh<26):(0:Int)<=2^sh/\(2:Int)^sh<=33554432/\(2:Int)^sh*67108864^q=256^k:=by
 refine⟨Int.le_of_lt (Int.pow_pos (by omega)),?_,?_⟩
 .have h1:(2:Nat)^sh<=2^25:=Nat.pow_le_pow_right (by omega) (by omega);have h2:(((2:Nat)^sh:Nat):Int)<=((2^25:Nat):Int):=Int.ofNat_le.2 h1;rw[Int.natCast_pow]at h2
  exact h2
 .rw[show(67108864:Int)=2^26 from rfl,show(256:Int)=2^8 from rfl,<- Int.pow_mul,<- Int.pow_mul,<- Int.pow_add,h]
theorem OK(v:Value)(b:List Int)(w:World)(h:Sl w v b)(hl:b.length<=17) :
  Calls prog 205 #[v] w fun e w'=>∃ r,e=.returned (.agg (Ah r))/\Lim 67108864 r/\val r%pp=leN b%pp/\Bw w w':=by
 obtain⟨⟨a,cap,rfl,hc,hn,h1⟩,hla,hba⟩:=h;have hcell:∃ B off,(b≠[]->a=some ⟨B,off,none⟩)/\(b≠[]->B<w.heap.size)/\∀ i,i<b.length->w.cell? ⟨B,off+i,none⟩=some (.int .u8 (b.getD i 0)):=by
  rcases h1 with rfl|⟨B,off,rfl,hb,hcell⟩
  .exact⟨0,0,fun h=>absurd rfl h,fun h=>absurd rfl h,fun i hi=>by simp at hi⟩
  .exact⟨B,off,fun _=>rfl,fun _=>hb,hcell⟩
 clear h1;obtain⟨B,off,ha,hB,HC0⟩:=hcell;have HC:Hid (∀ i,i<b.length->w.cell? ⟨B,off+i,none⟩=some (.int .u8 (b.getD i 0))):=HC0;have HA:Hid (b≠[]->a=some ⟨B,off,none⟩):=ha;have HB:Hid (b≠[]->B<w.heap.size):=hB;have HBY:Hid (∀ x∈b,0<=x/\x<256):=hba;obtain⟨n,HN⟩:∃ n,Hid (b.length=n):=⟨_,rfl⟩;rw[HN.out]at hl hc hla ⊢
 clear HC0 ha hB hba hn;go_enter func205,ntmps205
 go_wp2_with fail
 go_loopw [8] (fun i wr=>∃ (k:Nat) (r:List Int),k<=n/\i=.int .i64 k/\Reads b r k/\wr.heap[w.heap.size]?=some (.cells (Ah [0,0,0,0,0]) 271 (0,0))/\wr.heap[w.heap.size+1]?=some (.cells (Ah r) 271 (0,0))/\Bw w wr) (fun i _=>n-(intOf i).toNat)
 case atStart=>exact⟨0,_,by omega,rfl,Reads.zero b,heap_alloc2_old _ _ _,heap_alloc2_new _ _ _,((Below.refl _ _).alloc (Nat.le_refl _) _).alloc (by simp) _⟩
 case round =>
  obtain⟨k,r,hk,rfl,hr,hz,ho,hb⟩:=hrel;have hr5:=hr.len;by_cases hkn:k<n
  .have hki:(k:Int)<(n:Int):=by omega
   have hne:b≠[]:=by intro e;have:=HN.out;rw[e]at this;simp at this;omega
   have hA:=HA.out hne;subst hA;have hBs:=HB.out hne;have ck:=(hb.cell (p:=⟨B,off+k,none⟩) hBs).trans (HC.out k (by rw[HN.out];exact hkn));have hbk:=Aj HBY.out k;have HS:Hid (∀ (q:Nat) (m:Int),q<5->0<=m/\m<=33554432->m*67108864^q=256^k->Reads b (r.set q (r.getD q 0+b.getD k 0*m)) (k+1)):=fun q m h1 h2 h3=>hr.succ hbk q m h1 h2 h3;have HR:Hid (∀ t,0<=r.getD t 0/\r.getD t 0<=300000000000):=fun t=>⟨hr.low t,by have:=hr.high t;omega⟩;have HK:Hid (∀ t,t<5->wr.cell? ⟨w.heap.size+1,t,none⟩=some (.int .u64 (r.getD t 0))):=fun t ht=>(cell_of_row _ _ t _ _ _ ho).trans (Ap r t (by omega));have HF:Hid (∀ t,wr.frozen? ⟨w.heap.size+1,t,none⟩=false):=fun t=>frozen_of_row _ _ t _ _ ho;have HST:Hid (∀ t x,(wr.setCell ⟨w.heap.size+1,t,none⟩ (.int .u64 x)).heap[w.heap.size+1]?=some (.cells (Ah (r.set t x)) 271 (0,0))):=fun t x=>DB ho t x;generalize b.getD k 0=x at ck HS hbk;obtain⟨x1,x2⟩:=hbk;clear hr;obtain⟨q,hq⟩:∃ q,8*k/26=q:=⟨_,rfl⟩;have hq5:q<5:=by omega
   have cq:=HK.out q hq5;have fq:=HF.out q;have rq:=HR.out q;have HSq:Hid (∀ (m:Int),0<=m/\m<=33554432->m*67108864^q=256^k->Reads b (r.set q (r.getD q 0+x*m)) (k+1)):=fun m h2 h3=>HS.out q m hq5 h2 h3;generalize r.getD q 0=y at cq rq HSq;obtain⟨y1,y2⟩:=rq;obtain⟨sh,hsh⟩:∃ sh,8*k%26=sh:=⟨_,rfl⟩;have hsh26:sh<26:=by omega
   have i1:(8*(k:Int))/26=(q:Int):=by omega
   have i2:(8*(k:Int))%26=(sh:Int):=by omega
   have i3:Int.tdiv (8*(k:Int)) 26=(q:Int):=by rw[Int.tdiv_eq_ediv_of_nonneg (by omega)];exact i1
   have i4:Int.tmod (8*(k:Int)) 26=(sh:Int):=by rw[Int.tmod_eq_emod_of_nonneg (by omega)];exact i2
   have HP:Hid ((0:Int)<=2^sh/\(2:Int)^sh<=33554432/\(2:Int)^sh*67108864^q=256^k):=Tt k q sh (by omega) hsh26;clear hq HK HF HR HS;go_wp2_with fail
   refine Aq 13 (by kernel_rfl) (by kernel_rfl) ?_;simp only[List.take_succ_cons,List.take_zero,List.drop_succ_cons,List.drop_zero]
   repeat (go_big_quiet_step (fail))
   refine wpQuiet_nil ?_;go_wp2
   obtain⟨p1,p2,p3⟩:=HP.out;have q1:0<=x*2^sh:=Int.mul_nonneg x1 p1;have q2:x*2^sh<=256*33554432:=Int.mul_le_mul (by omega) p2 p1 (by omega);rw[show IntKind.u64.wrap (x*2^sh)=x*2^sh by rw[KT];omega,show IntKind.u64.wrap (y+x*2^sh)=y+x*2^sh by rw[KT];omega];go_roundw
   case rel =>
    refine⟨k+1,_,by omega,by go_num,HSq.out (2^sh) ⟨p1,p2⟩ p3,?_,HST.out q _,?_⟩
    .exact(heap_setCell_other _ _ _ _ (by simp)).trans hz
    .exact(hb.setCell (p:=⟨w.heap.size+1,q,none⟩) (by simp) _).drew
   case measure=>simp[intOf];omega
  .have HK:Hid (k=n):=by unfold Hid;omega
   have hki:¬ (k:Int)<(n:Int):=by omega
   have hsz1:=Cm hr5;have hlim:Lim 1152921504606846976 r:=⟨hr5,fun t=>⟨hr.low t,by have:=hr.high t;omega⟩⟩;have HV:Hid (val r=leN b):=by
    unfold Hid;rw[hr.sum,HK.out,<- HN.out];rfl
   have hzz:w.heap.size<wr.heap.size:=(Array.getElem?_eq_some_iff.1 hz).1;clear hr;go_wp2_with ((with_reducible (refine Ao ?_));(refine wpList_load_row rfl 271 _ rfl (w.heap.size+1) rfl 271 _ (0,0) _ ho underlying271 rfl hsz1 ?_))
   refine(I3 r wr hlim).mono ?_;rintro e w1 ⟨r1,rfl,l1,v1,hb1⟩;have hz1:=(hb1.block w.heap.size hzz).trans hz;have hB1:Bw w w1:=hb.trans (hb1.mono hb.size);have hsz2:=Cm l1.1;go_wp2_with ((with_reducible (refine Ao ?_));(refine wpList_store_row rfl 271 _ _ rfl (w.heap.size) _ rfl rfl 271 _ hz1 hsz2 (by rw[Ak,Ak,l1.1];rfl) (Bg r1) ?_))
   exact bodyPost_ret (v:=.agg (Ah r1)) (results_cell_row rfl _ _ (w.heap.size) 271 _ (0,0) _ rfl (setRow_heap w1 (w.heap.size) _ _ 271 _ hz1) underlying271 rfl hsz2) rfl ⟨r1,rfl,l1,by rw[v1,HV.out],AP hB1 (Nat.le_refl _) _⟩
def byA(l:List Int):Array Value:=(l.map (Value.int .u8)).toArray
theorem XC(l:List Int)(i:Nat)(x:Int):(byA l).setIfInBounds i (.int .u8 x)=byA (l.set i x):=by
 apply Array.ext';simp[byA,List.map_set]
theorem F4{w:World}{g:Nat}{l:List Int}{t:TypeId}(h:w.heap[g]?=some (.cells (byA l) t (0,0)))(k:Nat)(x:Int) :
  (w.setCell ⟨g,k,none⟩ (.int .u8 x)).heap[g]?=some (.cells (byA (l.set k x)) t (0,0)):=by
 rw[heap_setCell_same _ _ _ _ _ _ h,XC]
theorem GB(l:List Int)(i:Nat)(h:i<l.length):(byA l)[i]?=some (.int .u8 (l.getD i 0)):=by
 simp[byA,List.getD,List.getElem?_eq_getElem h]
theorem Vz:(prog.info? 5).map (·.size)=some 1:=by kernel_rfl
theorem Hg(l:List Int)(n:Nat):splice ((List.replicate n (0:Int)).map (Value.int .u8)) 0 (l.map (Value.int .u8))=(l++List.replicate (n-l.length) 0).map (Value.int .u8):=by
 have e:(List.replicate n (0:Int)).map (Value.int .u8)=List.replicate n (Value.int .u8 0):=List.map_replicate;rw[e];simp only[splice,List.take_zero,List.nil_append,List.length_map,Nat.zero_add,List.drop_replicate,List.map_append,List.map_replicate]
theorem Sl.src{w:World}{sp:Option Addr}{n c:Nat}{l:List Int}(h:Sl w (.slice sp n c) l)(hp:0<l.length):∃ ad,sp=some ad/\∀ (j:Nat) (v:Value),(l.map (Value.int .u8))[j]?=some v->w.cell? (ad.add j)=some v:=by
 obtain⟨⟨a,cap,e,hc,hn,h1⟩,hla,hba⟩:=h;simp only[Value.slice.injEq]at e;obtain⟨rfl,rfl,rfl⟩:=e;rcases h1 with rfl|⟨b,off,rfl,_,hcell⟩
 .simp at hp
 .refine⟨_,rfl,fun j v hj=>?_⟩;have hjl:j<l.length:=by
   have:=(List.getElem?_eq_some_iff.1 hj).1;simpa using this
  have hadd:(⟨b,off,none⟩:Addr).add j=⟨b,off+j,none⟩:=by unfold Addr.add;split<;>simp_all
  rw[hadd,hcell j hjl];simp[List.getElem?_eq_getElem hjl]at hj
  rw[AK hjl,hj]
theorem Sl.ofByA{w:World}{g:Nat}{l:List Int}{t:TypeId}{fr:Nat × Nat}(h:w.heap[g]?=some (.cells (byA l) t fr))(hl:l.length<=140737488351232)(hb:∀ x∈l,0<=x/\x<256):Sl w (.slice (some ⟨g,0,none⟩) l.length l.length) l:=by
 refine⟨⟨_,l.length,rfl,by simp,by simp,.inr ⟨g,0,rfl,(Array.getElem?_eq_some_iff.1 h).1,fun i hi=>?_⟩⟩,hl,hb⟩;rw[cell_of_row _ _ (0+i) _ _ _ h,Nat.zero_add,GB l i hi]
theorem Sl.rowOf{w:World}{g n:Nat}{l:List Int}{t:TypeId}{fr:Nat × Nat}(h:w.heap[g]?=some (.cells (byA l) t fr))(hn:l.length=n)(hl:l.length<=140737488351232)(hb:∀ x∈l,0<=x/\x<256):Sl w (.slice (some ⟨g,0,none⟩) n n) l:=by
 subst hn;exact Sl.ofByA h hl hb
theorem VJ(l:List Int)(h:l.length<=16):(l++List.replicate (17-l.length) 0).set l.length 1=l++[1]++List.replicate (16-l.length) 0:=by
 rw[List.set_append_right _ _ (Nat.le_refl _),show 17-l.length=16-l.length+1 by omega,List.replicate_succ];simp
theorem VI(l:List Int)(n:Nat):leN (l++[1]++List.replicate n 0)=leN (l++[1]):=by
 rw[Qi,SZ];omega
theorem O9(v:Value)(l:List Int)(w:World)(h:Sl w v l)(hl:l.length<=16) :
  Calls prog 202 #[v] w fun e w'=>∃ r,e=.returned (.agg (Ah r))/\Lim 67108864 r/\val r%pp=leN (l++[1])%pp/\Bw w w':=by
 have hs:=h;obtain⟨⟨a,cap,rfl,hc,hn,h1⟩,hla,hba⟩:=h;have HBY:Hid (∀ x∈l,0<=x/\x<256):=hba;have HM:=VJ l hl;have HML:=VI l (16-l.length);clear h1 hba hn;go_enter func202,ntmps202
 go_wp2_with (refine wpList_copy_splice rfl _ _ 25 25 rfl 5 underlying25 Vz _ _ _ _ _ _ rfl rfl (w.heap.size+1) 0 ((List.replicate 17 (0:Int)).map (Value.int .u8)) 286 (heap_alloc2_new _ _ _) (l.map (Value.int .u8)) (by rw[List.length_map];exact(Nat.min_eq_left (show l.length<=17 by omega)).symm) (fun hp=>⟨rfl,(hs.below (((Below.refl _ _).alloc (Nat.le_refl _) _).alloc (by simp) _)).src (by simpa using hp)⟩) (by rw[List.length_map,List.length_map,List.length_replicate];omega) (Ee _) (w.heap.size+1) _ (Below.refl _ _) (Nat.le_refl _) ?_)
 intro w2 H2 hb2;have hr2:w2.heap[w.heap.size+1]?=some (.cells (byA (l++List.replicate (17-l.length) 0)) 286 (0,0)):=by
  have h3:w2.heap[w.heap.size+1]?=some (.cells (splice ((List.replicate 17 (0:Int)).map (Value.int .u8)) 0 (l.map (Value.int .u8))).toArray 286 (0,0)):=H2.out;rw[Hg]at h3
  exact h3
 have hB2:Bw w w2:=(((Below.refl _ _).alloc (Nat.le_refl _) _).alloc (by simp) _).trans (hb2.mono (by omega));have hq2:w2.heap[w.heap.size]?=some (.cells (Ah [0,0,0,0,0]) 271 (0,0)):=by
  rw[hb2.block _ (by omega)];exact heap_alloc2_old _ _ _
 clear H2 hb2;have hlen:(l++List.replicate (17-l.length) (0:Int)).length=17:=by simp;omega
 have cl:=(cell_of_row _ _ l.length _ _ _ hr2).trans (GB _ l.length (by omega));have fl:=frozen_of_row _ _ l.length _ _ hr2;have hr3:=F4 hr2 l.length 1;rw[HM]at hr3
 have hq3:(w2.setCell ⟨w.heap.size+1,l.length,none⟩ (.int .u8 1)).heap[w.heap.size]?=some (.cells (Ah [0,0,0,0,0]) 271 (0,0)):=(heap_setCell_other _ _ _ _ (by simp)).trans hq2;have hB3:Bw w (w2.setCell ⟨w.heap.size+1,l.length,none⟩ (.int .u8 1)):=hB2.setCell (p:=⟨w.heap.size+1,l.length,none⟩) (by simp) _;have hzz:w.heap.size<(w2.setCell ⟨w.heap.size+1,l.length,none⟩ (.int .u8 1)).heap.size:=(Array.getElem?_eq_some_iff.1 hq3).1;have s3:Sl (w2.setCell ⟨w.heap.size+1,l.length,none⟩ (.int .u8 1)) (.slice (some ⟨w.heap.size+1,0,none⟩) 17 17) (l++[1]++List.replicate (16-l.length) 0):=by
  refine Sl.rowOf hr3 (by simp;omega) (by simp;omega) ?_;intro x hx;rcases List.mem_append.1 hx with h|h
  .rcases List.mem_append.1 h with h|h
   .exact HBY.out x h
   .simp at h;omega
  .rw[(List.mem_replicate.1 h).2];omega
 have hlen3:(l++[1]++List.replicate (16-l.length) (0:Int)).length<=17:=by simp;omega
 have HS3:Hid _:=s3;have HHM:Hid (leN (l++[1]++List.replicate (16-l.length) 0)=leN (l++[1])):=HML;clear hr3 hr2 HM HML s3 hs;generalize l++[1]++List.replicate (16-l.length) 0=L at HS3 hlen3 HHM;generalize (l++List.replicate (17-l.length) (0:Int)).getD l.length 0=c0 at cl;go_wp2_with fail
 refine(OK _ L _ HS3.out hlen3).mono ?_;rintro e w4 ⟨r,rfl,lr,vr,hb4⟩;have hq4:=(hb4.block w.heap.size hzz).trans hq3;have hB4:Bw w w4:=hB3.trans (hb4.mono hB3.size);have hsz2:=Cm lr.1;go_wp2_with ((with_reducible (refine Ao ?_));(refine wpList_store_row rfl 271 _ _ rfl (w.heap.size) _ rfl rfl 271 _ hq4 hsz2 (by rw[Ak,Ak,lr.1];rfl) (Bg r) ?_))
 exact bodyPost_ret (v:=.agg (Ah r)) (results_cell_row rfl _ _ (w.heap.size) 271 _ (0,0) _ rfl (setRow_heap w4 (w.heap.size) _ _ 271 _ hq4) underlying271 rfl hsz2) rfl ⟨r,rfl,lr,by rw[vr,HHM.out],AP hB4 (Nat.le_refl _) _⟩
def dS:Value->Nat
 | .slice _ n _=>n
 | _=>0
theorem cO{w:World}{g:Nat}{old:Array Value}(t:List Int)(hg:w.heap[g]?=some (.cells old 271 (0,0)))(ho:old.size=5)(ht:t.length=5):(storeCells ⟨g,0,none⟩ (Ah t).toList).run prog w=.ok () (w.setRow g (Ah t)):=by
 have:=run_storeCells_from (P:=prog) g 271 (Ah t).toList 0 old w hg (by simp[Ak];omega) (fun v hv=>by simp[Ah]at hv;obtain⟨x,_,rfl⟩:=hv;rfl);rw[this];simp[Ah]
theorem Lo{P:Program}{id:Nat}{ops:Array Oper}{K:Act->World->Prop}{Q:Exit->Act->World->Prop}{a:Act}{w:World}(R:List Int->List Int->List Int->World->Prop){A:List Int->List Int->List Int->Act}
  (hreg:∀ K':Act->World->Prop,Hid (∀ x y z W2,R x y z W2->K' (A x y z) W2)->(Code.region id ops true).wp P (Exit.then K' Q) a w)(hrest:∀ x y z W2,R x y z W2->K (A x y z) W2):(Code.region id ops true).wp P (Exit.then K Q) a w:=hreg K hrest
theorem M2(rl:List Int)(R:Int)(v:Value)(l:List Int)(w:World)(h:Sl w v l)(hl:l.length<=4000)(hr:Lim 67108864 rl)(hR:val rl%pp=R%pp) :
  Calls prog 189 #[.agg (Ah rl),v] w fun e w'=>∃ r,e=.returned (.agg (Ah r))/\Lim 67108864 r/\val r=ZY R l/\Bw w w':=by
 obtain⟨a0,c0,rfl⟩:∃ a c,v=.slice a l.length c:=by
  obtain⟨⟨a,c,e,_⟩,_⟩:=h;exact⟨a,c,e⟩
 have HR:Hid (val rl%pp=R%pp):=hR;clear hR;go_enter func189,ntmps189
 go_wp2_with fail
 go_loopw [1] (fun dv wr=>∃ (k:Nat) (nl:List Int) (a:Option Addr) (c:Nat),16*k<=l.length+15/\dv=.slice a (l.length-16*k) c/\Sl w dv (l.drop (16*k))/\Lim 67108864 nl/\val nl%pp=IW R l k%pp/\wr.heap[w.heap.size]?=some (.cells (Ah rl) 271 (0,0))/\wr.heap[w.heap.size+1]?=some (.cells (Ah [0,0,0,0,0]) 271 (0,0))/\wr.heap[w.heap.size+1+1]?=some (.cells (Ah nl) 271 (0,0))/\Bw w wr) (fun dv _=>dS dv)
 case atStart =>
  obtain⟨s1,s2,s3,s4⟩:=ER w (.cells (Ah rl) 271 (0,0)) (.cells (Ah [0,0,0,0,0]) 271 (0,0)) (.cells (Ah [0,0,0,0,0]) 271 (0,0));exact⟨0,[0,0,0,0,0],a0,c0,by omega,rfl,h,Lim.of5 (by omega) (by omega) (by omega) (by omega) (by omega),rfl,s1,s2,s3,s4⟩
 case round =>
  clear h;obtain⟨k,nl,a,c,hk,rfl,hs,hln,hvn,hrr,hz,hn,hb⟩:=hrel;by_cases hk16:16*k<l.length
  .obtain⟨n,hne⟩:∃ n,l.length-16*k=n:=⟨_,rfl⟩;have HNE:Hid (l.length-16*k=n):=hne;have hn0:0<n:=by omega
   have hn0i:(0:Int)<(n:Int):=by omega
   rw[hne]at hs ⊢
   have hlen:(l.drop (16*k)).length=n:=by rw[List.length_drop];exact hne
   obtain⟨n0,n1,n2,n3,n4,rfl,_⟩:=hln.split;obtain⟨r0,r1,r2,r3,r4,rfl,_⟩:=hr.split;have kn0:=(cell_of_row _ _ 0 _ _ _ hn).trans (Ap _ 0 (by simp));have kn1:=(cell_of_row _ _ 1 _ _ _ hn).trans (Ap _ 1 (by simp));have kn2:=(cell_of_row _ _ 2 _ _ _ hn).trans (Ap _ 2 (by simp));have kn3:=(cell_of_row _ _ 3 _ _ _ hn).trans (Ap _ 3 (by simp));have kn4:=(cell_of_row _ _ 4 _ _ _ hn).trans (Ap _ 4 (by simp));have kr0:=(cell_of_row _ _ 0 _ _ _ hrr).trans (Ap _ 0 (by simp));have kr1:=(cell_of_row _ _ 1 _ _ _ hrr).trans (Ap _ 1 (by simp));have kr2:=(cell_of_row _ _ 2 _ _ _ hrr).trans (Ap _ 2 (by simp));have kr3:=(cell_of_row _ _ 3 _ _ _ hrr).trans (Ap _ 3 (by simp));have kr4:=(cell_of_row _ _ 4 _ _ _ hrr).trans (Ap _ 4 (by simp));simp only[List.getD_cons_zero,List.getD_cons_succ]at kn0 kn1 kn2 kn3 kn4 kr0 kr1 kr2 kr3 kr4;have hzn:w.heap.size+1+1<wr.heap.size:=(Array.getElem?_eq_some_iff.1 hn).1;have hzr:w.heap.size<wr.heap.size:=by omega
   have HN:Hid _:=hn;have HRR:Hid _:=hrr;have HZ:Hid _:=hz;have HB:Hid _:=hb;have HVN:Hid (val [n0,n1,n2,n3,n4]%pp=IW R l k%pp):=hvn;clear hn hrr hz hb hvn hne;obtain⟨sz,hmin,hsz1,hsz2⟩:∃ sz:Nat,(if(n:Int)<16 then(n:Int)else 16)=(sz:Int)/\sz<=n/\((sz=16)\/(sz=n/\n<16)):=by
    by_cases h16:(n:Int)<16
    .exact⟨n,by rw[if_pos h16],by omega,.inr ⟨rfl,by omega⟩⟩
    .exact⟨16,by rw[if_neg h16];rfl,by omega,.inl rfl⟩
   obtain⟨a1,c1,hc1,st⟩:=hs.upTo sz (by omega);obtain⟨a2,c2,hc2,sd⟩:=hs.from sz (by omega);have hpl:((l.drop (16*k)).take sz).length<=16:=by rw[List.length_take];omega
   have HP:Hid ((l.drop (16*k)).take sz=piece l k):=by
    unfold Hid piece;rcases hsz2 with rfl|⟨rfl,h16⟩
    .rfl
    .rw[List.take_of_length_le (by omega),List.take_of_length_le (by omega)]
   have HD:Hid ((l.drop (16*k)).drop sz=l.drop (16*(k+1))/\n-sz=l.length-16*(k+1)):=by
    unfold Hid;have:=HNE.out;rw[List.drop_drop];rcases hsz2 with rfl|⟨rfl,h16⟩
    .exact⟨by congr 1,by omega⟩
    .refine⟨?_,by omega⟩;rw[List.drop_eq_nil_of_le (by omega),List.drop_eq_nil_of_le (by omega)]
   have HSZ:Hid (1<=sz):=by unfold Hid;omega
   clear hsz2;go_wp2_with fail
   apply Lo (fun m1 s1 t1 W=>Lim 67108864 t1/\val t1%pp=IW R l (k+1)%pp/\W.heap[w.heap.size]?=some (.cells (Ah [r0,r1,r2,r3,r4]) 271 (0,0))/\W.heap[w.heap.size+1]?=some (.cells (Ah [0,0,0,0,0]) 271 (0,0))/\W.heap[w.heap.size+1+1]?=some (.cells (Ah t1) 271 (0,0))/\Bw w W)
   .intro K2 HK2
    go_region_with (first
     | (go_at_call 202;refine(O9 _ _ _ (st.below HB.out.drew) hpl).mono ?_;rintro e w2 ⟨m1,rfl,lm1,vm1,hb2⟩;have hzn2:w.heap.size+1+1<w2.heap.size:=Nat.lt_of_lt_of_le hzn hb2.size;have hzr2:w.heap.size<w2.heap.size:=Nat.lt_of_lt_of_le hzr hb2.size;have ln0:=(hb2.cell (p:=⟨w.heap.size+1+1,0,none⟩) hzn).trans kn0;have ln1:=(hb2.cell (p:=⟨w.heap.size+1+1,1,none⟩) hzn).trans kn1;have ln2:=(hb2.cell (p:=⟨w.heap.size+1+1,2,none⟩) hzn).trans kn2;have ln3:=(hb2.cell (p:=⟨w.heap.size+1+1,3,none⟩) hzn).trans kn3;have ln4:=(hb2.cell (p:=⟨w.heap.size+1+1,4,none⟩) hzn).trans kn4;have lr0:=(hb2.cell (p:=⟨w.heap.size,0,none⟩) hzr).trans kr0;have lr1:=(hb2.cell (p:=⟨w.heap.size,1,none⟩) hzr).trans kr1;have lr2:=(hb2.cell (p:=⟨w.heap.size,2,none⟩) hzr).trans kr2;have lr3:=(hb2.cell (p:=⟨w.heap.size,3,none⟩) hzr).trans kr3;have lr4:=(hb2.cell (p:=⟨w.heap.size,4,none⟩) hzr).trans kr4)
     | (go_at_call 201;refine(Wk [n0,n1,n2,n3,n4] m1 _ hln lm1).mono ?_;rintro e w3 ⟨s1,rfl,ls1,vs1,hb3⟩;have hzn3:w.heap.size+1+1<w3.heap.size:=Nat.lt_of_lt_of_le hzn2 hb3.size;have mr0:=(hb3.cell (p:=⟨w.heap.size,0,none⟩) hzr2).trans lr0;have mr1:=(hb3.cell (p:=⟨w.heap.size,1,none⟩) hzr2).trans lr1;have mr2:=(hb3.cell (p:=⟨w.heap.size,2,none⟩) hzr2).trans lr2;have mr3:=(hb3.cell (p:=⟨w.heap.size,3,none⟩) hzr2).trans lr3;have mr4:=(hb3.cell (p:=⟨w.heap.size,4,none⟩) hzr2).trans lr4)
     | (go_at_call 203;refine(TZ s1 [r0,r1,r2,r3,r4] _ ls1 hr).mono ?_;rintro e w4 ⟨t1,rfl,lt1,vt1,hb4⟩;have hst:=cO t1 ((hb4.block _ hzn3).trans ((hb3.block _ hzn2).trans ((hb2.block _ hzn).trans HN.out))) rfl lt1.1;have hs5:(Ah t1).size=5:=by rw[Ak];exact lt1.1))
    all_goals
     refine HK2.out m1 s1 t1 _ ⟨lt1,?_,?_,?_,?_,?_⟩
     .rw[HP.out]at vm1
      exact Uk HVN.out vm1 vs1 HR.out vt1
     .exact(setRow_other _ _ _ _ (by omega)).trans ((hb4.block _ (by omega)).trans ((hb3.block _ (by omega)).trans ((hb2.block _ hzr).trans HRR.out)))
     .exact(setRow_other _ _ _ _ (by omega)).trans ((hb4.block _ (by omega)).trans ((hb3.block _ (by omega)).trans ((hb2.block _ (Nat.lt_of_succ_lt hzn)).trans HZ.out)))
     .exact setRow_heap _ _ _ _ 271 _ ((hb4.block _ hzn3).trans ((hb3.block _ hzn2).trans ((hb2.block _ hzn).trans HN.out)))
     .exact AP (((HB.out.drew.trans (hb2.mono (Nat.le_of_lt hzr))).trans (hb3.mono (Nat.le_of_lt hzr2))).trans (hb4.mono (by omega))) (by omega) _
   intro m1 s1 t1 W hW;obtain⟨lt1,vt1,q1,q2,q3,q4⟩:=hW;clear kn0 kn1 kn2 kn3 kn4 kr0 kr1 kr2 kr3 kr4 st hc1 hpl;go_wp2
   go_roundw
   case rel =>
    obtain⟨d1,d2⟩:=HD.out;rw[d1]at sd
    exact⟨k+1,t1,a2,c2,by omega,by rw[d2],sd,lt1,vt1,q1,q2,q3,q4⟩
   case measure=>have:=HSZ.out;simp[dS];omega
  .have HK:Hid (k=MN l):=by unfold Hid MN;omega
   have hzero:l.length-16*k=0:=by omega
   rw[hzero];have hsz1:=Cm hln.1;have hzz:w.heap.size+1<wr.heap.size:=(Array.getElem?_eq_some_iff.1 hz).1;have HV:Hid (val nl%pp=IW R l k%pp):=hvn;clear hvn hs;go_wp2_with ((with_reducible (refine Ao ?_));(refine wpList_load_row rfl 271 _ rfl (w.heap.size+1+1) rfl 271 _ (0,0) _ hn underlying271 rfl hsz1 ?_))
   refine(Tb nl wr hln).mono ?_;rintro e w1 ⟨r1,rfl,l1,v1,hb1⟩;have hz1:=(hb1.block (w.heap.size+1) hzz).trans hz;have hB1:Bw w w1:=hb.trans (hb1.mono hb.size);have hsz2:=Cm l1.1;go_wp2_with ((with_reducible (refine Ao ?_));(refine wpList_store_row rfl 271 _ _ rfl (w.heap.size+1) _ rfl rfl 271 _ hz1 hsz2 (by rw[Ak,Ak,l1.1];rfl) (Bg r1) ?_))
   refine bodyPost_ret (v:=.agg (Ah r1)) (results_cell_row rfl _ _ (w.heap.size+1) 271 _ (0,0) _ rfl (setRow_heap w1 (w.heap.size+1) _ _ 271 _ hz1) underlying271 rfl hsz2) rfl ⟨r1,rfl,l1,?_,AP hB1 (by omega) _⟩;have hK:=HK.out;subst hK;rw[v1,HV.out];have:=Ps R l (MN l);exact Int.emod_eq_of_lt this.1 this.2
end
end Go.Proofs.YtalbmmghmoggcaaGreatDoor
