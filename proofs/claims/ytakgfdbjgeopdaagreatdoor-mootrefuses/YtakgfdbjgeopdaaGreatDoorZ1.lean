/- Part 1 of the walk: what the functions of the program do, one by one. -/
import Derived.WalkKit
import Derived.ProofKit
import Derived.Laws.AppendOwnNone
import Derived.Laws.BytesArg
import Derived.BigQuiet
import Derived.OpenShut
import Derived.StillTail
import Derived.Test.YtakgfdbjgeopdaaGreatDoorProg
import Derived.Deep.QuietTactic
import Derived.BigRegion
set_option maxRecDepth 100000
set_option maxHeartbeats 4000000
open Go.Proofs.Tryz
namespace Go.Proofs.YtakgfdbjgeopdaaGreatDoor
open Go.RowKit Go.ChangeShapes Go.WideShapes Go.ChangeAt
structure Sl(w:World)(v:Value)(l:List Int):Prop where
 ex:∃ a cap,v=.slice a l.length cap∧l.length≤cap∧(a=none→cap=0)∧(l=[]∨∃ b off,a=some ⟨b,off,none⟩∧b<w.heap.size∧∀ i,i<l.length→w.cell? ⟨b,off+i,none⟩=some (.int .u8 (l.getD i 0)))
 len:l.length≤140737488351232
 byte:∀ x∈l,0≤x∧x<256
theorem Sl.below{w w':World}{v:Value}{l:List Int}(h:Sl w v l)(hb:Below w.heap.size w w'):Sl w' v l:=by
 obtain⟨⟨a,cap,rfl,hc,hn,h1⟩,h2,h3⟩:=h;refine⟨⟨a,cap,rfl,hc,hn,?_⟩,h2,h3⟩;rcases h1 with h1|⟨b,off,ha,hbs,hcell⟩
 ·exact .inl h1
 ·exact .inr ⟨b,off,ha,Nat.lt_of_lt_of_le hbs hb.size,fun i hi=>(hb.cell (p:=⟨b,off+i,none⟩) hbs).trans (hcell i hi)⟩
theorem Sl.nil(w:World)(a:Option Addr):Sl w (.slice a 0 0) []:=⟨⟨a,0,rfl,by simp,by simp,.inl rfl⟩,by simp,by simp⟩
theorem Sl.ofOwns{w:World}{base e:Nat}{v:Value}{l:List Int}(h:w.ownsRow base e 1 v l.length (l.map (Value.int .u8)))(hl:l.length≤140737488351232)(hb:∀ x∈l,0≤x∧x<256):Sl w v l:=by
 refine⟨?_,hl,hb⟩;rcases h.2 with⟨rfl,h0⟩|⟨g,cap,cur,rfl,_,hg,hn,_,hcs,ht⟩
 ·exact⟨none,0,by rw[h0],by omega,fun _=>rfl,.inl (List.eq_nil_of_length_eq_zero h0)⟩
 ·refine⟨_,cap,rfl,hn,by simp,.inr ⟨g,0,rfl,(Array.getElem?_eq_some_iff.1 hg).1,fun i hi=>?_⟩⟩;have hc:=h.cells (g:=g) rfl i (.int .u8 (l.getD i 0)) (by simp[List.getElem?_eq_getElem hi,List.getD]);have hadd:(⟨g,0,none⟩:Addr).add i=⟨g,i,none⟩:=by unfold Addr.add;split<;>simp_all
  rw[hadd]at hc
  simpa using hc
theorem AG{l:List Int}{i:Nat}(hi:i<l.length):l.getD i 0=l[i]:=by simp[List.getD,List.getElem?_eq_getElem hi]
theorem Fs{l:List Int}{i:Nat}(hi:l.length≤i):l.getD i 0=0:=by simp[List.getD,List.getElem?_eq_none hi]
theorem Ak{l:List Int}(h:∀ x∈l,0≤x∧x<256)(i:Nat):0≤l.getD i 0∧l.getD i 0<256:=by
 rcases Nat.lt_or_ge i l.length with hi|hi
 ·rw[AG hi];exact h _ (List.getElem_mem hi)
 ·rw[Fs hi];omega
theorem KI{l m:List Int}(hl:∀ x∈l,0≤x∧x<256)(hm:∀ x∈m,0≤x∧x<256):strOfNums l=strOfNums m↔l=m:=by
 constructor
 ·intro h;have h':(strOfNums l).data.toList=(strOfNums m).data.toList:=by rw[h]
  rw[strOfNums_data,strOfNums_data]at h'
  clear h;induction l generalizing m with
  | nil=>cases m<;>simp_all
  | cons x l ih =>
   cases m with
   | nil=>simp at h'
   | cons y m =>
    simp only[List.map_cons,List.cons.injEq]at h';have hx:=hl x (by simp);have hy:=hm y (by simp);have e:(UInt8.ofNat x.toNat).toNat=(UInt8.ofNat y.toNat).toNat:=by rw[h'.1]
    have e1:(UInt8.ofNat x.toNat).toNat=x.toNat:=by simp;omega
    have e2:(UInt8.ofNat y.toNat).toNat=y.toNat:=by simp;omega
    rw[e1,e2]at e
    rw[ih (fun z hz=>hl z (by simp[hz])) (fun z hz=>hm z (by simp[hz])) h'.2];have:x=y:=by omega
    rw[this]
 ·rintro rfl;rfl
theorem MG{n:Int}(h:(Lit.int .u8 n).wf=true):0≤n∧n<256:=by
 have:=bounds_u8 h;omega
theorem DT(l:List Int):∀ u∈l.map (Value.int .u8),u.oneCell'=true:=by
 intro u hu;obtain⟨x,_,rfl⟩:=List.mem_map.1 hu;rfl
theorem FG{P:Program}(w:World)(base t ty e:Nat)(ht:P.underlying t=some (.slice e))(hinfo:(P.info? e).map (fun i=>(i.zero,i.size,i.bytes))=some (some (.int .u8 0),1,1))
  (v:Value)(l:List Int)(hown:w.ownsRow base e 1 v l.length (l.map (Value.int .u8)))(u:Value)(m:List Int)(hu:Sl w u m)
  (hlen:l.length+m.length≤140737488355328)(hbase:base≤w.heap.size) :
  ∃ v' w',(Builtin.append_ #[t,t] ty #[v,u]).run P w=.ok v' w'∧w'.ownsRow base e 1 v' (l++m).length ((l++m).map (Value.int .u8))∧w.grownBy w' v.ownBlock:=by
 obtain⟨i,hi,hz,hsz,hby⟩:=info_parts hinfo;obtain⟨⟨a,cap,rfl,hc,hn,h1⟩,_,_⟩:=hu;cases a with
 | none =>
  have hc0:=hn rfl;subst hc0;have hm:m=[]:=List.eq_nil_of_length_eq_zero (by omega);subst hm;refine⟨v,w,?_,by simpa using hown,⟨rfl,rfl,rfl,Nat.le_refl _,fun _ _ _=>rfl⟩⟩;exact run_append_owned_none (P:=P) (w:=w) base t ty e i 1 ht hi v l.length _ hown
 | some ad =>
  have hcells:∀ j u,(m.map (Value.int .u8))[j]?=some u→w.cell? (ad.add j)=some u:=by
   intro j u hj;rcases h1 with rfl|⟨b,off,hab,_,hcell⟩
   ·simp at hj
   ·obtain rfl:ad=⟨b,off,none⟩:=by simpa using hab
    have hjl:j<m.length:=by
     have:=(List.getElem?_eq_some_iff.1 hj).1;simpa using this
    have hadd:(⟨b,off,none⟩:Addr).add j=⟨b,off+j,none⟩:=by unfold Addr.add;split<;>simp_all
    rw[hadd,hcell j hjl];simp[List.getElem?_eq_getElem hjl]at hj
    rw[AG hjl,hj]
  obtain⟨v',w',hr,ho,hg,_⟩:=run_append_own (P:=P) w base t ty e i (.int .u8 0) 1 1 ht hi hz hsz hby rfl (by decide) v l.length _ hown ad m.length cap (m.map (Value.int .u8)) (by simp) hcells (DT m)
   (by unfold maxLen;omega) (by omega) hbase
  exact⟨v',w',hr,by simpa using ho,hg⟩
theorem Aa{P:Program}(w:World){ops:Array Oper}{rest:List Oper}{o:Oper}{a:Act}{Q:Exit→Act→World→Prop}(hgd:o.guard=none)(s x:Operand)(t:TypeId)
  (ho:o.op=.call { callee:=.builtin .append,args:=#[s,x],argTypes:=#[t,t] })
  (base e:Nat)(ht:P.underlying t=some (.slice e))(hinfo:(P.info? e).map (fun i=>(i.zero,i.size,i.bytes))=some (some (.int .u8 0),1,1))
  (v u:Value)(hs:a.eval s=v)(hx:a.eval x=u)(l m:List Int)(hown:w.ownsRow base e 1 v l.length (l.map (Value.int .u8)))(hu:Sl w u m)
  (hlen:l.length+m.length≤140737488355328)(hbase:base≤w.heap.size)
  (h:∀ v' w',w'.ownsRow base e 1 v' (l++m).length ((l++m).map (Value.int .u8))→w.grownBy w' v.ownBlock→wpList P ops Q rest (a.put o.dst v') w'):wpList P ops Q (o::rest) a w:=by
 refine wpList_plain hgd fun K hK=>?_;obtain⟨v',w',hrun,r1,r2⟩:=FG (P:=P) w base t o.type e ht hinfo v l hown u m hu hlen hbase;unfold Oper.wp execOp;simp only[ho,resolve,invoke,builtin,Sem.run_bind,Sem.run_pure,Result.andThen_ok,List.map_toArray,List.map_cons,List.map_nil,hs,hx,hrun];exact hK _ _ (h v' w' r1 r2)
theorem Fa{P:Program}(w:World)(src dst e:TypeId)(hs:P.underlying src=some (.slice e))(he:P.underlying e=some (.int .u8))(hd:P.underlying dst=some .string)
  (v:Value)(l:List Int)(h:Sl w v l):(convert src dst v).run P w=.ok (.string (strOfNums l)) w:=by
 obtain⟨⟨a,cap,rfl,hc,hn,h1⟩,_,_⟩:=h;rcases h1 with rfl|⟨b,off,rfl,_,hcell⟩
 ·cases a with
  | none=>exact run_convert_bytes_nil w src e hs he _ _ dst hd
  | some ad =>
   rw[run_convert_bytes_string w src dst e _ _ _ hs he hd,run_bytesToString w ad _ _ [] (by simpa using run_loadCells_list (P:=P) w ad [] (by simp))];rfl
 ·exact run_convert_bytes_arg w src e hs he b off _ _ l rfl hcell dst hd
theorem Sl.take{w:World}{a:Option Addr}{cap n:Nat}{l:List Int}(h:Sl w (.slice a n cap) l)(m:Nat)(hm:m≤l.length):Sl w (.slice a m cap) (l.take m):=by
 obtain⟨⟨a',cap',e,hc,hn,h1⟩,hla,hba⟩:=h;simp only[Value.slice.injEq]at e;obtain⟨rfl,rfl,rfl⟩:=e;have hl:(l.take m).length=m:=by rw[List.length_take];omega
 refine⟨⟨a,cap,by rw[hl],by omega,hn,?_⟩,by omega,fun x hx=>hba x (List.mem_of_mem_take hx)⟩;rcases h1 with rfl|⟨b,off,rfl,hb,hcell⟩
 ·exact .inl (by simp)
 ·refine .inr ⟨b,off,rfl,hb,fun i hi=>?_⟩;rw[hcell i (by omega),AG (by omega),AG hi];simp
theorem Sl.drop{w:World}{b off n cap:Nat}{l:List Int}(h:Sl w (.slice (some ⟨b,off,none⟩) n cap) l)(k:Nat)(hk:k≤l.length)(c':Nat)(hc':l.length≤c'+k):Sl w (.slice (some ⟨b,off+k,none⟩) (l.length-k) c') (l.drop k):=by
 obtain⟨⟨a',cap',e,hc,hn,h1⟩,hla,hba⟩:=h;simp only[Value.slice.injEq]at e;obtain⟨rfl,rfl,rfl⟩:=e;have hl:(l.drop k).length=l.length-k:=by rw[List.length_drop]
 refine⟨⟨_,c',by rw[hl],by omega,by simp,?_⟩,by omega,fun x hx=>hba x (List.mem_of_mem_drop hx)⟩;rcases h1 with rfl|⟨b,off,e,hb,hcell⟩
 ·exact .inl (by simp)
 ·simp only[Option.some.injEq,Addr.mk.injEq,and_true]at e;obtain⟨rfl,rfl⟩:=e;refine .inr ⟨_,_,rfl,hb,fun i hi=>?_⟩;rw[Nat.add_assoc,hcell (k+i) (by omega),AG (by omega),AG hi];simp
theorem Ds{w:World}{base e:Nat}{v:Value}{l:List Int}(h:w.ownsRow base e 1 v l.length (l.map (Value.int .u8)))(hl:l≠[]) :
  ∃ g cap,v=.slice (some ⟨g,0,none⟩) l.length cap∧base≤g∧g<w.heap.size∧l.length≤cap∧(∀ i,i<l.length→w.cell? ⟨g,i,none⟩=some (.int .u8 (l.getD i 0)))∧(∀ i,w.frozen? ⟨g,i,none⟩=false):=by
 rcases h.2 with⟨rfl,h0⟩|⟨g,cap,cur,rfl,hb,hg,hn,_,hcs,ht⟩
 ·exact absurd (List.eq_nil_of_length_eq_zero h0) hl
 ·refine⟨g,cap,rfl,hb,(Array.getElem?_eq_some_iff.1 hg).1,hn,fun i hi=>?_,fun i=>?_⟩
  ·have hc:=h.cells (g:=g) rfl i (.int .u8 (l.getD i 0)) (by simp[List.getElem?_eq_getElem hi,List.getD]);have hadd:(⟨g,0,none⟩:Addr).add i=⟨g,i,none⟩:=by unfold Addr.add;split<;>simp_all
   rwa [hadd]at hc
  ·simp[World.frozen?,hg]
theorem Sl.built(w:World)(l:List Int)(e:TypeId){g:Nat}(hg:g=w.heap.size)(hl:l.length≤140737488351232)(hb:∀ x∈l,0≤x∧x<256):Sl (w.alloc (.cells (l.map (Value.int .u8)).toArray e)) (.slice (some ⟨g,0,none⟩) l.length l.length) l:=by
 subst hg;refine⟨⟨_,l.length,rfl,by simp,by simp,.inr ⟨w.heap.size,0,rfl,by simp,fun i hi=>?_⟩⟩,hl,hb⟩;rw[cell_of_row _ _ (0+i) _ _ _ (heap_alloc_new w _)];simp[List.getElem?_eq_getElem hi,List.getD]
theorem Sl.one(w:World)(b:Int)(e:TypeId){g:Nat}(hg:g=w.heap.size)(hb:0≤b∧b<256):Sl (w.alloc (.cells #[.int .u8 b] e)) (.slice (some ⟨g,0,none⟩) 1 1) [b]:=by
 subst hg;refine⟨⟨_,1,rfl,by simp,by simp,.inr ⟨w.heap.size,0,rfl,by simp,fun i hi=>?_⟩⟩,by simp,by simpa using hb⟩;obtain rfl:i=0:=by simpa using hi
 simp
theorem Sl.drew{w:World}{v:Value}{l:List Int}(h:Sl w v l):Sl w.drew v l:=h.below (Below.refl _ _).drew
theorem Ab{a b:Bool}(h:a=b):Ending.returned (.bool a)=.returned (.bool b):=by rw[h]
theorem KO(s:ByteArray):s.toList=s.data.toList:=ByteArray.toList_eq s
theorem Ag{B:Nat}{a w:World}(h:Below B a w)(n:Nat):Below B a (w.drewN n):=h.trans ⟨rfl,rfl,rfl,Nat.le_refl _,fun _ _=>rfl⟩
theorem Sl.opened{P:Program}{H:Type}{enc:TypeId × Value→H}{W:World}{t e:TypeId}{a:Option Addr}{len cap fuel:Nat}{d:DataW H}{p:List MemPlace}(hu:P.underlying t=some (.slice e))(he:P.underlying e=some (.int .u8))(hce:P.cellsOf e=1)
  (hf:DataW.trod enc P W 0 (fun _=>true) true fuel t (Value.cells (.slice a len cap)).toList=some (d,p))
  (hsz:∀ elems spare,d=.slice elems spare→(elems.length+spare.length)≤140737488351232):∃ l,Sl W (.slice a len cap) l:=by
 rcases open_ints hu he hce hf with⟨hcs,_⟩|⟨x,l,c,zs,hcs,_,hl,hm,hz,hx,hcell,hwz⟩
 ·simp[Value.cells]at hcs
  obtain⟨rfl,rfl,rfl⟩:=hcs;exact⟨[],Sl.nil _ _⟩
 ·simp[Value.cells]at hcs
  obtain⟨rfl,rfl,rfl⟩:=hcs;simp only[if_true]at hz;have hd:=hsz _ _ (congrArg Prod.fst hx);simp only[lits,List.length_map,List.length_take,List.length_drop]at hd;have hlen:(zs.take len).length=len:=by rw[List.length_take];omega
  refine⟨zs.take len,⟨⟨some x,cap,by rw[hlen],by omega,by simp,?_⟩,by omega,?_⟩⟩
  ·by_cases h0:len=0
   ·subst h0;exact .inl (by simp)
   ·right;obtain⟨b,off,spot⟩:=x;have hc0:=hcell 0 (by omega);have hspot:spot=none:=by simpa[Addr.add]using World.cell?_spot hc0
    subst hspot;refine⟨b,off,rfl,by simpa[Addr.add]using World.block_lt_of_cell? W _ hc0,fun i hi=>?_⟩;have h1:=hcell i (by omega);have hadd:(⟨b,off,none⟩:Addr).add i=⟨b,off+i,none⟩:=by unfold Addr.add;split<;>simp_all
    rw[hadd]at h1
    rw[h1,AG (l:=zs) (by omega),AG hi];simp
  ·intro n hn;have h1:=hwz n (List.mem_of_mem_take hn);exact MG h1
end Go.Proofs.YtakgfdbjgeopdaaGreatDoor
namespace Go.Proofs.YtakgfdbjgeopdaaGreatDoor
open Go.RowKit
def Uq:Value→Nat
 | .slice _ n _=>n
 | _=>0
theorem DA{w:World}{base e:Nat}{v:Value}{n:Nat}{xs:List Value}(h:w.ownsRow base e 1 v n xs):∃ a cap,v=.slice a n cap:=by
 rcases h.2 with⟨rfl,rfl⟩|⟨g,cap,cur,rfl,_⟩
 ·exact⟨none,0,rfl⟩
 ·exact⟨_,cap,rfl⟩
theorem B1{w:World}{base base':Nat}{e:TypeId}{size:Nat}{v:Value}{n:Nat}{xs:List Value}(h:w.ownsRow base e size v n xs)(hb:base'≤base):w.ownsRow base' e size v n xs:=by
 refine⟨h.1,?_⟩;rcases h.2 with h2|⟨g,cap,cur,hv,hg,hr⟩
 ·exact .inl h2
 ·exact .inr ⟨g,cap,cur,hv,Nat.le_trans hb hg,hr⟩
theorem JO(l:List Int)(j:Nat):l++List.replicate j 0++[0]=l++List.replicate (j+1) 0:=by
 rw[List.append_assoc,← List.replicate_succ']
theorem Sl.shape{w:World}{v:Value}{l:List Int}(h:Sl w v l):∃ a cap,v=.slice a l.length cap:=by
 obtain⟨⟨a,cap,e,_⟩,_⟩:=h;exact⟨a,cap,e⟩
def AK(l:List Int):Array Value:=(l.map (Value.int .u8)).toArray
theorem Ay(l:List Int):(AK l).size=l.length:=by simp[AK]
theorem Jd(l:List Int):(AK l).all (·.oneCell')=true:=by simp[AK,Value.oneCell']
theorem Dh(l:List Int)(i:Nat)(h:i<l.length):(AK l)[i]?=some (.int .u8 (l.getD i 0)):=by
 simp[AK,List.getD,List.getElem?_eq_getElem h]
theorem Td(l:List Int)(i:Nat)(x:Int):(AK l).setIfInBounds i (.int .u8 x)=AK (l.set i x):=by
 apply Array.ext';simp[AK,List.map_set]
def uw(x:BitVec 32):Int:=(x.toNat:Int)
theorem CV(x:BitVec 32):0≤uw x:=Int.natCast_nonneg _
theorem V6(x:BitVec 32):uw x<4294967296:=by unfold uw;have:=x.isLt;omega
theorem Ql{x y:BitVec 32}:uw x=uw y↔x=y:=by
 unfold uw;constructor
 ·intro h;exact BitVec.eq_of_toNat_eq (by omega)
 ·rintro rfl;rfl
theorem Kf(x y:BitVec 32):bits .and .u32 (uw x) (uw y)=uw (x &&& y):=by
 unfold uw;rw[u32_and_nat _ _ x.isLt y.isLt,BitVec.toNat_and]
theorem I7(x y:BitVec 32):bits .or .u32 (uw x) (uw y)=uw (x ||| y):=by
 unfold uw;rw[u32_or_nat _ _ x.isLt y.isLt,BitVec.toNat_or]
theorem CG(x y:BitVec 32):bits .xor .u32 (uw x) (uw y)=uw (x ^^^ y):=by
 unfold uw;rw[u32_xor_nat _ _ x.isLt y.isLt,BitVec.toNat_xor]
theorem bY(x y:BitVec 32):IntKind.u32.wrap (uw x+uw y)=uw (x+y):=by
 unfold uw;rw[IntKind.wrap_u32',BitVec.toNat_add];omega
theorem Cy(a b:BitVec 32):(uw a+uw b)%(4294967296:Int)=uw (a+b):=by
 unfold uw;rw[BitVec.toNat_add];omega
theorem Xz(a b c:BitVec 32):(uw a+uw b+uw c)%(4294967296:Int)=uw (a+b+c):=by
 rw[← Cy,← Cy];omega
theorem QW(a b c d:BitVec 32):(uw a+uw b+uw c+uw d)%(4294967296:Int)=uw (a+b+c+d):=by
 rw[← Cy,← Xz];omega
theorem Fg(x:BitVec 32)(k:Nat):uw x*(2:Int)^k%(4294967296:Int)=uw (x <<< k):=by
 unfold uw;rw[BitVec.toNat_shiftLeft,Nat.shiftLeft_eq,Int.natCast_emod,Int.natCast_mul,Int.natCast_pow];rfl
theorem MD(x:BitVec 32)(k:Nat):uw x/(2:Int)^k=uw (x >>> k):=by
 unfold uw;rw[BitVec.toNat_ushiftRight,Nat.shiftRight_eq_div_pow,Int.natCast_ediv,Int.natCast_pow];rfl
theorem Xy(x:BitVec 32):uw x/(8:Int)=uw (x >>> 3):=MD x 3
theorem V8(x:BitVec 32):uw x/(1024:Int)=uw (x >>> 10):=MD x 10
theorem Zi(x:BitVec 32)(n:Nat)(h0:1≤n)(h1:n≤31):bits .or .u32 (uw x*2^(32-n)%4294967296) (uw x/2^(32-(32-n)))=uw (x.rotateRight n):=by
 rw[Fg,MD,I7,Ql];rw[show 32-(32-n)=n by omega,BitVec.rotateRight_def,Nat.mod_eq_of_lt (by omega:n<32),BitVec.or_comm]
def Ea(n:Nat):Nat:=(119-n%64)%64
def BZ(n:Nat):List Int:=[((n*8/2^56%256:Nat):Int),((n*8/2^48%256:Nat):Int),((n*8/2^40%256:Nat):Int),((n*8/2^32%256:Nat):Int),
 ((n*8/2^24%256:Nat):Int),((n*8/2^16%256:Nat):Int),((n*8/2^8%256:Nat):Int),((n*8/2^0%256:Nat):Int)]
def Cb(l:List Int)(j:Nat):List Int:=l++[128]++List.replicate j 0
def pad(l:List Int):List Int:=Cb l (Ea l.length)++BZ l.length
theorem Cw(l:List Int)(j:Nat):(Cb l j).length=l.length+1+j:=by simp[Cb];omega
theorem PO(l:List Int)(j:Nat):Cb l j++[0]=Cb l (j+1):=by
 simp only[Cb,List.append_assoc];rw[← List.replicate_succ']
theorem IF(n:Nat):(BZ n).length=8:=rfl
theorem PP(l:List Int):(pad l).length%64=0∧l.length<(pad l).length∧(pad l).length≤l.length+72:=by
 unfold pad;rw[List.length_append,Cw,IF];unfold Ea;omega
theorem PN{l:List Int}(h:∀ x∈l,0≤x∧x<256)(j:Nat):∀ x∈Cb l j,0≤x∧x<256:=by
 intro x hx;simp only[Cb,List.mem_append,List.mem_singleton,List.mem_replicate]at hx;rcases hx with(hx|rfl)|⟨_,rfl⟩
 ·exact h x hx
 ·omega
 ·omega
theorem K4(n:Nat):∀ x∈BZ n,0≤x∧x<256:=by
 intro x hx;simp only[BZ,List.mem_cons,List.not_mem_nil,or_false]at hx;rcases hx with rfl|rfl|rfl|rfl|rfl|rfl|rfl|rfl<;>omega
theorem UI{l:List Int}(h:∀ x∈l,0≤x∧x<256):∀ x∈pad l,0≤x∧x<256:=by
 intro x hx;rcases List.mem_append.1 hx with h1|h1
 ·exact PN h _ x h1
 ·exact K4 _ x h1
theorem Mj(n s:Nat):((n*8/2^s%256:Nat):Int)=(n:Int)*8/2^s%256:=by
 rw[Int.natCast_emod,Int.natCast_ediv,Int.natCast_mul,Int.natCast_pow];rfl
theorem K5(n k:Nat)(hk:k<8):(BZ n).take (k+1)=(BZ n).take k++[(n:Int)*8/2^(56-8*k)%256]:=by
 rw[← Mj];obtain rfl|rfl|rfl|rfl|rfl|rfl|rfl|rfl:k=0∨k=1∨k=2∨k=3∨k=4∨k=5∨k=6∨k=7:=by omega
 all_goals rfl
def Av(ws:List (BitVec 32)):Array Value:=(ws.map fun x=>Value.int .u32 (uw x)).toArray
theorem AP(ws:List (BitVec 32)):(Av ws).size=ws.length:=by simp[Av]
theorem Bw(ws:List (BitVec 32))(i:Nat)(h:i<ws.length):(Av ws)[i]?=some (.int .u32 (uw (ws.getD i 0#32))):=by
 simp[Av,List.getD,List.getElem?_eq_getElem h]
theorem Ki(ws:List (BitVec 32))(i:Nat)(x:BitVec 32):(Av ws).setIfInBounds i (.int .u32 (uw x))=Av (ws.set i x):=by
 apply Array.ext';simp[Av,List.map_set]
def BR(n:Int):BitVec 32:=BitVec.ofNat 32 n.toNat
def Qq(l:List Int)(i:Nat):BitVec 32:=BR (l.getD (4*i) 0) <<< 24 ||| BR (l.getD (4*i+1) 0) <<< 16 ||| BR (l.getD (4*i+2) 0) <<< 8 ||| BR (l.getD (4*i+3) 0)
def YR(x:BitVec 32):BitVec 32:=x.rotateRight 7 ^^^ x.rotateRight 18 ^^^ x >>> 3
def YS(x:BitVec 32):BitVec 32:=x.rotateRight 17 ^^^ x.rotateRight 19 ^^^ x >>> 10
def IJ(l:List Int):Nat→List (BitVec 32)
 | 0=>List.replicate 64 0#32
 | k+1=>(IJ l k).set k (Qq l k)
def U5(ws:List (BitVec 32))(i:Nat):BitVec 32:=ws.getD (i-16) 0#32+YR (ws.getD (i-15) 0#32)+ws.getD (i-7) 0#32+YS (ws.getD (i-2) 0#32)
def EA(l:List Int):Nat→List (BitVec 32)
 | 0=>IJ l 16
 | k+1=>(EA l k).set (16+k) (U5 (EA l k) (16+k))
def L3(l:List Int):List (BitVec 32):=EA l 48
theorem Fb(l:List Int)(k:Nat):(IJ l k).length=64:=by
 induction k with
 | zero=>simp[IJ]
 | succ k ih=>simp[IJ,ih]
theorem DC(l:List Int)(k:Nat):(EA l k).length=64:=by
 induction k with
 | zero=>exact Fb l 16
 | succ k ih=>simp[EA,ih]
theorem Mw(l:List Int):(L3 l).length=64:=DC l 48
theorem IX(n:Int)(h:0≤n∧n<256):uw (BR n)=n:=by
 unfold uw BR;rw[BitVec.toNat_ofNat];omega
def Ps:List Int:=[1116352408,1899447441,3049323471,3921009573,961987163,1508970993,2453635748,2870763221,3624381080,310598401,607225278,1426881987,1925078388,2162078206,2614888103,3248222580,3835390401,4022224774,264347078,604807628,770255983,1249150122,1555081692,1996064986,2554220882,2821834349,2952996808,3210313671,3336571891,3584528711,113926993,338241895,666307205,773529912,1294757372,1396182291,1695183700,1986661051,2177026350,2456956037,2730485921,2820302411,3259730800,3345764771,3516065817,3600352804,4094571909,275423344,430227734,506948616,659060556,883997877,958139571,1322822218,1537002063,1747873779,1955562222,2024104815,2227730452,2361852424,2428436474,2756734187,3204031479,3329325298]
def kAt(i:Nat):BitVec 32:=BitVec.ofNat 32 (Ps.getD i 0).toNat
structure St where
 a:BitVec 32
 b:BitVec 32
 c:BitVec 32
 d:BitVec 32
 e:BitVec 32
 f:BitVec 32
 g:BitVec 32
 h:BitVec 32
def St.cells(s:St):Array Value:=#[.int .u32 (uw s.a),.int .u32 (uw s.b),.int .u32 (uw s.c),.int .u32 (uw s.d),.int .u32 (uw s.e),.int .u32 (uw s.f),.int .u32 (uw s.g),.int .u32 (uw s.h)]
def St.list(s:St):List (BitVec 32):=[s.a,s.b,s.c,s.d,s.e,s.f,s.g,s.h]
def OO(e f g:BitVec 32):BitVec 32:=(e &&& f) ^^^ (~~~e &&& g)
def YA(a b c:BitVec 32):BitVec 32:=(a &&& b) ^^^ (a &&& c) ^^^ (b &&& c)
def Zz(e:BitVec 32):BitVec 32:=e.rotateRight 6 ^^^ e.rotateRight 11 ^^^ e.rotateRight 25
def Zy(a:BitVec 32):BitVec 32:=a.rotateRight 2 ^^^ a.rotateRight 13 ^^^ a.rotateRight 22
def upS(s:St)(k w:BitVec 32):BitVec 32:=s.h+Zz s.e+OO s.e s.f s.g+k+w
def XC(s:St):BitVec 32:=Zy s.a+YA s.a s.b s.c
def Vl(s:St)(k w:BitVec 32):St:={ a:=upS s k w+XC s,b:=s.a,c:=s.b,d:=s.c,e:=s.d+upS s k w,f:=s.e,g:=s.f,h:=s.g }
def Bp(ws:List (BitVec 32))(s:St):Nat→St
 | 0=>s
 | k+1=>Vl (Bp ws s k) (kAt k) (ws.getD k 0#32)
def bj(s t:St):St:={ a:=s.a+t.a,b:=s.b+t.b,c:=s.c+t.c,d:=s.d+t.d,e:=s.e+t.e,f:=s.f+t.f,g:=s.g+t.g,h:=s.h+t.h }
def Dg(s t:St):Nat→List (BitVec 32)
 | 0=>s.list
 | i+1=>(Dg s t i).set i ((Dg s t i).getD i 0#32+t.list.getD i 0#32)
theorem Ed(s t:St)(i:Nat):(Dg s t i).length=8:=by
 induction i with
 | zero=>rfl
 | succ i ih=>simp[Dg,ih]
def Uu(s:St)(ws:List (BitVec 32)):St:=bj s (Bp ws s 64)
def start:St:={ a:=1779033703#32,b:=3144134277#32,c:=1013904242#32,d:=2773480762#32,e:=1359893119#32,f:=2600822924#32,g:=528734635#32,h:=1541459225#32 }
def Ee(x:BitVec 32):List Int:=[uw x/16777216%256,uw x/65536%256,uw x/256%256,uw x%256]
def BV:List (BitVec 32)→List Int
 | []=>[]
 | x::r=>Ee x++BV r
def LT(s:St):List Int:=BV s.list
theorem Ii(x:BitVec 32):∀ n∈Ee x,0≤n∧n<256:=by
 intro n hn;simp only[Ee,List.mem_cons,List.not_mem_nil,or_false]at hn;rcases hn with rfl|rfl|rfl|rfl<;>omega
theorem ML(l:List (BitVec 32)):∀ n∈BV l,0≤n∧n<256:=by
 induction l with
 | nil=>intro n hn;cases hn
 | cons x r ih =>
  intro n hn;rcases List.mem_append.1 hn with h|h
  ·exact Ii x n h
  ·exact ih n h
theorem MM(l:List (BitVec 32))(x:BitVec 32):BV (l++[x])=BV l++Ee x:=by
 induction l with
 | nil=>simp[BV]
 | cons y r ih=>simp[BV,ih]
theorem FA(l:List (BitVec 32)):(BV l).length=4*l.length:=by
 induction l with
 | nil=>rfl
 | cons x r ih=>simp[BV,Ee,ih];omega
def LZ(l:List Int):Nat→St
 | 0=>start
 | k+1=>Uu (LZ l k) (L3 ((l.drop (64*k)).take 64))
def dig(l:List Int):List Int:=LT (LZ (pad l) ((pad l).length/64))
theorem AA(l:List Int):(dig l).length=32:=rfl
theorem CL(l:List Int):∀ n∈dig l,0≤n∧n<256:=ML _
def Kz(s:List (BitVec 32))(a b:Nat):List (BitVec 32):=s.set a (s.getD a 0#32+s.getD b 0#32)
def Yw(s:List (BitVec 32))(a t n:Nat):List (BitVec 32):=s.set t ((s.getD t 0#32 ^^^ s.getD a 0#32).rotateLeft n)
def Iq(s:List (BitVec 32))(a b t n:Nat):List (BitVec 32):=Yw (Kz s a b) a t n
def JJ(s:List (BitVec 32))(a b c d:Nat):List (BitVec 32):=Iq (Iq (Iq (Iq s a b d 16) c d b 12) a b d 8) c d b 7
theorem Ip(s:List (BitVec 32))(a b:Nat):(Kz s a b).length=s.length:=by simp[Kz]
theorem No(s:List (BitVec 32))(a t n:Nat):(Yw s a t n).length=s.length:=by simp[Yw]
theorem B0(s:List (BitVec 32))(a b t n:Nat):(Iq s a b t n).length=s.length:=by rw[Iq,No,Ip]
theorem KC(s:List (BitVec 32))(a b c d:Nat):(JJ s a b c d).length=s.length:=by simp only[JJ,B0]
def DV:List Nat:=[0,4,8,12,1,5,9,13,2,6,10,14,3,7,11,15,0,5,10,15,1,6,11,12,2,7,8,13,3,4,9,14]
def FJ(s:List (BitVec 32)):Nat→List (BitVec 32)
 | 0=>s
 | k+1=>JJ (FJ s k) (DV.getD (4*k) 0) (DV.getD (4*k+1) 0) (DV.getD (4*k+2) 0) (DV.getD (4*k+3) 0)
def CS(s:List (BitVec 32)):Nat→List (BitVec 32)
 | 0=>s
 | k+1=>FJ (CS s k) 8
theorem GV(s:List (BitVec 32))(k:Nat):(FJ s k).length=s.length:=by
 induction k with
 | zero=>rfl
 | succ k ih=>rw[FJ,KC,ih]
theorem FK(s:List (BitVec 32))(k:Nat):(CS s k).length=s.length:=by
 induction k with
 | zero=>rfl
 | succ k ih=>rw[CS,GV,ih]
theorem IU(i:Nat):DV.getD i 0<16:=by
 have all:∀ j:Fin 32,DV.getD j.val 0<16:=by decide
 rcases Nat.lt_or_ge i 32 with h|h
 ·exact all ⟨i,h⟩
 ·rw[List.getD,List.getElem?_eq_none (by simpa[DV]using h)];decide
def Jg(x:BitVec 32):List Int:=[uw x%256,uw x/256%256,uw x/65536%256,uw x/16777216%256]
def XQ(s t:List (BitVec 32))(i:Nat):BitVec 32:=s.getD i 0#32+t.getD i 0#32
def PI(s t:List (BitVec 32)):Nat→List Int
 | 0=>[]
 | k+1=>PI s t k++Jg (XQ s t k)
theorem ET(s t:List (BitVec 32))(k:Nat):(PI s t k).length=4*k:=by
 induction k with
 | zero=>rfl
 | succ k ih=>simp[PI,Jg,ih];omega
theorem MN(x:BitVec 32):∀ n∈Jg x,0≤n∧n<256:=by
 intro n hn;simp only[Jg,List.mem_cons,List.not_mem_nil,or_false]at hn;rcases hn with rfl|rfl|rfl|rfl<;>omega
theorem Sf(s t:List (BitVec 32))(k:Nat):∀ n∈PI s t k,0≤n∧n<256:=by
 induction k with
 | zero=>intro n hn;cases hn
 | succ k ih =>
  intro n hn;rcases List.mem_append.1 hn with h|h
  ·exact ih n h
  ·exact MN _ n h
def BU(s:List (BitVec 32)):List Int:=PI (CS s 10) s 16
theorem DE(s:List (BitVec 32)):(BU s).length=64:=ET _ _ _
theorem ED(s:List (BitVec 32)):∀ n∈BU s,0≤n∧n<256:=Sf _ _ _
def VF(l:List Int)(i:Nat):BitVec 32:=BR (l.getD (4*i) 0) ||| BR (l.getD (4*i+1) 0) <<< 8 ||| BR (l.getD (4*i+2) 0) <<< 16 ||| BR (l.getD (4*i+3) 0) <<< 24
def CT(s:List (BitVec 32))(off:Nat)(l:List Int):Nat→List (BitVec 32)
 | 0=>s
 | k+1=>(CT s off l k).set (off+k) (VF l k)
theorem CY(s:List (BitVec 32))(off:Nat)(l:List Int)(k:Nat):(CT s off l k).length=s.length:=by
 induction k with
 | zero=>rfl
 | succ k ih=>simp[CT,ih]
def Gd:List (BitVec 32):=[1634760805#32,857760878#32,2036477234#32,1797285236#32,0#32,0#32,0#32,0#32,0#32,0#32,0#32,0#32,0#32,0#32,0#32,0#32]
def Bz(key:List Int)(c:BitVec 32)(nonce:List Int):List (BitVec 32):=CT ((CT Gd 4 key 8).set 12 c) 13 nonce 3
theorem F8(key:List Int)(c:BitVec 32)(nonce:List Int):(Bz key c nonce).length=16:=by
 simp[Bz,CY,Gd]
def bx(x y:Int):Int:=((x.toNat ^^^ y.toNat:Nat):Int)
theorem LS{x y:Int}(hx:0≤x∧x<256)(hy:0≤y∧y<256):0≤bx x y∧bx x y<256:=by
 unfold bx;have:x.toNat ^^^ y.toNat<2^8:=Nat.xor_lt_two_pow (by omega) (by omega);omega
def L5(s:List (BitVec 32))(i:Nat):Int:=(BU (s.set 12 (s.getD 12 0#32+BitVec.ofNat 32 (i/64)))).getD (i%64) 0
theorem Qe(s:List (BitVec 32))(i:Nat):0≤L5 s i∧L5 s i<256:=Ak (ED _) _
def Cu(s:List (BitVec 32))(d:List Int):Nat→List Int
 | 0=>[]
 | k+1=>Cu s d k++[bx (L5 s k) (d.getD k 0)]
def Nz(s:List (BitVec 32))(d:List Int):List Int:=Cu s d d.length
theorem Em(s:List (BitVec 32))(d:List Int)(k:Nat):(Cu s d k).length=k:=by
 induction k with
 | zero=>rfl
 | succ k ih=>simp[Cu,ih]
theorem N1(s:List (BitVec 32))(d:List Int):(Nz s d).length=d.length:=Em _ _ _
theorem P3(s:List (BitVec 32)){d:List Int}(hd:∀ x∈d,0≤x∧x<256)(k:Nat):∀ n∈Cu s d k,0≤n∧n<256:=by
 induction k with
 | zero=>intro n hn;cases hn
 | succ k ih =>
  intro n hn;rcases List.mem_append.1 hn with h|h
  ·exact ih n h
  ·obtain rfl:n=_:=by simpa using h
   exact LS (Qe _ _) (Ak hd k)
theorem RT(s:List (BitVec 32)){d:List Int}(hd:∀ x∈d,0≤x∧x<256):∀ n∈Nz s d,0≤n∧n<256:=P3 s hd _
theorem BO{P:Program}{ops:Array Oper}{w:World}{Q:Act→Prop}:∀ (l:List Oper) (a:Act),wpQuiet P ops (fun w'=>w'=w) Q l a→wpStill P ops w Q l a
 | [],_,h=>h
 | o::rest,a,h=>by
  unfold wpQuiet at h;unfold wpStill;split
  ·rename_i hw
   rw[if_pos hw]at h
   obtain⟨v,h1,h2⟩:=h;have h3:=h1 w rfl;unfold Oper.quietAt at h3;unfold Oper.still;generalize (execOp a.eval o).run P w=r at h3 ⊢;cases r with
   | ok n w' =>
    cases n<;>simp only[Oper.quietUpon]at h3<;>simp only[Oper.stillUpon]
    case value u =>
     obtain⟨e1,e2⟩:=h3;rw[e2];exact⟨e1,BO rest _ h2⟩
    case skip =>
     obtain⟨e1,e2⟩:=h3;rw[← e2];exact⟨e1,BO rest _ h2⟩
    case enter f args=>exact⟨h3.1,v,h3.2,BO rest _ h2⟩
   | halt x w'=>simp only[Oper.quietUpon]at h3
  ·rename_i hw
   rw[if_neg hw]at h
   exact BO rest _ h
theorem Aq{P:Program}{id:Nat}{Q:Exit→Act→World→Prop}{a:Act}{w:World}{l:List Oper}(n:Nat)(hm:P.follows .mixedOrders=true)(hB:Region.lexTailB .any l.toArray n=true)
  (h:wpQuiet P l.toArray (fun w'=>w'=w.drew) (fun a'=>wpList P l.toArray Q (l.drop n) a' w.drew) (l.take n) a):(Code.region id l.toArray true).wp P Q a w :=
 wp_region_still_tail n hm hB (BO _ _ h)
theorem UT{a b:Int}(h:a=b):Ending.returned (.int .u32 a)=.returned (.int .u32 b):=by rw[h]
theorem XT(n:Nat)(h1:n≤31):bits .and .u64 (n:Int) 31=(n:Int):=by
 rw[show(31:Int)=((31:Nat):Int)from rfl,u64_and_nat _ _ (by omega) (by omega),nat_mask5];omega
theorem Xx(x:BitVec 32)(n:Nat)(h0:1≤n)(h1:n≤31):bits .or .u32 (uw x*2^n%4294967296) (uw x/2^(32-n))=uw (x.rotateLeft n):=by
 rw[Fg,MD,I7,Ql];rw[BitVec.rotateLeft_def,Nat.mod_eq_of_lt (by omega:n<32)]
theorem UX(x:BitVec 32)(n:Nat)(w:World)(h0:1≤n)(h1:n≤31) :
  Calls prog 242 #[.int .u32 (uw x),.int .i64 (n:Int)] w fun e w'=>e=.returned (.int .u32 (uw (x.rotateLeft n)))∧w'=w:=by
 have a1:=CV x;have a2:=V6 x;have a3:=XT n h1;go_enter func242,ntmps242
 go_wp2
 go_ret;exact⟨UT (Xx x n h0 h1),rfl⟩
theorem Xe(v:Int)(x:BitVec 32)(hv:v=uw x)(n:Nat)(w:World)(h0:1≤n)(h1:n≤31) :
  Calls prog 242 #[.int .u32 v,.int .i64 (n:Int)] w fun e w'=>e=.returned (.int .u32 (uw (x.rotateLeft n)))∧w'=w:=by
 subst hv;exact UX x n w h0 h1
theorem DW{w:World}{g:Nat}{ws:List (BitVec 32)}(h:w.heap[g]?=some (.cells (Av ws) 233 (0,0)))(k:Nat)(x:BitVec 32) :
  (w.setCell ⟨g,k,none⟩ (.int .u32 (uw x))).heap[g]?=some (.cells (Av (ws.set k x)) 233 (0,0)):=by
 rw[heap_setCell_same _ _ _ _ _ _ h,Ki]
theorem Gx(g:Nat)(ws:List (BitVec 32))(w:World)(hw:w.heap[g]?=some (.cells (Av ws) 233 (0,0)))(hl:ws.length=16)(a b t n:Nat)(ha:a<16)(hb:b<16)(ht:t<16)(h0:1≤n)(h1:n≤31) :
  Calls prog 254 #[.pointer (some ⟨g,0,none⟩),.int .i64 a,.int .i64 b,.int .i64 t,.int .i64 n] w fun e w'=>e=.returned (.tuple #[])∧w'.heap[g]?=some (.cells (Av (Iq ws a b t n)) 233 (0,0))∧Below g w w':=by
 have ca:=(cell_of_row w _ a _ _ _ hw).trans (Bw ws a (by omega));have cb:=(cell_of_row w _ b _ _ _ hw).trans (Bw ws b (by omega));have fa:=frozen_of_row w _ a _ _ hw;have HA:Hid (Kz ws a b=ws.set a (ws.getD a 0#32+ws.getD b 0#32)):=rfl;have HW:Hid _:=hw;have HL:Hid (ws.length=16):=hl;clear hw hl;generalize ws.getD a 0#32=x at ca HA;generalize ws.getD b 0#32=y at cb HA;go_enter func254,ntmps254
 go_wp2_with fail
 refine Aq 13 (by kernel_rfl) (by kernel_rfl) ?_;simp only[List.take_succ_cons,List.take_zero,List.drop_succ_cons,List.drop_zero]
 repeat (go_big_quiet_step (fail))
 refine wpQuiet_nil ?_;go_wp2_with fail
 rw[Cy];generalize hW1:(w.setCell _ _).drew=W1;have r1:W1.heap[g]?=some (.cells (Av (Kz ws a b)) 233 (0,0)):=by rw[← hW1,HA.out];exact DW HW.out a _
 have b1:Below g w W1:=by rw[← hW1];exact((Below.refl g w).setCell (p:=⟨g,a,none⟩) (Nat.le_refl _) _).drew
 have hl1:(Kz ws a b).length=16:=by rw[Ip];exact HL.out
 have H2:Hid (Iq ws a b t n=(Kz ws a b).set t (((Kz ws a b).getD t 0#32 ^^^ (Kz ws a b).getD a 0#32).rotateLeft n)):=rfl;clear hW1 HA HW HL ca cb fa;generalize Kz ws a b=vs at r1 hl1 H2;have ca:=(cell_of_row W1 _ a _ _ _ r1).trans (Bw vs a (by omega));have ct:=(cell_of_row W1 _ t _ _ _ r1).trans (Bw vs t (by omega));have ft:=frozen_of_row W1 _ t _ _ r1;generalize vs.getD a 0#32=x2 at ca H2;generalize vs.getD t 0#32=y2 at ct H2;have HR:Hid _:=r1;clear r1 hl1;refine Aq 17 (by kernel_rfl) (by kernel_rfl) ?_;simp only[List.take_succ_cons,List.take_zero,List.drop_succ_cons,List.drop_zero]
 repeat (go_big_quiet_step (fail))
 go_big_quiet_want
 go_big_quiet_op
 refine⟨_,Xe _ (y2 ^^^ x2) (CG y2 x2) n _ h0 h1,?_⟩
 go_big_quiet_on
 repeat (go_big_quiet_step (fail))
 refine wpQuiet_nil ?_;go_wp2
 go_end0
 refine⟨rfl,?_,b1.trans (((Below.refl g W1).setCell (p:=⟨g,t,none⟩) (Nat.le_refl _) _).drew)⟩;rw[H2.out];exact DW (w:=W1.drew) HR.out t _
theorem Od(g:Nat)(ws:List (BitVec 32))(w:World)(hw:w.heap[g]?=some (.cells (Av ws) 233 (0,0)))(hl:ws.length=16)(a b c d:Nat)(ha:a<16)(hb:b<16)(hc:c<16)(hd:d<16) :
  Calls prog 243 #[.pointer (some ⟨g,0,none⟩),.int .i64 a,.int .i64 b,.int .i64 c,.int .i64 d] w fun e w'=>e=.returned (.tuple #[])∧w'.heap[g]?=some (.cells (Av (JJ ws a b c d)) 233 (0,0))∧Below g w w':=by
 go_enter func243,ntmps243
 go_wp2_with fail
 refine(Gx g ws w hw hl a b d 16 ha hb hd (by omega) (by omega)).mono ?_;rintro e w1 ⟨rfl,r1,b1⟩;go_wp2_with fail
 refine(Gx g _ w1 r1 (by rw[B0];exact hl) c d b 12 hc hd hb (by omega) (by omega)).mono ?_;rintro e w2 ⟨rfl,r2,b2⟩;go_wp2_with fail
 refine(Gx g _ w2 r2 (by rw[B0,B0];exact hl) a b d 8 ha hb hd (by omega) (by omega)).mono ?_;rintro e w3 ⟨rfl,r3,b3⟩;go_wp2_with fail
 refine(Gx g _ w3 r3 (by rw[B0,B0,B0];exact hl) c d b 7 hc hd hb (by omega) (by omega)).mono ?_;rintro e w4 ⟨rfl,r4,b4⟩;go_wp2
 go_end0
 exact⟨rfl,r4,((b1.trans b2).trans b3).trans b4⟩
end Go.Proofs.YtakgfdbjgeopdaaGreatDoor
namespace Go.Proofs.YtakgfdbjgeopdaaGreatDoor
theorem AB:(prog.info? 5).map (fun i=>(i.zero,i.size,i.bytes))=some (some (.int .u8 0),1,1):=by kernel_rfl
end Go.Proofs.YtakgfdbjgeopdaaGreatDoor
