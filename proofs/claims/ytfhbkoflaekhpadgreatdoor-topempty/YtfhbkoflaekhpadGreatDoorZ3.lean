/- Part 3 of the walk. -/
import Derived.Deep.RegionHeld3
import Derived.Laws.CopyRow
import Derived.Deep.Cut
import Derived.Laws.Strings2
import Derived.Test.YtfhbkoflaekhpadGreatDoorCards
import Derived.Test.YtfhbkoflaekhpadGreatDoorTie
import Derived.SizedLaws
import Derived.ChangeOld
import Derived.ChangeSame
import Derived.ChangeMaps5
import Derived.Deep.DeepHandedRow
import Derived.Lib.LaidTab
import Derived.Deep.Strs
import Derived.Test.YtfhbkoflaekhpadGreatDoorZ2
set_option maxRecDepth 100000
set_option maxHeartbeats 4000000
open Go.Proofs.Tryz
set_option linter.unusedVariables false
namespace Go.Proofs.YtfhbkoflaekhpadGreatDoor
section
structure Lac where
 k:Int
 n:Int
 a:Int
 p:Int
 d:List Int
def Fp(k:Int):Bool:=decide (k=1∨k=2∨k=3∨k=9∨k=8)
def Ha(k:Int):Bool:=decide (4≤k∧k≤6)
def Hb(k:Int):Bool:=decide (k=8)
def Zr(x:Lac):Int :=
 if ¬ (1≤x.k∧x.k≤9)then 4
 else if(Fp x.k=true∧¬ (0≤x.n∧x.n≤4))∨(Ha x.k=true∧¬ (0≤x.a∧x.a≤1048576))∨(Hb x.k=true∧¬ (0≤x.p∧x.p≤100000))then 2
 else if 2000<x.d.length then 1
 else if(Fp x.k=false∧x.n≠0)∨(Ha x.k=false∧x.a≠0)∨(Hb x.k=false∧x.p≠0)∨(x.k≠1∧x.d≠[])then 3
 else 0
structure LacOk(x:Lac):Prop where
 k:1≤x.k∧x.k≤9
 n:Fp x.k=true→0≤x.n∧x.n≤4
 a:Ha x.k=true→0≤x.a∧x.a≤1048576
 p:Hb x.k=true→0≤x.p∧x.p≤100000
 d:x.d.length≤2000
 n0:Fp x.k=false→x.n=0
 a0:Ha x.k=false→x.a=0
 p0:Hb x.k=false→x.p=0
 d0:x.k≠1→x.d=[]
theorem Hq{x:Lac}:Zr x=0↔LacOk x:=by
 unfold Zr;constructor
 ·intro h;by_cases h1:1≤x.k∧x.k≤9
  ·rw[if_neg (fun e=>e h1)]at h
   by_cases h2:(Fp x.k=true∧¬ (0≤x.n∧x.n≤4))∨(Ha x.k=true∧¬ (0≤x.a∧x.a≤1048576))∨(Hb x.k=true∧¬ (0≤x.p∧x.p≤100000))
   ·rw[if_pos h2]at h;omega
   ·rw[if_neg h2]at h
    by_cases h3:2000<x.d.length
    ·rw[if_pos h3]at h;omega
    ·rw[if_neg h3]at h
     by_cases h4:(Fp x.k=false∧x.n≠0)∨(Ha x.k=false∧x.a≠0)∨(Hb x.k=false∧x.p≠0)∨(x.k≠1∧x.d≠[])
     ·rw[if_pos h4]at h;omega
     ·simp only[not_or,not_and,Decidable.not_not]at h2 h4;exact⟨h1,fun e=>by have:=h2.1 e;omega,fun e=>by have:=h2.2.1 e;omega,fun e=>by have:=h2.2.2 e;omega,by omega,h4.1,h4.2.1,h4.2.2.1,h4.2.2.2⟩
  ·rw[if_pos h1]at h;omega
 ·intro h;rw[if_neg (fun e=>e h.k),if_neg,if_neg (by have:=h.d;omega),if_neg]
  ·rintro(⟨h1,h2⟩|⟨h1,h2⟩|⟨h1,h2⟩|⟨h1,h2⟩)
   ·exact h2 (h.n0 h1)
   ·exact h2 (h.a0 h1)
   ·exact h2 (h.p0 h1)
   ·exact h2 (h.d0 h1)
  ·rintro(⟨h1,h2⟩|⟨h1,h2⟩|⟨h1,h2⟩)
   ·exact h2 (h.n h1)
   ·exact h2 (h.a h1)
   ·exact h2 (h.p h1)
def Td(k:Int):List Int :=
 if k=1 then[115,117,98,109,105,116]else if k=2 then[108,101,97,100]else if k=3 then[115,116,101,112]else if k=4 then[99,97,114,114,121]else if k=5 then[108,111,115,101]
 else if k=6 then[100,111,117,98,108,101]else if k=7 then[97,108,108]else if k=8 then[99,114,97,115,104]else if k=9 then[115,116,97,114,116]else[]
end
section
open Go.RowKit
section
variable{P:Program}{md:Region.Mode}{ops:Array Oper}{Q:Exit→Act→World→Prop}{S:World→Prop}
theorem Xd{i d:Nat}{o:Oper}{a:Act}{w w':World}{v:Value}{K:Act→World→Prop}(ho:ops[i]?=some o)(hw:Region.wanted o (yielded ops a.tmps)=true)(hd:o.dst=some d)
  (hrun:(execOp a.eval o).run P w=.ok (.value v) w')(h:K (a.put (some d) v) w'):wpOp P ops Q i K a w :=
 wpOp_step ho fun K' hK=>by
  rw[if_pos hw];unfold Oper.wp;rw[hrun,Oper.upon_value];exact hK _ _ (by rw[hd];exact h)
theorem GM{i d:Nat}{o:Oper}{a:Act}{w:World}{f:FuncId}{args:Array Value}{K:Act→World→Prop}(ho:ops[i]?=some o)(hw:Region.wanted o (yielded ops a.tmps)=true)(hd:o.dst=some d)
  (hrun:(execOp a.eval o).run P w=.ok (.enter f args) w)(h:Calls P f args w fun e w'=>∃ v,e=.returned v∧K (a.put (some d) v) w'):wpOp P ops Q i K a w :=
 wpOp_step ho fun K' hK=>by
  rw[if_pos hw];unfold Oper.wp;rw[hrun,Oper.upon_enter];refine h.mono fun e w' hh=>?_;obtain⟨v,rfl,hv⟩:=hh;exact hK _ _ (by rw[hd];exact hv)
theorem Hx{i:Nat}{o:Oper}{a:Act}{w:World}{K:Act→World→Prop}(ho:ops[i]?=some o)(hw:Region.wanted o (yielded ops a.tmps)=true)(hd:o.dst=none)(ty:TypeId)(x y:Operand)(hop:o.op=.store ty x y)
  (g:Nat)(cells:Array Value)(hx:a.eval x=.pointer (some ⟨g,0,none⟩))(hy:a.eval y=.agg cells)
  (t:TypeId)(old:Array Value)(hg:w.heap[g]?=some (.cells old t (0,0)))(hi:(P.info? ty).map (·.size)=some cells.size)
  (hold:old.size=cells.size)(h1:cells.all (·.oneCell')=true)(h:K a (w.setRow g cells)):wpOp P ops Q i K a w :=
 wpOp_step ho fun K' hK=>by
  rw[if_pos hw];exact wp_store_row ty x y hop g cells hx hy t old hg hi hold h1 (hK _ _ (by rw[hd];exact h))
theorem BE{i fuel:Nat}{L:Array Bool}{a:Act}{w:World}(hr:Region.ready md ops L=[i])
  (h:wpOp P ops Q i (fun a' w'=>S w'∧wpAnyH P md ops Q S fuel (L.setIfInBounds i true) a' w') a w):wpAnyH P md ops Q S (fuel+1) L a w :=
 wpAnyH_all hr (by simp) (fun j hj=>by
  obtain rfl:j=i:=by simpa using hj
  exact h)
theorem Zg{i i' fuel:Nat}{L:Array Bool}{a:Act}{w:World}(hr:Region.ready md ops L=[i,i'])
  (h:wpOp P ops Q i (fun a' w'=>S w'∧wpAnyH P md ops Q S fuel (L.setIfInBounds i true) a' w') a w)
  (h':wpOp P ops Q i' (fun a' w'=>S w'∧wpAnyH P md ops Q S fuel (L.setIfInBounds i' true) a' w') a w):wpAnyH P md ops Q S (fuel+1) L a w :=
 wpAnyH_all hr (by simp) (fun j hj=>by
  rcases(show j=i∨j=i' by simpa using hj)with rfl|rfl
  ·exact h
  ·exact h')
theorem Ag{i:Nat}(d:Nat){oi:Oper}{v:Value}{fuel:Nat}{listed:Array Bool}{a:Act}{w:World}(hi:ops[i]?=some oi)(hd:oi.dst=some d)
  (hs:Region.noSelect ops=true)(hf:Region.free md ops listed i=true)(hr:(Region.ready md ops listed).contains i=true)
  (hQ:∀ c a w,Q (.panic c) (a.put (some d) v) w→Q (.panic c) a w)(hy:YieldsIf P ops S oi v a)(hS:S w)
  (h:wpAnyH P md ops Q S fuel (listed.setIfInBounds i true) (a.put (some d) v) w):wpAnyH P md ops Q S (fuel+1) listed a w :=
 wpAnyH_take hi hs hf hr (by rw[hd];exact hQ) hy hS (by rw[hd];exact h)
theorem Gi{op:Oper}{a:Act}(hw:Region.wanted op (yielded ops a.tmps)=true)(ty:TypeId)(x:Operand)(ho:op.op=.load ty x)(d:TypeDesc)(hu:P.underlying ty=some d)(hd:d.isRow=false)
  (p:Addr)(hx:a.eval x=.pointer (some p))(v:Value)(hS:∀ w,S w→w.cell? p=some v):YieldsIf P ops S op v a :=
 .inl ⟨hw,fun w hw'=>by
  have hagg:(isAgg ty).run P w=.ok false w:=by
   unfold isAgg;rw[Sem.run_bind,run_underlying hu w];cases d<;>simp_all[TypeDesc.isRow]
  have hl:(loadVar ty p).run P w=.ok v w:=by simp[loadVar,hagg,hS w hw',go_sem]
  unfold execOp;simp only[ho,hx,Instr.loadAt,Instr.sureAddr,Sem.run_bind,Sem.run_pure,Result.andThen_ok,hl]⟩
end
theorem En{P:Program}{ops:Array Oper}{Q:Exit→Act→World→Prop}{l:List Oper}{a:Act}{w:World}(h:wpList P ops Q l a w):wpList P ops Q l a w:=h
theorem Cv{B:Nat}{a w:World}(h:Below B a w){g:Nat}(hg:B≤g)(cs:Array Value):Below B a (w.setRow g cs) :=
 h.trans ⟨rfl,rfl,rfl,by simp,fun k hk=>setRow_other w g k cs (by omega)⟩
theorem EZ{w:World}{b b' e k8:Nat}{v:Value}{n:Nat}{xs:List Value}(h:w.ownsRow b e k8 v n xs)(hb:b'≤b):w.ownsRow b' e k8 v n xs:=by
 refine⟨h.1,?_⟩;rcases h.2 with h2|⟨g,cap,cur,hv,hbg,hr⟩
 ·exact .inl h2
 ·exact .inr ⟨g,cap,cur,hv,Nat.le_trans hb hbg,hr⟩
theorem Da{w w':World}{base e k8:Nat}{v:Value}{n:Nat}{xs:List Value}(h:w.ownsRow base e k8 v n xs)(hk:∀ k,v.ownBlock=some k→w'.heap[k]?=w.heap[k]?):w'.ownsRow base e k8 v n xs:=by
 refine⟨h.1,?_⟩;rcases h.2 with h2|⟨g,cap,cur,hv,hb,hg,hr⟩
 ·exact .inl h2
 ·exact .inr ⟨g,cap,cur,hv,hb,(hk g (by rw[hv];rfl)).trans hg,hr⟩
theorem XW{P:Program}{fn:Func}{p:Tmp}{ty:TypeId}(h:fn.results=#[.cell p ty])(tmps:Array Value)(w:World)(g:Nat)(t:TypeId)(cs:Array Value)(fr:Nat × Nat)(d:TypeDesc)
  (hp:tmps.getD p undef=.pointer (some ⟨g,0,none⟩))(hg:w.heap[g]?=some (.cells cs t fr))
  (hu:P.underlying ty=some d)(hd:(match d with|.struct _|.array _ _=>true|_=>false)=true)(hi:(P.info? ty).map (·.size)=some cs.size) :
  (results fn tmps).run P w=.ok (.agg cs) w:=by
 have hp':tmps[p]?.getD undef=.pointer (some ⟨g,0,none⟩):=by simpa using hp
 simp[results,h,hp',asAddr,run_loadVar_row w g t ty cs fr d hg hu hd hi]
theorem SO{P:Program}{fn:Func}{p u:Tmp}{ty:TypeId}(h:fn.results=#[.cell p ty,.tmp u])(tmps:Array Value)(w:World)(g:Nat)(t:TypeId)(cs:Array Value)(fr:Nat × Nat)(d:TypeDesc)
  (hp:tmps.getD p undef=.pointer (some ⟨g,0,none⟩))(hg:w.heap[g]?=some (.cells cs t fr))
  (hu:P.underlying ty=some d)(hd:(match d with|.struct _|.array _ _=>true|_=>false)=true)(hi:(P.info? ty).map (·.size)=some cs.size) :
  (results fn tmps).run P w=.ok (.tuple #[.agg cs,tmps.getD u undef]) w:=by
 have hp':tmps[p]?.getD undef=.pointer (some ⟨g,0,none⟩):=by simpa using hp
 simp[results,h,hp',asAddr,run_loadVar_row w g t ty cs fr d hg hu hd hi]
theorem Sl.shapeT{w:World}{v:Value}{l:List Int}(h:Sl w v l):∃ a cap,v=.slice a l.length cap:=by
 obtain⟨⟨a,cap,e,_⟩,_,_⟩:=h;exact⟨a,cap,e⟩
theorem Sl.cellsT{w:World}{ad:Addr}{n cap:Nat}{m:List Int}(h:Sl w (.slice (some ad) n cap) m):∀ j u,(m.map (Value.int .u8))[j]?=some u→w.cell? (ad.add j)=some u:=by
 intro j u hj;obtain⟨⟨a,cp,e,hc,hn,h1⟩,_⟩:=h;simp only[Value.slice.injEq]at e;obtain⟨rfl,rfl,rfl⟩:=e;rcases h1 with rfl|⟨b,off,hab,_,hcell⟩
 ·simp at hj
 ·obtain rfl:ad=⟨b,off,none⟩:=by simpa using hab
  have hjl:j<m.length:=by
   have:=(List.getElem?_eq_some_iff.1 hj).1;simpa using this
  have hadd:(⟨b,off,none⟩:Addr).add j=⟨b,off+j,none⟩:=by unfold Addr.add;split<;>simp_all
  rw[hadd,hcell j hjl];simp[List.getElem?_eq_getElem hjl]at hj
  rw[AN hjl,hj]
theorem P8{P:Program}(w:World)(base dT sT ty e:Nat)(hu:P.underlying dT=some (.slice e))(hs:(P.info? e).map (·.size)=some 1)(g n:Nat)(xs:List Value)(hown:w.ownsRow base e 1 (.slice (some ⟨g,0,none⟩) n n) n xs)(u:Value)(m:List Int)(hm:n≤m.length)(hv:Sl w u m) :
  ∃ w',(Builtin.copy_ #[dT,sT] ty #[.slice (some ⟨g,0,none⟩) n n,u]).run P w=.ok (goInt n) w'∧w'.ownsRow base e 1 (.slice (some ⟨g,0,none⟩) n n) n ((m.take n).map (Value.int .u8))∧Below g w w':=by
 obtain⟨i,hq,hi⟩:∃ i,P.info? e=some i∧i.size=1:=by
  cases hq:P.info? e with
  | none=>rw[hq]at hs;cases hs
  | some i=>rw[hq]at hs;exact⟨i,rfl,by simpa using hs⟩
 rcases hown.2 with⟨h0,_⟩|⟨g',cap,cur,hvv,hbg,hg,hnc,hcm,hcs,ht⟩
 ·cases h0
 ·simp only[Value.slice.injEq,Option.some.injEq,Addr.mk.injEq]at hvv;obtain⟨⟨rfl,_⟩,_,rfl⟩:=hvv;have hv2:=hv;obtain⟨⟨a,cp,rfl,hc,hn,h1⟩,_⟩:=hv;have hmin:Nat.min m.length n=n:=Nat.min_eq_right hm;cases a with
  | none =>
   have hc0:=hn rfl;subst hc0;have hm0:n=0:=by omega
   subst hm0;refine⟨w,?_,⟨by simp,.inr ⟨g,0,cur,rfl,hbg,hg,hnc,hcm,hcs,by simp⟩⟩,Below.refl _ _⟩;simp[Builtin.copy_,run_underlying hu,Builtin.lenOf,Builtin.firstCells,sizeOf,typeInfo,hq,storeCells]
  | some ad =>
   have htl:((m.take n).map (Value.int .u8)).length=n:=by simp;omega
   have hl:=run_firstCells_some (P:=P) w 1 n ad m.length cp ((m.take n).map (Value.int .u8)) (by rw[htl];omega) (fun j v hj=>hv2.cellsT j v (by
    rw[List.map_take,List.getElem?_take]at hj
    split at hj
    ·exact hj
    ·cases hj))
   have hst:=run_storeCells_at P g 0 e ((m.take n).map (Value.int .u8)) 0 cur w hg (by rw[htl];omega) (Ey (m.take n));have hfull:(cur.toList.take (0+0)++(m.take n).map (Value.int .u8)++cur.toList.drop (0+0+((m.take n).map (Value.int .u8)).length))=(m.take n).map (Value.int .u8):=by
    rw[htl,List.drop_eq_nil_of_le (by rw[Array.length_toList];omega)];simp
   rw[hfull]at hst
   refine⟨w.setRow g ((m.take n).map (Value.int .u8)).toArray,?_,⟨by rw[htl];omega,.inr ⟨g,n,((m.take n).map (Value.int .u8)).toArray,rfl,hbg,setRow_heap w g cur _ e _ hg,Nat.le_refl _,hcm,by rw[List.size_toArray,htl];omega,?_⟩⟩,?_⟩
   ·simp[-List.map_take,Builtin.copy_,run_underlying hu,Builtin.lenOf,sizeOf,typeInfo,hq,hi,hmin,hl,hst]
   ·rw[List.take_of_length_le (by show((m.take n).map (Value.int .u8)).length≤_;rw[htl];omega)]
   ·exact⟨rfl,rfl,rfl,by simp,fun k hk=>setRow_other w g k _ (by omega)⟩
theorem L8{P:Program}(w:World){ops:Array Oper}{rest:List Oper}{o:Oper}{a:Act}{Q:Exit→Act→World→Prop}(hgd:o.guard=none)(d s:Operand)(dT sT:TypeId)
  (ho:o.op=.call { callee:=.builtin .copy,args:=#[d,s],argTypes:=#[dT,sT] })
  (base e:Nat)(hu:P.underlying dT=some (.slice e))(hs:(P.info? e).map (·.size)=some 1)(g n:Nat)(xs:List Value)(hd:a.eval d=.slice (some ⟨g,0,none⟩) n n)(hown:w.ownsRow base e 1 (.slice (some ⟨g,0,none⟩) n n) n xs)(u:Value)(hu':a.eval s=u)(m:List Int)(hm:n≤m.length)(hv:Sl w u m)(t:List Int)(htm:t=m.take n)
  (h:∀ w',w'.ownsRow base e 1 (.slice (some ⟨g,0,none⟩) n n) n (t.map (Value.int .u8))→Below g w w'→wpList P ops Q rest (a.put o.dst (goInt n)) w'):wpList P ops Q (o::rest) a w:=by
 subst htm;refine wpList_plain hgd fun K hK=>?_;obtain⟨w',hrun,r1,r2⟩:=P8 (P:=P) w base dT sT o.type e hu hs g n xs hown u m hm hv;unfold Oper.wp execOp;simp only[ho,resolve,invoke,builtin,Sem.run_bind,Sem.run_pure,Result.andThen_ok,List.map_toArray,List.map_cons,List.map_nil,hd,hu',hrun];exact hK _ _ (h w' r1 r2)
theorem LA{P:Program}(w:World){ops:Array Oper}{rest:List Oper}{o:Oper}{a:Act}{Q:Exit→Act→World→Prop}
  (hg:o.guard=none)(l c:Operand)(t:TypeId)(hop:o.op=Op.makeSlice t l c)(base:Nat)(e:TypeId)(h1:P.underlying t=some (.slice e))(hinfo:(P.info? e).map (fun i=>(i.zero,i.size,i.bytes))=some (some (.int .u8 0),1,1))
  (n:Nat)(hl:a.eval l=.int .i64 (n:Int))(hc:a.eval c=.int .i64 (n:Int))(hn:n≤140737488351232)(b4:base≤w.heap.size)
  (hK:∀ w',Hid (∃ xs,w'.ownsRow base e 1 (.slice (some ⟨w.heap.size,0,none⟩) n n) n xs)→w.grownBy w' none→wpList P ops Q rest (a.put o.dst (.slice (some ⟨w.heap.size,0,none⟩) n n)) w'):wpList P ops Q (o::rest) a w:=by
 obtain⟨i0,hi,hz0,hz1,hz2⟩:=info_parts hinfo;refine wpList_make_full w hg l c t hop base e i0 (.int .u8 0) 1 h1 hi hz0 hz1 _ _ _ _ n hl hc rfl rfl (by rw[hz2];omega) (by unfold maxLen;omega) b4 (fun w' o1 g1=>hK w' ⟨_,o1⟩ g1)
theorem DJ(w:World)(o1:Obj):(w.alloc o1).heap[w.heap.size]?=some o1:=heap_alloc_new w o1
theorem BJ(w:World)(o1:Obj):Bw w (w.alloc o1):=(Below.refl _ _).alloc (Nat.le_refl _) _
theorem RK(w:World)(o1 o2:Obj):((w.alloc o1).alloc o2).heap[w.heap.size]?=some o1:=heap_alloc2_old w o1 o2
theorem RL(w:World)(o1 o2:Obj):((w.alloc o1).alloc o2).heap[w.heap.size+1]?=some o2:=heap_alloc2_new w o1 o2
theorem UE(w:World)(o1 o2:Obj):Bw w ((w.alloc o1).alloc o2):=((Below.refl _ _).alloc (Nat.le_refl _) _).alloc (by simp) _
theorem DY{w:World}{base e k8:Nat}{v:Value}{n:Nat}{xs:List Value}(h:w.ownsRow base e k8 v n xs):∃ g c,v=.slice g n c:=by
 rcases h.2 with⟨rfl,h0⟩|⟨g,cap,cur,hv,_⟩
 ·exact⟨none,0,by rw[h0]⟩
 ·exact⟨_,_,hv⟩
theorem XX{P:Program}{id:Nat}{ops:Array Oper}{K:Act→World→Prop}{Q:Exit→Act→World→Prop}{a:Act}{w:World}(R:World→Prop){A:Act}
  (hreg:∀ K':Act→World→Prop,Hid (∀ W2,R W2→K' A W2)→(Code.region id ops true).wp P (Exit.then K' Q) a w)(hrest:∀ W2,R W2→K A W2):(Code.region id ops true).wp P (Exit.then K Q) a w:=hreg K hrest
theorem XY{P:Program}{id:Nat}{ops:Array Oper}{K:Act→World→Prop}{Q:Exit→Act→World→Prop}{a:Act}{w:World}(R:Option Addr→Nat→World→Prop){A:Option Addr→Nat→Act}
  (hreg:∀ K':Act→World→Prop,Hid (∀ g c W2,R g c W2→K' (A g c) W2)→(Code.region id ops true).wp P (Exit.then K' Q) a w)(hrest:∀ g c W2,R g c W2→K (A g c) W2):(Code.region id ops true).wp P (Exit.then K Q) a w:=hreg K hrest
theorem Lm{w:World}{g:Nat}{cs:List Value}{t:TypeId}{fr:Nat × Nat}(h:w.heap[g]?=some (.cells cs.toArray t fr)):w.rangeAt g 0 cs:=fun j u hj=>by
 rw[cell_of_row _ _ (0+j) _ _ _ h];simpa using hj
theorem Ln{w:World}{base k8 n:Nat}{v:Value}{xs:List Value}(h:w.ownsRow base 5 k8 v n xs){g:Nat}{cs:Array Value}{t:TypeId}{fr:Nat × Nat}(hg:w.heap[g]?=some (.cells cs t fr))(ht:t≠5):∀ k,v.ownBlock=some k→k≠g:=by
 intro k hk e;rcases h.2 with⟨h1,_⟩|⟨q,cap,cur,h1,_,h2,_⟩
 ·rw[h1]at hk;cases hk
 ·rw[h1]at hk
  have hk':q=k:=by simpa[Value.ownBlock]using hk
  rw[hk',e,hg]at h2
  simp only[Option.some.injEq,Obj.cells.injEq]at h2;exact ht h2.2.1
theorem UC{w:World}{base k8 n:Nat}{v:Value}{xs:List Value}(h:w.ownsRow base 5 k8 v n xs){g:Nat}{cs:Array Value}{t:TypeId}{fr:Nat × Nat}(hg:w.heap[g]?=some (.cells cs t fr))(ht:t≠5)(cs':Array Value):(w.setRow g cs').ownsRow base 5 k8 v n xs :=
 Da h (fun k hk=>setRow_other _ _ _ _ (Ln h hg ht k hk))
theorem fe:(prog.info? 5).map (·.size)=some 1:=by kernel_rfl
theorem NN{P:Program}(w:World)(b o:Nat)(ty:TypeId)(v old:Value)(hc:w.cell? ⟨b,o,none⟩=some old)(hf:w.frozen? ⟨b,o,none⟩=false)(hi:(P.info? ty).map (·.size)=some 1)(hv:v.oneCell'=true) :
  (storeVar ty ⟨b,o,none⟩ v).run P w=.ok () (w.setCell ⟨b,o,none⟩ v):=by
 cases h:P.info? ty with
 | none=>rw[h]at hi;cases hi
 | some i =>
  rw[h]at hi
  simp at hi;have hadd:(⟨b,o,none⟩:Addr).add 0=⟨b,o,none⟩:=by unfold Addr.add;split<;>simp_all
  have hs:(Go.store ⟨b,o,none⟩ v .plain).run P w=.ok () (w.setCell ⟨b,o,none⟩ v):=by
   rw[run_store P w _ v .plain hv,hc];simp[hf]
  have hcs:v.cells=#[v]:=by cases v<;>first|rfl|cases hv
  unfold storeVar;rw[hcs];simp[sizeOf,typeInfo,h,hi,storeCells,hadd,hs,Result.andThen]
theorem Oj{P:Program}{op:Oper}{a:Act}{w:World}{K:Act→World→Prop}{Q:Exit→Act→World→Prop}(ty:TypeId)(x y:Operand)(ho:op.op=.store ty x y)
  (b o:Nat)(v old:Value)(hx:a.eval x=.pointer (some ⟨b,o,none⟩))(hy:a.eval y=v)(hc:w.cell? ⟨b,o,none⟩=some old)(hf:w.frozen? ⟨b,o,none⟩=false)(hi:(P.info? ty).map (·.size)=some 1)(hv:v.oneCell'=true)
  (h:K (a.put op.dst undef) (w.setCell ⟨b,o,none⟩ v)):op.wp P a w K Q:=by
 unfold Oper.wp execOp;simp only[ho,hx,hy,Instr.storeAt,Instr.sureAddr,Sem.run_bind,Sem.run_pure,Result.andThen_ok,NN w b o ty v old hc hf hi hv];exact h
theorem Rl{P:Program}{ops:Array Oper}{Q:Exit→Act→World→Prop}{i:Nat}{o:Oper}{a:Act}{w:World}{K:Act→World→Prop}(ho:ops[i]?=some o)(hw:Region.wanted o (yielded ops a.tmps)=true)(hd:o.dst=none)(ty:TypeId)(x y:Operand)(hop:o.op=.store ty x y)
  (b k:Nat)(v old:Value)(hx:a.eval x=.pointer (some ⟨b,k,none⟩))(hy:a.eval y=v)(hc:w.cell? ⟨b,k,none⟩=some old)(hf:w.frozen? ⟨b,k,none⟩=false)(hi:(P.info? ty).map (·.size)=some 1)(hv:v.oneCell'=true)
  (h:K a (w.setCell ⟨b,k,none⟩ v)):wpOp P ops Q i K a w :=
 wpOp_step ho fun K' hK=>by
  rw[if_pos hw];exact Oj ty x y hop b k v old hx hy hc hf hi hv (hK _ _ (by rw[hd];exact h))
structure Only(b:Nat)(w w':World):Prop where
 os:w'.os=w.os
 tape:w'.tape=w.tape
 output:w'.output=w.output
 size:w'.heap.size=w.heap.size
 other:∀ k,k≠b→w'.heap[k]?=w.heap[k]?
theorem Only.refl(b:Nat)(w:World):Only b w w:=⟨rfl,rfl,rfl,rfl,fun _ _=>rfl⟩
theorem Only.trans{b:Nat}{w w' w'':World}(h:Only b w w')(k:Only b w' w''):Only b w w'' :=
 ⟨k.os.trans h.os,k.tape.trans h.tape,k.output.trans h.output,k.size.trans h.size,fun i hi=>(k.other i hi).trans (h.other i hi)⟩
theorem Only.one(w:World)(b o:Nat)(v:Value):Only b w (w.setCell ⟨b,o,none⟩ v):=⟨rfl,rfl,rfl,by simp[World.setCell],fun k hk=>heap_setCell_other _ _ _ _ hk⟩
theorem Only.store(w:World)(b o:Nat)(vs:List Value):Only b w (w.setCells b o vs):=by
 induction vs generalizing w o with
 | nil=>exact Only.refl _ _
 | cons v r ih=>exact(Only.one w b o v).trans (ih _ _)
theorem gA{P:Program}{ops:Array Oper}{S:World→Prop}{op:Oper}{a:Act}(hw:Region.wanted op (yielded ops a.tmps)=true)(ty:TypeId)(x:Operand)(ho:op.op=.load ty x)
  (g:Nat)(hx:a.eval x=.pointer (some ⟨g,0,none⟩))(cs:Array Value)(t:TypeId)(fr:Nat × Nat)(d:TypeDesc)(hS:∀ w,S w→w.heap[g]?=some (.cells cs t fr))
  (hu:P.underlying ty=some d)(hd:(match d with|.struct _|.array _ _=>true|_=>false)=true)(hi:(P.info? ty).map (·.size)=some cs.size):YieldsIf P ops S op (.agg cs) a :=
 .inl ⟨hw,fun w hw'=>by
  unfold execOp;simp only[ho,hx,Instr.loadAt,Instr.sureAddr,Sem.run_bind,Sem.run_pure,Result.andThen_ok,run_loadVar_row w g t ty cs fr d (hS w hw') hu hd hi]⟩
theorem ff{P:Program}{fn:Func}{p p':Tmp}{ty ty':TypeId}(h:fn.results=#[.cell p ty,.cell p' ty'])(tmps:Array Value)(w:World)(g g':Nat)(t t':TypeId)(cs cs':Array Value)(fr fr':Nat × Nat)(d d':TypeDesc)
  (hp:tmps.getD p undef=.pointer (some ⟨g,0,none⟩))(hg:w.heap[g]?=some (.cells cs t fr))
  (hu:P.underlying ty=some d)(hd:(match d with|.struct _|.array _ _=>true|_=>false)=true)(hi:(P.info? ty).map (·.size)=some cs.size)
  (hp':tmps.getD p' undef=.pointer (some ⟨g',0,none⟩))(hg':w.heap[g']?=some (.cells cs' t' fr'))
  (hu':P.underlying ty'=some d')(hd':(match d' with|.struct _|.array _ _=>true|_=>false)=true)(hi':(P.info? ty').map (·.size)=some cs'.size) :
  (results fn tmps).run P w=.ok (.tuple #[.agg cs,.agg cs']) w:=by
 have hq:tmps[p]?.getD undef=.pointer (some ⟨g,0,none⟩):=by simpa using hp
 have hq':tmps[p']?.getD undef=.pointer (some ⟨g',0,none⟩):=by simpa using hp'
 simp[results,h,hq,hq',asAddr,run_loadVar_row w g t ty cs fr d hg hu hd hi,run_loadVar_row w g' t' ty' cs' fr' d' hg' hu' hd' hi']
theorem fg{P:Program}{fn:Func}{p p' u:Tmp}{ty ty':TypeId}(h:fn.results=#[.cell p ty,.cell p' ty',.tmp u])(tmps:Array Value)(w:World)(g g':Nat)(t t':TypeId)(cs cs':Array Value)(fr fr':Nat × Nat)(d d':TypeDesc)
  (hp:tmps.getD p undef=.pointer (some ⟨g,0,none⟩))(hg:w.heap[g]?=some (.cells cs t fr))
  (hu:P.underlying ty=some d)(hd:(match d with|.struct _|.array _ _=>true|_=>false)=true)(hi:(P.info? ty).map (·.size)=some cs.size)
  (hp':tmps.getD p' undef=.pointer (some ⟨g',0,none⟩))(hg':w.heap[g']?=some (.cells cs' t' fr'))
  (hu':P.underlying ty'=some d')(hd':(match d' with|.struct _|.array _ _=>true|_=>false)=true)(hi':(P.info? ty').map (·.size)=some cs'.size) :
  (results fn tmps).run P w=.ok (.tuple #[.agg cs,.agg cs',tmps.getD u undef]) w:=by
 have hq:tmps[p]?.getD undef=.pointer (some ⟨g,0,none⟩):=by simpa using hp
 have hq':tmps[p']?.getD undef=.pointer (some ⟨g',0,none⟩):=by simpa using hp'
 simp[results,h,hq,hq',asAddr,run_loadVar_row w g t ty cs fr d hg hu hd hi,run_loadVar_row w g' t' ty' cs' fr' d' hg' hu' hd' hi']
theorem P7(t e:TypeId)(N k:Nat)(ht:prog.underlying t=some (.array N e))(hk:(prog.info? e).map (·.size)=some k)(b o i:Nat)(hi:i<N)(w:World):(Instr.indexAt t (.pointer (some ⟨b,o,none⟩)) (.int .i64 (i:Int))).run prog w=.ok (.pointer (some ⟨b,o+k*i,none⟩)) w:=by
 have hs:(Go.sizeOf e).run prog w=.ok k w:=by
  cases hq:prog.info? e with
  | none=>rw[hq]at hk;cases hk
  | some x =>
   rw[hq]at hk
   simp at hk;simp[sizeOf,typeInfo,hq,hk]
 simp only[Instr.indexAt,Sem.run_bind,run_underlying ht w,Result.andThen_ok,Instr.sureAddr,Sem.run_pure,asIntOf];rw[if_pos ⟨by omega,by omega⟩];simp[hs,Result.andThen,Addr.add_mid,Nat.mul_comm]
theorem Rj{P:Program}{ops:Array Oper}{Q:Exit→Act→World→Prop}{i:Nat}{o:Oper}{a:Act}{w:World}{K:Act→World→Prop}(ho:ops[i]?=some o)(hw:Region.wanted o (yielded ops a.tmps)=true)(hd:o.dst=none)(ty:TypeId)(x y:Operand)(hop:o.op=.store ty x y)
  (b k:Nat)(cells:Array Value)(hx:a.eval x=.pointer (some ⟨b,k,none⟩))(hy:a.eval y=.agg cells)(ht:w.there b k cells.size)(hi:(P.info? ty).map (·.size)=some cells.size)(h1:cells.all (·.oneCell')=true)
  (h:K a (w.setCells b k cells.toList)):wpOp P ops Q i K a w :=
 wpOp_step ho fun K' hK=>by
  rw[if_pos hw];exact wp_store_mid ty x y hop b k cells hx hy ht hi h1 (hK _ _ (by rw[hd];exact h))
def Lv(j:Nat)(k:Int):Bool:=if j=0 then Fp k else if j=1 then Ha k else Hb k
def Y9(j:Nat):Int:=if j=0 then 4 else if j=1 then 1048576 else 100000
structure LWTab(w:World):Prop where
 lt:0<w.heap.size
 text:∀ k:Nat,k<10→w.cell? ⟨0,4*k,none⟩=some (.string (strOfNums (Td (k:Int))))
 has:∀ k j:Nat,k<10→j<3→w.cell? ⟨0,4*k+1+j,none⟩=some (.bool (Lv j (k:Int)))
theorem LWTab.below{w w':World}(h:LWTab w)(hb:Bw w w'):LWTab w' :=
 ⟨Nat.lt_of_lt_of_le h.lt hb.size,fun k hk=>(hb.cell (p:=⟨0,4*k,none⟩) h.lt).trans (h.text k hk),fun k j hk hj=>(hb.cell (p:=⟨0,4*k+1+j,none⟩) h.lt).trans (h.has k j hk hj)⟩
structure LBTab(w:World):Prop where
 lt:1<w.heap.size
 bnd:∀ j:Nat,j<3→w.cell? ⟨1,j,none⟩=some (.int .i64 (Y9 j))
theorem LBTab.below{w w':World}(h:LBTab w)(hb:Bw w w'):LBTab w' :=
 ⟨Nat.lt_of_lt_of_le h.lt hb.size,fun j hj=>(hb.cell (p:=⟨1,j,none⟩) h.lt).trans (h.bnd j hj)⟩
theorem eN:(prog.info? 120).map (·.size)=some 4:=by kernel_rfl
theorem U0(k:Nat)(hk:k<10)(w:World):(Instr.indexAt 121 (.pointer (some ⟨0,0,none⟩)) (.int .i64 (k:Int))).run prog w=.ok (.pointer (some ⟨0,4*k,none⟩)) w:=by
 have h:=P7 121 120 10 4 underlying121 eN 0 0 k hk w
 rwa [Nat.zero_add]at h
end
section
open Go.ChangeShapes Go.WideShapes Go.ChangeAt Go.RowKit
theorem own:ownKnob prog.godebug=none:=by kernel_rfl
theorem Zs:laidOutB prog=true:=by kernel_rfl
theorem Zo:prog.cellsOf 3=1:=by kernel_rfl
theorem Zp:prog.cellsOf 4=1:=by kernel_rfl
theorem Zq:prog.cellsOf 9=1:=by kernel_rfl
theorem Sy:prog.cellsOf 120=4:=by kernel_rfl
theorem Sw:prog.cellsOf 118=3:=by kernel_rfl
theorem Wg : prog.globalNamed "conclave/lines.words" = some 0 := by kernel_rfl
theorem QD:(prog.globals[0]?).map (·.type)=some 121:=by kernel_rfl
theorem Sr : prog.globalNamed "conclave/lines.bounds" = some 1 := by kernel_rfl
theorem OJ:(prog.globals[1]?).map (·.type)=some 122:=by kernel_rfl
theorem JW{W:World}{name:String}{g:Nat}{cs:Array Value}(hg:prog.globalNamed name=some g)(h:W.var? prog name=some cs):∃ t fr,W.heap[g]?=some (.cells cs t fr):=by
 unfold World.var? at h;rw[hg]at h
 simp only[Option.bind_some]at h;split at h
 ·rename_i c t fr hh
  simp only[Option.some.injEq]at h;subst h;exact⟨t,fr,hh⟩
 ·cases h
theorem QX{H:Type}{enc:TypeId × Value→H}{W:World}{base:Nat}{sp:Nat→Bool}{held:Bool}{fuel:Nat}{cs:List Value}{a b c:Bool}{p:List MemPlace}
  (h:DataW.trod enc prog W base sp held fuel 118 cs=some (.agg [.lit (.bool a),.lit (.bool b),.lit (.bool c)],p)) :
  cs=[.bool a,.bool b,.bool c]:=by
 obtain⟨xs,m,_,hx,hl,hxl,hb⟩:=DataW.trod_array underlying118 h;rw[Sw]at hl
 rw[Zp]at hb
 match xs,hxl,cs,hl with
 | [x0,x1,x2],_,[c0,c1,c2],_ =>
  simp only[List.map_cons,List.map_nil,Prod.mk.injEq,DataW.agg.injEq,List.cons.injEq,and_true]at hx;obtain⟨⟨h0,h1,h2⟩,_⟩:=hx;obtain⟨a0,e0,y0⟩:=DataW.trod_bool underlying4 (hb 0 (by omega));obtain⟨a1,e1,y1⟩:=DataW.trod_bool underlying4 (hb 1 (by omega));obtain⟨a2,e2,y2⟩:=DataW.trod_bool underlying4 (hb 2 (by omega));simp at e0 e1 e2 y0 y1 y2;subst e0 e1 e2 y0 y1 y2;simp at h0 h1 h2;subst h0 h1 h2;rfl
theorem UX{H:Type}{enc:TypeId × Value→H}{W:World}{base:Nat}{sp:Nat→Bool}{held:Bool}{fuel:Nat}{cs:List Value}{s:List UInt8}{a b c:Bool}{p:List MemPlace}
  (h:DataW.trod enc prog W base sp held fuel 120 cs=some (.agg [.lit (.string s),.agg [.lit (.bool a),.lit (.bool b),.lit (.bool c)]],p)) :
  cs=[.string ⟨s.toArray⟩,.bool a,.bool b,.bool c]:=by
 obtain⟨⟨y0,p0⟩,⟨y1,p1⟩,n,hx,hl,h0,h1⟩:=trod_struct2 underlying120 h;rw[Sy]at hl
 simp only[Zq,Sw]at h0 h1;simp only[Prod.mk.injEq,DataW.agg.injEq,List.cons.injEq,and_true]at hx;obtain⟨⟨rfl,rfl⟩,_⟩:=hx;have r1:=QX h1;obtain⟨z,e0,y0,_⟩:=DataW.trod_string underlying9 h0
 match cs,hl with
 | [c0,c1,c2,c3],_ =>
  simp at e0 r1 y0;obtain⟨y0,_⟩:=y0;subst e0 y0;obtain⟨rfl,rfl,rfl⟩:=r1;rfl
theorem Sp{l:List Value}{a:Nat}{x0 x1 x2 x3:Value}(h:(l.drop a).take 4=[x0,x1,x2,x3]):l[a]?=some x0∧l[a+1]?=some x1∧l[a+2]?=some x2∧l[a+3]?=some x3:=by
 have g:∀ i,i<4→l[a+i]?=[x0,x1,x2,x3][i]?:=fun i hi=>by rw[← h,List.getElem?_take_of_lt hi,List.getElem?_drop]
 exact⟨g 0 (by omega),g 1 (by omega),g 2 (by omega),g 3 (by omega)⟩
theorem WD{H:Type}(k:Nat)(hk:k<10){l:List (DataW H)}(h:(Rows.laid_conclave_lines_words:DataW H)=.agg l) :
  l[k]?=some (.agg [.lit (.string ((Td (k:Int)).map fun n=>UInt8.ofNat n.toNat)),.agg [.lit (.bool (Lv 0 (k:Int))),.lit (.bool (Lv 1 (k:Int))),.lit (.bool (Lv 2 (k:Int)))]]):=by
 simp only[Rows.laid_conclave_lines_words,DataW.agg.injEq]at h;subst h
 match k,hk with
 | 0,_=>rfl
 | 1,_=>rfl
 | 2,_=>rfl
 | 3,_=>rfl
 | 4,_=>rfl
 | 5,_=>rfl
 | 6,_=>rfl
 | 7,_=>rfl
 | 8,_=>rfl
 | 9,_=>rfl
theorem WC{H:Type}(k:Nat)(hk:k<3){l:List (DataW H)}(h:(Rows.laid_conclave_lines_bounds:DataW H)=.agg l):l[k]?=some (.lit (.int .i64 (Y9 k))):=by
 simp only[Rows.laid_conclave_lines_bounds,DataW.agg.injEq]at h;subst h
 match k,hk with
 | 0,_=>rfl
 | 1,_=>rfl
 | 2,_=>rfl
theorem aG {W : World} {rest : List (String × DataW Unit)} {ps : List MemPlace} (h : DataW.LaidVars prog W (("conclave/lines.bounds", Rows.laid_conclave_lines_bounds) :: ("conclave/lines.words", Rows.laid_conclave_lines_words) :: rest) ps) : LWTab W ∧ LBTab W := by
 obtain⟨g0,t0,cs0,fuel0,p0,q0,hg0,ht0,hvar0,hd0,⟨g1,t1,cs1,fuel1,p1,q1,hg1,ht1,hvar1,hd1,_,_⟩,_⟩:=h;obtain rfl:=Option.some.inj (Sr.symm.trans hg0);obtain rfl:=Option.some.inj (OJ.symm.trans ht0);obtain rfl:=Option.some.inj (Wg.symm.trans hg1);obtain rfl:=Option.some.inj (QD.symm.trans ht1);constructor
 ·obtain⟨xs,m,_,hx,hl,hxl,hb⟩:=DataW.trod_array underlying121 hd1;rw[Sy]at hb
  simp only[Prod.mk.injEq]at hx;obtain⟨t,fr,hr⟩:=JW Wg hvar1;have hk:∀ k:Nat,k<10→(cs1.toList.drop (k*4)).take 4=[.string (strOfNums (Td (k:Int))),.bool (Lv 0 (k:Int)),.bool (Lv 1 (k:Int)),.bool (Lv 2 (k:Int))]:=fun k hk=>by
   have h1:=WD k hk hx.1;rw[List.getElem?_map]at h1
   obtain⟨⟨d,p⟩,hx1,hx2⟩:=Option.map_eq_some_iff.1 h1;have h2:=hb k hk;rw[hx1]at h2
   simp only at hx2;subst hx2;exact UX h2
  have hc:∀ (i:Nat) (v:Value),cs1.toList[i]?=some v→W.cell? ⟨0,i,none⟩=some v:=fun i v hv=>by
   refine(cell_of_row _ _ i _ _ _ hr).trans ?_
   rwa [Array.getElem?_toList]at hv
  refine⟨(Array.getElem?_eq_some_iff.1 hr).1,fun k h=>?_,fun k j h hj=>?_⟩
  ·rw[Nat.mul_comm];exact hc _ _ (Sp (hk k h)).1
  ·rw[Nat.mul_comm];obtain⟨_,f1,f2,f3⟩:=Sp (hk k h)
   match j,hj with
   | 0,_=>exact hc _ _ f1
   | 1,_=>exact hc _ _ f2
   | 2,_=>exact hc _ _ f3
 ·obtain⟨xs,m,_,hx,hl,hxl,hb⟩:=DataW.trod_array underlying122 hd0;rw[Zo]at hb
  simp only[Prod.mk.injEq]at hx;obtain⟨t,fr,hr⟩:=JW Sr hvar0;refine⟨(Array.getElem?_eq_some_iff.1 hr).1,fun j hj=>(cell_of_row _ _ j _ _ _ hr).trans ?_⟩;have h1:=WC j hj hx.1;rw[List.getElem?_map]at h1
  obtain⟨⟨d,p⟩,hx1,hx2⟩:=Option.map_eq_some_iff.1 h1;have h2:=hb j hj;rw[hx1]at h2
  obtain⟨n,e0,y0,_⟩:=DataW.trod_int underlying3 h2;simp only[Prod.mk.injEq]at y0;obtain⟨rfl,_⟩:=y0;simp at hx2;subst hx2;have h3:((cs0.toList.drop (j*1)).take 1)[0]?=some (.int .i64 (Y9 j)):=by rw[e0];rfl
  rw[List.getElem?_take_of_lt (by omega),List.getElem?_drop,Array.getElem?_toList,Nat.mul_one,Nat.add_zero]at h3
  exact h3
def Qi:Array Value:=((List.range 10).flatMap fun k=>[.string (strOfNums (Td (k:Int))),.bool (Lv 0 (k:Int)),.bool (Lv 1 (k:Int)),.bool (Lv 2 (k:Int))]).toArray
def Ov:Array Value:=((List.range 3).map fun k=>.int .i64 (Y9 k)).toArray
def WB(cs:Array Value):Obj→Obj
 | .cells _ t frozen=>.cells cs t frozen
 | o=>o
end
section
open Go.RowKit
def cmA(k c s n v:Int):Array Value:=#[.int .i64 k,.int .i64 c,.int .i64 s,.int .i64 n,.int .i64 v]
def tkA(c r u:Int):Array Value:=#[.int .i64 c,.int .i64 r,.int .i64 u]
def InC(c s n v:Int):Prop:=0≤c∧c≤7∧0≤s∧s≤1048576∧0≤n∧n≤7∧0≤v∧v≤1073741824
instance (c s n v:Int):Decidable (InC c s n v):=by unfold InC;exact inferInstance
def AZ(k c s n v:Int):Int :=
 if ¬ (0≤k∧k≤3)then 4
 else if k=0 then(if c=0∧s=0∧n=0∧v=0 then 0 else 3)
 else if ¬ InC c s n v then 2
 else if 1<k∧v≠0 then 3
 else 0
theorem Tx{k c s n v:Int}(h:¬ (0≤k∧k≤3)):AZ k c s n v=4:=if_pos h
theorem Ty{c s n v:Int}(h:c=0∧s=0∧n=0∧v=0):AZ 0 c s n v=0:=by
 unfold AZ;rw[if_neg (by omega),if_pos rfl,if_pos h]
theorem Qr{c s n v:Int}(h:¬ (c=0∧s=0∧n=0∧v=0)):AZ 0 c s n v=3:=by
 unfold AZ;rw[if_neg (by omega),if_pos rfl,if_neg h]
theorem Qs{k c s n v:Int}(h:1≤k∧k≤3)(hi:¬ InC c s n v):AZ k c s n v=2:=by
 unfold AZ;rw[if_neg (by omega),if_neg (by omega),if_pos hi]
theorem Tw{k c s n v:Int}(h:2≤k∧k≤3)(hi:InC c s n v)(hv:v≠0):AZ k c s n v=3:=by
 unfold AZ;rw[if_neg (by omega),if_neg (by omega),if_neg (fun g=>g hi),if_pos ⟨by omega,hv⟩]
theorem Sf{k c s n v:Int}(h:1≤k∧k≤3)(hi:InC c s n v)(hv:k=1∨v=0):AZ k c s n v=0:=by
 unfold AZ;rw[if_neg (by omega),if_neg (by omega),if_neg (fun g=>g hi),if_neg (by omega)]
theorem Eu{k c s n v:Int}(h:AZ k c s n v=0):(0≤k∧k≤3)∧InC c s n v:=by
 unfold AZ at h;split at h
 ·omega
 ·rename_i h1
  split at h
  ·split at h
   ·rename_i h3
    exact⟨by omega,by unfold InC;omega⟩
   ·omega
  ·split at h
   ·omega
   ·rename_i h3
    exact⟨by omega,Classical.not_not.1 h3⟩
def Ds(k c s n v:Int):List Int:=Ac k++Ac c++Ac s++Ac n++Ac v
theorem DR(k c s n v:Int):(Ds k c s n v).length=20:=rfl
theorem Mn(k c s n v:Int):∀ x∈Ds k c s n v,0≤x∧x<256:=by
 intro x hx;rcases List.mem_append.1 hx with hx|hx
 ·rcases List.mem_append.1 hx with hx|hx
  ·rcases List.mem_append.1 hx with hx|hx
   ·rcases List.mem_append.1 hx with hx|hx
    ·exact AO _ x hx
    ·exact AO _ x hx
   ·exact AO _ x hx
  ·exact AO _ x hx
 ·exact AO _ x hx
def Ab(l:List Int)(i:Nat):Int:=16777216*l.getD i 0+65536*l.getD (i+1) 0+256*l.getD (i+2) 0+l.getD (i+3) 0
theorem Bq(n:Int)(h0:0≤n)(h1:n<4294967296)(l m:List Int):Ab (l++(Ac n++m)) l.length=n:=by
 have e:∀ j,(l++(Ac n++m)).getD (l.length+j) 0=(Ac n++m).getD j 0:=by
  intro j;simp[List.getD,List.getElem?_append_right]
 unfold Ab;rw[show l.length=l.length+0 from rfl,Nat.add_assoc,Nat.add_assoc,Nat.add_assoc,e,e,e,e];show 16777216*(n/16777216%256)+65536*(n/65536%256)+256*(n/256%256)+n%256=n;omega
theorem Ud(k c s n v:Int)(h0:0≤k)(h1:k<4294967296):Ab (Ds k c s n v) 0=k:=by
 have h:=Bq k h0 h1 [] (Ac c++Ac s++Ac n++Ac v);exact h
theorem Ue(k c s n v:Int)(h0:0≤c)(h1:c<4294967296):Ab (Ds k c s n v) 4=c:=by
 have h:=Bq c h0 h1 (Ac k) (Ac s++Ac n++Ac v);exact h
theorem Uf(k c s n v:Int)(h0:0≤s)(h1:s<4294967296):Ab (Ds k c s n v) 8=s:=by
 have h:=Bq s h0 h1 (Ac k++Ac c) (Ac n++Ac v);exact h
theorem Rb(k c s n v:Int)(h0:0≤n)(h1:n<4294967296):Ab (Ds k c s n v) 12=n:=by
 have h:=Bq n h0 h1 (Ac k++Ac c++Ac s) (Ac v);exact h
theorem Rd(k c s n v:Int)(h0:0≤v)(h1:v<4294967296):Ab (Ds k c s n v) 16=v:=by
 have h:=Bq v h0 h1 (Ac k++Ac c++Ac s++Ac n) [];exact h
def BX(l:List Int):Int:=if l.length≠20 then 1 else AZ (Ab l 0) (Ab l 4) (Ab l 8) (Ab l 12) (Ab l 16)
def J1(l:List Int):Array Value:=if BX l=0 then cmA (Ab l 0) (Ab l 4) (Ab l 8) (Ab l 12) (Ab l 16)else cmA 0 0 0 0 0
def CS(c r u:Int):Prop:=(0≤c∧c≤7)∧(0≤r∧r≤7)∧0≤u∧u≤1048576
instance (c r u:Int):Decidable (CS c r u):=by unfold CS;exact inferInstance
def Md(c r u:Int):Int:=if CS c r u then 0 else 2
theorem JU{c r u:Int}(h:CS c r u):Md c r u=0:=if_pos h
theorem ST{c r u:Int}(h:¬ CS c r u):Md c r u=2:=if_neg h
def Nh(k r:Int):Prop:=(k=1∧r/2%2=1)∨(k=2∧r%2=1)∨(k=3∧r/4=1)
instance (k r:Int):Decidable (Nh k r):=by unfold Nh;exact inferInstance
def Er(tc tr tu k c s n v now:Int):Int :=
 if ¬ CS tc tr tu then 2
 else if AZ k c s n v≠0 then AZ k c s n v
 else if ¬ (Nh k tr∧c=tc)then 11
 else if ¬ (0≤now∧now≤tu)then 10
 else 0
theorem Vi{tc tr tu k c s n v now:Int}(h:¬ CS tc tr tu):Er tc tr tu k c s n v now=2:=if_pos h
theorem Vh{tc tr tu k c s n v now:Int}(h:CS tc tr tu)(h1:AZ k c s n v≠0):Er tc tr tu k c s n v now=AZ k c s n v:=by
 unfold Er;rw[if_neg (fun g=>g h),if_pos h1]
theorem JZ{tc tr tu k c s n v now:Int}(h:CS tc tr tu)(h1:AZ k c s n v=0)(h2:¬ (Nh k tr∧c=tc)):Er tc tr tu k c s n v now=11:=by
 unfold Er;rw[if_neg (fun g=>g h),if_neg (fun g=>g h1),if_pos h2]
theorem Tl{tc tr tu k c s n v now:Int}(h:CS tc tr tu)(h1:AZ k c s n v=0)(h2:Nh k tr∧c=tc)(h3:¬ (0≤now∧now≤tu)):Er tc tr tu k c s n v now=10:=by
 unfold Er;rw[if_neg (fun g=>g h),if_neg (fun g=>g h1),if_neg (fun g=>g h2),if_pos h3]
theorem Y3{tc tr tu k c s n v now:Int}(h:CS tc tr tu)(h1:AZ k c s n v=0)(h2:Nh k tr∧c=tc)(h3:0≤now∧now≤tu):Er tc tr tu k c s n v now=0:=by
 unfold Er;rw[if_neg (fun g=>g h),if_neg (fun g=>g h1),if_neg (fun g=>g h2),if_neg (fun g=>g h3)]
def JI(c r u:Int):List Int:=c::r::Ac u
theorem Ea(c r u:Int):(JI c r u).length=6:=rfl
theorem MX{c r u:Int}(h:CS c r u):∀ x∈JI c r u,0≤x∧x<256:=by
 obtain⟨h1,h2,h3⟩:=h;intro x hx;rcases List.mem_cons.1 hx with rfl|hx
 ·omega
 rcases List.mem_cons.1 hx with rfl|hx
 ·omega
 exact AO _ x hx
theorem Sm(a b c d e a' b' c' d' e':Int):∀ w,(binOp .eql 41 (.agg #[.int .i64 a,.int .i64 b,.int .i64 c,.int .i64 d,.int .i64 e]) (.agg #[.int .i64 a',.int .i64 b',.int .i64 c',.int .i64 d',.int .i64 e'])).run prog w=.ok (.bool (decide (a=a'∧b=b'∧c=c'∧d=d'∧e=e'))) w:=by
 intro w;rw[run_eql_struct,run_equalIn_agg w 9999 _ _ _ (by kernel_rfl) (by kernel_rfl)];unfold Program.fieldsOf;rw[underlying41];have h3:=underlying3;simp[Op.eqFields,go_sem,h3]
 repeat' split
 all_goals simp_all
theorem ZC(a b c d e a' b' c' d' e':Int):∀ w,(binOp .neq 41 (.agg #[.int .i64 a,.int .i64 b,.int .i64 c,.int .i64 d,.int .i64 e]) (.agg #[.int .i64 a',.int .i64 b',.int .i64 c',.int .i64 d',.int .i64 e'])).run prog w=.ok (.bool (!decide (a=a'∧b=b'∧c=c'∧d=d'∧e=e'))) w:=by
 intro w;rw[run_neq_struct,run_equalIn_agg w 9999 _ _ _ (by kernel_rfl) (by kernel_rfl)];unfold Program.fieldsOf;rw[underlying41];have h3:=underlying3;simp[Op.eqFields,go_sem,h3]
 repeat' split
 all_goals simp_all
theorem Et{w:World}{g:Nat}{k c s n v:Int}{ty:TypeId}{fr:Nat × Nat}(h:w.heap[g]?=some (.cells (cmA k c s n v) ty fr)) :
  w.cell? ⟨g,0,none⟩=some (.int .i64 k)∧w.cell? ⟨g,1,none⟩=some (.int .i64 c)∧w.cell? ⟨g,2,none⟩=some (.int .i64 s)∧w.cell? ⟨g,3,none⟩=some (.int .i64 n)∧w.cell? ⟨g,4,none⟩=some (.int .i64 v) :=
 ⟨cell_of_row _ _ 0 _ _ _ h,cell_of_row _ _ 1 _ _ _ h,cell_of_row _ _ 2 _ _ _ h,cell_of_row _ _ 3 _ _ _ h,cell_of_row _ _ 4 _ _ _ h⟩
theorem Zj(c s n v:Int):InC c s n v↔(((0≤c∧c≤7)∧(0≤s∧s≤1048576))∧(0≤n∧n≤7))∧(0≤v∧v≤1073741824):=by unfold InC;omega
structure Bc(w:World)(g:Nat)(k c s n v:Int):Prop where
 lt:g<w.heap.size
 row:w.heap[g]?=some (.cells (cmA k c s n v) 41)
theorem Bc.made(w:World)(k c s n v:Int):Bc (w.alloc (.cells (cmA k c s n v) 41)) w.heap.size k c s n v:=⟨by simp,heap_alloc_new _ _⟩
theorem Bc.below{w w':World}{g:Nat}{k c s n v:Int}(h:Bc w g k c s n v)(hb:Bw w w'):Bc w' g k c s n v :=
 ⟨Nat.lt_of_lt_of_le h.lt hb.size,(hb.block g h.lt).trans h.row⟩
theorem FX(k c s n v:Int):(prog.info? 41).map (·.size)=some (cmA k c s n v).size:=by show _=some 5;kernel_rfl
def MF:List Int:=[0,0,0,2,7,1073741824,1,7,0,4,7,0]
structure NTab(w:World):Prop where
 lt:2<w.heap.size
 cell:∀ i,i<12→w.cell? ⟨2,i,none⟩=some (.int .i64 (MF.getD i 0))
theorem NTab.below{w w':World}(h:NTab w)(hb:Bw w w'):NTab w' :=
 ⟨Nat.lt_of_lt_of_le h.lt hb.size,fun i hi=>(hb.cell (p:=⟨2,i,none⟩) h.lt).trans (h.cell i hi)⟩
theorem E6(n g:Int)(w:World) :
  Calls prog 110 #[.int .i64 n,.int .i64 g] w fun e w'=>e=.returned (.bool (decide (0≤n∧n≤g)))∧w'=w:=by
 by_cases h0:0≤n
 ·by_cases h1:n≤g
  ·rw[decide_eq_true ⟨h0,h1⟩];go_enter func110,ntmps110
   go_wp2
   go_ret;exact⟨Ae (by simp),rfl⟩
  ·rw[decide_eq_false (by omega)];go_enter func110,ntmps110
   go_wp2
   go_ret;exact⟨Ae (by simp),rfl⟩
 ·rw[decide_eq_false (by omega)];go_enter func110,ntmps110
  go_wp2
  go_ret;exact⟨Ae (by simp),rfl⟩
theorem Io{n g:Int}{b:Bool}(h:Hid (decide (0≤n∧n≤g)=b))(w:World) :
  Calls prog 110 #[.int .i64 n,.int .i64 g] w fun e w'=>e=.returned (.bool b)∧w'=w:=by
 rw[← h.out];exact E6 n g w
theorem QL(k:Int)(w:World) :
  Calls prog 114 #[.int .i64 k] w fun e w'=>e=.returned (.bool (decide (0≤k∧k≤3)))∧w'=w:=by
 go_enter func114,ntmps114
 go_wp2_with fail
 refine(E6 k 3 _).mono ?_;rintro e w1 ⟨rfl,rfl⟩;go_wp2
 go_ret;exact⟨Ae (by simp),rfl⟩
theorem WY(c s n v:Int)(w:World) :
  Calls prog 115 #[.agg (cmA 0 c s n v)] w fun e w'=>e=.returned (.int .i64 (AZ 0 c s n v))∧Bw w w':=by
 have bb:Bw w (w.alloc (.cells (cmA 0 c s n v) 41)):=(Below.refl _ _).alloc (Nat.le_refl _) _;simp only[cmA]at bb ⊢;have hq:=ZC 0 c s n v 0 0 0 0 0;by_cases h:c=0∧s=0∧n=0∧v=0
 ·have HE:Hid (0=AZ 0 c s n v):=(Ty h).symm;rw[decide_eq_true ⟨rfl,h⟩]at hq
  clear h;go_enter func115,ntmps115
  go_wp2
  go_ret;exact⟨AC HE.out,bb⟩
 ·have HE:Hid (3=AZ 0 c s n v):=(Qr h).symm;rw[decide_eq_false (fun g=>h g.2)]at hq
  clear h;go_enter func115,ntmps115
  go_wp2
  go_ret;exact⟨AC HE.out,bb⟩
theorem NTab.name{w:World}(h:NTab w)(k:Nat)(h0:1≤k)(h1:k≤3):w.cell? ⟨2,k*3+1,none⟩=some (.int .i64 7):=by
 rcases(by omega:k=1∨k=2∨k=3)with rfl|rfl|rfl
 ·exact h.cell 4 (by omega)
 ·exact h.cell 7 (by omega)
 ·exact h.cell 10 (by omega)
theorem Nt(k c s n v:Int)(w:World)(hk:1≤k∧k≤3)(ht:NTab w) :
  Calls prog 116 #[.agg (cmA k c s n v)] w fun e w'=>e=.returned (.bool (decide (InC c s n v)))∧Bw w w':=by
 have bb:Bw w (w.alloc (.cells (cmA k c s n v) 41)):=(Below.refl _ _).alloc (Nat.le_refl _) _;have hN:=(ht.below bb).name;have rr:=heap_alloc_new w (.cells (cmA k c s n v) 41);simp only[cmA]at bb hN rr ⊢;obtain⟨m,rfl⟩:=Int.eq_ofNat_of_zero_le (show 0≤k by omega);replace hN:=hN m (by omega) (by omega);have k0:(0:Int)≤(m:Int):=by omega
 have k1:(m:Int)<4:=by omega
 have k2:m<4:=by omega
 clear hk ht;have HI:Hid (InC c s n v↔_):=Zj c s n v;generalize hW:w.alloc (.cells #[.int .i64 (m:Int),.int .i64 c,.int .i64 s,.int .i64 n,.int .i64 v] 41)=W at bb hN rr;go_enter func116,ntmps116
 go_wp2_with fail
 clear hW;obtain⟨c0,c1,c2,c3,c4⟩:=Et rr;clear rr;by_cases h1:0≤c∧c≤7
 ·have U1:Hid (decide _=true):=decide_eq_true h1;by_cases h2:0≤s∧s≤1048576
  ·have U2:Hid (decide _=true):=decide_eq_true h2;by_cases h3:0≤n∧n≤7
   ·have U3:Hid (decide _=true):=decide_eq_true h3;by_cases h4:0≤v∧v≤1073741824
    ·have U4:Hid (decide _=true):=decide_eq_true h4;have HB:Hid (true=decide (InC c s n v)):=(decide_eq_true (HI.out.2 ⟨⟨⟨h1,h2⟩,h3⟩,h4⟩)).symm;clear h1 h2 h3 h4 HI;go_quiet ((go_at_call 110;exact Calls.quiet_of_same (Io (by assumption) _)))
     go_wp2
     go_ret;exact⟨Ae HB.out,An bb nq⟩
    ·have U4:Hid (decide _=false):=decide_eq_false h4;have HB:Hid (false=decide (InC c s n v)):=(decide_eq_false (fun G=>h4 ((fun g=>g.2) (HI.out.1 G)))).symm;clear h1 h2 h3 h4 HI;go_quiet ((go_at_call 110;exact Calls.quiet_of_same (Io (by assumption) _)))
     go_wp2
     go_ret;exact⟨Ae HB.out,An bb nq⟩
   ·have U3:Hid (decide _=false):=decide_eq_false h3;have HB:Hid (false=decide (InC c s n v)):=(decide_eq_false (fun G=>h3 ((fun g=>g.1.2) (HI.out.1 G)))).symm;clear h1 h2 h3 HI;go_quiet ((go_at_call 110;exact Calls.quiet_of_same (Io (by assumption) _)))
    go_wp2
    go_ret;exact⟨Ae HB.out,An bb nq⟩
  ·have U2:Hid (decide _=false):=decide_eq_false h2;have HB:Hid (false=decide (InC c s n v)):=(decide_eq_false (fun G=>h2 ((fun g=>g.1.1.2) (HI.out.1 G)))).symm;clear h1 h2 HI;go_quiet ((go_at_call 110;exact Calls.quiet_of_same (Io (by assumption) _)))
   go_wp2
   go_ret;exact⟨Ae HB.out,An bb nq⟩
 ·have U1:Hid (decide _=false):=decide_eq_false h1;have HB:Hid (false=decide (InC c s n v)):=(decide_eq_false (fun G=>h1 ((fun g=>g.1.1.1) (HI.out.1 G)))).symm;clear h1 HI;go_quiet ((go_at_call 110;exact Calls.quiet_of_same (Io (by assumption) _)))
  go_wp2
  go_ret;exact⟨Ae HB.out,An bb nq⟩
end
end Go.Proofs.YtfhbkoflaekhpadGreatDoor
