/- Part 4 of the walk. -/
import Derived.Deep.RegionHeld3
import Derived.Laws.CopyRow
import Derived.Deep.Cut
import Derived.Deep.MidRow
import Derived.Laws.Strings2
import Derived.Test.YtalbmmghmoggcadGreatDoorCards
import Derived.Test.YtalbmmghmoggcadGreatDoorTie
import Derived.SizedLaws
import Derived.ChangeOld
import Derived.ChangeSame
import Derived.ChangeMaps5
import Derived.Deep.DeepHandedRow
import Derived.Lib.LaidTab
import Derived.Deep.Strs
import Derived.Test.YtalbmmghmoggcadGreatDoorZ1
set_option maxRecDepth 100000
set_option maxHeartbeats 4000000
open Go.Proofs.Tryz
set_option linter.unusedVariables false
namespace Go.Proofs.YtalbmmghmoggcadGreatDoor
section
structure Lac where
 k:Int
 n:Int
 a:Int
 p:Int
 d:List Int
def Fi(k:Int):Bool:=decide (k=1\/k=2\/k=3\/k=9\/k=8)
def Gw(k:Int):Bool:=decide (4<=k/\k<=6)
def Gx(k:Int):Bool:=decide (k=8)
def Xh(x:Lac):Int :=
 if ¬ (1<=x.k/\x.k<=9)then 4
 else if(Fi x.k=true/\¬ (0<=x.n/\x.n<=4))\/(Gw x.k=true/\¬ (0<=x.a/\x.a<=1048576))\/(Gx x.k=true/\¬ (0<=x.p/\x.p<=100000))then 2
 else if 2000<x.d.length then 1
 else if(Fi x.k=false/\x.n≠0)\/(Gw x.k=false/\x.a≠0)\/(Gx x.k=false/\x.p≠0)\/(x.k≠1/\x.d≠[])then 3
 else 0
structure LacOk(x:Lac):Prop where
 k:1<=x.k/\x.k<=9
 n:Fi x.k=true->0<=x.n/\x.n<=4
 a:Gw x.k=true->0<=x.a/\x.a<=1048576
 p:Gx x.k=true->0<=x.p/\x.p<=100000
 d:x.d.length<=2000
 n0:Fi x.k=false->x.n=0
 a0:Gw x.k=false->x.a=0
 p0:Gx x.k=false->x.p=0
 d0:x.k≠1->x.d=[]
theorem Hx{x:Lac}:Xh x=0↔LacOk x:=by
 unfold Xh;constructor
 .intro h;by_cases h1:1<=x.k/\x.k<=9
  .rw[if_neg (λe=>e h1)]at h
   by_cases h2:(Fi x.k=true/\¬ (0<=x.n/\x.n<=4))\/(Gw x.k=true/\¬ (0<=x.a/\x.a<=1048576))\/(Gx x.k=true/\¬ (0<=x.p/\x.p<=100000))
   .rw[if_pos h2]at h;omega
   .rw[if_neg h2]at h
    by_cases h3:2000<x.d.length
    .rw[if_pos h3]at h;omega
    .rw[if_neg h3]at h
     by_cases h4:(Fi x.k=false/\x.n≠0)\/(Gw x.k=false/\x.a≠0)\/(Gx x.k=false/\x.p≠0)\/(x.k≠1/\x.d≠[])
     .rw[if_pos h4]at h;omega
     .simp only[not_or,not_and,iY]at h2 h4;exact⟨h1,λe=>by have:=h2.1 e;omega,λe=>by have:=h2.2.1 e;omega,λe=>by have:=h2.2.2 e;omega,by omega,h4.1,h4.2.1,h4.2.2.1,h4.2.2.2⟩
  .rw[if_pos h1]at h;omega
 .intro h;rw[if_neg (λe=>e h.k),if_neg,if_neg (by have:=h.d;omega),if_neg]
  .rintro(⟨h1,h2⟩|⟨h1,h2⟩|⟨h1,h2⟩|⟨h1,h2⟩)
   .exact h2 (h.n0 h1)
   .exact h2 (h.a0 h1)
   .exact h2 (h.p0 h1)
   .exact h2 (h.d0 h1)
  .rintro(⟨h1,h2⟩|⟨h1,h2⟩|⟨h1,h2⟩)
   .exact h2 (h.n h1)
   .exact h2 (h.a h1)
   .exact h2 (h.p h1)
def TC(k:Int):List Int :=
 if k=1 then[115,117,98,109,105,116]else if k=2 then[108,101,97,100]else if k=3 then[115,116,101,112]else if k=4 then[99,97,114,114,121]else if k=5 then[108,111,115,101]
 else if k=6 then[100,111,117,98,108,101]else if k=7 then[97,108,108]else if k=8 then[99,114,97,115,104]else if k=9 then[115,116,97,114,116]else[]
end
section
open Go.RowKit
section
variable{P:Program}{md:Region.Mode}{ops:Array Oper}{Q:Exit->Act->World->Prop}{S:World->Prop}
section
variable{K:Act->World->Prop}{L:Array Bool}{a:Act}{d fuel i:Nat}{o:Oper}{v:Value}{w:World}
theorem XE{w':World}(ho:ops[i]?=some o)(hw:Region.wanted o (yielded ops a.tmps)=true)(hd:o.dst=some d)(hrun:(execOp a.eval o).run P w=.ok (.value v) w')(h:K (a.put (some d) v) w'):wpOp P ops Q i K a w :=
 wpOp_step ho λK' hK=>by
  rw[if_pos hw];unfold Oper.wp;rw[hrun,Oper.upon_value];exact hK _ _ (by rw[hd];exact h)
theorem GR{f:FuncId}{args:Array Value}(ho:ops[i]?=some o)(hw:Region.wanted o (yielded ops a.tmps)=true)(hd:o.dst=some d)(hrun:(execOp a.eval o).run P w=.ok (.enter f args) w)(h:Calls P f args w λe w'=>∃ v,e=.returned v/\K (a.put (some d) v) w'):wpOp P ops Q i K a w :=
 wpOp_step ho λK' hK=>by
  rw[if_pos hw];unfold Oper.wp;rw[hrun,Oper.upon_enter];refine h.mono λe w' hh=>?_;obtain⟨v,rfl,hv⟩:=hh;exact hK _ _ (by rw[hd];exact hv)
theorem Ib(ho:ops[i]?=some o)(hw:Region.wanted o (yielded ops a.tmps)=true)(hd:o.dst=none)(ty:TypeId)(x y:Operand)(hop:o.op=.store ty x y)(g:Nat)(cells:Array Value)(hx:a.eval x=.pointer (some ⟨g,0,none⟩))(hy:a.eval y=.agg cells)(t:TypeId)(old:Array Value)(hg:w.heap[g]?=some (.cells old t (0,0)))(hi:(P.info? ty).map (·.size)=some cells.size)(hold:old.size=cells.size)(h1:cells.all (·.oneCell')=true)(h:K a (w.setRow g cells)):wpOp P ops Q i K a w :=
 wpOp_step ho λK' hK=>by
  rw[if_pos hw];exact wp_store_row ty x y hop g cells hx hy t old hg hi hold h1 (hK _ _ (by rw[hd];exact h))
theorem BK(hr:Region.ready md ops L=[i])(h:wpOp P ops Q i (λa' w'=>S w'/\wpAnyH P md ops Q S fuel (L.setIfInBounds i true) a' w') a w):wpAnyH P md ops Q S (fuel+1) L a w :=
 wpAnyH_all hr (by simp) (λj hj=>by
  obtain rfl:j=i:=by simpa using hj
  exact h)
theorem ZP{i':Nat}(hr:Region.ready md ops L=[i,i'])(h:wpOp P ops Q i (λa' w'=>S w'/\wpAnyH P md ops Q S fuel (L.setIfInBounds i true) a' w') a w)(h':wpOp P ops Q i' (λa' w'=>S w'/\wpAnyH P md ops Q S fuel (L.setIfInBounds i' true) a' w') a w):wpAnyH P md ops Q S (fuel+1) L a w :=
 wpAnyH_all hr (by simp) (λj hj=>by
  rcases(show j=i\/j=i' by simpa using hj)with rfl|rfl
  .exact h
  .exact h')
theorem Ah(d:Nat){oi:Oper}{listed:Array Bool}(hi:ops[i]?=some oi)(hd:oi.dst=some d)(hs:Region.noSelect ops=true)(hf:Region.free md ops listed i=true)(hr:(Region.ready md ops listed).contains i=true)(hQ:∀ c a w,Q (.panic c) (a.put (some d) v) w->Q (.panic c) a w)(hy:YieldsIf P ops S oi v a)(hS:S w)(h:wpAnyH P md ops Q S fuel (listed.setIfInBounds i true) (a.put (some d) v) w):wpAnyH P md ops Q S (fuel+1) listed a w :=
 wpAnyH_take hi hs hf hr (by rw[hd];exact hQ) hy hS (by rw[hd];exact h)
theorem Gm{op:Oper}(hw:Region.wanted op (yielded ops a.tmps)=true)(ty:TypeId)(x:Operand)(ho:op.op=.load ty x)(d:TypeDesc)(hu:P.underlying ty=some d)(hd:d.isRow=false)(p:Addr)(hx:a.eval x=.pointer (some p))(v:Value)(hS:∀ w,S w->w.cell? p=some v):YieldsIf P ops S op v a :=
 .inl ⟨hw,λw hw'=>by
  have hagg:(isAgg ty).run P w=.ok false w:=by
   unfold isAgg;rw[Sem.run_bind,run_underlying hu w];cases d<;>simp_all[TypeDesc.isRow]
  have hl:(loadVar ty p).run P w=.ok v w:=by simp[loadVar,hagg,hS w hw',go_sem]
  unfold execOp;simp only[ho,hx,Instr.loadAt,Instr.sureAddr,Sem.run_bind,Sem.run_pure,Result.andThen_ok,hl]⟩
end
end
section
variable{K:Act->World->Prop}{P:Program}{Q:Exit->Act->World->Prop}{a:Act}{b base e g i id k8 n:Nat}{cs:Array Value}{fn:Func}{fr:Nat × Nat}{o op:Oper}{ops:Array Oper}{p p' u:Tmp}{rest:List Oper}{t ty ty':TypeId}{v:Value}{w w':World}{xs:List Value}
theorem Ev{l:List Oper}(h:wpList P ops Q l a w):wpList P ops Q l a w:=h
theorem CF{B:Nat}{a:World}(h:Below B a w)(hg:B<=g)(cs:Array Value):Below B a (w.setRow g cs) :=
 h.trans ⟨rfl,rfl,rfl,by simp,λk hk=>setRow_other w g k cs (by omega)⟩
theorem Fh{b':Nat}(h:w.ownsRow b e k8 v n xs)(hb:b'<=b):w.ownsRow b' e k8 v n xs:=by
 refine⟨h.1,?_⟩;rcases h.2 with h2|⟨g,cap,cur,hv,hbg,hr⟩
 .exact .inl h2
 .exact .inr ⟨g,cap,cur,hv,iP hb hbg,hr⟩
theorem Df(h:w.ownsRow base e k8 v n xs)(hk:∀ k,v.ownBlock=some k->w'.heap[k]?=w.heap[k]?):w'.ownsRow base e k8 v n xs:=by
 refine⟨h.1,?_⟩;rcases h.2 with h2|⟨g,cap,cur,hv,hb,hg,hr⟩
 .exact .inl h2
 .exact .inr ⟨g,cap,cur,hv,hb,(hk g (by rw[hv];rfl)).trans hg,hr⟩
theorem Y4(h:fn.results=#[.cell p ty])(tmps:Array Value)(w:World)(g:Nat)(t:TypeId)(cs:Array Value)(fr:Nat × Nat)(d:TypeDesc)(hp:tmps.getD p undef=.pointer (some ⟨g,0,none⟩))(hg:w.heap[g]?=some (.cells cs t fr))(hu:P.underlying ty=some d)(hd:(match d with|.struct _|.array _ _=>true|_=>false)=true)(hi:(P.info? ty).map (·.size)=some cs.size) :
  (results fn tmps).run P w=.ok (.agg cs) w:=by
 have hp':tmps[p]?.getD undef=.pointer (some ⟨g,0,none⟩):=by simpa using hp
 simp[results,h,hp',asAddr,run_loadVar_row w g t ty cs fr d hg hu hd hi]
theorem Tu(h:fn.results=#[.cell p ty,.tmp u])(tmps:Array Value)(w:World)(g:Nat)(t:TypeId)(cs:Array Value)(fr:Nat × Nat)(d:TypeDesc)(hp:tmps.getD p undef=.pointer (some ⟨g,0,none⟩))(hg:w.heap[g]?=some (.cells cs t fr))(hu:P.underlying ty=some d)(hd:(match d with|.struct _|.array _ _=>true|_=>false)=true)(hi:(P.info? ty).map (·.size)=some cs.size) :
  (results fn tmps).run P w=.ok (.tuple #[.agg cs,tmps.getD u undef]) w:=by
 have hp':tmps[p]?.getD undef=.pointer (some ⟨g,0,none⟩):=by simpa using hp
 simp[results,h,hp',asAddr,run_loadVar_row w g t ty cs fr d hg hu hd hi]
theorem Sl.shapeT{l:List Int}(h:Sl w v l):∃ a cap,v=.slice a l.length cap:=by
 obtain⟨⟨a,cap,e,_⟩,_,_⟩:=h;exact⟨a,cap,e⟩
theorem Sl.cellsT{ad:Addr}{cap:Nat}{m:List Int}(h:Sl w (.slice (some ad) n cap) m):∀ j u,(m.map (Value.int .u8))[j]?=some u->w.cell? (ad.add j)=some u:=by
 intro j u hj;obtain⟨⟨a,cp,e,hc,hn,h1⟩,_⟩:=h;simp only[Value.slice.injEq]at e;obtain⟨rfl,rfl,rfl⟩:=e;rcases h1 with rfl|⟨b,off,hab,_,hcell⟩
 .simp at hj
 .obtain rfl:ad=⟨b,off,none⟩:=by simpa using hab
  have hjl:j<m.length:=by
   have:=(Q'.1 hj).1;simpa using this
  have hadd:(⟨b,off,none⟩:Addr).add j=⟨b,off+j,none⟩:=by unfold Addr.add;split<;>simp_all
  rw[hadd,hcell j hjl];simp[List.getElem?_eq_getElem hjl]at hj
  rw[AR hjl,hj]
theorem Qg(w:World)(base dT sT ty e:Nat)(hu:P.underlying dT=some (.slice e))(hs:(P.info? e).map (·.size)=some 1)(g n:Nat)(xs:List Value)(hown:w.ownsRow base e 1 (.slice (some ⟨g,0,none⟩) n n) n xs)(u:Value)(m:List Int)(hm:n<=m.length)(hv:Sl w u m) :
  ∃ w',(Builtin.copy_ #[dT,sT] ty #[.slice (some ⟨g,0,none⟩) n n,u]).run P w=.ok (goInt n) w'/\w'.ownsRow base e 1 (.slice (some ⟨g,0,none⟩) n n) n ((m.take n).map (Value.int .u8))/\Below g w w':=by
 obtain⟨i,hq,hi⟩:∃ i,P.info? e=some i/\i.size=1:=by
  cases hq:P.info? e with
  | none=>rw[hq]at hs;cases hs
  | some i=>rw[hq]at hs;exact⟨i,rfl,by simpa using hs⟩
 rcases hown.2 with⟨h0,_⟩|⟨g',cap,cur,hvv,hbg,hg,hnc,hcm,hcs,ht⟩
 .cases h0
 .simp only[Value.slice.injEq,X',Addr.mk.injEq]at hvv;obtain⟨⟨rfl,_⟩,_,rfl⟩:=hvv;have hv2:=hv;obtain⟨⟨a,cp,rfl,hc,hn,h1⟩,_⟩:=hv;have hmin:Nat.min m.length n=n:=Nat.min_eq_right hm;cases a with
  | none =>
   have hc0:=hn rfl;subst hc0;have hm0:n=0:=by omega
   subst hm0;refine⟨w,?_,⟨by simp,.inr ⟨g,0,cur,rfl,hbg,hg,hnc,hcm,hcs,by simp⟩⟩,Below.refl _ _⟩;simp[Builtin.copy_,run_underlying hu,Builtin.lenOf,Builtin.firstCells,sizeOf,typeInfo,hq,storeCells]
  | some ad =>
   have htl:((m.take n).map (Value.int .u8)).length=n:=by simp;omega
   have hl:=run_firstCells_some (P:=P) w 1 n ad m.length cp ((m.take n).map (Value.int .u8)) (by rw[htl];omega) (λj v hj=>hv2.cellsT j v (by
    rw[lV,jL]at hj
    split at hj
    .exact hj
    .cases hj))
   have hst:=run_storeCells_at P g 0 e ((m.take n).map (Value.int .u8)) 0 cur w hg (by rw[htl];omega) (E6 (m.take n));have hfull:(cur.toList.take (0+0)++(m.take n).map (Value.int .u8)++cur.toList.drop (0+0+((m.take n).map (Value.int .u8)).length))=(m.take n).map (Value.int .u8):=by
    rw[htl,jD (by rw[jW];omega)];simp
   rw[hfull]at hst
   refine⟨w.setRow g ((m.take n).map (Value.int .u8)).toArray,?_,⟨by rw[htl];omega,.inr ⟨g,n,((m.take n).map (Value.int .u8)).toArray,rfl,hbg,setRow_heap w g cur _ e _ hg,A' _,hcm,by rw[ko,htl];omega,?_⟩⟩,?_⟩
   .simp[-List.map_take,Builtin.copy_,run_underlying hu,Builtin.lenOf,sizeOf,typeInfo,hq,hi,hmin,hl,hst]
   .rw[iU (by show((m.take n).map (Value.int .u8)).length<=_;rw[htl];omega)]
   .exact⟨rfl,rfl,rfl,by simp,λk hk=>setRow_other w g k _ (by omega)⟩
theorem LW(w:World)(hgd:o.guard=none)(d s:Operand)(dT sT:TypeId)(ho:o.op=.call { callee:=.builtin .copy,args:=#[d,s],argTypes:=#[dT,sT] })(base e:Nat)(hu:P.underlying dT=some (.slice e))(hs:(P.info? e).map (·.size)=some 1)(g n:Nat)(xs:List Value)(hd:a.eval d=.slice (some ⟨g,0,none⟩) n n)(hown:w.ownsRow base e 1 (.slice (some ⟨g,0,none⟩) n n) n xs)(u:Value)(hu':a.eval s=u)(m:List Int)(hm:n<=m.length)(hv:Sl w u m)(t:List Int)(htm:t=m.take n)(h:∀ w',w'.ownsRow base e 1 (.slice (some ⟨g,0,none⟩) n n) n (t.map (Value.int .u8))->Below g w w'->wpList P ops Q rest (a.put o.dst (goInt n)) w'):wpList P ops Q (o::rest) a w:=by
 subst htm;refine wpList_plain hgd λK hK=>?_;obtain⟨w',hrun,r1,r2⟩:=Qg (P:=P) w base dT sT o.type e hu hs g n xs hown u m hm hv;unfold Oper.wp execOp;simp only[ho,resolve,invoke,builtin,Sem.run_bind,Sem.run_pure,Result.andThen_ok,kS,ji,jX,hd,hu',hrun];exact hK _ _ (h w' r1 r2)
theorem LY(w:World)(hg:o.guard=none)(l c:Operand)(t:TypeId)(hop:o.op=Op.makeSlice t l c)(base:Nat)(e:TypeId)(h1:P.underlying t=some (.slice e))(hinfo:(P.info? e).map (λi=>(i.zero,i.size,i.bytes))=some (some (.int .u8 0),1,1))(n:Nat)(hl:a.eval l=.int .i64 (n:Int))(hc:a.eval c=.int .i64 (n:Int))(hn:n<=140737488351232)(b4:base<=w.heap.size)(hK:∀ w',Hid (∃ xs,w'.ownsRow base e 1 (.slice (some ⟨w.heap.size,0,none⟩) n n) n xs)->w.grownBy w' none->wpList P ops Q rest (a.put o.dst (.slice (some ⟨w.heap.size,0,none⟩) n n)) w'):wpList P ops Q (o::rest) a w:=by
 obtain⟨i0,hi,hz0,hz1,hz2⟩:=info_parts hinfo;refine wpList_make_full w hg l c t hop base e i0 (.int .u8 0) 1 h1 hi hz0 hz1 _ _ _ _ n hl hc rfl rfl (by rw[hz2];omega) (by unfold maxLen;omega) b4 (λw' o1 g1=>hK w' ⟨_,o1⟩ g1)
theorem DP(w:World)(o1:Obj):(w.alloc o1).heap[w.heap.size]?=some o1:=heap_alloc_new w o1
theorem BU(w:World)(o1:Obj):Bw w (w.alloc o1):=(Below.refl _ _).alloc (A' _) _
theorem Su(w:World)(o1 o2:Obj):((w.alloc o1).alloc o2).heap[w.heap.size]?=some o1:=heap_alloc2_old w o1 o2
theorem Sw(w:World)(o1 o2:Obj):((w.alloc o1).alloc o2).heap[w.heap.size+1]?=some o2:=heap_alloc2_new w o1 o2
theorem Vm(w:World)(o1 o2:Obj):Bw w ((w.alloc o1).alloc o2):=((Below.refl _ _).alloc (A' _) _).alloc (by simp) _
theorem Ed(h:w.ownsRow base e k8 v n xs):∃ g c,v=.slice g n c:=by
 rcases h.2 with⟨rfl,h0⟩|⟨g,cap,cur,hv,_⟩
 .exact⟨none,0,by rw[h0]⟩
 .exact⟨_,_,hv⟩
theorem Y5(R:World->Prop){A:Act}(hreg:∀ K':Act->World->Prop,Hid (∀ W2,R W2->K' A W2)->(Code.region id ops true).wp P (Exit.then K' Q) a w)(hrest:∀ W2,R W2->K A W2):(Code.region id ops true).wp P (Exit.then K Q) a w:=hreg K hrest
theorem Y6(R:Option Addr->Nat->World->Prop){A:Option Addr->Nat->Act}(hreg:∀ K':Act->World->Prop,Hid (∀ g c W2,R g c W2->K' (A g c) W2)->(Code.region id ops true).wp P (Exit.then K' Q) a w)(hrest:∀ g c W2,R g c W2->K (A g c) W2):(Code.region id ops true).wp P (Exit.then K Q) a w:=hreg K hrest
theorem LB{cs:List Value}(h:w.heap[g]?=some (.cells cs.toArray t fr)):w.rangeAt g 0 cs:=λj u hj=>by
 rw[cell_of_row _ _ (0+j) _ _ _ h];simpa using hj
theorem LC(h:w.ownsRow base 5 k8 v n xs)(hg:w.heap[g]?=some (.cells cs t fr))(ht:t≠5):∀ k,v.ownBlock=some k->k≠g:=by
 intro k hk e;rcases h.2 with⟨h1,_⟩|⟨q,cap,cur,h1,_,h2,_⟩
 .rw[h1]at hk;cases hk
 .rw[h1]at hk
  have hk':q=k:=by simpa[Value.ownBlock]using hk
  rw[hk',e,hg]at h2
  simp only[X',Obj.cells.injEq]at h2;exact ht h2.2.1
theorem Vl(h:w.ownsRow base 5 k8 v n xs)(hg:w.heap[g]?=some (.cells cs t fr))(ht:t≠5)(cs':Array Value):(w.setRow g cs').ownsRow base 5 k8 v n xs :=
 Df h (λk hk=>setRow_other _ _ _ _ (LC h hg ht k hk))
theorem fH:(prog.info? 5).map (·.size)=some 1:=by kernel_rfl
theorem Oy(w:World)(b o:Nat)(ty:TypeId)(v old:Value)(hc:w.cell? ⟨b,o,none⟩=some old)(hf:w.frozen? ⟨b,o,none⟩=false)(hi:(P.info? ty).map (·.size)=some 1)(hv:v.oneCell'=true) :
  (storeVar ty ⟨b,o,none⟩ v).run P w=.ok () (w.setCell ⟨b,o,none⟩ v):=by
 cases h:P.info? ty with
 | none=>rw[h]at hi;cases hi
 | some i =>
  rw[h]at hi
  simp at hi;have hadd:(⟨b,o,none⟩:Addr).add 0=⟨b,o,none⟩:=by unfold Addr.add;split<;>simp_all
  have hs:(Go.store ⟨b,o,none⟩ v .plain).run P w=.ok () (w.setCell ⟨b,o,none⟩ v):=by
   rw[run_store P w _ v .plain hv,hc];simp[hf]
  have hcs:v.cells=#[v]:=by cases v<;>first|rfl|cases hv
  unfold storeVar;rw[hcs];simp[sizeOf,typeInfo,h,hi,storeCells,hadd,hs,Result.andThen]
theorem OF{Q:Exit->Act->World->Prop}(ty:TypeId)(x y:Operand)(ho:op.op=.store ty x y)(b o:Nat)(v old:Value)(hx:a.eval x=.pointer (some ⟨b,o,none⟩))(hy:a.eval y=v)(hc:w.cell? ⟨b,o,none⟩=some old)(hf:w.frozen? ⟨b,o,none⟩=false)(hi:(P.info? ty).map (·.size)=some 1)(hv:v.oneCell'=true)(h:K (a.put op.dst undef) (w.setCell ⟨b,o,none⟩ v)):op.wp P a w K Q:=by
 unfold Oper.wp execOp;simp only[ho,hx,hy,Instr.storeAt,Instr.sureAddr,Sem.run_bind,Sem.run_pure,Result.andThen_ok,Oy w b o ty v old hc hf hi hv];exact h
theorem RK(ho:ops[i]?=some o)(hw:Region.wanted o (yielded ops a.tmps)=true)(hd:o.dst=none)(ty:TypeId)(x y:Operand)(hop:o.op=.store ty x y)(b k:Nat)(v old:Value)(hx:a.eval x=.pointer (some ⟨b,k,none⟩))(hy:a.eval y=v)(hc:w.cell? ⟨b,k,none⟩=some old)(hf:w.frozen? ⟨b,k,none⟩=false)(hi:(P.info? ty).map (·.size)=some 1)(hv:v.oneCell'=true)(h:K a (w.setCell ⟨b,k,none⟩ v)):wpOp P ops Q i K a w :=
 wpOp_step ho λK' hK=>by
  rw[if_pos hw];exact OF ty x y hop b k v old hx hy hc hf hi hv (hK _ _ (by rw[hd];exact h))
structure Only(b:Nat)(w w':World):Prop where
 os:w'.os=w.os
 tape:w'.tape=w.tape
 output:w'.output=w.output
 size:w'.heap.size=w.heap.size
 other:∀ k,k≠b->w'.heap[k]?=w.heap[k]?
theorem Only.refl(b:Nat)(w:World):Only b w w:=⟨rfl,rfl,rfl,rfl,λ_ _=>rfl⟩
theorem Only.trans{w'':World}(h:Only b w w')(k:Only b w' w''):Only b w w'' :=
 ⟨k.os.trans h.os,k.tape.trans h.tape,k.output.trans h.output,k.size.trans h.size,λi hi=>(k.other i hi).trans (h.other i hi)⟩
theorem Only.one(w:World)(b o:Nat)(v:Value):Only b w (w.setCell ⟨b,o,none⟩ v):=⟨rfl,rfl,rfl,by simp[World.setCell],λk hk=>heap_setCell_other _ _ _ _ hk⟩
theorem Only.store(w:World)(b o:Nat)(vs:List Value):Only b w (w.setCells b o vs):=by
 induction vs generalizing w o with
 | nil=>exact Only.refl _ _
 | cons v r ih=>exact(Only.one w b o v).trans (ih _ _)
theorem ig{S:World->Prop}(hw:Region.wanted op (yielded ops a.tmps)=true)(ty:TypeId)(x:Operand)(ho:op.op=.load ty x)(g:Nat)(hx:a.eval x=.pointer (some ⟨g,0,none⟩))(cs:Array Value)(t:TypeId)(fr:Nat × Nat)(d:TypeDesc)(hS:∀ w,S w->w.heap[g]?=some (.cells cs t fr))(hu:P.underlying ty=some d)(hd:(match d with|.struct _|.array _ _=>true|_=>false)=true)(hi:(P.info? ty).map (·.size)=some cs.size):YieldsIf P ops S op (.agg cs) a :=
 .inl ⟨hw,λw hw'=>by
  unfold execOp;simp only[ho,hx,Instr.loadAt,Instr.sureAddr,Sem.run_bind,Sem.run_pure,Result.andThen_ok,run_loadVar_row w g t ty cs fr d (hS w hw') hu hd hi]⟩
theorem fI(h:fn.results=#[.cell p ty,.cell p' ty'])(tmps:Array Value)(w:World)(g g':Nat)(t t':TypeId)(cs cs':Array Value)(fr fr':Nat × Nat)(d d':TypeDesc)(hp:tmps.getD p undef=.pointer (some ⟨g,0,none⟩))(hg:w.heap[g]?=some (.cells cs t fr))(hu:P.underlying ty=some d)(hd:(match d with|.struct _|.array _ _=>true|_=>false)=true)(hi:(P.info? ty).map (·.size)=some cs.size)(hp':tmps.getD p' undef=.pointer (some ⟨g',0,none⟩))(hg':w.heap[g']?=some (.cells cs' t' fr'))(hu':P.underlying ty'=some d')(hd':(match d' with|.struct _|.array _ _=>true|_=>false)=true)(hi':(P.info? ty').map (·.size)=some cs'.size) :
  (results fn tmps).run P w=.ok (.tuple #[.agg cs,.agg cs']) w:=by
 have hq:tmps[p]?.getD undef=.pointer (some ⟨g,0,none⟩):=by simpa using hp
 have hq':tmps[p']?.getD undef=.pointer (some ⟨g',0,none⟩):=by simpa using hp'
 simp[results,h,hq,hq',asAddr,run_loadVar_row w g t ty cs fr d hg hu hd hi,run_loadVar_row w g' t' ty' cs' fr' d' hg' hu' hd' hi']
theorem fJ(h:fn.results=#[.cell p ty,.cell p' ty',.tmp u])(tmps:Array Value)(w:World)(g g':Nat)(t t':TypeId)(cs cs':Array Value)(fr fr':Nat × Nat)(d d':TypeDesc)(hp:tmps.getD p undef=.pointer (some ⟨g,0,none⟩))(hg:w.heap[g]?=some (.cells cs t fr))(hu:P.underlying ty=some d)(hd:(match d with|.struct _|.array _ _=>true|_=>false)=true)(hi:(P.info? ty).map (·.size)=some cs.size)(hp':tmps.getD p' undef=.pointer (some ⟨g',0,none⟩))(hg':w.heap[g']?=some (.cells cs' t' fr'))(hu':P.underlying ty'=some d')(hd':(match d' with|.struct _|.array _ _=>true|_=>false)=true)(hi':(P.info? ty').map (·.size)=some cs'.size) :
  (results fn tmps).run P w=.ok (.tuple #[.agg cs,.agg cs',tmps.getD u undef]) w:=by
 have hq:tmps[p]?.getD undef=.pointer (some ⟨g,0,none⟩):=by simpa using hp
 have hq':tmps[p']?.getD undef=.pointer (some ⟨g',0,none⟩):=by simpa using hp'
 simp[results,h,hq,hq',asAddr,run_loadVar_row w g t ty cs fr d hg hu hd hi,run_loadVar_row w g' t' ty' cs' fr' d' hg' hu' hd' hi']
theorem Qf(t e:TypeId)(N k:Nat)(ht:prog.underlying t=some (.array N e))(hk:(prog.info? e).map (·.size)=some k)(b o i:Nat)(hi:i<N)(w:World):(Instr.indexAt t (.pointer (some ⟨b,o,none⟩)) (.int .i64 (i:Int))).run prog w=.ok (.pointer (some ⟨b,o+k*i,none⟩)) w:=by
 have hs:(Go.sizeOf e).run prog w=.ok k w:=by
  cases hq:prog.info? e with
  | none=>rw[hq]at hk;cases hk
  | some x =>
   rw[hq]at hk
   simp at hk;simp[sizeOf,typeInfo,hq,hk]
 simp only[Instr.indexAt,Sem.run_bind,run_underlying ht w,Result.andThen_ok,Instr.sureAddr,Sem.run_pure,asIntOf];rw[if_pos ⟨by omega,by omega⟩];simp[hs,Result.andThen,Addr.add_mid,Nat.mul_comm]
theorem RJ(ho:ops[i]?=some o)(hw:Region.wanted o (yielded ops a.tmps)=true)(hd:o.dst=none)(ty:TypeId)(x y:Operand)(hop:o.op=.store ty x y)(b k:Nat)(cells:Array Value)(hx:a.eval x=.pointer (some ⟨b,k,none⟩))(hy:a.eval y=.agg cells)(ht:w.there b k cells.size)(hi:(P.info? ty).map (·.size)=some cells.size)(h1:cells.all (·.oneCell')=true)(h:K a (w.setCells b k cells.toList)):wpOp P ops Q i K a w :=
 wpOp_step ho λK' hK=>by
  rw[if_pos hw];exact wp_store_mid ty x y hop b k cells hx hy ht hi h1 (hK _ _ (by rw[hd];exact h))
def LO(j:Nat)(k:Int):Bool:=if j=0 then Fi k else if j=1 then Gw k else Gx k
def Zi(j:Nat):Int:=if j=0 then 4 else if j=1 then 1048576 else 100000
structure LWTab(w:World):Prop where
 lt:1<w.heap.size
 text:∀ k:Nat,k<10->w.cell? ⟨1,4*k,none⟩=some (.string (strOfNums (TC (k:Int))))
 has:∀ k j:Nat,k<10->j<3->w.cell? ⟨1,4*k+1+j,none⟩=some (.bool (LO j (k:Int)))
theorem LWTab.below(h:LWTab w)(hb:Bw w w'):LWTab w' :=
 ⟨Z' h.lt hb.size,λk hk=>(hb.cell (p:=⟨1,4*k,none⟩) h.lt).trans (h.text k hk),λk j hk hj=>(hb.cell (p:=⟨1,4*k+1+j,none⟩) h.lt).trans (h.has k j hk hj)⟩
structure LBTab(w:World):Prop where
 lt:2<w.heap.size
 bnd:∀ j:Nat,j<3->w.cell? ⟨2,j,none⟩=some (.int .i64 (Zi j))
theorem LBTab.below(h:LBTab w)(hb:Bw w w'):LBTab w' :=
 ⟨Z' h.lt hb.size,λj hj=>(hb.cell (p:=⟨2,j,none⟩) h.lt).trans (h.bnd j hj)⟩
theorem fp:(prog.info? 147).map (·.size)=some 4:=by kernel_rfl
theorem Ve(k:Nat)(hk:k<10)(w:World):(Instr.indexAt 148 (.pointer (some ⟨1,0,none⟩)) (.int .i64 (k:Int))).run prog w=.ok (.pointer (some ⟨1,4*k,none⟩)) w:=by
 have h:=Qf 148 147 10 4 underlying148 fp 1 0 k hk w
 rwa [jm]at h
end
end
section
open Go.ChangeShapes Go.WideShapes Go.ChangeAt Go.RowKit
section
theorem own:ownKnob prog.godebug=none:=by kernel_rfl
theorem Od:laidOutB prog=true:=by kernel_rfl
theorem ZW:prog.cellsOf 3=1:=by kernel_rfl
theorem ZX:prog.cellsOf 4=1:=by kernel_rfl
theorem ZY:prog.cellsOf 9=1:=by kernel_rfl
theorem Ta:prog.cellsOf 147=4:=by kernel_rfl
theorem SZ:prog.cellsOf 145=3:=by kernel_rfl
theorem WM : prog.globalNamed "conclave/lines.words" = some 1 := by kernel_rfl
theorem Ro:(prog.globals[1]?).map (·.type)=some 148:=by kernel_rfl
theorem SV : prog.globalNamed "conclave/lines.bounds" = some 2 := by kernel_rfl
theorem Pp:(prog.globals[2]?).map (·.type)=some 149:=by kernel_rfl
variable{H:Type}{W:World}{a b c held:Bool}{base fuel:Nat}{cs:List Value}{p:List MemPlace}{sp:Nat->Bool}
theorem Kk{name:String}{g:Nat}{cs:Array Value}(hg:prog.globalNamed name=some g)(h:W.var? prog name=some cs):∃ t fr,W.heap[g]?=some (.cells cs t fr):=by
 unfold World.var? at h;rw[hg]at h
 simp only[Option.bind_some]at h;split at h
 .rename_i c t fr hh
  simp only[X']at h;subst h;exact⟨t,fr,hh⟩
 .cases h
theorem R8{enc:TypeId × Value->H}(h:DataW.trod enc prog W base sp held fuel 145 cs=some (.agg [.lit (.bool a),.lit (.bool b),.lit (.bool c)],p)) :
  cs=[.bool a,.bool b,.bool c]:=by
 obtain⟨xs,m,_,hx,hl,hxl,hb⟩:=DataW.trod_array underlying145 h;rw[SZ]at hl
 rw[ZX]at hb
 match xs,hxl,cs,hl with
 | [x0,x1,x2],_,[c0,c1,c2],_ =>
  simp only[ji,jX,jE,DataW.agg.injEq,kL,and_true]at hx;obtain⟨⟨h0,h1,h2⟩,_⟩:=hx;obtain⟨a0,e0,y0⟩:=DataW.trod_bool underlying4 (hb 0 (by omega));obtain⟨a1,e1,y1⟩:=DataW.trod_bool underlying4 (hb 1 (by omega));obtain⟨a2,e2,y2⟩:=DataW.trod_bool underlying4 (hb 2 (by omega));simp at e0 e1 e2 y0 y1 y2;subst e0 e1 e2 y0 y1 y2;simp at h0 h1 h2;subst h0 h1 h2;rfl
theorem V7{enc:TypeId × Value->H}{s:List UInt8}(h:DataW.trod enc prog W base sp held fuel 147 cs=some (.agg [.lit (.string s),.agg [.lit (.bool a),.lit (.bool b),.lit (.bool c)]],p)) :
  cs=[.string ⟨s.toArray⟩,.bool a,.bool b,.bool c]:=by
 obtain⟨⟨y0,p0⟩,⟨y1,p1⟩,n,hx,hl,h0,h1⟩:=trod_struct2 underlying147 h;rw[Ta]at hl
 simp only[ZY,SZ]at h0 h1;simp only[jE,DataW.agg.injEq,kL,and_true]at hx;obtain⟨⟨rfl,rfl⟩,_⟩:=hx;have r1:=R8 h1;obtain⟨z,e0,y0,_⟩:=DataW.trod_string underlying9 h0
 match cs,hl with
 | [c0,c1,c2,c3],_ =>
  simp at e0 r1 y0;obtain⟨y0,_⟩:=y0;subst e0 y0;obtain⟨rfl,rfl,rfl⟩:=r1;rfl
theorem SS{l:List Value}{a:Nat}{x0 x1 x2 x3:Value}(h:(l.drop a).take 4=[x0,x1,x2,x3]):l[a]?=some x0/\l[a+1]?=some x1/\l[a+2]?=some x2/\l[a+3]?=some x3:=by
 have g:∀ i,i<4->l[a+i]?=[x0,x1,x2,x3][i]?:=λi hi=>by rw[<- h,List.getElem?_take_of_lt hi,jB]
 exact⟨g 0 (by omega),g 1 (by omega),g 2 (by omega),g 3 (by omega)⟩
theorem Xk(k:Nat)(hk:k<10){l:List (DataW H)}(h:(Rows.laid_conclave_lines_words:DataW H)=.agg l) :
  l[k]?=some (.agg [.lit (.string ((TC (k:Int)).map λn=>UInt8.ofNat n.toNat)),.agg [.lit (.bool (LO 0 (k:Int))),.lit (.bool (LO 1 (k:Int))),.lit (.bool (LO 2 (k:Int)))]]):=by
 simp only[Rows.laid_conclave_lines_words,DataW.agg.injEq]at h;subst h
 match k,hk with
 | 0,_=>rfl
 | 1,_=>rfl
 | 2,_=>rfl
 | 3,_=>rfl
 | 4,_=>rfl
 | 5,_=>rfl
 | 6,_=>rfl
 | 7,_=>rfl
 | 8,_=>rfl
 | 9,_=>rfl
theorem Xj(k:Nat)(hk:k<3){l:List (DataW H)}(h:(Rows.laid_conclave_lines_bounds:DataW H)=.agg l):l[k]?=some (.lit (.int .i64 (Zi k))):=by
 simp only[Rows.laid_conclave_lines_bounds,DataW.agg.injEq]at h;subst h
 match k,hk with
 | 0,_=>rfl
 | 1,_=>rfl
 | 2,_=>rfl
theorem bI{rest : List (String × DataW Unit)}{ps : List MemPlace}(h : DataW.LaidVars prog W (("conclave/lines.bounds", Rows.laid_conclave_lines_bounds) :: ("conclave/lines.words", Rows.laid_conclave_lines_words) :: rest) ps) : LWTab W ∧ LBTab W := by
 obtain⟨g0,t0,cs0,fuel0,p0,q0,hg0,ht0,hvar0,hd0,⟨g1,t1,cs1,fuel1,p1,q1,hg1,ht1,hvar1,hd1,_,_⟩,_⟩:=h;obtain rfl:=jJ (SV.symm.trans hg0);obtain rfl:=jJ (Pp.symm.trans ht0);obtain rfl:=jJ (WM.symm.trans hg1);obtain rfl:=jJ (Ro.symm.trans ht1);constructor
 .obtain⟨xs,m,_,hx,hl,hxl,hb⟩:=DataW.trod_array underlying148 hd1;rw[Ta]at hb
  simp only[jE]at hx;obtain⟨t,fr,hr⟩:=Kk WM hvar1;have hk:∀ k:Nat,k<10->(cs1.toList.drop (k*4)).take 4=[.string (strOfNums (TC (k:Int))),.bool (LO 0 (k:Int)),.bool (LO 1 (k:Int)),.bool (LO 2 (k:Int))]:=λk hk=>by
   have h1:=Xk k hk hx.1;rw[jh]at h1
   obtain⟨⟨d,p⟩,hx1,hx2⟩:=j0.1 h1;have h2:=hb k hk;rw[hx1]at h2
   simp only at hx2;subst hx2;exact V7 h2
  have hc:∀ (i:Nat) (v:Value),cs1.toList[i]?=some v->W.cell? ⟨1,i,none⟩=some v:=λi v hv=>by
   refine(cell_of_row _ _ i _ _ _ hr).trans ?_
   rwa [Array.getElem?_toList]at hv
  refine⟨(H'.1 hr).1,λk h=>?_,λk j h hj=>?_⟩
  .rw[k7];exact hc _ _ (SS (hk k h)).1
  .rw[k7];obtain⟨_,f1,f2,f3⟩:=SS (hk k h)
   match j,hj with
   | 0,_=>exact hc _ _ f1
   | 1,_=>exact hc _ _ f2
   | 2,_=>exact hc _ _ f3
 .obtain⟨xs,m,_,hx,hl,hxl,hb⟩:=DataW.trod_array underlying149 hd0;rw[ZW]at hb
  simp only[jE]at hx;obtain⟨t,fr,hr⟩:=Kk SV hvar0;refine⟨(H'.1 hr).1,λj hj=>(cell_of_row _ _ j _ _ _ hr).trans ?_⟩;have h1:=Xj j hj hx.1;rw[jh]at h1
  obtain⟨⟨d,p⟩,hx1,hx2⟩:=j0.1 h1;have h2:=hb j hj;rw[hx1]at h2
  obtain⟨n,e0,y0,_⟩:=DataW.trod_int underlying3 h2;simp only[jE]at y0;obtain⟨rfl,_⟩:=y0;simp at hx2;subst hx2;have h3:((cs0.toList.drop (j*1)).take 1)[0]?=some (.int .i64 (Zi j)):=by rw[e0];rfl
  rw[List.getElem?_take_of_lt (by omega),jB,Array.getElem?_toList,mG,kf]at h3
  exact h3
def QH:Array Value:=((List.range 10).flatMap λk=>[.string (strOfNums (TC (k:Int))),.bool (LO 0 (k:Int)),.bool (LO 1 (k:Int)),.bool (LO 2 (k:Int))]).toArray
def OP:Array Value:=((List.range 3).map λk=>.int .i64 (Zi k)).toArray
def Xi(cs:Array Value):Obj->Obj
 | .cells _ t frozen=>.cells cs t frozen
 | o=>o
end
end
end Go.Proofs.YtalbmmghmoggcadGreatDoor
