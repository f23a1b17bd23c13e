/- Part 7 of the walk: what the functions of the program do, one by one. -/
import Derived.Laws.Strings2
import Derived.Test.YtakgfdbjgeopdaaGreatDoorCards
import Derived.Test.YtakgfdbjgeopdaaGreatDoorTie
import Derived.SizedLaws
import Derived.ChangeOld
import Derived.ChangeSame
import Derived.ChangeMaps5
import Derived.Deep.DeepHandedRow
import Derived.Lib.LaidTab
import Derived.Deep.Strs
import Derived.Test.YtakgfdbjgeopdaaGreatDoorZ6
set_option maxRecDepth 100000
set_option maxHeartbeats 4000000
open Go.Proofs.Tryz
set_option linter.unusedVariables false
namespace Go.Proofs.YtakgfdbjgeopdaaGreatDoor
open Go.RowKit
theorem Mv{P:Program}(w:World)(b o:Nat)(ty:TypeId)(v old:Value)(hc:w.cell? ⟨b,o,none⟩=some old)(hf:w.frozen? ⟨b,o,none⟩=false)(hi:(P.info? ty).map (·.size)=some 1)(hv:v.oneCell'=true) :
  (storeVar ty ⟨b,o,none⟩ v).run P w=.ok () (w.setCell ⟨b,o,none⟩ v):=by
 cases h:P.info? ty with
 | none=>rw[h]at hi;cases hi
 | some i =>
  rw[h]at hi
  simp at hi;have hadd:(⟨b,o,none⟩:Addr).add 0=⟨b,o,none⟩:=by unfold Addr.add;split<;>simp_all
  have hs:(Go.store ⟨b,o,none⟩ v .plain).run P w=.ok () (w.setCell ⟨b,o,none⟩ v):=by
   rw[run_store P w _ v .plain hv,hc];simp[hf]
  have hcs:v.cells=#[v]:=by cases v<;>first|rfl|cases hv
  unfold storeVar;rw[hcs];simp[sizeOf,typeInfo,h,hi,storeCells,hadd,hs,Result.andThen]
theorem Ha{P:Program}{op:Oper}{a:Act}{w:World}{K:Act→World→Prop}{Q:Exit→Act→World→Prop}(ty:TypeId)(x y:Operand)(ho:op.op=.store ty x y)
  (b o:Nat)(v old:Value)(hx:a.eval x=.pointer (some ⟨b,o,none⟩))(hy:a.eval y=v)(hc:w.cell? ⟨b,o,none⟩=some old)(hf:w.frozen? ⟨b,o,none⟩=false)(hi:(P.info? ty).map (·.size)=some 1)(hv:v.oneCell'=true)
  (h:K (a.put op.dst undef) (w.setCell ⟨b,o,none⟩ v)):op.wp P a w K Q:=by
 unfold Oper.wp execOp;simp only[ho,hx,hy,Instr.storeAt,Instr.sureAddr,Sem.run_bind,Sem.run_pure,Result.andThen_ok,Mv w b o ty v old hc hf hi hv];exact h
theorem If{P:Program}{ops:Array Oper}{rest:List Oper}{op:Oper}{a:Act}{w:World}{Q:Exit→Act→World→Prop}(hgd:op.guard=none)(ty:TypeId)(x y:Operand)(ho:op.op=.store ty x y)
  (b o:Nat)(v old:Value)(hx:a.eval x=.pointer (some ⟨b,o,none⟩))(hy:a.eval y=v)(hc:w.cell? ⟨b,o,none⟩=some old)(hf:w.frozen? ⟨b,o,none⟩=false)(hi:(P.info? ty).map (·.size)=some 1)(hv:v.oneCell'=true)
  (h:wpList P ops Q rest (a.put op.dst undef) (w.setCell ⟨b,o,none⟩ v)):wpList P ops Q (op::rest) a w :=
 wpList_plain hgd fun _ hK=>Ha ty x y ho b o v old hx hy hc hf hi hv (hK _ _ h)
theorem PF{P:Program}{ops:Array Oper}{Q:Exit→Act→World→Prop}{i:Nat}{o:Oper}{a:Act}{w:World}{K:Act→World→Prop}(ho:ops[i]?=some o)(hw:Region.wanted o (yielded ops a.tmps)=true)(hd:o.dst=none)(ty:TypeId)(x y:Operand)(hop:o.op=.store ty x y)
  (b k:Nat)(v old:Value)(hx:a.eval x=.pointer (some ⟨b,k,none⟩))(hy:a.eval y=v)(hc:w.cell? ⟨b,k,none⟩=some old)(hf:w.frozen? ⟨b,k,none⟩=false)(hi:(P.info? ty).map (·.size)=some 1)(hv:v.oneCell'=true)
  (h:K a (w.setCell ⟨b,k,none⟩ v)):wpOp P ops Q i K a w :=
 wpOp_step ho fun K' hK=>by
  rw[if_pos hw];exact Ha ty x y hop b k v old hx hy hc hf hi hv (hK _ _ (by rw[hd];exact h))
structure Only(b:Nat)(w w':World):Prop where
 os:w'.os=w.os
 tape:w'.tape=w.tape
 output:w'.output=w.output
 size:w'.heap.size=w.heap.size
 other:∀ k,k≠b→w'.heap[k]?=w.heap[k]?
theorem Only.refl(b:Nat)(w:World):Only b w w:=⟨rfl,rfl,rfl,rfl,fun _ _=>rfl⟩
theorem Only.trans{b:Nat}{w w' w'':World}(h:Only b w w')(k:Only b w' w''):Only b w w'' :=
 ⟨k.os.trans h.os,k.tape.trans h.tape,k.output.trans h.output,k.size.trans h.size,fun i hi=>(k.other i hi).trans (h.other i hi)⟩
theorem Only.below{b m:Nat}{w w':World}(h:Only b w w')(hm:m≤b):Below m w w':=⟨h.os,h.tape,h.output,Nat.le_of_eq h.size.symm,fun k hk=>h.other k (by omega)⟩
theorem Only.one(w:World)(b o:Nat)(v:Value):Only b w (w.setCell ⟨b,o,none⟩ v):=⟨rfl,rfl,rfl,by simp[World.setCell],fun k hk=>heap_setCell_other _ _ _ _ hk⟩
theorem Only.store(w:World)(b o:Nat)(vs:List Value):Only b w (w.setCells b o vs):=by
 induction vs generalizing w o with
 | nil=>exact Only.refl _ _
 | cons v r ih=>exact(Only.one w b o v).trans (ih _ _)
theorem aX{P:Program}{ops:Array Oper}{S:World→Prop}{op:Oper}{a:Act}(hw:Region.wanted op (yielded ops a.tmps)=true)(ty:TypeId)(x:Operand)(ho:op.op=.load ty x)
  (g:Nat)(hx:a.eval x=.pointer (some ⟨g,0,none⟩))(cs:Array Value)(t:TypeId)(fr:Nat × Nat)(d:TypeDesc)(hS:∀ w,S w→w.heap[g]?=some (.cells cs t fr))
  (hu:P.underlying ty=some d)(hd:(match d with|.struct _|.array _ _=>true|_=>false)=true)(hi:(P.info? ty).map (·.size)=some cs.size):YieldsIf P ops S op (.agg cs) a :=
 .inl ⟨hw,fun w hw'=>by
  unfold execOp;simp only[ho,hx,Instr.loadAt,Instr.sureAddr,Sem.run_bind,Sem.run_pure,Result.andThen_ok,run_loadVar_row w g t ty cs fr d (hS w hw') hu hd hi]⟩
theorem ZB{P:Program}{fn:Func}{p p':Tmp}{ty ty':TypeId}(h:fn.results=#[.cell p ty,.cell p' ty'])(tmps:Array Value)(w:World)(g g':Nat)(t t':TypeId)(cs cs':Array Value)(fr fr':Nat × Nat)(d d':TypeDesc)
  (hp:tmps.getD p undef=.pointer (some ⟨g,0,none⟩))(hg:w.heap[g]?=some (.cells cs t fr))
  (hu:P.underlying ty=some d)(hd:(match d with|.struct _|.array _ _=>true|_=>false)=true)(hi:(P.info? ty).map (·.size)=some cs.size)
  (hp':tmps.getD p' undef=.pointer (some ⟨g',0,none⟩))(hg':w.heap[g']?=some (.cells cs' t' fr'))
  (hu':P.underlying ty'=some d')(hd':(match d' with|.struct _|.array _ _=>true|_=>false)=true)(hi':(P.info? ty').map (·.size)=some cs'.size) :
  (results fn tmps).run P w=.ok (.tuple #[.agg cs,.agg cs']) w:=by
 have hq:tmps[p]?.getD undef=.pointer (some ⟨g,0,none⟩):=by simpa using hp
 have hq':tmps[p']?.getD undef=.pointer (some ⟨g',0,none⟩):=by simpa using hp'
 simp[results,h,hq,hq',asAddr,run_loadVar_row w g t ty cs fr d hg hu hd hi,run_loadVar_row w g' t' ty' cs' fr' d' hg' hu' hd' hi']
theorem ZC{P:Program}{fn:Func}{p p' u:Tmp}{ty ty':TypeId}(h:fn.results=#[.cell p ty,.cell p' ty',.tmp u])(tmps:Array Value)(w:World)(g g':Nat)(t t':TypeId)(cs cs':Array Value)(fr fr':Nat × Nat)(d d':TypeDesc)
  (hp:tmps.getD p undef=.pointer (some ⟨g,0,none⟩))(hg:w.heap[g]?=some (.cells cs t fr))
  (hu:P.underlying ty=some d)(hd:(match d with|.struct _|.array _ _=>true|_=>false)=true)(hi:(P.info? ty).map (·.size)=some cs.size)
  (hp':tmps.getD p' undef=.pointer (some ⟨g',0,none⟩))(hg':w.heap[g']?=some (.cells cs' t' fr'))
  (hu':P.underlying ty'=some d')(hd':(match d' with|.struct _|.array _ _=>true|_=>false)=true)(hi':(P.info? ty').map (·.size)=some cs'.size) :
  (results fn tmps).run P w=.ok (.tuple #[.agg cs,.agg cs',tmps.getD u undef]) w:=by
 have hq:tmps[p]?.getD undef=.pointer (some ⟨g,0,none⟩):=by simpa using hp
 have hq':tmps[p']?.getD undef=.pointer (some ⟨g',0,none⟩):=by simpa using hp'
 simp[results,h,hq,hq',asAddr,run_loadVar_row w g t ty cs fr d hg hu hd hi,run_loadVar_row w g' t' ty' cs' fr' d' hg' hu' hd' hi']
theorem EZ(t e:TypeId)(N k:Nat)(ht:prog.underlying t=some (.array N e))(hk:(prog.info? e).map (·.size)=some k)(b o i:Nat)(hi:i<N)(w:World):(Instr.indexAt t (.pointer (some ⟨b,o,none⟩)) (.int .i64 (i:Int))).run prog w=.ok (.pointer (some ⟨b,o+k*i,none⟩)) w:=by
 have hs:(Go.sizeOf e).run prog w=.ok k w:=by
  cases hq:prog.info? e with
  | none=>rw[hq]at hk;cases hk
  | some x =>
   rw[hq]at hk
   simp at hk;simp[sizeOf,typeInfo,hq,hk]
 simp only[Instr.indexAt,Sem.run_bind,run_underlying ht w,Result.andThen_ok,Instr.sureAddr,Sem.run_pure,asIntOf];rw[if_pos ⟨by omega,by omega⟩];simp[hs,Result.andThen,Addr.add_mid,Nat.mul_comm]
theorem PE{P:Program}{ops:Array Oper}{Q:Exit→Act→World→Prop}{i:Nat}{o:Oper}{a:Act}{w:World}{K:Act→World→Prop}(ho:ops[i]?=some o)(hw:Region.wanted o (yielded ops a.tmps)=true)(hd:o.dst=none)(ty:TypeId)(x y:Operand)(hop:o.op=.store ty x y)
  (b k:Nat)(cells:Array Value)(hx:a.eval x=.pointer (some ⟨b,k,none⟩))(hy:a.eval y=.agg cells)(ht:w.there b k cells.size)(hi:(P.info? ty).map (·.size)=some cells.size)(h1:cells.all (·.oneCell')=true)
  (h:K a (w.setCells b k cells.toList)):wpOp P ops Q i K a w :=
 wpOp_step ho fun K' hK=>by
  rw[if_pos hw];exact wp_store_mid ty x y hop b k cells hx hy ht hi h1 (hK _ _ (by rw[hd];exact h))
theorem JQ{P:Program}(w:World)(base t ty e k bs:Nat)(z:Value)(ht:P.underlying t=some (.slice e))(hinfo:(P.info? e).map (fun i=>(i.zero,i.size,i.bytes))=some (some z,k,bs))(hzk:z.cells.size=k)(hk:0<k)
  (v:Value)(n:Nat)(us:List Value)(hown:w.ownsRow base e k v n us)(g:Nat)(cs:List Value)(hcl:cs.length=k)(hc:w.rangeAt g 0 cs)(h1:∀ u∈cs,u.oneCell'=true)
  (hlen:n≤5864062014634)(hfit:(n+1)*bs≤140737488355328)(hbase:base≤w.heap.size) :
  ∃ v' w',(Builtin.append_ #[t,t] ty #[v,.slice (some ⟨g,0,none⟩) 1 1]).run P w=.ok v' w'∧w'.ownsRow base e k v' (n+1) (us++cs)∧w.grownBy w' v.ownBlock:=by
 obtain⟨i,hi,hz,hsz,hby⟩:=info_parts hinfo;obtain⟨v',w',hr,ho,hg,_⟩:=run_append_own (P:=P) w base t ty e i z k bs ht hi hz hsz hby hzk hk v n _ hown ⟨g,0,none⟩ 1 1 cs (by omega)
  (fun j u hj=>by
   have hadd:(⟨g,0,none⟩:Addr).add j=⟨g,0+j,none⟩:=by unfold Addr.add;split<;>simp_all
   rw[hadd];exact hc j u hj)
  h1 (by unfold maxLen;omega) hfit hbase
 exact⟨v',w',hr,ho,hg⟩
theorem GY{P:Program}(w:World){ops:Array Oper}{rest:List Oper}{o:Oper}{a:Act}{Q:Exit→Act→World→Prop}(hgd:o.guard=none)(s y:Operand)(t:TypeId)
  (ho:o.op=.call { callee:=.builtin .append,args:=#[s,y],argTypes:=#[t,t] })
  (base e k bs:Nat)(z:Value)(ht:P.underlying t=some (.slice e))(hinfo:(P.info? e).map (fun i=>(i.zero,i.size,i.bytes))=some (some z,k,bs))(hzk:z.cells.size=k)(hk:0<k)
  (v:Value)(n:Nat)(us:List Value)(g:Nat)(cs:List Value)(hs:a.eval s=v)(hx:a.eval y=.slice (some ⟨g,0,none⟩) 1 1)(hown:w.ownsRow base e k v n us)(hcl:cs.length=k)(hc:w.rangeAt g 0 cs)(h1:∀ u∈cs,u.oneCell'=true)
  (hlen:n≤5864062014634)(hfit:(n+1)*bs≤140737488355328)(hbase:base≤w.heap.size)
  (h:∀ v' w',w'.ownsRow base e k v' (n+1) (us++cs)→w.grownBy w' v.ownBlock→wpList P ops Q rest (a.put o.dst v') w'):wpList P ops Q (o::rest) a w:=by
 refine wpList_plain hgd fun K hK=>?_;obtain⟨v',w',hrun,r1,r2⟩:=JQ (P:=P) w base t o.type e k bs z ht hinfo hzk hk v n us hown g cs hcl hc h1 hlen hfit hbase;unfold Oper.wp execOp;simp only[ho,resolve,invoke,builtin,Sem.run_bind,Sem.run_pure,Result.andThen_ok,List.map_toArray,List.map_cons,List.map_nil,hs,hx,hrun];exact hK _ _ (h v' w' r1 r2)
theorem SC{w:World}{base e k8 n:Nat}{v:Value}{xs:List Value}(h:w.ownsRow base e k8 v n xs){g:Nat}{cs:Array Value}{t:TypeId}{fr:Nat × Nat}(hg:w.heap[g]?=some (.cells cs t fr))(ht:t≠e):∀ k,v.ownBlock=some k→k≠g:=by
 intro k hk e';rcases h.2 with⟨h1,_⟩|⟨q,cap,cur,h1,_,h2,_⟩
 ·rw[h1]at hk;cases hk
 ·rw[h1]at hk
  have hk':q=k:=by simpa[Value.ownBlock]using hk
  rw[hk',e',hg]at h2
  simp only[Option.some.injEq,Obj.cells.injEq]at h2;exact ht h2.2.1
theorem I5{w w':World}{base e k8 n:Nat}{v:Value}{xs:List Value}(h:w.ownsRow base e k8 v n xs){u:Value}(hg:w.grownBy w' u.ownBlock)(hne:∀ k,v.ownBlock=some k→some k≠u.ownBlock):w'.ownsRow base e k8 v n xs :=
 AT h (fun k hk=>hg.block k (h.lt k hk).2 (hne k hk))
theorem LA{w:World}{b1 b2 e1 e2 k1 k2 n1 n2:Nat}{u v:Value}{xs ys:List Value}(h:w.ownsRow b1 e1 k1 u n1 xs)(g:w.ownsRow b2 e2 k2 v n2 ys)(he:e1≠e2):∀ k,u.ownBlock=some k→some k≠v.ownBlock:=by
 intro k hk e;rcases g.2 with⟨h1,_⟩|⟨q,cap,cur,h1,_,h2,_⟩
 ·rw[h1]at e;cases e
 ·rw[h1]at e
  have hq:k=q:=by simpa[Value.ownBlock]using e
  subst hq;exact SC h h2 (fun x=>he x.symm) k hk rfl
theorem Uz{a b:Int}(h:¬ a=b):(a==b)=false:=by simpa using h
theorem Pc{a b:Int}(h:a=b):(a==b)=true:=by simpa using h
theorem U0{a b:Int}(h:¬ a=b):(a != b)=true:=by simpa using h
theorem Ma{a b:Int}(h:a=b):(a != b)=false:=by simpa using h
def F7(j:Nat)(k:Int):Bool:=if j=0 then D3 k else if j=1 then D0 k else DL k
def Ku(j:Nat):Int:=if j=0 then 4 else if j=1 then 1048576 else 100000
structure LWTab(w:World):Prop where
 lt:1<w.heap.size
 text:∀ k:Nat,k<10→w.cell? ⟨1,4*k,none⟩=some (.string (strOfNums (Ra (k:Int))))
 has:∀ k j:Nat,k<10→j<3→w.cell? ⟨1,4*k+1+j,none⟩=some (.bool (F7 j (k:Int)))
theorem LWTab.below{w w':World}(h:LWTab w)(hb:Below w.heap.size w w'):LWTab w' :=
 ⟨Nat.lt_of_lt_of_le h.lt hb.size,fun k hk=>(hb.cell (p:=⟨1,4*k,none⟩) h.lt).trans (h.text k hk),fun k j hk hj=>(hb.cell (p:=⟨1,4*k+1+j,none⟩) h.lt).trans (h.has k j hk hj)⟩
structure LBTab(w:World):Prop where
 lt:2<w.heap.size
 bnd:∀ j:Nat,j<3→w.cell? ⟨2,j,none⟩=some (.int .i64 (Ku j))
theorem LBTab.below{w w':World}(h:LBTab w)(hb:Below w.heap.size w w'):LBTab w' :=
 ⟨Nat.lt_of_lt_of_le h.lt hb.size,fun j hj=>(hb.cell (p:=⟨2,j,none⟩) h.lt).trans (h.bnd j hj)⟩
theorem Zo:(prog.info? 158).map (·.size)=some 4:=by kernel_rfl
theorem L2(k:Nat)(hk:k<10)(w:World):(Instr.indexAt 159 (.pointer (some ⟨1,0,none⟩)) (.int .i64 (k:Int))).run prog w=.ok (.pointer (some ⟨1,4*k,none⟩)) w:=by
 have h:=EZ 159 158 10 4 underlying159 Zo 1 0 k hk w
 rwa [Nat.zero_add]at h
theorem Lz(k j:Nat)(hj:j<3)(w:World):(Instr.indexAt 156 (.pointer (some ⟨1,4*k+1,none⟩)) (.int .i64 (j:Int))).run prog w=.ok (.pointer (some ⟨1,4*k+1+j,none⟩)) w:=by
 have h:=EZ 156 4 3 1 underlying156 (by kernel_rfl) 1 (4*k+1) j hj w
 rwa [Nat.one_mul]at h
theorem Sz(j:Nat)(hj:j<3)(w:World):(Instr.indexAt 160 (.pointer (some ⟨2,0,none⟩)) (.int .i64 (j:Int))).run prog w=.ok (.pointer (some ⟨2,j,none⟩)) w:=by
 have h:=EZ 160 3 3 1 underlying160 (by kernel_rfl) 2 0 j hj w
 rwa [Nat.zero_add,Nat.one_mul]at h
end Go.Proofs.YtakgfdbjgeopdaaGreatDoor
namespace Go.Proofs.YtakgfdbjgeopdaaGreatDoor
open Go.ChangeShapes Go.WideShapes Go.ChangeAt Go.RowKit
theorem own:ownKnob prog.godebug=none:=by kernel_rfl
theorem WC:laidOutB prog=true:=by kernel_rfl
theorem Q9:prog.cellsOf 3=1:=by kernel_rfl
theorem Wy:prog.cellsOf 4=1:=by kernel_rfl
theorem W7:prog.cellsOf 9=1:=by kernel_rfl
theorem QB:prog.cellsOf 158=4:=by kernel_rfl
theorem QA:prog.cellsOf 156=3:=by kernel_rfl
theorem TP : prog.globalNamed "conclave/lines.words" = some 1 := by kernel_rfl
theorem Pj:(prog.globals[1]?).map (·.type)=some 159:=by kernel_rfl
theorem Q7 : prog.globalNamed "conclave/lines.bounds" = some 2 := by kernel_rfl
theorem Nl:(prog.globals[2]?).map (·.type)=some 160:=by kernel_rfl
theorem JT{H:Type}{P:Program}{ts:List TypeId}{ds:List (DataW H)}(h:(DataW.weightsEach P ts ds).all (·≤reachBytes)=true){j:Nat}{t:TypeId}{d:DataW H}(ht:ts[j]?=some t)(hd:ds[j]?=some d):(DataW.weights P t d).all (·≤reachBytes)=true :=
 List.all_eq_true.2 fun x hx=>List.all_eq_true.1 h x (DataW.weights_mem_each ht hd x hx)
theorem IY{W:World}{name:String}{g:Nat}{cs:Array Value}(hg:prog.globalNamed name=some g)(h:W.var? prog name=some cs):∃ t fr,W.heap[g]?=some (.cells cs t fr):=by
 unfold World.var? at h;rw[hg]at h
 simp only[Option.bind_some]at h;split at h
 ·rename_i c t fr hh
  simp only[Option.some.injEq]at h;subst h;exact⟨t,fr,hh⟩
 ·cases h
theorem Pz{H:Type}{enc:TypeId × Value→H}{W:World}{base:Nat}{sp:Nat→Bool}{held:Bool}{fuel:Nat}{cs:List Value}{a b c:Bool}{p:List MemPlace}
  (h:DataW.trod enc prog W base sp held fuel 156 cs=some (.agg [.lit (.bool a),.lit (.bool b),.lit (.bool c)],p)) :
  cs=[.bool a,.bool b,.bool c]:=by
 obtain⟨xs,m,_,hx,hl,hxl,hb⟩:=DataW.trod_array underlying156 h;rw[QA]at hl
 rw[Wy]at hb
 match xs,hxl,cs,hl with
 | [x0,x1,x2],_,[c0,c1,c2],_ =>
  simp only[List.map_cons,List.map_nil,Prod.mk.injEq,DataW.agg.injEq,List.cons.injEq,and_true]at hx;obtain⟨⟨h0,h1,h2⟩,_⟩:=hx;obtain⟨a0,e0,y0⟩:=DataW.trod_bool underlying4 (hb 0 (by omega));obtain⟨a1,e1,y1⟩:=DataW.trod_bool underlying4 (hb 1 (by omega));obtain⟨a2,e2,y2⟩:=DataW.trod_bool underlying4 (hb 2 (by omega));simp at e0 e1 e2 y0 y1 y2;subst e0 e1 e2 y0 y1 y2;simp at h0 h1 h2;subst h0 h1 h2;rfl
theorem SQ{H:Type}{enc:TypeId × Value→H}{W:World}{base:Nat}{sp:Nat→Bool}{held:Bool}{fuel:Nat}{cs:List Value}{s:List UInt8}{a b c:Bool}{p:List MemPlace}
  (h:DataW.trod enc prog W base sp held fuel 158 cs=some (.agg [.lit (.string s),.agg [.lit (.bool a),.lit (.bool b),.lit (.bool c)]],p)) :
  cs=[.string ⟨s.toArray⟩,.bool a,.bool b,.bool c]:=by
 obtain⟨⟨y0,p0⟩,⟨y1,p1⟩,n,hx,hl,h0,h1⟩:=trod_struct2 underlying158 h;rw[QB]at hl
 simp only[W7,QA]at h0 h1;simp only[Prod.mk.injEq,DataW.agg.injEq,List.cons.injEq,and_true]at hx;obtain⟨⟨rfl,rfl⟩,_⟩:=hx;have r1:=Pz h1;obtain⟨z,e0,y0,_⟩:=DataW.trod_string underlying9 h0
 match cs,hl with
 | [c0,c1,c2,c3],_ =>
  simp at e0 r1 y0;obtain⟨y0,_⟩:=y0;subst e0 y0;obtain⟨rfl,rfl,rfl⟩:=r1;rfl
theorem Q5{l:List Value}{a:Nat}{x0 x1 x2 x3:Value}(h:(l.drop a).take 4=[x0,x1,x2,x3]):l[a]?=some x0∧l[a+1]?=some x1∧l[a+2]?=some x2∧l[a+3]?=some x3:=by
 have g:∀ i,i<4→l[a+i]?=[x0,x1,x2,x3][i]?:=fun i hi=>by rw[← h,List.getElem?_take_of_lt hi,List.getElem?_drop]
 exact⟨g 0 (by omega),g 1 (by omega),g 2 (by omega),g 3 (by omega)⟩
theorem Ug{H:Type}(k:Nat)(hk:k<10){l:List (DataW H)}(h:(Rows.laid_conclave_lines_words:DataW H)=.agg l) :
  l[k]?=some (.agg [.lit (.string ((Ra (k:Int)).map fun n=>UInt8.ofNat n.toNat)),.agg [.lit (.bool (F7 0 (k:Int))),.lit (.bool (F7 1 (k:Int))),.lit (.bool (F7 2 (k:Int)))]]):=by
 simp only[Rows.laid_conclave_lines_words,DataW.agg.injEq]at h;subst h
 match k,hk with
 | 0,_=>rfl
 | 1,_=>rfl
 | 2,_=>rfl
 | 3,_=>rfl
 | 4,_=>rfl
 | 5,_=>rfl
 | 6,_=>rfl
 | 7,_=>rfl
 | 8,_=>rfl
 | 9,_=>rfl
theorem Uf{H:Type}(k:Nat)(hk:k<3){l:List (DataW H)}(h:(Rows.laid_conclave_lines_bounds:DataW H)=.agg l):l[k]?=some (.lit (.int .i64 (Ku k))):=by
 simp only[Rows.laid_conclave_lines_bounds,DataW.agg.injEq]at h;subst h
 match k,hk with
 | 0,_=>rfl
 | 1,_=>rfl
 | 2,_=>rfl
theorem Xl {W : World} {rest : List (String × DataW Unit)} {ps : List MemPlace} (h : DataW.LaidVars prog W (("conclave/lines.bounds", Rows.laid_conclave_lines_bounds) :: ("conclave/lines.words", Rows.laid_conclave_lines_words) :: rest) ps) : LWTab W ∧ LBTab W := by
 obtain⟨g0,t0,cs0,fuel0,p0,q0,hg0,ht0,hvar0,hd0,⟨g1,t1,cs1,fuel1,p1,q1,hg1,ht1,hvar1,hd1,_,_⟩,_⟩:=h;obtain rfl:=Option.some.inj (Q7.symm.trans hg0);obtain rfl:=Option.some.inj (Nl.symm.trans ht0);obtain rfl:=Option.some.inj (TP.symm.trans hg1);obtain rfl:=Option.some.inj (Pj.symm.trans ht1);constructor
 ·obtain⟨xs,m,_,hx,hl,hxl,hb⟩:=DataW.trod_array underlying159 hd1;rw[QB]at hb
  simp only[Prod.mk.injEq]at hx;obtain⟨t,fr,hr⟩:=IY TP hvar1;have hk:∀ k:Nat,k<10→(cs1.toList.drop (k*4)).take 4=[.string (strOfNums (Ra (k:Int))),.bool (F7 0 (k:Int)),.bool (F7 1 (k:Int)),.bool (F7 2 (k:Int))]:=fun k hk=>by
   have h1:=Ug k hk hx.1;rw[List.getElem?_map]at h1
   obtain⟨⟨d,p⟩,hx1,hx2⟩:=Option.map_eq_some_iff.1 h1;have h2:=hb k hk;rw[hx1]at h2
   simp only at hx2;subst hx2;exact SQ h2
  have hc:∀ (i:Nat) (v:Value),cs1.toList[i]?=some v→W.cell? ⟨1,i,none⟩=some v:=fun i v hv=>by
   refine(cell_of_row _ _ i _ _ _ hr).trans ?_
   rwa [Array.getElem?_toList]at hv
  refine⟨(Array.getElem?_eq_some_iff.1 hr).1,fun k h=>?_,fun k j h hj=>?_⟩
  ·rw[Nat.mul_comm];exact hc _ _ (Q5 (hk k h)).1
  ·rw[Nat.mul_comm];obtain⟨_,f1,f2,f3⟩:=Q5 (hk k h)
   match j,hj with
   | 0,_=>exact hc _ _ f1
   | 1,_=>exact hc _ _ f2
   | 2,_=>exact hc _ _ f3
 ·obtain⟨xs,m,_,hx,hl,hxl,hb⟩:=DataW.trod_array underlying160 hd0;rw[Q9]at hb
  simp only[Prod.mk.injEq]at hx;obtain⟨t,fr,hr⟩:=IY Q7 hvar0;refine⟨(Array.getElem?_eq_some_iff.1 hr).1,fun j hj=>(cell_of_row _ _ j _ _ _ hr).trans ?_⟩;have h1:=Uf j hj hx.1;rw[List.getElem?_map]at h1
  obtain⟨⟨d,p⟩,hx1,hx2⟩:=Option.map_eq_some_iff.1 h1;have h2:=hb j hj;rw[hx1]at h2
  obtain⟨n,e0,y0,_⟩:=DataW.trod_int underlying3 h2;simp only[Prod.mk.injEq]at y0;obtain⟨rfl,_⟩:=y0;simp at hx2;subst hx2;have h3:((cs0.toList.drop (j*1)).take 1)[0]?=some (.int .i64 (Ku j)):=by rw[e0];rfl
  rw[List.getElem?_take_of_lt (by omega),List.getElem?_drop,Array.getElem?_toList,Nat.mul_one,Nat.add_zero]at h3
  exact h3
def OI:Array Value:=((List.range 10).flatMap fun k=>[.string (strOfNums (Ra (k:Int))),.bool (F7 0 (k:Int)),.bool (F7 1 (k:Int)),.bool (F7 2 (k:Int))]).toArray
def MQ:Array Value:=((List.range 3).map fun k=>.int .i64 (Ku k)).toArray
def Ue(cs:Array Value):Obj→Obj
 | .cells _ t frozen=>.cells cs t frozen
 | o=>o
end Go.Proofs.YtakgfdbjgeopdaaGreatDoor
namespace Go.Proofs.YtakgfdbjgeopdaaGreatDoor
open Go.RowKit
def cmA(k c s n v:Int):Array Value:=#[.int .i64 k,.int .i64 c,.int .i64 s,.int .i64 n,.int .i64 v]
def tkA(c r u:Int):Array Value:=#[.int .i64 c,.int .i64 r,.int .i64 u]
def InC(c s n v:Int):Prop:=0≤c∧c≤7∧0≤s∧s≤1048576∧0≤n∧n≤7∧0≤v∧v≤1073741824
instance (c s n v:Int):Decidable (InC c s n v):=by unfold InC;exact inferInstance
def Ba(k c s n v:Int):Int :=
 if ¬ (0≤k∧k≤3)then 4
 else if k=0 then(if c=0∧s=0∧n=0∧v=0 then 0 else 3)
 else if ¬ InC c s n v then 2
 else if 1<k∧v≠0 then 3
 else 0
theorem Rt{k c s n v:Int}(h:¬ (0≤k∧k≤3)):Ba k c s n v=4:=if_pos h
theorem Ru{c s n v:Int}(h:c=0∧s=0∧n=0∧v=0):Ba 0 c s n v=0:=by
 unfold Ba;rw[if_neg (by omega),if_pos rfl,if_pos h]
theorem OR{c s n v:Int}(h:¬ (c=0∧s=0∧n=0∧v=0)):Ba 0 c s n v=3:=by
 unfold Ba;rw[if_neg (by omega),if_pos rfl,if_neg h]
theorem OS{k c s n v:Int}(h:1≤k∧k≤3)(hi:¬ InC c s n v):Ba k c s n v=2:=by
 unfold Ba;rw[if_neg (by omega),if_neg (by omega),if_pos hi]
theorem Rr{k c s n v:Int}(h:2≤k∧k≤3)(hi:InC c s n v)(hv:v≠0):Ba k c s n v=3:=by
 unfold Ba;rw[if_neg (by omega),if_neg (by omega),if_neg (fun g=>g hi),if_pos ⟨by omega,hv⟩]
theorem VW{k c s n v:Int}(h:1≤k∧k≤3)(hi:InC c s n v)(hv:k=1∨v=0):Ba k c s n v=0:=by
 unfold Ba;rw[if_neg (by omega),if_neg (by omega),if_neg (fun g=>g hi),if_neg (by omega)]
theorem Hk{k c s n v:Int}(h:Ba k c s n v=0):(0≤k∧k≤3)∧InC c s n v:=by
 unfold Ba at h;split at h
 ·omega
 ·rename_i h1
  split at h
  ·split at h
   ·rename_i h3
    exact⟨by omega,by unfold InC;omega⟩
   ·omega
  ·split at h
   ·omega
   ·rename_i h3
    exact⟨by omega,Classical.not_not.1 h3⟩
def Jm(k c s n v:Int):List Int:=Aw k++Aw c++Aw s++Aw n++Aw v
theorem Ik(k c s n v:Int):(Jm k c s n v).length=20:=rfl
theorem KV(k c s n v:Int):∀ x∈Jm k c s n v,0≤x∧x<256:=by
 intro x hx;rcases List.mem_append.1 hx with hx|hx
 ·rcases List.mem_append.1 hx with hx|hx
  ·rcases List.mem_append.1 hx with hx|hx
   ·rcases List.mem_append.1 hx with hx|hx
    ·exact Bk _ x hx
    ·exact Bk _ x hx
   ·exact Bk _ x hx
  ·exact Bk _ x hx
 ·exact Bk _ x hx
def Ad(l:List Int)(i:Nat):Int:=16777216*l.getD i 0+65536*l.getD (i+1) 0+256*l.getD (i+2) 0+l.getD (i+3) 0
def BY(l:List Int):Int:=if l.length≠20 then 1 else Ba (Ad l 0) (Ad l 4) (Ad l 8) (Ad l 12) (Ad l 16)
def ID(l:List Int):Array Value:=if BY l=0 then cmA (Ad l 0) (Ad l 4) (Ad l 8) (Ad l 12) (Ad l 16)else cmA 0 0 0 0 0
def Ec(c r u:Int):Prop:=(0≤c∧c≤7)∧(0≤r∧r≤7)∧0≤u∧u≤1048576
instance (c r u:Int):Decidable (Ec c r u):=by unfold Ec;exact inferInstance
def Xr(c r u:Int):Int:=if Ec c r u then 0 else 2
theorem Xu{c r u:Int}(h:Ec c r u):Xr c r u=0:=if_pos h
theorem Xt{c r u:Int}(h:¬ Ec c r u):Xr c r u=2:=if_neg h
def LO(k r:Int):Prop:=(k=1∧r/2%2=1)∨(k=2∧r%2=1)∨(k=3∧r/4=1)
instance (k r:Int):Decidable (LO k r):=by unfold LO;exact inferInstance
def DO(tc tr tu k c s n v now:Int):Int :=
 if ¬ Ec tc tr tu then 2
 else if Ba k c s n v≠0 then Ba k c s n v
 else if ¬ (LO k tr∧c=tc)then 11
 else if ¬ (0≤now∧now≤tu)then 10
 else 0
theorem SY{tc tr tu k c s n v now:Int}(h:¬ Ec tc tr tu):DO tc tr tu k c s n v now=2:=if_pos h
theorem SX{tc tr tu k c s n v now:Int}(h:Ec tc tr tu)(h1:Ba k c s n v≠0):DO tc tr tu k c s n v now=Ba k c s n v:=by
 unfold DO;rw[if_neg (fun g=>g h),if_pos h1]
theorem Jb{tc tr tu k c s n v now:Int}(h:Ec tc tr tu)(h1:Ba k c s n v=0)(h2:¬ (LO k tr∧c=tc)):DO tc tr tu k c s n v now=11:=by
 unfold DO;rw[if_neg (fun g=>g h),if_neg (fun g=>g h1),if_pos h2]
theorem Re{tc tr tu k c s n v now:Int}(h:Ec tc tr tu)(h1:Ba k c s n v=0)(h2:LO k tr∧c=tc)(h3:¬ (0≤now∧now≤tu)):DO tc tr tu k c s n v now=10:=by
 unfold DO;rw[if_neg (fun g=>g h),if_neg (fun g=>g h1),if_neg (fun g=>g h2),if_pos h3]
theorem VK{tc tr tu k c s n v now:Int}(h:Ec tc tr tu)(h1:Ba k c s n v=0)(h2:LO k tr∧c=tc)(h3:0≤now∧now≤tu):DO tc tr tu k c s n v now=0:=by
 unfold DO;rw[if_neg (fun g=>g h),if_neg (fun g=>g h1),if_neg (fun g=>g h2),if_neg (fun g=>g h3)]
theorem Q3(a b c d e a' b' c' d' e':Int):∀ w,(binOp .eql 25 (.agg #[.int .i64 a,.int .i64 b,.int .i64 c,.int .i64 d,.int .i64 e]) (.agg #[.int .i64 a',.int .i64 b',.int .i64 c',.int .i64 d',.int .i64 e'])).run prog w=.ok (.bool (decide (a=a'∧b=b'∧c=c'∧d=d'∧e=e'))) w:=by
 intro w;rw[run_eql_struct,run_equalIn_agg w 9999 _ _ _ (by kernel_rfl) (by kernel_rfl)];unfold Program.fieldsOf;rw[underlying25];have h3:=underlying3;simp[Op.eqFields,go_sem,h3]
 repeat' split
 all_goals simp_all
theorem WJ(a b c d e a' b' c' d' e':Int):∀ w,(binOp .neq 25 (.agg #[.int .i64 a,.int .i64 b,.int .i64 c,.int .i64 d,.int .i64 e]) (.agg #[.int .i64 a',.int .i64 b',.int .i64 c',.int .i64 d',.int .i64 e'])).run prog w=.ok (.bool (!decide (a=a'∧b=b'∧c=c'∧d=d'∧e=e'))) w:=by
 intro w;rw[run_neq_struct,run_equalIn_agg w 9999 _ _ _ (by kernel_rfl) (by kernel_rfl)];unfold Program.fieldsOf;rw[underlying25];have h3:=underlying3;simp[Op.eqFields,go_sem,h3]
 repeat' split
 all_goals simp_all
theorem DR{w:World}{g:Nat}{k c s n v:Int}{ty:TypeId}{fr:Nat × Nat}(h:w.heap[g]?=some (.cells (cmA k c s n v) ty fr)) :
  w.cell? ⟨g,0,none⟩=some (.int .i64 k)∧w.cell? ⟨g,1,none⟩=some (.int .i64 c)∧w.cell? ⟨g,2,none⟩=some (.int .i64 s)∧w.cell? ⟨g,3,none⟩=some (.int .i64 n)∧w.cell? ⟨g,4,none⟩=some (.int .i64 v) :=
 ⟨cell_of_row _ _ 0 _ _ _ h,cell_of_row _ _ 1 _ _ _ h,cell_of_row _ _ 2 _ _ _ h,cell_of_row _ _ 3 _ _ _ h,cell_of_row _ _ 4 _ _ _ h⟩
theorem Wt(c s n v:Int):InC c s n v↔(((0≤c∧c≤7)∧(0≤s∧s≤1048576))∧(0≤n∧n≤7))∧(0≤v∧v≤1073741824):=by unfold InC;omega
structure Bc(w:World)(g:Nat)(k c s n v:Int):Prop where
 lt:g<w.heap.size
 row:w.heap[g]?=some (.cells (cmA k c s n v) 25)
theorem Bc.made(w:World)(k c s n v:Int):Bc (w.alloc (.cells (cmA k c s n v) 25)) w.heap.size k c s n v:=⟨by simp,heap_alloc_new _ _⟩
theorem Bc.below{w w':World}{g:Nat}{k c s n v:Int}(h:Bc w g k c s n v)(hb:Below w.heap.size w w'):Bc w' g k c s n v :=
 ⟨Nat.lt_of_lt_of_le h.lt hb.size,(hb.block g h.lt).trans h.row⟩
theorem Fp(k c s n v:Int):(prog.info? 25).map (·.size)=some (cmA k c s n v).size:=by show _=some 5;kernel_rfl
def Lr:List Int:=[0,0,0,2,7,1073741824,1,7,0,4,7,0]
structure NTab(w:World):Prop where
 lt:0<w.heap.size
 cell:∀ i,i<12→w.cell? ⟨0,i,none⟩=some (.int .i64 (Lr.getD i 0))
theorem NTab.below{w w':World}(h:NTab w)(hb:Below w.heap.size w w'):NTab w' :=
 ⟨Nat.lt_of_lt_of_le h.lt hb.size,fun i hi=>(hb.cell (p:=⟨0,i,none⟩) h.lt).trans (h.cell i hi)⟩
theorem DX(n g:Int)(w:World) :
  Calls prog 62 #[.int .i64 n,.int .i64 g] w fun e w'=>e=.returned (.bool (decide (0≤n∧n≤g)))∧w'=w:=by
 by_cases h0:0≤n
 ·by_cases h1:n≤g
  ·rw[decide_eq_true ⟨h0,h1⟩];go_enter func62,ntmps62
   go_wp2
   go_ret;exact⟨Ab (by simp),rfl⟩
  ·rw[decide_eq_false (by omega)];go_enter func62,ntmps62
   go_wp2
   go_ret;exact⟨Ab (by simp),rfl⟩
 ·rw[decide_eq_false (by omega)];go_enter func62,ntmps62
  go_wp2
  go_ret;exact⟨Ab (by simp),rfl⟩
theorem GW{n g:Int}{b:Bool}(h:Hid (decide (0≤n∧n≤g)=b))(w:World) :
  Calls prog 62 #[.int .i64 n,.int .i64 g] w fun e w'=>e=.returned (.bool b)∧w'=w:=by
 rw[← h.out];exact DX n g w
theorem Pq(k:Int)(w:World) :
  Calls prog 84 #[.int .i64 k] w fun e w'=>e=.returned (.bool (decide (0≤k∧k≤3)))∧w'=w:=by
 go_enter func84,ntmps84
 go_wp2_with fail
 refine(DX k 3 _).mono ?_;rintro e w1 ⟨rfl,rfl⟩;go_wp2
 go_ret;exact⟨Ab (by simp),rfl⟩
theorem U6(c s n v:Int)(w:World) :
  Calls prog 85 #[.agg (cmA 0 c s n v)] w fun e w'=>e=.returned (.int .i64 (Ba 0 c s n v))∧Below w.heap.size w w':=by
 have bb:Below w.heap.size w (w.alloc (.cells (cmA 0 c s n v) 25)):=(Below.refl _ _).alloc (Nat.le_refl _) _;simp only[cmA]at bb ⊢;have hq:=WJ 0 c s n v 0 0 0 0 0;by_cases h:c=0∧s=0∧n=0∧v=0
 ·have HE:Hid (0=Ba 0 c s n v):=(Ru h).symm;rw[decide_eq_true ⟨rfl,h⟩]at hq
  clear h;go_enter func85,ntmps85
  go_wp2
  go_ret;exact⟨AC HE.out,bb⟩
 ·have HE:Hid (3=Ba 0 c s n v):=(OR h).symm;rw[decide_eq_false (fun g=>h g.2)]at hq
  clear h;go_enter func85,ntmps85
  go_wp2
  go_ret;exact⟨AC HE.out,bb⟩
theorem NTab.name{w:World}(h:NTab w)(k:Nat)(h0:1≤k)(h1:k≤3):w.cell? ⟨0,k*3+1,none⟩=some (.int .i64 7):=by
 rcases(by omega:k=1∨k=2∨k=3)with rfl|rfl|rfl
 ·exact h.cell 4 (by omega)
 ·exact h.cell 7 (by omega)
 ·exact h.cell 10 (by omega)
theorem Mg(k c s n v:Int)(w:World)(hk:1≤k∧k≤3)(ht:NTab w) :
  Calls prog 86 #[.agg (cmA k c s n v)] w fun e w'=>e=.returned (.bool (decide (InC c s n v)))∧Below w.heap.size w w':=by
 have bb:Below w.heap.size w (w.alloc (.cells (cmA k c s n v) 25)):=(Below.refl _ _).alloc (Nat.le_refl _) _;have hN:=(ht.below bb).name;have rr:=heap_alloc_new w (.cells (cmA k c s n v) 25);simp only[cmA]at bb hN rr ⊢;obtain⟨m,rfl⟩:=Int.eq_ofNat_of_zero_le (show 0≤k by omega);replace hN:=hN m (by omega) (by omega);have k0:(0:Int)≤(m:Int):=by omega
 have k1:(m:Int)<4:=by omega
 have k2:m<4:=by omega
 clear hk ht;have HI:Hid (InC c s n v↔_):=Wt c s n v;generalize hW:w.alloc (.cells #[.int .i64 (m:Int),.int .i64 c,.int .i64 s,.int .i64 n,.int .i64 v] 25)=W at bb hN rr;go_enter func86,ntmps86
 go_wp2_with fail
 clear hW;obtain⟨c0,c1,c2,c3,c4⟩:=DR rr;clear rr;by_cases h1:0≤c∧c≤7
 ·have U1:Hid (decide _=true):=decide_eq_true h1;by_cases h2:0≤s∧s≤1048576
  ·have U2:Hid (decide _=true):=decide_eq_true h2;by_cases h3:0≤n∧n≤7
   ·have U3:Hid (decide _=true):=decide_eq_true h3;by_cases h4:0≤v∧v≤1073741824
    ·have U4:Hid (decide _=true):=decide_eq_true h4;have HB:Hid (true=decide (InC c s n v)):=(decide_eq_true (HI.out.2 ⟨⟨⟨h1,h2⟩,h3⟩,h4⟩)).symm;clear h1 h2 h3 h4 HI;go_quiet ((go_at_call 62;exact Calls.quiet_of_same (GW (by assumption) _)))
     go_wp2
     go_ret;exact⟨Ab HB.out,Ag bb nq⟩
    ·have U4:Hid (decide _=false):=decide_eq_false h4;have HB:Hid (false=decide (InC c s n v)):=(decide_eq_false (fun G=>h4 ((fun g=>g.2) (HI.out.1 G)))).symm;clear h1 h2 h3 h4 HI;go_quiet ((go_at_call 62;exact Calls.quiet_of_same (GW (by assumption) _)))
     go_wp2
     go_ret;exact⟨Ab HB.out,Ag bb nq⟩
   ·have U3:Hid (decide _=false):=decide_eq_false h3;have HB:Hid (false=decide (InC c s n v)):=(decide_eq_false (fun G=>h3 ((fun g=>g.1.2) (HI.out.1 G)))).symm;clear h1 h2 h3 HI;go_quiet ((go_at_call 62;exact Calls.quiet_of_same (GW (by assumption) _)))
    go_wp2
    go_ret;exact⟨Ab HB.out,Ag bb nq⟩
  ·have U2:Hid (decide _=false):=decide_eq_false h2;have HB:Hid (false=decide (InC c s n v)):=(decide_eq_false (fun G=>h2 ((fun g=>g.1.1.2) (HI.out.1 G)))).symm;clear h1 h2 HI;go_quiet ((go_at_call 62;exact Calls.quiet_of_same (GW (by assumption) _)))
   go_wp2
   go_ret;exact⟨Ab HB.out,Ag bb nq⟩
 ·have U1:Hid (decide _=false):=decide_eq_false h1;have HB:Hid (false=decide (InC c s n v)):=(decide_eq_false (fun G=>h1 ((fun g=>g.1.1.1) (HI.out.1 G)))).symm;clear h1 HI;go_quiet ((go_at_call 62;exact Calls.quiet_of_same (GW (by assumption) _)))
  go_wp2
  go_ret;exact⟨Ab HB.out,Ag bb nq⟩
end Go.Proofs.YtakgfdbjgeopdaaGreatDoor
