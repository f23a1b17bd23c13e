/- Part 2 of the walk. -/
import Derived.Deep.RegionHeld3
import Derived.Laws.CopyRow
import Derived.Deep.Cut
import Derived.Deep.MidRow
import Derived.Laws.Strings2
import Derived.Test.YtdjfdfpkkenjbacGreatDoorCards
import Derived.Test.YtdjfdfpkkenjbacGreatDoorTie
import Derived.SizedLaws
import Derived.ChangeOld
import Derived.ChangeSame
import Derived.ChangeMaps5
import Derived.Deep.DeepHandedRow
import Derived.Lib.LaidTab
import Derived.Deep.Strs
import Derived.OrdersHeld
import Derived.Test.YtdjfdfpkkenjbacGreatDoorZ1
set_option maxRecDepth 100000
set_option maxHeartbeats 4000000
open Go.Proofs.Tryz
set_option linter.unusedVariables false
namespace Go.Proofs.YtdjfdfpkkenjbacGreatDoor
section
open Go.RowKit
section
variable{P:Program}{md:Region.Mode}{ops:Array Oper}{Q:Exit->Act->World->Prop}{S:World->Prop}
section
variable{K:Act->World->Prop}{L:Array Bool}{a:Act}{d fuel i:Nat}{o:Oper}{v:Value}{w:World}
theorem Zl{c:World}(g:ops[i]?=some o)(j:Region.wanted o (yielded ops a.tmps)=true)(f:o.dst=some d)(b:(execOp a.eval o).run P w=.ok (.value v) c)(h:K (a.put (some d) v) c):wpOp P ops Q i K a w :=
 wpOp_step g λk e=>by
  rw[if_pos j];unfold Oper.wp;rw[b,Oper.upon_value];exact e _ _ (by rw[f];exact h)
theorem Pk{f:FuncId}{args:Array Value}(k:ops[i]?=some o)(m:Region.wanted o (yielded ops a.tmps)=true)(g:o.dst=some d)(b:(execOp a.eval o).run P w=.ok (.enter f args) w)(h:Calls P f args w λe w'=>∃ v,e=.returned v/\K (a.put (some d) v) w'):wpOp P ops Q i K a w :=
 wpOp_step k λn c=>by
  rw[if_pos m];unfold Oper.wp;rw[b,Oper.upon_enter];refine h.mono λe w' j=>?_;obtain⟨v,rfl,l⟩:=j;exact c _ _ (by rw[g];exact l)
theorem UF(n:ops[i]?=some o)(p:Region.wanted o (yielded ops a.tmps)=true)(k:o.dst=none)(e:TypeId)(x y:Operand)(d:o.op=.store e x y)(g:Nat)(cells:Array Value)(q:a.eval x=.pointer (some ⟨g,0,none⟩))(r:a.eval y=.agg cells)(t:TypeId)(b:Array Value)(l:w.heap[g]?=some (.cells b t (0,0)))(m:(P.info? e).map (·.size)=some cells.size)(c:b.size=cells.size)(f:cells.all (·.oneCell')=true)(h:K a (w.setRow g cells)):wpOp P ops Q i K a w :=
 wpOp_step n λs j=>by
  rw[if_pos p];exact wp_store_row e x y d g cells q r t b l m c f (j _ _ (by rw[k];exact h))
theorem Em(c:Region.ready md ops L=[i])(h:wpOp P ops Q i (λa' w'=>S w'/\wpAnyH P md ops Q S fuel (L.setIfInBounds i true) a' w') a w):wpAnyH P md ops Q S (fuel+1) L a w :=
 wpAnyH_all c (by simp) (λj b=>by
  obtain rfl:j=i:=by simpa using b
  exact h)
theorem cV{i':Nat}(d:Region.ready md ops L=[i,i'])(h:wpOp P ops Q i (λa' w'=>S w'/\wpAnyH P md ops Q S fuel (L.setIfInBounds i true) a' w') a w)(b:wpOp P ops Q i' (λa' w'=>S w'/\wpAnyH P md ops Q S fuel (L.setIfInBounds i' true) a' w') a w):wpAnyH P md ops Q S (fuel+1) L a w :=
 wpAnyH_all d (by simp) (λj c=>by
  rcases(show j=i\/j=i' by simpa using c)with rfl|rfl
  .exact h
  .exact b)
theorem Bd(d:Nat){f:Oper}{v:Value}{e:Nat}{b:Array Bool}{a:Act}{w:World}(m:ops[i]?=some f)(g:f.dst=some d)(o:Region.noSelect ops=true)(l:Region.free md ops b i=true)(n:(Region.ready md ops b).contains i=true)(j:∀ c a w,Q (.panic c) (a.put (some d) v) w->Q (.panic c) a w)(p:YieldsIf P ops S f v a)(k:S w)(h:wpAnyH P md ops Q S e (b.setIfInBounds i true) (a.put (some d) v) w):wpAnyH P md ops Q S (e+1) b a w :=
 wpAnyH_take m o l n (by rw[g];exact j) p k (by rw[g];exact h)
theorem Xg{op:Oper}(j:Region.wanted op (yielded ops a.tmps)=true)(c:TypeId)(x:Operand)(h:op.op=.load c x)(d:TypeDesc)(i:P.underlying c=some d)(l:d.isRow=false)(p:Addr)(k:a.eval x=.pointer (some p))(v:Value)(f:∀ w,S w->w.cell? p=some v):YieldsIf P ops S op v a :=
 .inl ⟨j,λw e=>by
  have b:(isAgg c).run P w=.ok false w:=by
   unfold isAgg;rw[Sem.run_bind,run_underlying i w];cases d<;>simp_all[TypeDesc.isRow]
  have g:(loadVar c p).run P w=.ok v w:=by simp[loadVar,b,f w e,go_sem]
  unfold execOp;simp only[h,k,Instr.loadAt,Instr.sureAddr,Sem.run_bind,Sem.run_pure,Result.andThen_ok,g]⟩
end
end
section
variable{K:Act->World->Prop}{P:Program}{Q:Exit->Act->World->Prop}{a:Act}{b base e g i id k8 n:Nat}{fr:Nat × Nat}{o op:Oper}{ops:Array Oper}{t:TypeId}{v:Value}{w w':World}{xs:List Value}
theorem Fe{l:List Oper}(h:wpList P ops Q l a w):wpList P ops Q l a w:=h
theorem Dc{B:Nat}{a:World}(h:Below B a w){g:Nat}(c:B<=g)(b:Array Value):Below B a (w.setRow g b) :=
 h.trans ⟨rfl,rfl,rfl,by simp,λk d=>setRow_other w g k b (by omega)⟩
theorem FW{a:Nat}(h:w.ownsRow b e k8 v n xs)(c:a<=b):w.ownsRow a e k8 v n xs:=by
 refine⟨h.1,?_⟩;rcases h.2 with h2|⟨g,cap,cur,hv,hbg,hr⟩
 .exact .inl h2
 .exact .inr ⟨g,cap,cur,hv,mg c hbg,hr⟩
theorem DK(h:w.ownsRow base e k8 v n xs)(a:∀ k,v.ownBlock=some k->w'.heap[k]?=w.heap[k]?):w'.ownsRow base e k8 v n xs:=by
 refine⟨h.1,?_⟩;rcases h.2 with h2|⟨g,cap,cur,hv,hb,hg,hr⟩
 .exact .inl h2
 .exact .inr ⟨g,cap,cur,hv,hb,(a g (by rw[hv];rfl)).trans hg,hr⟩
theorem aI{P:Program}{f:Func}{p:Tmp}{c:TypeId}(h:f.results=#[.cell p c])(a:Array Value)(w:World)(g:Nat)(t:TypeId)(b:Array Value)(i:Nat × Nat)(d:TypeDesc)(m:a.getD p undef=.pointer (some ⟨g,0,none⟩))(k:w.heap[g]?=some (.cells b t i))(n:P.underlying c=some d)(j:(match d with|.struct _|.array _ _=>true|_=>false)=true)(l:(P.info? c).map (·.size)=some b.size) :
  (results f a).run P w=.ok (.agg b) w:=by
 have e:a[p]?.getD undef=.pointer (some ⟨g,0,none⟩):=by simpa using m
 simp[results,h,e,asAddr,run_loadVar_row w g t c b i d k n j l]
theorem UN{P:Program}{f:Func}{p u:Tmp}{c:TypeId}(h:f.results=#[.cell p c,.tmp u])(a:Array Value)(w:World)(g:Nat)(t:TypeId)(b:Array Value)(i:Nat × Nat)(d:TypeDesc)(m:a.getD p undef=.pointer (some ⟨g,0,none⟩))(k:w.heap[g]?=some (.cells b t i))(n:P.underlying c=some d)(j:(match d with|.struct _|.array _ _=>true|_=>false)=true)(l:(P.info? c).map (·.size)=some b.size) :
  (results f a).run P w=.ok (.tuple #[.agg b,a.getD u undef]) w:=by
 have e:a[p]?.getD undef=.pointer (some ⟨g,0,none⟩):=by simpa using m
 simp[results,h,e,asAddr,run_loadVar_row w g t c b i d k n j l]
theorem Sl.qW{l:List Int}(h:Sl w v l):∃ a cap,v=.slice a l.length cap:=by
 obtain⟨⟨a,cap,e,_⟩,_,_⟩:=h;exact⟨a,cap,e⟩
theorem Sl.so{ad:Addr}{g:Nat}{m:List Int}(h:Sl w (.slice (some ad) n g) m):∀ j u,(m.map (Value.int .u8))[j]?=some u->w.cell? (ad.add j)=some u:=by
 intro j u f;obtain⟨⟨a,k,e,l,o,i⟩,_⟩:=h;simp only[Value.slice.injEq]at e;obtain⟨rfl,rfl,rfl⟩:=e;rcases i with rfl|⟨b,off,hab,_,hcell⟩
 .simp at f
 .obtain rfl:ad=⟨b,off,none⟩:=by simpa using hab
  have c:j<m.length:=by
   have:=(V'.1 f).1;simpa using this
  have d:(⟨b,off,none⟩:Addr).add j=⟨b,off+j,none⟩:=by unfold Addr.add;split<;>simp_all
  rw[d,hcell j c];simp[List.getElem?_eq_getElem c]at f
  rw[AO c,f]
theorem Rj(w:World)(c x F G e:Nat)(y:P.underlying x=some (.slice e))(q:(P.info? e).map (·.size)=some 1)(g n:Nat)(H:List Value)(h:w.ownsRow c e 1 (.slice (some ⟨g,0,none⟩) n n) n H)(u:Value)(m:List Int)(D:n<=m.length)(z:Sl w u m) :
  ∃ w',(Builtin.copy_ #[x,F] G #[.slice (some ⟨g,0,none⟩) n n,u]).run P w=.ok (goInt n) w'/\w'.ownsRow c e 1 (.slice (some ⟨g,0,none⟩) n n) n ((m.take n).map (Value.int .u8))/\Below g w w':=by
 obtain⟨i,l,B⟩:∃ i,P.info? e=some i/\i.size=1:=by
  cases l:P.info? e with
  | none=>rw[l]at q;cases q
  | some i=>rw[l]at q;exact⟨i,rfl,by simpa using q⟩
 rcases h.2 with⟨h0,_⟩|⟨g',cap,cur,hvv,hbg,hg,hnc,hcm,hcs,ht⟩
 .cases h0
 .simp only[Value.slice.injEq,X',Addr.mk.injEq]at hvv;obtain⟨⟨rfl,_⟩,_,rfl⟩:=hvv;have t:=z;obtain⟨⟨a,A,rfl,J,E,I⟩,_⟩:=z;have f:Nat.min m.length n=n:=Nat.min_eq_right D;cases a with
  | none =>
   have r:=E rfl;subst r;have s:n=0:=by omega
   subst s;refine⟨w,?_,⟨by simp,.inr ⟨g,0,cur,rfl,hbg,hg,hnc,hcm,hcs,by simp⟩⟩,Below.refl _ _⟩;simp[Builtin.copy_,run_underlying y,Builtin.lenOf,Builtin.firstCells,sizeOf,typeInfo,l,storeCells]
  | some ad =>
   have b:((m.take n).map (Value.int .u8)).length=n:=by simp;omega
   have C:=run_firstCells_some (P:=P) w 1 n ad m.length A ((m.take n).map (Value.int .u8)) (by rw[b];omega) (λj v p=>t.so j v (by
    rw[pK,nk]at p
    split at p
    .exact p
    .cases p))
   have o:=run_storeCells_at P g 0 e ((m.take n).map (Value.int .u8)) 0 cur w hg (by rw[b];omega) (Fj (m.take n));have d:(cur.toList.take (0+0)++(m.take n).map (Value.int .u8)++cur.toList.drop (0+0+((m.take n).map (Value.int .u8)).length))=(m.take n).map (Value.int .u8):=by
    rw[b,na (by rw[nF];omega)];simp
   rw[d]at o
   refine⟨w.setRow g ((m.take n).map (Value.int .u8)).toArray,?_,⟨by rw[b];omega,.inr ⟨g,n,((m.take n).map (Value.int .u8)).toArray,rfl,hbg,setRow_heap w g cur _ e _ hg,A' _,hcm,by rw[oh,b];omega,?_⟩⟩,?_⟩
   .simp[-List.map_take,Builtin.copy_,run_underlying y,Builtin.lenOf,sizeOf,typeInfo,l,B,f,C,o]
   .rw[mr (by show((m.take n).map (Value.int .u8)).length<=_;rw[b];omega)]
   .exact⟨rfl,rfl,rfl,by simp,λk K=>setRow_other w g k _ (by omega)⟩
theorem MO(w:World){j:Array Oper}{c:List Oper}{o:Oper}{a:Act}{Q:Exit->Act->World->Prop}(l:o.guard=none)(d s:Operand)(k r:TypeId)(A:o.op=.call { callee:=.builtin .copy,args:=#[d,s],argTypes:=#[k,r] })(b e:Nat)(C:P.underlying k=some (.slice e))(B:(P.info? e).map (·.size)=some 1)(g n:Nat)(v:List Value)(y:a.eval d=.slice (some ⟨g,0,none⟩) n n)(f:w.ownsRow b e 1 (.slice (some ⟨g,0,none⟩) n n) n v)(u:Value)(q:a.eval s=u)(m:List Int)(z:n<=m.length)(D:Sl w u m)(t:List Int)(p:t=m.take n)(h:∀ w',w'.ownsRow b e 1 (.slice (some ⟨g,0,none⟩) n n) n (t.map (Value.int .u8))->Below g w w'->wpList P j Q c (a.put o.dst (goInt n)) w'):wpList P j Q (o::c) a w:=by
 subst p;refine wpList_plain l λK x=>?_;obtain⟨w',i,E,F⟩:=Rj (P:=P) w b k r o.type e C B g n v f u m z D;unfold Oper.wp execOp;simp only[A,resolve,invoke,builtin,Sem.run_bind,Sem.run_pure,Result.andThen_ok,oT,mR,nG,y,q,i];exact x _ _ (h w' E F)
theorem MR(w:World){g:Array Oper}{d:List Oper}{o:Oper}{a:Act}{Q:Exit->Act->World->Prop}(v:o.guard=none)(l c:Operand)(t:TypeId)(h:o.op=Op.makeSlice t l c)(b:Nat)(e:TypeId)(r:P.underlying t=some (.slice e))(f:(P.info? e).map (λi=>(i.zero,i.size,i.bytes))=some (some (.int .u8 0),1,1))(n:Nat)(y:a.eval l=.int .i64 (n:Int))(u:a.eval c=.int .i64 (n:Int))(B:n<=140737488351232)(p:b<=w.heap.size)(s:∀ w',Hid (∃ xs,w'.ownsRow b e 1 (.slice (some ⟨w.heap.size,0,none⟩) n n) n xs)->w.grownBy w' none->wpList P g Q d (a.put o.dst (.slice (some ⟨w.heap.size,0,none⟩) n n)) w'):wpList P g Q (o::d) a w:=by
 obtain⟨z,x,j,k,m⟩:=info_parts f;refine wpList_make_full w v l c t h b e z (.int .u8 0) 1 r x j k _ _ _ _ n y u rfl rfl (by rw[m];omega) (by unfold maxLen;omega) p (λw' A q=>s w' ⟨_,A⟩ q)
theorem EG(w:World)(a:Obj):(w.alloc a).heap[w.heap.size]?=some a:=heap_alloc_new w a
theorem Cq(w:World)(a:Obj):Bw w (w.alloc a):=(Below.refl _ _).alloc (A' _) _
theorem TI(w:World)(a b:Obj):((w.alloc a).alloc b).heap[w.heap.size]?=some a:=heap_alloc2_old w a b
theorem TJ(w:World)(b a:Obj):((w.alloc b).alloc a).heap[w.heap.size+1]?=some a:=heap_alloc2_new w b a
theorem WM(w:World)(a b:Obj):Bw w ((w.alloc a).alloc b):=((Below.refl _ _).alloc (A' _) _).alloc (by simp) _
theorem EV(h:w.ownsRow base e k8 v n xs):∃ g c,v=.slice g n c:=by
 rcases h.2 with⟨rfl,h0⟩|⟨g,cap,cur,hv,_⟩
 .exact⟨none,0,by rw[h0]⟩
 .exact⟨_,_,hv⟩
theorem aJ(R:World->Prop){A:Act}(c:∀ K':Act->World->Prop,Hid (∀ W2,R W2->K' A W2)->(Code.region id ops true).wp P (Exit.then K' Q) a w)(b:∀ W2,R W2->K A W2):(Code.region id ops true).wp P (Exit.then K Q) a w:=c K b
theorem aK(R:Option Addr->Nat->World->Prop){A:Option Addr->Nat->Act}(d:∀ K':Act->World->Prop,Hid (∀ g c W2,R g c W2->K' (A g c) W2)->(Code.region id ops true).wp P (Exit.then K' Q) a w)(b:∀ g c W2,R g c W2->K (A g c) W2):(Code.region id ops true).wp P (Exit.then K Q) a w:=d K b
theorem Mu{cs:List Value}(h:w.heap[g]?=some (.cells cs.toArray t fr)):w.rangeAt g 0 cs:=λj u a=>by
 rw[cell_of_row _ _ (0+j) _ _ _ h];simpa using a
theorem Mv(h:w.ownsRow base 5 k8 v n xs){g:Nat}{c:Array Value}{t:TypeId}{d:Nat × Nat}(f:w.heap[g]?=some (.cells c t d))(i:t≠5):∀ k,v.ownBlock=some k->k≠g:=by
 intro k a e;rcases h.2 with⟨h1,_⟩|⟨q,cap,cur,h1,_,h2,_⟩
 .rw[h1]at a;cases a
 .rw[h1]at a
  have b:q=k:=by simpa[Value.ownBlock]using a
  rw[b,e,f]at h2
  simp only[X',Obj.cells.injEq]at h2;exact i h2.2.1
theorem WL(h:w.ownsRow base 5 k8 v n xs){g:Nat}{b:Array Value}{t:TypeId}{c:Nat × Nat}(d:w.heap[g]?=some (.cells b t c))(f:t≠5)(a:Array Value):(w.setRow g a).ownsRow base 5 k8 v n xs :=
 DK h (λk e=>setRow_other _ _ _ _ (Mv h d f k e))
theorem j0:(prog.info? 5).map (·.size)=some 1:=by kernel_rfl
theorem P3(w:World)(b o:Nat)(f:TypeId)(v e:Value)(j:w.cell? ⟨b,o,none⟩=some e)(k:w.frozen? ⟨b,o,none⟩=false)(c:(P.info? f).map (·.size)=some 1)(g:v.oneCell'=true) :
  (storeVar f ⟨b,o,none⟩ v).run P w=.ok () (w.setCell ⟨b,o,none⟩ v):=by
 cases h:P.info? f with
 | none=>rw[h]at c;cases c
 | some i =>
  rw[h]at c
  simp at c;have a:(⟨b,o,none⟩:Addr).add 0=⟨b,o,none⟩:=by unfold Addr.add;split<;>simp_all
  have l:(Go.store ⟨b,o,none⟩ v .plain).run P w=.ok () (w.setCell ⟨b,o,none⟩ v):=by
   rw[run_store P w _ v .plain g,j];simp[k]
  have d:v.cells=#[v]:=by cases v<;>first|rfl|cases g
  unfold storeVar;rw[d];simp[sizeOf,typeInfo,h,c,storeCells,a,l,Result.andThen]
theorem PM{Q:Exit->Act->World->Prop}(d:TypeId)(x y:Operand)(i:op.op=.store d x y)(b o:Nat)(v c:Value)(k:a.eval x=.pointer (some ⟨b,o,none⟩))(l:a.eval y=v)(e:w.cell? ⟨b,o,none⟩=some c)(f:w.frozen? ⟨b,o,none⟩=false)(g:(P.info? d).map (·.size)=some 1)(j:v.oneCell'=true)(h:K (a.put op.dst undef) (w.setCell ⟨b,o,none⟩ v)):op.wp P a w K Q:=by
 unfold Oper.wp execOp;simp only[i,k,l,Instr.storeAt,Instr.sureAddr,Sem.run_bind,Sem.run_pure,Result.andThen_ok,P3 w b o d v c e f g j];exact h
theorem SZ(n:ops[i]?=some o)(q:Region.wanted o (yielded ops a.tmps)=true)(j:o.dst=none)(e:TypeId)(x y:Operand)(d:o.op=.store e x y)(b k:Nat)(v c:Value)(r:a.eval x=.pointer (some ⟨b,k,none⟩))(s:a.eval y=v)(g:w.cell? ⟨b,k,none⟩=some c)(l:w.frozen? ⟨b,k,none⟩=false)(m:(P.info? e).map (·.size)=some 1)(p:v.oneCell'=true)(h:K a (w.setCell ⟨b,k,none⟩ v)):wpOp P ops Q i K a w :=
 wpOp_step n λt f=>by
  rw[if_pos q];exact PM e x y d b k v c r s g l m p (f _ _ (by rw[j];exact h))
structure Only(b:Nat)(w w':World):Prop where
 os:w'.os=w.os
 tape:w'.tape=w.tape
 output:w'.output=w.output
 size:w'.heap.size=w.heap.size
 other:∀ k,k≠b->w'.heap[k]?=w.heap[k]?
theorem Only.refl(b:Nat)(w:World):Only b w w:=⟨rfl,rfl,rfl,rfl,λ_ _=>rfl⟩
theorem Only.trans{a:World}(h:Only b w w')(k:Only b w' a):Only b w a :=
 ⟨k.os.trans h.os,k.tape.trans h.tape,k.output.trans h.output,k.size.trans h.size,λi c=>(k.other i c).trans (h.other i c)⟩
theorem Only.one(w:World)(b o:Nat)(v:Value):Only b w (w.setCell ⟨b,o,none⟩ v):=⟨rfl,rfl,rfl,by simp[World.setCell],λk a=>heap_setCell_other _ _ _ _ a⟩
theorem Only.store(w:World)(b o:Nat)(a:List Value):Only b w (w.setCells b o a):=by
 induction a generalizing w o with
 | nil=>exact Only.refl _ _
 | cons v r ih=>exact(Only.one w b o v).trans (ih _ _)
theorem kY{P:Program}{b:Array Oper}{S:World->Prop}{op:Oper}{a:Act}(n:Region.wanted op (yielded b a.tmps)=true)(e:TypeId)(x:Operand)(l:op.op=.load e x)(g:Nat)(o:a.eval x=.pointer (some ⟨g,0,none⟩))(c:Array Value)(t:TypeId)(h:Nat × Nat)(d:TypeDesc)(i:∀ w,S w->w.heap[g]?=some (.cells c t h))(m:P.underlying e=some d)(j:(match d with|.struct _|.array _ _=>true|_=>false)=true)(k:(P.info? e).map (·.size)=some c.size):YieldsIf P b S op (.agg c) a :=
 .inl ⟨n,λw f=>by
  unfold execOp;simp only[l,o,Instr.loadAt,Instr.sureAddr,Sem.run_bind,Sem.run_pure,Result.andThen_ok,run_loadVar_row w g t e c h d (i w f) m j k]⟩
theorem j1{P:Program}{u:Func}{p s:Tmp}{j c:TypeId}(h:u.results=#[.cell p j,.cell s c])(a:Array Value)(w:World)(g i:Nat)(t x:TypeId)(f b:Array Value)(v e:Nat × Nat)(d k:TypeDesc)(B:a.getD p undef=.pointer (some ⟨g,0,none⟩))(z:w.heap[g]?=some (.cells f t v))(D:P.underlying j=some d)(y:(match d with|.struct _|.array _ _=>true|_=>false)=true)(A:(P.info? j).map (·.size)=some f.size)(o:a.getD s undef=.pointer (some ⟨i,0,none⟩))(m:w.heap[i]?=some (.cells b x e))(r:P.underlying c=some k)(l:(match k with|.struct _|.array _ _=>true|_=>false)=true)(n:(P.info? c).map (·.size)=some b.size) :
  (results u a).run P w=.ok (.tuple #[.agg f,.agg b]) w:=by
 have C:a[p]?.getD undef=.pointer (some ⟨g,0,none⟩):=by simpa using B
 have q:a[s]?.getD undef=.pointer (some ⟨i,0,none⟩):=by simpa using o
 simp[results,h,C,q,asAddr,run_loadVar_row w g t j f v d z D y A,run_loadVar_row w i x c b e k m r l n]
theorem j2{P:Program}{v:Func}{p s u:Tmp}{j c:TypeId}(h:v.results=#[.cell p j,.cell s c,.tmp u])(a:Array Value)(w:World)(g i:Nat)(t y:TypeId)(f b:Array Value)(x e:Nat × Nat)(d k:TypeDesc)(C:a.getD p undef=.pointer (some ⟨g,0,none⟩))(A:w.heap[g]?=some (.cells f t x))(E:P.underlying j=some d)(z:(match d with|.struct _|.array _ _=>true|_=>false)=true)(B:(P.info? j).map (·.size)=some f.size)(o:a.getD s undef=.pointer (some ⟨i,0,none⟩))(m:w.heap[i]?=some (.cells b y e))(r:P.underlying c=some k)(l:(match k with|.struct _|.array _ _=>true|_=>false)=true)(n:(P.info? c).map (·.size)=some b.size) :
  (results v a).run P w=.ok (.tuple #[.agg f,.agg b,a.getD u undef]) w:=by
 have D:a[p]?.getD undef=.pointer (some ⟨g,0,none⟩):=by simpa using C
 have q:a[s]?.getD undef=.pointer (some ⟨i,0,none⟩):=by simpa using o
 simp[results,h,D,q,asAddr,run_loadVar_row w g t j f x d A E z B,run_loadVar_row w i y c b e k m r l n]
theorem Ri(t e:TypeId)(N k:Nat)(d:prog.underlying t=some (.array N e))(a:(prog.info? e).map (·.size)=some k)(b o i:Nat)(f:i<N)(w:World):(Instr.indexAt t (.pointer (some ⟨b,o,none⟩)) (.int .i64 (i:Int))).run prog w=.ok (.pointer (some ⟨b,o+k*i,none⟩)) w:=by
 have c:(Go.sizeOf e).run prog w=.ok k w:=by
  cases hq:prog.info? e with
  | none=>rw[hq]at a;cases a
  | some x =>
   rw[hq]at a
   simp at a;simp[sizeOf,typeInfo,hq,a]
 simp only[Instr.indexAt,Sem.run_bind,run_underlying d w,Result.andThen_ok,Instr.sureAddr,Sem.run_pure,asIntOf];rw[if_pos ⟨by omega,by omega⟩];simp[c,Result.andThen,Addr.add_mid,Nat.mul_comm]
theorem SY(l:ops[i]?=some o)(n:Region.wanted o (yielded ops a.tmps)=true)(g:o.dst=none)(d:TypeId)(x y:Operand)(c:o.op=.store d x y)(b k:Nat)(cells:Array Value)(p:a.eval x=.pointer (some ⟨b,k,none⟩))(q:a.eval y=.agg cells)(m:w.there b k cells.size)(j:(P.info? d).map (·.size)=some cells.size)(e:cells.all (·.oneCell')=true)(h:K a (w.setCells b k cells.toList)):wpOp P ops Q i K a w :=
 wpOp_step l λr f=>by
  rw[if_pos n];exact wp_store_mid d x y c b k cells p q m j e (f _ _ (by rw[g];exact h))
def MH(j:Nat)(k:Int):Bool:=if j=0 then Gf k else if j=1 then In k else Io k
def bP(j:Nat):Int:=if j=0 then 4 else if j=1 then 1048576 else 100000
structure LWTab(w:World):Prop where
 lt:1<w.heap.size
 text:∀ k:Nat,k<10->w.cell? ⟨1,4*k,none⟩=some (.string (strOfNums (Ve (k:Int))))
 has:∀ k j:Nat,k<10->j<3->w.cell? ⟨1,4*k+1+j,none⟩=some (.bool (MH j (k:Int)))
theorem LWTab.af(h:LWTab w)(a:Bw w w'):LWTab w' :=
 ⟨Z' h.lt a.size,λk b=>(a.cell (p:=⟨1,4*k,none⟩) h.lt).trans (h.text k b),λk j b c=>(a.cell (p:=⟨1,4*k+1+j,none⟩) h.lt).trans (h.has k j b c)⟩
structure LBTab(w:World):Prop where
 lt:2<w.heap.size
 sR:∀ j:Nat,j<3->w.cell? ⟨2,j,none⟩=some (.int .i64 (bP j))
theorem LBTab.af(h:LBTab w)(a:Bw w w'):LBTab w' :=
 ⟨Z' h.lt a.size,λj b=>(a.cell (p:=⟨2,j,none⟩) h.lt).trans (h.sR j b)⟩
theorem jj:(prog.info? 145).map (·.size)=some 4:=by kernel_rfl
theorem W9(k:Nat)(a:k<10)(w:World):(Instr.indexAt 146 (.pointer (some ⟨1,0,none⟩)) (.int .i64 (k:Int))).run prog w=.ok (.pointer (some ⟨1,4*k,none⟩)) w:=by
 have h:=Ri 146 145 10 4 underlying146 jj 1 0 k a w
 rwa [mU]at h
end
end
section
open Go.ChangeShapes Go.WideShapes Go.ChangeAt Go.RowKit
section
theorem own:ownKnob prog.godebug=none:=by kernel_rfl
theorem dk:laidOutB prog=true:=by kernel_rfl
theorem dg:prog.cellsOf 3=1:=by kernel_rfl
theorem dh:prog.cellsOf 4=1:=by kernel_rfl
theorem di:prog.cellsOf 9=1:=by kernel_rfl
theorem Uy:prog.cellsOf 145=4:=by kernel_rfl
theorem Ux:prog.cellsOf 143=3:=by kernel_rfl
theorem Ys : prog.globalNamed "conclave/lines.words" = some 1 := by kernel_rfl
theorem S4:(prog.globals[1]?).map (·.type)=some 146:=by kernel_rfl
theorem Uu : prog.globalNamed "conclave/lines.bounds" = some 2 := by kernel_rfl
theorem Qv:(prog.globals[2]?).map (·.type)=some 147:=by kernel_rfl
variable{H:Type}{W:World}{a b c held:Bool}{base fuel:Nat}{cs:List Value}{p:List MemPlace}{sp:Nat->Bool}
theorem KU{name:String}{g:Nat}{a:Array Value}(b:prog.globalNamed name=some g)(h:W.var? prog name=some a):∃ t fr,W.heap[g]?=some (.cells a t fr):=by
 unfold World.var? at h;rw[b]at h
 simp only[Option.bind_some]at h;split at h
 .rename_i c t fr hh
  simp only[X']at h;subst h;exact⟨t,fr,hh⟩
 .cases h
theorem SP{e:TypeId × Value->H}(h:DataW.trod e prog W base sp held fuel 143 cs=some (.agg [.lit (.bool a),.lit (.bool b),.lit (.bool c)],p)) :
  cs=[.bool a,.bool b,.bool c]:=by
 obtain⟨u,m,_,q,o,f,d⟩:=DataW.trod_array underlying143 h;rw[Ux]at o
 rw[dh]at d
 match u,f,cs,o with
 | [x0,x1,x2],_,[c0,c1,c2],_ =>
  simp only[mR,nG,m6,DataW.agg.injEq,ol,and_true]at q;obtain⟨⟨k,l,n⟩,_⟩:=q;obtain⟨a0,g,r⟩:=DataW.trod_bool underlying4 (d 0 (by omega));obtain⟨v,i,s⟩:=DataW.trod_bool underlying4 (d 1 (by omega));obtain⟨w,j,t⟩:=DataW.trod_bool underlying4 (d 2 (by omega));simp at g i j r s t;subst g i j r s t;simp at k l n;subst k l n;rfl
theorem Xf{e:TypeId × Value->H}{s:List UInt8}(h:DataW.trod e prog W base sp held fuel 145 cs=some (.agg [.lit (.string s),.agg [.lit (.bool a),.lit (.bool b),.lit (.bool c)]],p)) :
  cs=[.string ⟨s.toArray⟩,.bool a,.bool b,.bool c]:=by
 obtain⟨⟨d,m⟩,⟨o,p1⟩,n,k,j,g,i⟩:=trod_struct2 underlying145 h;rw[Uy]at j
 simp only[di,Ux]at g i;simp only[m6,DataW.agg.injEq,ol,and_true]at k;obtain⟨⟨rfl,rfl⟩,_⟩:=k;have l:=SP i;obtain⟨z,f,d,_⟩:=DataW.trod_string underlying9 g
 match cs,j with
 | [c0,c1,c2,c3],_ =>
  simp at f l d;obtain⟨d,_⟩:=d;subst f d;obtain⟨rfl,rfl,rfl⟩:=l;rfl
theorem Us{l:List Value}{a:Nat}{b c d e:Value}(h:(l.drop a).take 4=[b,c,d,e]):l[a]?=some b/\l[a+1]?=some c/\l[a+2]?=some d/\l[a+3]?=some e:=by
 have g:∀ i,i<4->l[a+i]?=[b,c,d,e][i]?:=λi f=>by rw[<- h,List.getElem?_take_of_lt f,ng]
 exact⟨g 0 (by omega),g 1 (by omega),g 2 (by omega),g 3 (by omega)⟩
theorem YE(k:Nat)(a:k<10){l:List (DataW H)}(h:(Rows.laid_conclave_lines_words:DataW H)=.agg l) :
  l[k]?=some (.agg [.lit (.string ((Ve (k:Int)).map λn=>UInt8.ofNat n.toNat)),.agg [.lit (.bool (MH 0 (k:Int))),.lit (.bool (MH 1 (k:Int))),.lit (.bool (MH 2 (k:Int)))]]):=by
 simp only[Rows.laid_conclave_lines_words,DataW.agg.injEq]at h;subst h
 match k,a with
 | 0,_=>rfl
 | 1,_=>rfl
 | 2,_=>rfl
 | 3,_=>rfl
 | 4,_=>rfl
 | 5,_=>rfl
 | 6,_=>rfl
 | 7,_=>rfl
 | 8,_=>rfl
 | 9,_=>rfl
theorem YD(k:Nat)(a:k<3){l:List (DataW H)}(h:(Rows.laid_conclave_lines_bounds:DataW H)=.agg l):l[k]?=some (.lit (.int .i64 (bP k))):=by
 simp only[Rows.laid_conclave_lines_bounds,DataW.agg.injEq]at h;subst h
 match k,a with
 | 0,_=>rfl
 | 1,_=>rfl
 | 2,_=>rfl
theorem eH{r : List (String × DataW Unit)}{N : List MemPlace}(h : DataW.LaidVars prog W (("conclave/lines.bounds", Rows.laid_conclave_lines_bounds) :: ("conclave/lines.words", Rows.laid_conclave_lines_words) :: r) N) : LWTab W ∧ LBTab W := by
 obtain⟨O,T,w,x,Q,R,B,D,b,z,⟨P,U,f,y,p1,S,C,E,c,A,_,_⟩,_⟩:=h;obtain rfl:=mT (Uu.symm.trans B);obtain rfl:=mT (Qv.symm.trans D);obtain rfl:=mT (Ys.symm.trans C);obtain rfl:=mT (S4.symm.trans E);constructor
 .obtain⟨xs,m,_,hx,hl,hxl,hb⟩:=DataW.trod_array underlying146 A;rw[Uy]at hb
  simp only[m6]at hx;obtain⟨t,L,q⟩:=KU Ys c;have o:∀ k:Nat,k<10->(f.toList.drop (k*4)).take 4=[.string (strOfNums (Ve (k:Int))),.bool (MH 0 (k:Int)),.bool (MH 1 (k:Int)),.bool (MH 2 (k:Int))]:=λk o=>by
   have g:=YE k o hx.1;rw[mX]at g
   obtain⟨⟨d,p⟩,e,a⟩:=nI.1 g;have l:=hb k o;rw[e]at l
   simp only at a;subst a;exact Xf l
  have s:∀ (i:Nat) (v:Value),f.toList[i]?=some v->W.cell? ⟨1,i,none⟩=some v:=λi v M=>by
   refine(cell_of_row _ _ i _ _ _ q).trans ?_
   rwa [Array.getElem?_toList]at M
  refine⟨(U'.1 q).1,λk h=>?_,λk j h u=>?_⟩
  .rw[oY];exact s _ _ (Us (o k h)).1
  .rw[oY];obtain⟨_,I,J,K⟩:=Us (o k h)
   match j,u with
   | 0,_=>exact s _ _ I
   | 1,_=>exact s _ _ J
   | 2,_=>exact s _ _ K
 .obtain⟨xs,m,_,hx,hl,hxl,hb⟩:=DataW.trod_array underlying147 z;rw[dg]at hb
  simp only[m6]at hx;obtain⟨t,L,q⟩:=KU Uu b;refine⟨(U'.1 q).1,λj u=>(cell_of_row _ _ j _ _ _ q).trans ?_⟩;have g:=YD j u hx.1;rw[mX]at g
  obtain⟨⟨d,p⟩,e,a⟩:=nI.1 g;have l:=hb j u;rw[e]at l
  obtain⟨n,H,G,_⟩:=DataW.trod_int underlying3 l;simp only[m6]at G;obtain⟨rfl,_⟩:=G;simp at a;subst a;have F:((w.toList.drop (j*1)).take 1)[0]?=some (.int .i64 (bP j)):=by rw[H];rfl
  rw[List.getElem?_take_of_lt (by omega),ng,Array.getElem?_toList,Nat.mul_one,oA]at F
  exact F
def RM:Array Value:=((List.range 10).flatMap λk=>[.string (strOfNums (Ve (k:Int))),.bool (MH 0 (k:Int)),.bool (MH 1 (k:Int)),.bool (MH 2 (k:Int))]).toArray
def PX:Array Value:=((List.range 3).map λk=>.int .i64 (bP k)).toArray
def YC(cs:Array Value):Obj->Obj
 | .cells _ t frozen=>.cells cs t frozen
 | o=>o
end
end
section
open Go.RowKit
section
variable{a b c k n now r s t tc tr tu u v:Int}{g:Nat}{h:List Int}{l:List Bool}{w w':World}{ws:List (BitVec 32)}
theorem CX(h:a=b):Ending.returned (.int .i64 a)=.returned (.int .i64 b):=by rw[h]
def ii(t:Int)(l:List Bool)(x:Int):Bool:=decide (t-8<=x)&&decide (x<t)&&l.getD (x-(t-8)).toNat false
theorem lw{x:Int}(h:t<=x):ii t l x=false:=by
 unfold ii;rw[G' (show ¬ x<t by omega)];simp
structure OkC(key:List Int)(s t:Int)(l:List Bool):Prop where
 key:key.length=32
 s0:0<=s
 s1:s<=1073741824
 t0:0<=t
 t1:t<=1073741824
 low:∀ i:Nat,i<8->l.getD i false=true->0<=t-8+(i:Int)
 top:t=0\/l.getD 7 false=true
theorem dB(key:List Int)(s t:Int)(l:List Bool):OkC key s t l↔(key.length=32/\0<=s/\s<=1073741824/\0<=t/\t<=1073741824/\(∀ i,i<8->l.getD i false=true->0<=t-8+(i:Int))/\(t=0\/l.getD 7 false=true)) :=
 ⟨λh=>⟨h.1,h.2,h.3,h.4,h.5,h.6,h.7⟩,λh=>⟨h.1,h.2.1,h.2.2.1,h.2.2.2.1,h.2.2.2.2.1,h.2.2.2.2.2.1,h.2.2.2.2.2.2⟩⟩
instance (key:List Int) (s t:Int) (l:List Bool):Decidable (OkC key s t l):=decidable_of_iff _ (dB key s t l).symm
def Zg(t:Int)(l:List Bool)(n:Int):Bool:=decide (n<t)&&(decide (n<t-8)||ii t l n)
def noB:List Bool:=List.replicate 8 false
theorem ip(k:Nat):noB.getD k false=false:=by
 rw[noB,mO,List.getElem?_replicate];split<;>rfl
theorem OkC.new{key:List Int}(c:key.length=32)(s:Int)(a:0<=s)(b:s<=1073741824):OkC key s 0 noB :=
 ⟨c,a,b,by omega,by omega,(λi _ h=>by rw[ip]at h;exact absurd h (by simp)),.inl rfl⟩
theorem UC(h:t<=n):Zg t l n=false:=by unfold Zg;rw[G' (by omega)];simp
def Ad(n:Int):List Int:=[n/16777216%256,n/65536%256,n/256%256,n%256]
def Ce(h:List Int):List Int:=List.replicate 8 0++h
def IF(h:List Int):Int:=16777216*h.getD 0 0+65536*h.getD 1 0+256*h.getD 2 0+h.getD 3 0
theorem BF(n:Int):(Ad n).length=4:=rfl
theorem AT(n:Int):∀ x∈Ad n,0<=x/\x<256:=by
 intro x a;simp only[Ad,mp,O',or_false]at a;rcases a with rfl|rfl|rfl|rfl<;>omega
theorem Fc(a:h.length=4):(Ce h).length=12:=by simp[Ce,a]
theorem QI(a:∀ x∈h,0<=x/\x<256):∀ x∈Ce h,0<=x/\x<256:=by
 intro x b;rcases Q'.1 b with h1|h1
 .rw[(o8.1 h1).2];omega
 .exact a x h1
theorem Wc(n:Int)(a:0<=n)(b:n<4294967296):IF (Ad n)=n:=by
 show 16777216*(n/16777216%256)+65536*(n/65536%256)+256*(n/256%256)+n%256=n;omega
theorem lE(h:List Int)(e:h.length=4):∃ a b c d,h=[a,b,c,d]:=by
 match h,e with
 | [a,b,c,d],_=>exact⟨a,b,c,d,rfl⟩
theorem LR(f:h.length=4)(e:∀ x∈h,0<=x/\x<256):0<=IF h/\IF h<4294967296:=by
 obtain⟨a,b,c,d,rfl⟩:=lE h f;have g:=e a (by simp);have i:=e b (by simp);have j:=e c (by simp);have k:=e d (by simp);show 0<=16777216*a+65536*b+256*c+d/\16777216*a+65536*b+256*c+d<4294967296;omega
def cmA(k c s n v:Int):Array Value:=#[.int .i64 k,.int .i64 c,.int .i64 s,.int .i64 n,.int .i64 v]
def tkA(c r u:Int):Array Value:=#[.int .i64 c,.int .i64 r,.int .i64 u]
def InC(c s n v:Int):Prop:=0<=c/\c<=7/\0<=s/\s<=1048576/\0<=n/\n<=7/\0<=v/\v<=1073741824
instance (c s n v:Int):Decidable (InC c s n v):=by unfold InC;exact inferInstance
def Bh(k c s n v:Int):Int :=
 if ¬ (0<=k/\k<=3)then 4
 else if k=0 then(if c=0/\s=0/\n=0/\v=0 then 0 else 3)
 else if ¬ InC c s n v then 2
 else if 1<k/\v≠0 then 3
 else 0
theorem Vz(h:¬ (0<=k/\k<=3)):Bh k c s n v=4:=if_pos h
theorem V0(h:c=0/\s=0/\n=0/\v=0):Bh 0 c s n v=0:=by
 unfold Bh;rw[if_neg (by omega),if_pos rfl,if_pos h]
theorem RT(h:¬ (c=0/\s=0/\n=0/\v=0)):Bh 0 c s n v=3:=by
 unfold Bh;rw[if_neg (by omega),if_pos rfl,if_neg h]
theorem RU(h:1<=k/\k<=3)(a:¬ InC c s n v):Bh k c s n v=2:=by
 unfold Bh;rw[if_neg (by omega),if_neg (by omega),if_pos a]
theorem Vy(h:2<=k/\k<=3)(a:InC c s n v)(b:v≠0):Bh k c s n v=3:=by
 unfold Bh;rw[if_neg (by omega),if_neg (by omega),if_neg (λg=>g a),if_pos ⟨by omega,b⟩]
theorem Uh(h:1<=k/\k<=3)(a:InC c s n v)(b:k=1\/v=0):Bh k c s n v=0:=by
 unfold Bh;rw[if_neg (by omega),if_neg (by omega),if_neg (λg=>g a),if_neg (by omega)]
theorem Dg(h:Bh k c s n v=0):(0<=k/\k<=3)/\InC c s n v:=by
 unfold Bh at h;split at h
 .omega
 .rename_i h1
  split at h
  .split at h
   .rename_i h3
    exact⟨by omega,by unfold InC;omega⟩
   .omega
  .split at h
   .omega
   .rename_i h3
    exact⟨by omega,Classical.not_not.1 h3⟩
def D3(k c s n v:Int):List Int:=Ad k++Ad c++Ad s++Ad n++Ad v
theorem DU(k c s n v:Int):(D3 k c s n v).length=20:=rfl
theorem Jq(k c s n v:Int):∀ x∈D3 k c s n v,0<=x/\x<256:=by
 intro x hx;rcases Q'.1 hx with hx|hx
 .rcases Q'.1 hx with hx|hx
  .rcases Q'.1 hx with hx|hx
   .rcases Q'.1 hx with hx|hx
    .exact AT _ x hx
    .exact AT _ x hx
   .exact AT _ x hx
  .exact AT _ x hx
 .exact AT _ x hx
def Ac(l:List Int)(i:Nat):Int:=16777216*l.getD i 0+65536*l.getD (i+1) 0+256*l.getD (i+2) 0+l.getD (i+3) 0
theorem BC(n:Int)(a:0<=n)(b:n<4294967296)(l m:List Int):Ac (l++(Ad n++m)) l.length=n:=by
 have e:∀ j,(l++(Ad n++m)).getD (l.length+j) 0=(Ad n++m).getD j 0:=by
  intro j;simp[List.getD,List.getElem?_append_right]
 unfold Ac;rw[show l.length=l.length+0 from rfl,nc,nc,nc,e,e,e,e];show 16777216*(n/16777216%256)+65536*(n/65536%256)+256*(n/256%256)+n%256=n;omega
theorem Hb(k c s n v:Int)(a:0<=k)(b:k<4294967296):Ac (D3 k c s n v) 0=k:=by
 have h:=BC k a b [] (Ad c++Ad s++Ad n++Ad v);exact h
theorem Hc(k c s n v:Int)(a:0<=c)(b:c<4294967296):Ac (D3 k c s n v) 4=c:=by
 have h:=BC c a b (Ad k) (Ad s++Ad n++Ad v);exact h
theorem Hd(k c s n v:Int)(a:0<=s)(b:s<4294967296):Ac (D3 k c s n v) 8=s:=by
 have h:=BC s a b (Ad k++Ad c) (Ad n++Ad v);exact h
theorem FL(k c s n v:Int)(a:0<=n)(b:n<4294967296):Ac (D3 k c s n v) 12=n:=by
 have h:=BC n a b (Ad k++Ad c++Ad s) (Ad v);exact h
theorem FM(k c s n v:Int)(a:0<=v)(b:v<4294967296):Ac (D3 k c s n v) 16=v:=by
 have h:=BC v a b (Ad k++Ad c++Ad s++Ad n) [];exact h
def Ck(l:List Int):Int:=if l.length≠20 then 1 else Bh (Ac l 0) (Ac l 4) (Ac l 8) (Ac l 12) (Ac l 16)
def Iy(l:List Int):Array Value:=if Ck l=0 then cmA (Ac l 0) (Ac l 4) (Ac l 8) (Ac l 12) (Ac l 16)else cmA 0 0 0 0 0
def Dt(c r u:Int):Prop:=(0<=c/\c<=7)/\(0<=r/\r<=7)/\0<=u/\u<=1048576
instance (c r u:Int):Decidable (Dt c r u):=by unfold Dt;exact inferInstance
def Nx(c r u:Int):Int:=if Dt c r u then 0 else 2
theorem Ja(h:Dt c r u):Nx c r u=0:=if_pos h
theorem UR(h:¬ Dt c r u):Nx c r u=2:=if_neg h
def KV(k r:Int):Prop:=(k=1/\r/2%2=1)\/(k=2/\r%2=1)\/(k=3/\r/4=1)
instance (k r:Int):Decidable (KV k r):=by unfold KV;exact inferInstance
def EL(tc tr tu k c s n v now:Int):Int :=
 if ¬ Dt tc tr tu then 2
 else if Bh k c s n v≠0 then Bh k c s n v
 else if ¬ (KV k tr/\c=tc)then 11
 else if ¬ (0<=now/\now<=tu)then 10
 else 0
theorem Xp(h:¬ Dt tc tr tu):EL tc tr tu k c s n v now=2:=if_pos h
theorem Xo(h:Dt tc tr tu)(a:Bh k c s n v≠0):EL tc tr tu k c s n v now=Bh k c s n v:=by
 unfold EL;rw[if_neg (λg=>g h),if_pos a]
theorem KY(h:Dt tc tr tu)(a:Bh k c s n v=0)(b:¬ (KV k tr/\c=tc)):EL tc tr tu k c s n v now=11:=by
 unfold EL;rw[if_neg (λg=>g h),if_neg (λg=>g a),if_pos b]
theorem Vl(h:Dt tc tr tu)(a:Bh k c s n v=0)(b:KV k tr/\c=tc)(d:¬ (0<=now/\now<=tu)):EL tc tr tu k c s n v now=10:=by
 unfold EL;rw[if_neg (λg=>g h),if_neg (λg=>g a),if_neg (λg=>g b),if_pos d]
theorem OM(h:Dt tc tr tu)(a:Bh k c s n v=0)(b:KV k tr/\c=tc)(d:0<=now/\now<=tu):EL tc tr tu k c s n v now=0:=by
 unfold EL;rw[if_neg (λg=>g h),if_neg (λg=>g a),if_neg (λg=>g b),if_neg (λg=>g d)]
def Im(c r u:Int):List Int:=c::r::Ad u
theorem Ca(c r u:Int):(Im c r u).length=6:=rfl
theorem O9(h:Dt c r u):∀ x∈Im c r u,0<=x/\x<256:=by
 obtain⟨a,b,d⟩:=h;intro x hx;rcases mp.1 hx with rfl|hx
 .omega
 rcases mp.1 hx with rfl|hx
 .omega
 exact AT _ x hx
theorem On(c r u:Int)(m:List Int)(a:0<=u)(b:u<4294967296):Ac (Im c r u++m) 2=u:=by
 have h:=BC u a b [c,r] m;exact h
theorem Uo(a b c d e f g h i j:Int):∀ w,(binOp .eql 24 (.agg #[.int .i64 a,.int .i64 b,.int .i64 c,.int .i64 d,.int .i64 e]) (.agg #[.int .i64 f,.int .i64 g,.int .i64 h,.int .i64 i,.int .i64 j])).run prog w=.ok (.bool (decide (a=f/\b=g/\c=h/\d=i/\e=j))) w:=by
 intro w;rw[run_eql_struct,run_equalIn_agg w 9999 _ _ _ (by kernel_rfl) (by kernel_rfl)];unfold Program.fieldsOf;rw[underlying24];have k:=underlying3;simp[Op.eqFields,go_sem,k]
 repeat' split
 all_goals simp_all
theorem d8(a b c d e f g h i j:Int):∀ w,(binOp .neq 24 (.agg #[.int .i64 a,.int .i64 b,.int .i64 c,.int .i64 d,.int .i64 e]) (.agg #[.int .i64 f,.int .i64 g,.int .i64 h,.int .i64 i,.int .i64 j])).run prog w=.ok (.bool (!decide (a=f/\b=g/\c=h/\d=i/\e=j))) w:=by
 intro w;rw[run_neq_struct,run_equalIn_agg w 9999 _ _ _ (by kernel_rfl) (by kernel_rfl)];unfold Program.fieldsOf;rw[underlying24];have k:=underlying3;simp[Op.eqFields,go_sem,k]
 repeat' split
 all_goals simp_all
theorem Fh{b:TypeId}{a:Nat × Nat}(h:w.heap[g]?=some (.cells (cmA k c s n v) b a)) :
  w.cell? ⟨g,0,none⟩=some (.int .i64 k)/\w.cell? ⟨g,1,none⟩=some (.int .i64 c)/\w.cell? ⟨g,2,none⟩=some (.int .i64 s)/\w.cell? ⟨g,3,none⟩=some (.int .i64 n)/\w.cell? ⟨g,4,none⟩=some (.int .i64 v) :=
 ⟨cell_of_row _ _ 0 _ _ _ h,cell_of_row _ _ 1 _ _ _ h,cell_of_row _ _ 2 _ _ _ h,cell_of_row _ _ 3 _ _ _ h,cell_of_row _ _ 4 _ _ _ h⟩
theorem cY(c s n v:Int):InC c s n v↔(((0<=c/\c<=7)/\(0<=s/\s<=1048576))/\(0<=n/\n<=7))/\(0<=v/\v<=1073741824):=by unfold InC;omega
structure Bc(w:World)(g:Nat)(k c s n v:Int):Prop where
 lt:g<w.heap.size
 row:w.heap[g]?=some (.cells (cmA k c s n v) 24)
theorem Bc.made(w:World)(k c s n v:Int):Bc (w.alloc (.cells (cmA k c s n v) 24)) w.heap.size k c s n v:=⟨by simp,heap_alloc_new _ _⟩
theorem Bc.af(h:Bc w g k c s n v)(a:Bw w w'):Bc w' g k c s n v :=
 ⟨Z' h.lt a.size,(a.block g h.lt).trans h.row⟩
theorem GU(k c s n v:Int):(prog.info? 24).map (·.size)=some (cmA k c s n v).size:=by show _=some 5;kernel_rfl
def Ol:List Int:=[0,0,0,2,7,1073741824,1,7,0,4,7,0]
structure NTab(w:World):Prop where
 lt:0<w.heap.size
 cell:∀ i,i<12->w.cell? ⟨0,i,none⟩=some (.int .i64 (Ol.getD i 0))
theorem NTab.af(h:NTab w)(a:Bw w w'):NTab w' :=
 ⟨Z' h.lt a.size,λi b=>(a.cell (p:=⟨0,i,none⟩) h.lt).trans (h.cell i b)⟩
theorem Fw(n g:Int)(w:World) :
  Calls prog 32 #[.int .i64 n,.int .i64 g] w λe w'=>e=.returned (.bool (decide (0<=n/\n<=g)))/\w'=w:=by
 by_cases a:0<=n
 .by_cases h1:n<=g
  .rw[P' ⟨a,h1⟩];go_enter func32,ntmps32
   go_wp2
   go_ret;exact⟨Aw (by simp),rfl⟩
  .rw[G' (by omega)];go_enter func32,ntmps32
   go_wp2
   go_ret;exact⟨Aw (by simp),rfl⟩
 .rw[G' (by omega)];go_enter func32,ntmps32
  go_wp2
  go_ret;exact⟨Aw (by simp),rfl⟩
theorem Jg{g:Int}{b:Bool}(h:Hid (decide (0<=n/\n<=g)=b))(w:World) :
  Calls prog 32 #[.int .i64 n,.int .i64 g] w λe w'=>e=.returned (.bool b)/\w'=w:=by
 rw[<- h.out];exact Fw n g w
theorem SF(k:Int)(w:World) :
  Calls prog 36 #[.int .i64 k] w λe w'=>e=.returned (.bool (decide (0<=k/\k<=3)))/\w'=w:=by
 go_enter func36,ntmps36
 go_wp2_with fail
 refine(Fw k 3 _).mono ?_;rintro e a ⟨rfl,rfl⟩;go_wp2
 go_ret;exact⟨Aw (by simp),rfl⟩
theorem Zc(c s n v:Int)(w:World) :
  Calls prog 37 #[.agg (cmA 0 c s n v)] w λe w'=>e=.returned (.int .i64 (Bh 0 c s n v))/\Bw w w':=by
 have a:Bw w (w.alloc (.cells (cmA 0 c s n v) 24)):=(Below.refl _ _).alloc (A' _) _;simp only[cmA]at a ⊢;have b:=d8 0 c s n v 0 0 0 0 0;by_cases h:c=0/\s=0/\n=0/\v=0
 .have HE:Hid (0=Bh 0 c s n v):=(V0 h).symm;rw[P' ⟨rfl,h⟩]at b
  clear h;go_enter func37,ntmps37
  go_wp2
  go_ret;exact⟨CX HE.out,a⟩
 .have HE:Hid (3=Bh 0 c s n v):=(RT h).symm;rw[G' (λg=>h g.2)]at b
  clear h;go_enter func37,ntmps37
  go_wp2
  go_ret;exact⟨CX HE.out,a⟩
theorem NTab.name(h:NTab w)(k:Nat)(a:1<=k)(b:k<=3):w.cell? ⟨0,k*3+1,none⟩=some (.int .i64 7):=by
 rcases(by omega:k=1\/k=2\/k=3)with rfl|rfl|rfl
 .exact h.cell 4 (by omega)
 .exact h.cell 7 (by omega)
 .exact h.cell 10 (by omega)
theorem Pd(k c s n v:Int)(w:World)(r:1<=k/\k<=3)(p:NTab w) :
  Calls prog 38 #[.agg (cmA k c s n v)] w λe w'=>e=.returned (.bool (decide (InC c s n v)))/\Bw w w':=by
 have f:Bw w (w.alloc (.cells (cmA k c s n v) 24)):=(Below.refl _ _).alloc (A' _) _;have l:=(p.af f).name;have o:=heap_alloc_new w (.cells (cmA k c s n v) 24);simp only[cmA]at f l o ⊢;obtain⟨m,rfl⟩:=mS (show 0<=k by omega);replace l:=l m (by omega) (by omega);have A:(0:Int)<=(m:Int):=by omega
 have B:(m:Int)<4:=by omega
 have C:m<4:=by omega
 clear r p;have a:Hid (InC c s n v↔_):=cY c s n v;generalize q:w.alloc (.cells #[.int .i64 (m:Int),.int .i64 c,.int .i64 s,.int .i64 n,.int .i64 v] 24)=W at f l o;go_enter func38,ntmps38
 go_wp2_with fail
 clear q;obtain⟨t,u,x,y,z⟩:=Fh o;clear o;by_cases d:0<=c/\c<=7
 .have U1:Hid (decide _=true):=P' d;by_cases h:0<=s/\s<=1048576
  .have U2:Hid (decide _=true):=P' h;by_cases i:0<=n/\n<=7
   .have U3:Hid (decide _=true):=P' i;by_cases j:0<=v/\v<=1073741824
    .have U4:Hid (decide _=true):=P' j;have b:Hid (true=decide (InC c s n v)):=(P' (a.out.2 ⟨⟨⟨d,h⟩,i⟩,j⟩)).symm;clear d h i j a;go_quiet ((go_at_call 32;exact Calls.quiet_of_same (Jg (by assumption) _)))
     go_wp2
     go_ret;exact⟨Aw b.out,Aq f nq⟩
    .have U4:Hid (decide _=false):=G' j;have b:Hid (false=decide (InC c s n v)):=(G' (λG=>j ((λg=>g.2) (a.out.1 G)))).symm;clear d h i j a;go_quiet ((go_at_call 32;exact Calls.quiet_of_same (Jg (by assumption) _)))
     go_wp2
     go_ret;exact⟨Aw b.out,Aq f nq⟩
   .have U3:Hid (decide _=false):=G' i;have b:Hid (false=decide (InC c s n v)):=(G' (λG=>i ((λg=>g.1.2) (a.out.1 G)))).symm;clear d h i a;go_quiet ((go_at_call 32;exact Calls.quiet_of_same (Jg (by assumption) _)))
    go_wp2
    go_ret;exact⟨Aw b.out,Aq f nq⟩
  .have U2:Hid (decide _=false):=G' h;have b:Hid (false=decide (InC c s n v)):=(G' (λG=>h ((λg=>g.1.1.2) (a.out.1 G)))).symm;clear d h a;go_quiet ((go_at_call 32;exact Calls.quiet_of_same (Jg (by assumption) _)))
   go_wp2
   go_ret;exact⟨Aw b.out,Aq f nq⟩
 .have U1:Hid (decide _=false):=G' d;have b:Hid (false=decide (InC c s n v)):=(G' (λG=>d ((λg=>g.1.1.1) (a.out.1 G)))).symm;clear d a;go_quiet ((go_at_call 32;exact Calls.quiet_of_same (Jg (by assumption) _)))
  go_wp2
  go_ret;exact⟨Aw b.out,Aq f nq⟩
theorem ef(h:a=b):Ending.returned (.int .u32 a)=.returned (.int .u32 b):=by rw[h]
theorem ju(n:Nat)(a:1<=n)(b:n<=31):bits .and .u64 (IntKind.u64.wrap (-(n:Int))) 31=32-(n:Int):=by
 have e:IntKind.u64.wrap (-(n:Int))=((18446744073709551616-n:Nat):Int):=by rw[IntKind.wrap_u64];omega
 rw[e,show(31:Int)=((31:Nat):Int)from rfl,u64_and_nat _ _ (by omega) (by omega),nat_mask5];omega
theorem ZM(x:BitVec 32)(n:Nat)(w:World)(a:1<=n)(b:n<=31) :
  Calls prog 168 #[.int .u32 (uw x),.int .i64 (-(n:Int))] w λe w'=>e=.returned (.int .u32 (uw (x.rotateRight n)))/\w'=w:=by
 have c:=Ek x;have d:=be x;have f:=ju n a b;go_enter func168,ntmps168
 go_wp2
 go_ret;exact⟨ef (je x n a b),rfl⟩
theorem Wy(x:BitVec 32)(n:Nat)(w:World)(a:1<=n)(b:n<=31) :
  Calls prog 138 #[.int .u32 (uw x),.int .i64 (n:Int)] w λe w'=>e=.returned (.int .u32 (uw (x.rotateRight n)))/\w'=w:=by
 go_enter func138,ntmps138
 go_wp2_with fail
 refine(ZM x n w a b).mono ?_;rintro e c ⟨rfl,rfl⟩;go_wp2
 go_ret;exact⟨rfl,rfl⟩
theorem Mh(x:BitVec 32)(k:Int)(w:World)(a:1<=k)(b:k<=31) :
  Calls prog 138 #[.int .u32 (uw x),.int .i64 k] w λe w'=>e=.returned (.int .u32 (uw (x.rotateRight k.toNat)))/\w'=w:=by
 obtain⟨n,rfl⟩:∃ n:Nat,k=n:=⟨k.toNat,by omega⟩;exact Wy x n w (by omega) (by omega)
theorem Mn(x:BitVec 32)(h:uw x<256):uw x*16777216=uw (x <<< 24)/\uw x*65536=uw (x <<< 16)/\uw x*256=uw (x <<< 8):=by
 have d:=Ek x;have b:=GL x 24;have a:=GL x 16;have c:=GL x 8;rw[<- b,<- a,<- c];refine⟨?_,?_,?_⟩
 .rw[show(2:Int)^24=16777216 from rfl];omega
 .rw[show(2:Int)^16=65536 from rfl];omega
 .rw[show(2:Int)^8=256 from rfl];omega
theorem BQ{B:Nat}{a:World}(h:Below B a w){g:Nat}(c:B<=g)(b:Array Value):Below B a (w.setRow g b) :=
 h.trans ⟨rfl,rfl,rfl,by simp,λk d=>setRow_other w g k b (by omega)⟩
theorem WC(x:BitVec 32):bits .xor .u32 (bits .xor .u32 (uw (x.rotateRight 7)) (uw (x.rotateRight 18))) (uw x/8)=uw (iP x):=by rw[eS,DL,DL];rfl
theorem WD(x:BitVec 32):bits .xor .u32 (bits .xor .u32 (uw (x.rotateRight 17)) (uw (x.rotateRight 19))) (uw x/1024)=uw (iQ x):=by rw[bg,DL,DL];rfl
theorem NC(h:w.heap[g]?=some (.cells (Az ws) 177 (0,0)))(k:Nat)(x:BitVec 32) :
  (w.setCell ⟨g,k,none⟩ (.int .u32 (uw x))).heap[g]?=some (.cells (Az (ws.set k x)) 177 (0,0)):=by
 rw[heap_setCell_same _ _ _ _ _ _ h,MK]
theorem P5(v:Value)(l:List Int)(w:World)(h:Sl w v l)(t:l.length=64) :
  Calls prog 100 #[v] w λe w'=>e=.returned (.agg (Az (O5 l)))/\Bw w w':=by
 obtain⟨⟨a,Q,rfl,S,V,R⟩,D,g⟩:=h;rcases R with rfl|⟨b,off,rfl,hb,hcell⟩
 .simp at t
 rw[t]at S D hcell ⊢
 have Y:Hid (l.length=64):=t;have q:Hid (∀ i,i<64->w.cell? ⟨b,off+i,none⟩=some (.int .u8 (uw (CL (l.getD i 0))))):=λi C=>by rw[KT _ (Al g i)];exact hcell i C
 have o:Hid (∀ i,uw (CL (l.getD i 0))<256):=λi=>by rw[KT _ (Al g i)];exact(Al g i).2
 clear t V hcell g;go_enter func100,ntmps100
 go_wp2_with fail
 go_loopw [10] (λi wr=>∃ k:Nat,k<=16/\i=.int .i64 k/\wr.heap[w.heap.size+1]?=some (.cells (Az (KB l k)) 177 (0,0))/\wr.heap[w.heap.size]?=some (.cells (Az (KB l 0)) 177 (0,0))/\Bw w wr) (λi _=>16-(intOf i).toNat)
 case atStart=>exact⟨0,by omega,rfl,heap_alloc2_new _ _ _,heap_alloc2_old _ _ _,((Below.refl _ _).alloc (A' _) _).alloc (by simp) _⟩
 case round =>
  obtain⟨k,U,rfl,f,m,c⟩:=hrel;by_cases I:k<16
  .have hz:=BX (KB l k) k (by rw[GB];omega);have T:wr.cell? ⟨w.heap.size+1,k,none⟩=some (.int .u32 (uw ((KB l k).getD k 0#32))):=(cell_of_row wr _ k _ _ _ f).trans hz;have B:wr.frozen? ⟨w.heap.size+1,k,none⟩=false:=frozen_of_row wr _ k _ _ f;have E:=(c.cell (p:=⟨b,off+(4*k),none⟩) hb).trans (q.out (4*k) (by omega));have N:=(c.cell (p:=⟨b,off+(4*k+1),none⟩) hb).trans (q.out (4*k+1) (by omega));have A:=(c.cell (p:=⟨b,off+(4*k+2),none⟩) hb).trans (q.out (4*k+2) (by omega));have O:=(c.cell (p:=⟨b,off+(4*k+3),none⟩) hb).trans (q.out (4*k+3) (by omega));have K:=o.out (4*k);have L:=o.out (4*k+1);have M:=o.out (4*k+2);have W:=o.out (4*k+3);obtain⟨u,j,d⟩:∃ u,Hid (u=TX l k)/\Hid (KB l (k+1)=(KB l k).set k u):=⟨_,rfl,rfl⟩;unfold TX at j;generalize CL (l.getD (4*k) 0)=x0 at E K j;generalize CL (l.getD (4*k+1) 0)=x1 at N L j;generalize CL (l.getD (4*k+2) 0)=x2 at A M j;generalize CL (l.getD (4*k+3) 0)=x3 at O W j;obtain⟨y0,s0,F⟩:∃ y,uw x0*16777216=uw y/\x0 <<< 24=y:=⟨_,(Mn x0 K).1,rfl⟩;obtain⟨y1,s1,G⟩:∃ y,uw x1*65536=uw y/\x1 <<< 16=y:=⟨_,(Mn x1 L).2.1,rfl⟩;obtain⟨y2,s2,H⟩:∃ y,uw x2*256=uw y/\x2 <<< 8=y:=⟨_,(Mn x2 M).2.2,rfl⟩;rw[F,G,H]at j
   clear F G H;have z0:=Ek x0;have z1:=Ek x1;have z2:=Ek x2;have z3:=Ek x3;clear hz;go_wp2_with fail
   refine Au 35 (by kernel_rfl) (by kernel_rfl) ?_;simp only[np,nB,nE,n7]
   repeat (go_big_quiet_step (fail))
   refine wpQuiet_nil ?_;go_wp2
   rw[Ks,Ks,Ks,<- j.out];go_roundw
   case rel=>exact⟨k+1,by omega,by go_num,by rw[d.out];exact NC f k u,(heap_setCell_other _ _ _ _ (by simp)).trans m,(c.setCell (by simp) _).drew⟩
   case measure=>simp[intOf];omega
  .have HK:Hid (k=16):=by unfold Hid;omega
   clear q o;go_wp2_with fail
   go_loopw [5] (λi wr=>∃ k:Nat,k<=48/\i=.int .i64 (16+(k:Int))/\wr.heap[w.heap.size+1]?=some (.cells (Az (Ge l k)) 177 (0,0))/\wr.heap[w.heap.size]?=some (.cells (Az (KB l 0)) 177 (0,0))/\Bw w wr) (λi _=>64-(intOf i).toNat)
   case atStart=>exact⟨0,by omega,rfl,by rw[HK.out]at f;exact f,m,c⟩
   case round =>
    clear f m c HK;obtain⟨k,U,rfl,f,m,c⟩:=hrel;by_cases J:k<48
    .have hcell:∀ i,i<64->wr.cell? ⟨w.heap.size+1,i,none⟩=some (.int .u32 (uw ((Ge l k).getD i 0#32))):=λi C=>(cell_of_row wr _ i _ _ _ f).trans (BX (Ge l k) i (by rw[ET];exact C));have z:=hcell k (by omega);have x:=hcell (16+k-15) (by omega);have P:=hcell (16+k-7) (by omega);have A:=hcell (16+k-2) (by omega);have E:=hcell (16+k) (by omega);have B:wr.frozen? ⟨w.heap.size+1,16+k,none⟩=false:=frozen_of_row wr _ (16+k) _ _ f;have d:Hid (Ge l (k+1)=(Ge l k).set (16+k) (Zb (Ge l k) (16+k))):=rfl;unfold Zb at d;have r:16+k-16=k:=by omega
     rw[r]at d
     generalize (Ge l k).getD k 0#32=x16 at z d;generalize (Ge l k).getD (16+k-15) 0#32=x15 at x d;generalize (Ge l k).getD (16+k-7) 0#32=x7 at P d;generalize (Ge l k).getD (16+k-2) 0#32=x2 at A d;clear hcell r;have X:=Ek x15;have Z:=Ek x2;go_wp2_with fail
     go_quiet (fail)
     go_wp2_with (go_at_call 138;refine(Mh _ _ _ (by omega) (by omega)).mono ?_;rintro e w' ⟨rfl,rfl⟩)
     rw[WC,WD];generalize iP x15=t0 at d;generalize iQ x2=t1 at d;refine Au 15 (by kernel_rfl) (by kernel_rfl) ?_;simp only[np,nB,nE,n7]
     repeat (go_big_quiet_step (fail))
     refine wpQuiet_nil ?_;go_wp2
     go_roundw
     case rel =>
      rw[UW];exact⟨k+1,by omega,by go_num,by rw[d.out];exact NC (w:=wr.drewN (nq+1)) f (16+k) _,(heap_setCell_other _ _ _ _ (by simp)).trans m,(Aq c _).setCell (by simp) _⟩
     case measure=>simp[intOf];omega
    .have HK:Hid (k=48):=by unfold Hid;omega
     have n:(prog.info? 177).map (·.size)=some (Az (Ge l k)).size:=by rw[Bn,ET];kernel_rfl
     have s:(Az (Ge l k)).all (·.oneCell')=true:=by simp[Az,Value.oneCell']
     go_wp2_with (first|(refine wpList_load_row rfl 177 _ rfl (w.heap.size+1) rfl 177 _ (0,0) _ f underlying177 rfl n ?_)|(refine wpList_store_row rfl 177 _ _ rfl w.heap.size _ rfl rfl 177 _ m n (by rw[Bn,Bn,GB,ET]) s ?_))
     refine bodyPost_ret (v:=.agg (Az (Ge l k))) (results_cell_row rfl _ _ w.heap.size 177 _ (0,0) _ rfl (setRow_heap wr w.heap.size _ _ 177 _ m) underlying177 rfl n) rfl ⟨by rw[HK.out];rfl,BQ c (A' _) _⟩
def AK(w:World):Prop:=3<w.heap.size/\∀ i,i<64->w.cell? ⟨3,i,none⟩=some (.int .u32 (uw (kAt i)))
theorem AK.af(h:AK w)(a:Bw w w'):AK w' :=
 ⟨Z' h.1 a.size,λi b=>(a.cell (p:=⟨3,i,none⟩) h.1).trans (h.2 i b)⟩
theorem eO(x:BitVec 32):bits .xor .u32 IntKind.u32.max (uw x)=uw (~~~x):=by
 have e:IntKind.u32.max=uw (BitVec.allOnes 32):=rfl;rw[e,DL,TT,BitVec.allOnes_xor]
theorem PZ(e f g:BitVec 32):bits .xor .u32 (bits .and .u32 (uw e) (uw f)) (bits .and .u32 (bits .xor .u32 IntKind.u32.max (uw e)) (uw g))=uw (RP e f g):=by
 rw[eO,MI,MI,DL];rfl
theorem Wa(a b c:BitVec 32):bits .xor .u32 (bits .xor .u32 (bits .and .u32 (uw a) (uw b)) (bits .and .u32 (uw a) (uw c))) (bits .and .u32 (uw b) (uw c))=uw (ik a b c):=by
 rw[MI,MI,MI,DL,DL];rfl
theorem Vp(x:BitVec 32):bits .xor .u32 (bits .xor .u32 (uw (x.rotateRight 6)) (uw (x.rotateRight 11))) (uw (x.rotateRight 25))=uw (jy x):=by
 rw[DL,DL];rfl
theorem Vo(x:BitVec 32):bits .xor .u32 (bits .xor .u32 (uw (x.rotateRight 2)) (uw (x.rotateRight 13))) (uw (x.rotateRight 22))=uw (jx x):=by
 rw[DL,DL];rfl
theorem eM(s:St)(k w:BitVec 32):((uw s.h+bits .xor .u32 (bits .xor .u32 (uw (s.e.rotateRight 6)) (uw (s.e.rotateRight 11))) (uw (s.e.rotateRight 25))+uw (RP s.e s.f s.g)+uw k)%(4294967296:Int)+uw w)%(4294967296:Int)=uw (upS s k w):=by
 rw[Vp,UW,D0];rfl
theorem V2(s:St):(bits .xor .u32 (bits .xor .u32 (uw (s.a.rotateRight 2)) (uw (s.a.rotateRight 13))) (uw (s.a.rotateRight 22))+uw (ik s.a s.b s.c))%(4294967296:Int)=uw (fy s):=by
 rw[Vo,D0];rfl
theorem Y2(s:St)(j:Nat)(i:j<8):∀ w,(Instr.index 175 (.agg #[.int .u32 (uw s.a),.int .u32 (uw s.b),.int .u32 (uw s.c),.int .u32 (uw s.d),.int .u32 (uw s.e),.int .u32 (uw s.f),.int .u32 (uw s.g),.int .u32 (uw s.h)]) (.int .i64 (j:Int))).run prog w=.ok (.int .u32 (uw (s.list.getD j 0#32))) w:=by
 intro w;obtain rfl|rfl|rfl|rfl|rfl|rfl|rfl|rfl:j=0\/j=1\/j=2\/j=3\/j=4\/j=5\/j=6\/j=7:=by omega
 all_goals kernel_rfl
theorem PQ(h:w.heap[g]?=some (.cells (Az ws) 175 (0,0)))(k:Nat)(x:BitVec 32) :
  (w.setCell ⟨g,k,none⟩ (.int .u32 (uw x))).heap[g]?=some (.cells (Az (ws.set k x)) 175 (0,0)):=by
 rw[heap_setCell_same _ _ _ _ _ _ h,MK]
theorem kQ(w:World)(a b c:Obj){W:World}(h:((w.alloc a).alloc b).alloc c=W) :
  W.heap[w.heap.size]?=some a/\W.heap[w.heap.size+1]?=some b/\W.heap[w.heap.size+1+1]?=some c/\Bw w W:=by
 subst h;refine⟨?_,?_,?_,(((Below.refl _ _).alloc (A' _) _).alloc (by simp) _).alloc (by simp;omega) _⟩
 .rw[heap_alloc_old _ _ (by simp;omega)];exact heap_alloc2_old w a b
 .rw[heap_alloc_old _ _ (by simp)];exact heap_alloc2_new w a b
 .have:=heap_alloc_new ((w.alloc a).alloc b) c;simpa using this
theorem VY(s:St)(l:List (BitVec 32))(w:World)(a0:l.length=64)(ht:AK w) :
  Calls prog 99 #[.agg s.cells,.agg (Az l)] w λe w'=>e=.returned (.agg (YV s l).cells)/\Bw w w':=by
 obtain⟨a,b,c,d,e,f,g,h⟩:=s;unfold St.cells;go_enter func99,ntmps99
 go_wp2_with fail
 generalize E:((w.alloc _).alloc _).alloc _=W0;obtain⟨p,Y,B,m⟩:=kQ w _ _ _ E;clear E;have t:=ht.af m;have O:=cell_of_row W0 _ 0 _ _ _ p;have P:=cell_of_row W0 _ 1 _ _ _ p;have Q:=cell_of_row W0 _ 2 _ _ _ p;have R:=cell_of_row W0 _ 3 _ _ _ p;have T:=cell_of_row W0 _ 4 _ _ _ p;have U:=cell_of_row W0 _ 5 _ _ _ p;have V:=cell_of_row W0 _ 6 _ _ _ p;have W:=cell_of_row W0 _ 7 _ _ _ p;simp only[m7,ny,pf]at O P Q R T U V W;have L:Hid _:=p;have M:Hid _:=Y;have N:Hid _:=B;clear p Y B;go_quiet (fail)
 go_wp2_with fail
 go_quiet (fail)
 go_wp2_with fail
 clear O P Q R T U V W
 go_loopw [5,6,7,8,9,10,11,12,36] (λZ b' c' d' e' f' g' h' i wr=>∃ k n:Nat,k<=64/\i=.int .i64 k/\wr=W0.drewN n/\Z=.int .u32 (uw (BO l ⟨a,b,c,d,e,f,g,h⟩ k).a)/\b'=.int .u32 (uw (BO l ⟨a,b,c,d,e,f,g,h⟩ k).b)/\c'=.int .u32 (uw (BO l ⟨a,b,c,d,e,f,g,h⟩ k).c)/\d'=.int .u32 (uw (BO l ⟨a,b,c,d,e,f,g,h⟩ k).d)/\e'=.int .u32 (uw (BO l ⟨a,b,c,d,e,f,g,h⟩ k).e)/\f'=.int .u32 (uw (BO l ⟨a,b,c,d,e,f,g,h⟩ k).f)/\g'=.int .u32 (uw (BO l ⟨a,b,c,d,e,f,g,h⟩ k).g)/\h'=.int .u32 (uw (BO l ⟨a,b,c,d,e,f,g,h⟩ k).h)) (λ_ _ _ _ _ _ _ _ i _=>64-(intOf i).toNat)
 case atStart=>exact⟨0,_,by omega,rfl,World.drewN_drewN _ _ _,rfl,rfl,rfl,rfl,rfl,rfl,rfl,rfl⟩
 case round =>
  obtain⟨k,n,hk,rfl,o,rfl,rfl,rfl,rfl,rfl,rfl,rfl,rfl⟩:=hrel;have C:Hid (wr=W0.drewN n):=o;by_cases z:k<64
  .have ck:wr.cell? ⟨3,k,none⟩=some (.int .u32 (uw (kAt k))):=by rw[o];exact t.2 k z
   have X:wr.cell? ⟨w.heap.size+1,k,none⟩=some (.int .u32 (uw (l.getD k 0#32))):=by rw[o];exact(cell_of_row W0 _ k _ _ _ M.out).trans (BX l k (by omega))
   clear o;have q:Hid (BO l ⟨a,b,c,d,e,f,g,h⟩ (k+1)=aq (BO l ⟨a,b,c,d,e,f,g,h⟩ k) (kAt k) (l.getD k 0#32)):=rfl;generalize BO l ⟨a,b,c,d,e,f,g,h⟩ k=S at q;generalize kAt k=kk at ck q;generalize l.getD k 0#32=ww at X q;clear t;unfold aq at q;go_wp2_with fail
   rw[PZ,Wa];go_quiet ((go_at_call 138;exact Calls.quiet_of_same (Mh _ _ _ (by omega) (by omega))))
   rw[eM];generalize upS S kk ww=up at q ⊢;clear ck X;go_wp2_with (go_at_call 138;refine(Mh _ _ _ (by omega) (by omega)).mono ?_;rintro e w' ⟨rfl,rfl⟩)
   go_roundw
   case rel =>
    rw[V2,D0,D0];exact⟨k+1,n+nq,by omega,by go_num,by rw[C.out,World.drewN_drewN],by rw[q.out],by rw[q.out],by rw[q.out],by rw[q.out],by rw[q.out],by rw[q.out],by rw[q.out],by rw[q.out]⟩
   case measure=>simp[intOf];omega
  .have HK:Hid (k=64):=by unfold Hid;omega
   have u:wr.heap[w.heap.size]?=some (.cells (Az (E2 ⟨a,b,c,d,e,f,g,h⟩ (BO l ⟨a,b,c,d,e,f,g,h⟩ k) 0)) 175 (0,0)):=by rw[o];exact L.out
   have D:wr.heap[w.heap.size+1+1]?=some (.cells (Az [0#32,0#32,0#32,0#32,0#32,0#32,0#32,0#32]) 175 (0,0)):=by rw[o];exact N.out
   have r:Bw w wr:=by rw[o];exact Aq m n
   clear o L M N t m C;have H:Hid (k=64->(YV ⟨a,b,c,d,e,f,g,h⟩ l).cells=Az (E2 ⟨a,b,c,d,e,f,g,h⟩ (BO l ⟨a,b,c,d,e,f,g,h⟩ k) 8)):=by rintro rfl;rfl
   generalize BO l ⟨a,b,c,d,e,f,g,h⟩ k=S at H u ⊢;generalize G:St.mk a b c d e f g h=s0 at H u;have I:Hid (St.mk a b c d e f g h=s0):=G;clear G;go_wp2_with fail
   go_loopw [110] (λi wr=>∃ j:Nat,j<=8/\i=.int .i64 j/\wr.heap[w.heap.size]?=some (.cells (Az (E2 s0 S j)) 175 (0,0))/\wr.heap[w.heap.size+1+1]?=some (.cells (Az [0#32,0#32,0#32,0#32,0#32,0#32,0#32,0#32]) 175 (0,0))/\Bw w wr) (λi _=>8-(intOf i).toNat)
   case atStart=>exact⟨0,by omega,rfl,u,D,r⟩
   case round =>
    clear u D r;obtain⟨j,hj,rfl,p,B,m⟩:=hrel;by_cases z:j<8
    .have cj:=(cell_of_row wr _ j _ _ _ p).trans (BX (E2 s0 S j) j (by rw[F5];omega));have fj:=frozen_of_row wr _ j _ _ p;have K:=Y2 S j z;have J:Hid (E2 s0 S (j+1)=(E2 s0 S j).set j ((E2 s0 S j).getD j 0#32+S.list.getD j 0#32)):=rfl;generalize (E2 s0 S j).getD j 0#32=x at cj J;generalize S.list.getD j 0#32=y at K J;go_wp2
     go_roundw
     case rel =>
      rw[D0];exact⟨j+1,by omega,by go_num,by rw[J.out];exact PQ p j _,(heap_setCell_other _ _ _ _ (by simp;omega)).trans B,m.setCell (A' _) _⟩
     case measure=>simp[intOf];omega
    .have HJ:Hid (j=8):=by unfold Hid;omega
     have A:(prog.info? 175).map (·.size)=some (Az (E2 s0 S j)).size:=by rw[Bn,F5];kernel_rfl
     have F:(Az (E2 s0 S j)).all (·.oneCell')=true:=by simp[Az,Value.oneCell']
     go_wp2_with (first|(refine wpList_load_row rfl 175 _ rfl w.heap.size rfl 175 _ (0,0) _ p underlying175 rfl A ?_)|(refine wpList_store_row rfl 175 _ _ rfl (w.heap.size+1+1) _ rfl rfl 175 _ B A (by rw[Bn,Bn,F5];rfl) F ?_))
     refine bodyPost_ret (v:=.agg (Az (E2 s0 S j))) (results_cell_row rfl _ _ (w.heap.size+1+1) 175 _ (0,0) _ rfl (setRow_heap wr _ _ _ 175 _ B) underlying175 rfl A) rfl ⟨?_,BQ m (by omega) _⟩;rw[HJ.out,<- H.out HK.out,<- I.out];rfl
end
end
section
open Go.ChangeShapes Go.WideShapes Go.ChangeAt Go.RowKit
section
theorem jC : prog.globalNamed "conclave/sha.roundWords" = some 3 := by kernel_rfl
theorem Yq:(prog.globals[3]?).map (·.type)=some 177:=by kernel_rfl
theorem bS:prog.cellsOf 177=64:=by kernel_rfl
theorem bR:prog.cellsOf 174=1:=by kernel_rfl
theorem VO(i:Nat)(a:i<64):SI.getD i 0=uw (kAt i):=by
 have all:∀ j:Fin 64,SI.getD j.val 0=uw (kAt j.val):=by decide +kernel
 exact all ⟨i,a⟩
theorem fA : prog.globalNamed "conclave/order.needs" = some 0 := by kernel_rfl
theorem VB:(prog.globals[0]?).map (·.type)=some 88:=by kernel_rfl
theorem go:prog.cellsOf 88=12:=by kernel_rfl
theorem X6:prog.cellsOf 87=3:=by kernel_rfl
theorem gn:prog.cellsOf 3=1:=by kernel_rfl
variable{W:World}{cs:Array Value}{fuel:Nat}{p:List MemPlace}
theorem Ha{H:Type}{f:TypeId × Value->H}{d:Nat}{r:Nat->Bool}{held:Bool}{e:List Value}{a b c:Int}(h:DataW.trod f prog W d r held fuel 87 e=some (.agg [.lit (.int .i64 a),.lit (.int .i64 b),.lit (.int .i64 c)],p)) :
  e=[.int .i64 a,.int .i64 b,.int .i64 c]:=by
 obtain⟨x,y,z,n,q,o,k,l,m⟩:=Go.Deep.trod_struct3 underlying87 h;rw[X6]at o
 simp only[gn]at k l m
 match e,o with
 | [c0,c1,c2],_ =>
  obtain⟨a0,g,s,_⟩:=DataW.trod_int underlying3 k;obtain⟨v,i,t,_⟩:=DataW.trod_int underlying3 l;obtain⟨w,j,u,_⟩:=DataW.trod_int underlying3 m;subst s t u;simp at g i j;subst g i j;simp at q;obtain⟨⟨rfl,rfl,rfl⟩,_⟩:=q;rfl
theorem Yp : prog.globalNamed "conclave/cha.quarters" = some 4 := by kernel_rfl
theorem S2:(prog.globals[4]?).map (·.type)=some 249:=by kernel_rfl
theorem gp:prog.cellsOf 3=1:=by kernel_rfl
theorem Ue:prog.cellsOf 248=4:=by kernel_rfl
theorem X4:prog.cellsOf 249=32:=by kernel_rfl
def Kg:List (List Int):=[[0,4,8,12],[1,5,9,13],[2,6,10,14],[3,7,11,15],[0,5,10,15],[1,6,11,12],[2,7,8,13],[3,4,9,14]]
theorem gY{a:List Value}(l:a.length=32)(rows:List (List Value))(m:rows.length=8)(h:∀ i,i<8->(a.drop (i*4)).take 4=rows.getD i []):a=rows.flatten:=by
 have b:=h 0 (by omega);have c:=h 1 (by omega);have d:=h 2 (by omega);have e:=h 3 (by omega);have f:=h 4 (by omega);have g:=h 5 (by omega);have j:=h 6 (by omega);have k:=h 7 (by omega)
 match rows,m with
 | [r0,r1,r2,r3,r4,r5,r6,r7],_ =>
  simp only[mE,mW]at b c d e f g j k;subst b c d e f g j k;apply List.ext_getElem?;intro i
  match a,l with
  | [a0,a1,a2,a3,a4,a5,a6,a7,a8,a9,a10,a11,a12,a13,a14,a15,a16,a17,a18,a19,a20,a21,a22,a23,a24,a25,a26,a27,a28,a29,a30,a31],_=>rfl
theorem ZB(a : World.var? prog W "conclave/cha.quarters" = some cs)(v:DataW.trod (fun _=>()) prog W 0 (fun _=>true) false fuel 249 cs.toList=some (Rows.laid_conclave_cha_quarters,p)):Dq W:=by
 obtain⟨d,m,_,w,b,x,e⟩:=DataW.trod_array underlying249 v;rw[X4]at b
 rw[Ue]at e
 have o:d.map (·.1)=Kg.map (λg=>Lib.tabData .i64 g):=by
  have:=congrArg Prod.fst w;simp only[Rows.laid_conclave_cha_quarters,DataW.agg.injEq]at this;rw[<- this];rfl
 have f:∀ i,i<8->(cs.toList.drop (i*4)).take 4=(Kg.map (λg=>g.map λz=>Value.int .i64 z)).getD i []:=by
  intro i h;have k:=e i h;have q:d[i]?=some (d[i]'(by omega)):=H' (by omega);rw[q]at k
  have r:(d[i]'(by omega)).1=Lib.tabData .i64 (Kg.getD i []):=by
   have j:(d.map (·.1))[i]?=some (d[i]'(by omega)).1:=by rw[mX,q];rfl
   rw[o,mX,H' (show i<Kg.length from h)]at j
   simp only[m5,X']at j;rw[<- j,List.getD,H' (show i<Kg.length from h)];rfl
  have s:d[i]'(by omega)=(Lib.tabData .i64 (Kg.getD i []),(d[i]'(by omega)).2):=by rw[<- r]
  rw[s]at k
  have u:=Lib.cells_of_tab underlying248 underlying3 gp Ue k;rw[u,List.getD,List.getD,mX,H' (show i<Kg.length from h)];rfl
 have l:cs.toList=(Kg.map (λg=>g.map λz=>Value.int .i64 z)).flatten:=gY b _ rfl f;have n:cs=Wt:=by
  apply pY;rw[l];rfl
 subst n;unfold World.var? at a;rw[Yp]at a
 simp only[Option.bind_some]at a;split at a
 .rename_i c t fr hh
  simp only[X']at a;subst a;exact⟨t,fr,hh⟩
 .cases a
theorem dy(b : World.var? prog W "conclave/order.needs" = some cs)(v:DataW.trod (fun _=>()) prog W 0 (fun _=>true) false fuel 88 cs.toList=some (Rows.laid_conclave_order_needs,p)):NTab W:=by
 obtain⟨x,m,_,n,d,e,a⟩:=DataW.trod_array underlying88 v;rw[go]at d
 rw[X6]at a
 have u:cs.toList=Ol.map (Value.int .i64):=by
  match x,e with
  | [x0,x1,x2,x3],_ =>
   simp only[Rows.laid_conclave_order_needs,mR,nG,m6,DataW.agg.injEq,ol,and_true]at n;obtain⟨⟨o,q,r,s⟩,_⟩:=n;have f:=Ha (p:=x0.2) ((a 0 (by omega)).trans (by rw[o];rfl));have g:=Ha (p:=x1.2) ((a 1 (by omega)).trans (by rw[q];rfl));have h:=Ha (p:=x2.2) ((a 2 (by omega)).trans (by rw[r];rfl));have j:=Ha (p:=x3.2) ((a 3 (by omega)).trans (by rw[s];rfl));generalize cs.toList=l at d f g h j
   match l,d with
   | [_,_,_,_,_,_,_,_,_,_,_,_],_ =>
    simp at f g h j;simp[Ol,f,g,h,j]
 have c:cs=(Ol.map (Value.int .i64)).toArray:=pY (by simpa using u);subst c;obtain⟨t,y,k⟩:=KU fA b;refine⟨(U'.1 k).1,λi w=>?_⟩;refine cell_of_row _ _ i _ _ _ k |>.trans ?_;simp[List.getD,List.getElem?_map,List.getElem?_eq_getElem (show i<Ol.length from w)]
theorem jM:(Rows.laid_conclave_sha_roundWords:DataW Unit)=Lib.tabData .u32 SI:=by kernel_rfl
theorem ZO(a : World.var? prog W "conclave/sha.roundWords" = some cs)(c:DataW.trod (fun _=>()) prog W 0 (fun _=>true) false fuel 177 cs.toList=some (Rows.laid_conclave_sha_roundWords,p)):AK W:=by
 obtain⟨t,g,d⟩:=KU jC a;rw[jM]at c
 have f:=Lib.cells_of_tab underlying177 underlying174 bR bS c;refine⟨(U'.1 d).1,λi b=>?_⟩;rw[cell_of_row _ _ i _ _ _ d,<- VO i b];have e:cs[i]?=cs.toList[i]?:=by simp
 rw[e,f,mX,H' (show i<SI.length from b),List.getD,H' (show i<SI.length from b)];rfl
def YG(cs:Array Value):Obj->Obj
 | .cells _ t frozen=>.cells cs t frozen
 | o=>o
end
end
section
open Go.RowKit
section
def Sx:List (Nat × (World->Prop))->Array Bool->World->Prop
 | [],_,_=>True
 | c::r,L,w=>(L.getD c.1 false=false->c.2 w)/\Sx r L w
variable{L:Array Bool}{l:List (Nat × (World->Prop))}{w:World}
theorem Sx.set{i:Nat}(h:l.all (λc=>c.1 != i)=true){L:Array Bool}{w:World}(b:Sx l (L.setIfInBounds i true) w):Sx l L w:=by
 induction l with
 | nil=>trivial
 | cons c r ih =>
  simp only[oD,mG,bne_iff_ne,ne_eq]at h;refine⟨λa=>b.1 ?_,ih h.2 b.2⟩;rw[mY]at a ⊢
  rw[nK (λe=>h.1 e.symm)];exact a
def Sd(D:List Nat)(n:Nat):List (Nat × (World->Prop))->World->Prop
 | [],_=>True
 | c::r,w=>((D.contains c.1||decide (n<=c.1))=true->c.2 w)/\Sd D n r w
theorem Sx.sd{D:List Nat}{n:Nat}(e:L.size=n)(d:∀ j∈D,L.getD j true=false)(a:Sx l L w):Sd D n l w:=by
 induction l with
 | nil=>trivial
 | cons c r ih =>
  refine⟨λh=>a.1 ?_,ih a.2⟩;simp only[pM,pE,decide_eq_true_eq]at h;rcases h with h|h
  .have h1:=d _ h;rw[mY]at h1 ⊢
   cases hx:L[c.1]? with
   | none=>rfl
   | some b=>rw[hx]at h1;simpa using h1
  .rw[mY,Array.getElem?_eq_none (by omega)];rfl
end
section
variable{P:Program}{ops:Array Oper}{Q:Exit->Act->World->Prop}{md:Region.Mode}{S:List (Nat × (World->Prop))}
section
def BE(P:Program)(md:Region.Mode)(ops:Array Oper)(Q:Exit->Act->World->Prop)(S:List (Nat × (World->Prop))):Nat->Array Bool->Act->World->Prop
 | 0,listed,a,w=>Region.ready md ops listed=[]/\Q .normal a w
 | fuel+1,listed,a,w =>
  (Region.ready md ops listed=[]->Q .normal a w) /\
  ∀ i∈Region.ready md ops listed,wpOp P ops Q i (λa' w'=>Sx S (listed.setIfInBounds i true) w'/\BE P md ops Q S fuel (listed.setIfInBounds i true) a' w') a w
theorem OF:∀ (fuel:Nat) (listed:Array Bool) (a:Act) (w:World),BE P md ops Q S fuel listed a w->wpAny P md ops Q fuel listed a w
 | 0,_,_,_,h=>h
 | fuel+1,_,_,_,h=>⟨h.1,λi hi=>wpOp_mono (λa' w' h'=>OF fuel _ a' w' h'.2) (h.2 i hi)⟩
def ML(md:Region.Mode)(ops:Array Oper)(i:Nat)(D:List Nat):Bool :=
 D.all λj=>j==i||(match ops[j]? with
  | none=>false
  | some o=>o.after.any λe=>Region.binds md e&&D.contains e.on)
variable{L:Array Bool}{a:Act}{fuel i:Nat}{oi:Oper}{v:Value}{w:World}
theorem PL(D:List Nat)(O:ops[i]?=some oi)(u:∀ (j:Nat) (o:Oper) cs b,ops[j]?=some o->o.op≠.select cs b)(hQ:∀ c a w,Q (.panic c) (a.put oi.dst v) w->Q (.panic c) a w)(R:i∈D)(hD:ML md ops i D=true)(B:S.all (λc=>c.1 != i)=true) :
  ∀ (fuel:Nat) (listed:Array Bool) (a:Act) (w:World),listed.size=ops.size ->
   (∀ j oj,ops[j]?=some oj->j≠i->listed.getD j true=false->(∀ e∈oj.after,Region.binds md e=true->e.on≠i)->oi.apart ops oj=true) ->
   i∈Region.ready md ops listed->(∀ j∈D,listed.getD j true=false)->YieldsIf P ops (Sd D ops.size S) oi v a->Sx S listed w ->
   BE P md ops Q S fuel (listed.setIfInBounds i true) (a.put oi.dst v) w->BE P md ops Q S (fuel+1) listed a w:=by
 intro fuel;induction fuel with
 | zero =>
  intro listed a w p _ t f E z H;have A:Sx S (listed.setIfInBounds i true) w:=by
   clear H E f t;induction S with
   | nil=>trivial
   | cons c r ih =>
    simp only[oD,mG,bne_iff_ne,ne_eq]at B;refine⟨λl=>z.1 ?_,ih B.2 z.2⟩;rw[mY]at l ⊢
    rw[nK (λe=>B.1 e.symm)]at l
    exact l
  refine⟨λh=>(by rw[h]at t;cases t),λj M=>?_⟩;by_cases d:j=i
  .subst d;exact E.wpOp O (z.sd p f) ⟨A,H⟩
  .have:=ready_mono M d;rw[H.1]at this
   cases this
 | succ fuel ih =>
  intro listed a w p g t f E z H;have A:Sx S (listed.setIfInBounds i true) w:=by
   clear H E f t ih;induction S with
   | nil=>trivial
   | cons c r ih =>
    simp only[oD,mG,bne_iff_ne,ne_eq]at B;refine⟨λl=>z.1 ?_,ih B.2 z.2⟩;rw[mY]at l ⊢
    rw[nK (λe=>B.1 e.symm)]at l
    exact l
  refine⟨λh=>(by rw[h]at t;cases t),λj M=>?_⟩;by_cases d:j=i
  .subst d;exact E.wpOp O (z.sd p f) ⟨A,H⟩
  .have y:=H.2 j (ready_mono M d);obtain⟨s,oj,n,F⟩:=mem_ready.1 M;have L:∀ k∈D,∀ e∈oj.after,Region.binds md e=true->e.on≠k:=λk C e he hb N=>by
    have y:=F e he hb;have W:=f k C;rw[N]at y
    rcases mZ k listed.size with h'|h'
    .simp[h']at W y;rw[W]at y;cases y
    .simp[Array.getElem?_eq_none h']at y
   have I:∀ e∈oj.after,Region.binds md e=true->e.on≠i:=L i R;have T:j∉D:=λhm=>by
    have q:=nD.1 hD j hm;simp only[pM,beq_iff_eq,n,Array.any_eq_true,mG,pE]at q;rcases q with q|⟨x,hx,h4,h5⟩
    .exact d q
    .exact L _ h5 oj.after[x] (Array.getElem_mem hx) h4 rfl
   have h2:=wpOp_putIf n (g j oj n d s I) (λcs b=>u i oi cs b O) (λcs b=>u j oj cs b n) hQ E y;have m:∀ k ok,ops[k]?=some ok->k≠i->(listed.setIfInBounds j true).getD k true=false ->
     (∀ e∈ok.after,Region.binds md e=true->e.on≠i)->oi.apart ops ok=true:=λk ok C U X V=>by
    refine g k ok C U ?_ V;by_cases G:j=k
    .subst G;exact s
    .rw[getD_set_ne true G]at X;exact X
   have K:∀ k∈D,(listed.setIfInBounds j true).getD k true=false:=λk C=>by
    rw[getD_set_ne true (show j≠k from λe=>T (by rw[e];exact C))];exact f k C
   refine wpOp_mono (λZ Y q=>?_) h2;have l:=Array.setIfInBounds_comm (xs:=listed) true true d;have J:Sx S (listed.setIfInBounds j true) Y:=Sx.set B (by rw[l];exact q.2.1);refine⟨J,ih (listed.setIfInBounds j true) Z Y (by rw[Array.size_setIfInBounds];exact p) m (ready_mono t (Ne.symm d)) K q.1 J ?_⟩;rw[l];exact q.2.2
theorem fT(d:Nat)(D:List Nat){f:Oper}{v:Value}{e:Nat}{b:Array Bool}{a:Act}{w:World}(l:ops[i]?=some f)(k:f.dst=some d)(x:Region.noSelect ops=true)(t:Region.free md ops b i=true)(u:(Region.ready md ops b).contains i=true)(r:∀ c a w,Q (.panic c) (a.put (some d) v) w->Q (.panic c) a w)(g:(D.contains i&&ML md ops i D&&S.all (λc=>c.1 != i)&&decide (b.size=ops.size)&&D.all λj=>b.getD j true==false)=true)(y:YieldsIf P ops (Sd D ops.size S) f v a)(s:Sx S b w)(h:BE P md ops Q S e (b.setIfInBounds i true) (a.put (some d) v) w):BE P md ops Q S (e+1) b a w:=by
 simp only[mG,pE,decide_eq_true_eq,nD,beq_iff_eq]at g;obtain⟨⟨⟨⟨m,n⟩,o⟩,p⟩,q⟩:=g;exact PL D l (Region.noSelect_spec x) (by rw[k];exact r) m n (nD.2 o) e b a w p (Region.free_spec l t) (by simpa using u) q y s (by rw[k];exact h)
theorem mc(b:Region.ready md ops L=[i])(h:wpOp P ops Q i (λa' w'=>Sx S (L.setIfInBounds i true) w'/\BE P md ops Q S fuel (L.setIfInBounds i true) a' w') a w):BE P md ops Q S (fuel+1) L a w :=
 ⟨λc=>absurd (b▸c) (by simp),b▸(λj d=>by
  obtain rfl:j=i:=by simpa using d
  exact h)⟩
theorem me{b:Nat}(c:Region.ready md ops L=[i,b])(h:wpOp P ops Q i (λa' w'=>Sx S (L.setIfInBounds i true) w'/\BE P md ops Q S fuel (L.setIfInBounds i true) a' w') a w)(d:wpOp P ops Q b (λa' w'=>Sx S (L.setIfInBounds b true) w'/\BE P md ops Q S fuel (L.setIfInBounds b true) a' w') a w):BE P md ops Q S (fuel+1) L a w :=
 ⟨λe=>absurd (c▸e) (by simp),c▸(λj f=>by
  rcases(show j=i\/j=b by simpa using f)with rfl|rfl
  .exact h
  .exact d)⟩
theorem fi(S:List (Nat × (World->Prop))){c:Nat}{a:Act}{w:World}(b:P.follows .mixedOrders=true)(h:BE P .any ops Q S ops.size (Array.replicate ops.size false) a w.drew):(Code.region c ops true).wp P Q a w :=
 wp_region_any b (OF _ _ _ _ h)
end
end
section
variable{P:Program}{ops:Array Oper}{Q:Exit->Act->World->Prop}{md:Region.Mode}{S:List (Nat × (World->Prop))}
section
def pts:Act->List (Nat × Value)->Act
 | a,[]=>a
 | a,p::r=>pts (a.put (some p.1) p.2) r
def got(P:Program)(ops:Array Oper)(a:Act)(w:World)(i:Nat):Option (Option Tmp × Value × World) :=
 match ops[i]? with
 | none=>none
 | some o=>if Region.wanted o (yielded ops a.tmps)then(match(execOp a.eval o).run P w with
   | .ok (.value v) w'=>some (o.dst,v,w')
   | _=>none)else some (o.dst,undef,w)
def S6(P:Program)(ops:Array Oper)(w:World):List Nat->List (Nat × Value)->Act->List (Option (Option Tmp × Value × World))
 | i::is,p::ps,a=>got P ops a w i::S6 P ops w is ps (a.put (some p.1) p.2)
 | _,_,_=>[]
def au(w:World)(ps:List (Nat × Value)):List (Option (Option Tmp × Value × World)):=ps.map λp=>some (some p.1,p.2,w)
variable{K:Act->World->Prop}{L:Array Bool}{a:Act}{arr new old:Array Value}{b:Bool}{g i k:Nat}{m n:Int}{o:Obj}{t ty:TypeId}{w:World}{x y:Operand}
theorem S5{d:Nat}{v:Value}{S0:World->Prop}(h:∀ w,got P ops a w i=some (some d,v,w)):∃ o,ops[i]?=some o/\o.dst=some d/\YieldsIf P ops S0 o v a:=by
 cases ho:ops[i]? with
 | none=>have:=h default;unfold got at this;rw[ho]at this;cases this
 | some o =>
  by_cases c:Region.wanted o (yielded ops a.tmps)=true
  .have key:∀ w,o.dst=some d/\(execOp a.eval o).run P w=.ok (.value v) w:=λw=>by
    have b:=h w;unfold got at b;rw[ho]at b
    simp only[c,if_true]at b;split at b
    .rename_i v' w' hr
     simp only[X',m6]at b;obtain⟨e,rfl,rfl⟩:=b;exact⟨e,hr⟩
    .cases b
   exact⟨o,rfl,(key default).1,.inl ⟨c,λw _=>(key w).2⟩⟩
  .have b:=h default;unfold got at b;rw[ho]at b
   simp only[c,if_false,X',m6,pg]at b;exact⟨o,rfl,b.1,.inr ⟨by simpa using c,b.2.1.symm⟩⟩
def MA(md:Region.Mode)(ops:Array Oper)(gs:List Nat):List Nat->Array Bool->Bool
 | [],_=>true
 | i::is,L=>Region.free md ops L i&&(Region.ready md ops L).contains i&&gs.all (· != i)&&decide (L.size=ops.size)&&(L.getD i true==false)&&MA md ops gs is (L.setIfInBounds i true)
def lT(L:Array Bool)(is:List Nat):Array Bool:=is.foldl (λL i=>L.setIfInBounds i true) L
theorem gc{S:List (Nat × (World->Prop))}(h:(S.map (·.1)).all (· != i)=true):S.all (λc=>c.1 != i)=true:=by
 rw[List.all_map]at h
 exact h
theorem xB0{m:Nat}(n:Nat)(f:List Nat)(b:List (Nat × Value))(h:∀ w,S6 P ops w f b a=au w b)(K:Region.noSelect ops=true)(D:MA md ops (S.map (·.1)) f L=true)(H:m=n+b.length)(t:f.length=b.length)(F:∀ c a d v w,Q (.panic c) (a.put (some d) v) w->Q (.panic c) a w)(j:Sx S L w)(s:BE P md ops Q S n (lT L f) (pts a b) w):BE P md ops Q S m L a w:=by
 subst H;induction f generalizing L a b with
 | nil =>
  obtain rfl:b=[]:=Y' t.symm;exact s
 | cons i f ih =>
  cases b with
  | nil=>cases t
  | cons p r =>
   have B:∀ w,got P ops a w i=some (some p.1,p.2,w):=λw=>by
    have:=h w;simp only[S6,au,mR,ol]at this;exact this.1
   have C:∀ w,S6 P ops w f r (a.put (some p.1) p.2)=au w r:=λw=>by
    have:=h w;simp only[S6,au,mR,ol]at this;exact this.2
   obtain⟨o,I,G,E⟩:=S5 (S0:=Sd [i] ops.size S) B;simp only[MA,mG]at D;obtain⟨⟨⟨⟨⟨u,x⟩,g⟩,y⟩,z⟩,A⟩:=D;have k:Sx S (L.setIfInBounds i true) w:=by
    have q:=gc g;clear s ih h B C E u x g y z A;induction S with
    | nil=>trivial
    | cons c r ih =>
     simp only[oD,mG,bne_iff_ne,ne_eq]at q;refine⟨λl=>j.1 ?_,ih j.2 q.2⟩;rw[mY]at l ⊢
     rw[nK (λe=>q.1 e.symm)]at l
     exact l
   refine fT p.1 [i] I G K u x (λc a w J=>F c _ _ _ w J) ?_ E j (ih r C A (by simpa using t) k s);rw[gc g,y];simp[ML];simpa using z
abbrev iv(n:Int):Value:=.int .i64 n
abbrev pt(b o:Nat):Value:=.pointer (some ⟨b,o,none⟩)
abbrev sn:Value:=.slice none 0 0
theorem xS0{m:Nat}(n i:Nat)(c:Region.ready md ops L=[i])(b:m=n+1)(h:wpOp P ops Q i (λa' w'=>Sx S (L.setIfInBounds i true) w'/\BE P md ops Q S n (L.setIfInBounds i true) a' w') a w):BE P md ops Q S m L a w:=by subst b;exact mc c h
theorem Rd{b:Nat}{e:Nat × Nat}(h:w.heap[b]?=some (.cells arr t e))(k:Nat)(a:List Value)(f:(arr.toList.drop k).take a.length=a):w.rangeAt b k a:=λj u c=>by
 rw[cell_of_row _ _ (k+j) _ _ _ h];have d:j<a.length:=(V'.1 c).1;rw[<- f,nk,if_pos d,ng]at c
 simpa using c
theorem aU{b:Nat}(h:w.heap[b]?=some (.cells arr t (0,0)))(k n:Nat)(c:k+n<=arr.size):w.there b k n:=λj a =>
 ⟨by rw[cell_of_row _ _ (k+j) _ _ _ h,n8 (by omega)];rfl,frozen_of_row _ _ (k+j) _ _ h⟩
def dV(arr:Array Value):Nat->List Value->Array Value
 | _,[]=>arr
 | k,v::r=>dV (arr.setIfInBounds k v) (k+1) r
theorem iN{b:Nat}(a:List Value):∀ {arr:Array Value} (k:Nat) (h:w.heap[b]?=some (.cells arr t (0,0))),(w.setCells b k a).heap[b]?=some (.cells (dV arr k a) t (0,0)):=by
 induction a generalizing w with
 | nil=>intro arr k h;exact h
 | cons v r ih=>intro arr k h;exact ih (k+1) (heap_setCell_same w b k arr t v h)
theorem iM{b:Nat}(k:Nat)(v:Value)(h:w.heap[b]?=some (.cells arr t (0,0))):(w.setCell ⟨b,k,none⟩ v).heap[b]?=some (.cells (arr.setIfInBounds k v) t (0,0)):=heap_setCell_same w b k arr t v h
theorem Nn{e:TypeId}{b n c z:Nat}(l:P.underlying t=some (.slice e))(d:P.elem t=e)(a:(P.info? e).map (·.size)=some z)(h:i<n)(j:Nat)(f:k+z*i=j):(Instr.indexAt t (.slice (some ⟨b,k,none⟩) n c) (iv (i:Int))).run P w=.ok (pt b j) w:=by
 have g:(Go.sizeOf e).run P w=.ok z w:=by
  cases hx:P.info? e with
  | none=>rw[hx]at a;cases a
  | some x=>rw[hx]at a;simp at a;simp[Go.sizeOf,typeInfo,hx,a]
 rw[run_indexAt_slice (P:=P) w t _ n c .i64 _ (by rw[d];exact l),if_pos ⟨by omega,by omega⟩,d,g];simp[Result.andThen,Addr.add_mid,Nat.mul_comm,<- f]
theorem fJ{src dst:TypeId}{k a:IntKind}(d:(P.underlying src).isSome=true)(c:P.underlying dst=some (.int a))(b:P.intKind dst=a)(h:a.wrap n=n):(convert src dst (.int k n)).run P w=.ok (.int a n) w:=by
 rw[run_convert_int (P:=P) w src dst k n d (by rw[b];exact c),b,h]
theorem xC0{m:Nat}{s:Nat}{C:World->Prop}{e:List (Nat × (World->Prop))}(n i d:Nat)(D:List Nat)(v:Value)(h:∀ W,C W->got P ops a W i=some (some d,v,W))(b:C w)(H:Region.noSelect ops=true)(f:(Region.free md ops L i&&(Region.ready md ops L).contains i&&(((s,C)::e:List (Nat × (World->Prop))).map (·.1)).all (· != i)&&decide (L.size=ops.size)&&(D.contains i&&(D.contains s||decide (ops.size<=s))&&ML md ops i D&&D.all λj=>L.getD j true==false))=true)(F:m=n+1)(z:∀ c a d v w,Q (.panic c) (a.put (some d) v) w->Q (.panic c) a w)(A:Sx ((s,C)::e) L w)(E:BE P md ops Q ((s,C)::e) n (L.setIfInBounds i true) (a.put (some d) v) w) :
  BE P md ops Q ((s,C)::e) m L a w:=by
 subst F;simp only[mG]at f;obtain⟨⟨⟨⟨g,k⟩,l⟩,p⟩,⟨⟨⟨q,r⟩,t⟩,u⟩⟩:=f;cases ho:ops[i]? with
 | none=>have h:=h w b;unfold got at h;rw[ho]at h;cases h
 | some o =>
  have key:∀ W,C W->o.dst=some d/\((Region.wanted o (yielded ops a.tmps)=true/\(execOp a.eval o).run P W=.ok (.value v) W)\/(Region.wanted o (yielded ops a.tmps)=false/\v=undef)):=λW B=>by
   have h:=h W B;unfold got at h;rw[ho]at h
   simp only at h;split at h
   .rename_i b
    split at h
    .rename_i v' w' hr
     simp only[X',m6]at h;obtain⟨x,rfl,rfl⟩:=h;exact⟨x,.inl ⟨b,hr⟩⟩
    .cases h
   .rename_i b
    simp only[X',m6]at h;exact⟨h.1,.inr ⟨by simpa using b,h.2.1.symm⟩⟩
  refine fT d D ho (key w b).1 H g k (λc a w G=>z c _ _ _ w G) ?_ ?_ A E
  .rw[gc l,p,q,t,u];rfl
  .by_cases hw2:Region.wanted o (yielded ops a.tmps)=true
   .refine .inl ⟨hw2,λI y=>?_⟩;rcases(key I (y.1 r)).2 with h3|h3
    .exact h3.2
    .rw[hw2]at h3;cases h3.1
   .rcases(key w b).2 with h3|h3
    .exact absurd h3.1 hw2
    .exact .inr h3
theorem D4(h:(m==n)=b):(do Go.eqGuard .eql t x y (iv m) (iv n);Go.binOp .eql t (iv m) (iv n):Sem Value).run P w=.ok (.bool b) w:=by
 subst h;rfl
theorem rl(h:w.heap[g]?=some o):g<w.heap.size:=(U'.1 h).1
theorem rB{a:World}(b:Bw w a)(h:w.heap[g]?=some o):a.heap[g]?=some o:=(b.block _ (rl h)).trans h
theorem jU{o:Oper}(cells:Array Value)(d:w.heap[g]?=some (.cells old t (0,0)))(m:ops[i]?=some o)(n:Region.wanted o (yielded ops a.tmps)=true)(f:o.dst=none)(c:o.op=.store ty x y)(p:a.eval x=pt g k)(q:a.eval y=.agg cells)(j:(P.info? ty).map (·.size)=some cells.size)(b:k+cells.size<=old.size)(e:cells.all (·.oneCell')=true)(l:dV old k cells.toList=new)(h:∀ w',w'.heap[g]?=some (.cells new t)->Only g w w'->K a w'):wpOp P ops Q i K a w :=
 SY m n f ty x y c g k cells p q (aU d k _ b) j e (h _ (by rw[<- l];exact iN _ _ d) (Only.store _ _ _ _))
theorem jV{o:Oper}(v:Value)(c:w.heap[g]?=some (.cells old t (0,0)))(m:ops[i]?=some o)(n:Region.wanted o (yielded ops a.tmps)=true)(f:o.dst=none)(d:o.op=.store ty x y)(p:a.eval x=pt g k)(q:a.eval y=v)(j:(P.info? ty).map (·.size)=some 1)(b:k<old.size)(e:v.oneCell'=true)(l:old.setIfInBounds k v=new)(h:∀ w',w'.heap[g]?=some (.cells new t)->Only g w w'->K a w'):wpOp P ops Q i K a w :=
 SZ m n f ty x y d g k v old[k] p q (by rw[cell_of_row _ _ k _ _ _ c,n8 b]) (frozen_of_row _ _ k _ _ c) j e (h _ (by rw[<- l];exact iM k v c) (Only.one _ _ _ _))
theorem jT(d:Nat)(v:Value)(h:got P ops a w i=some (some d,v,w))(c:K (a.put (some d) v) w):wpOp P ops Q i K a w:=by
 unfold got at h;unfold wpOp;cases ho:ops[i]? with
 | none=>rw[ho]at h;cases h
 | some o =>
  rw[ho]at h
  simp only;simp only at h;split
  .rename_i hw
   simp only[hw,if_true]at h;split at h
   .rename_i v' w' hr
    simp only[X',m6]at h;obtain⟨b,rfl,rfl⟩:=h;refine .inl ?_;unfold Oper.wp;rw[hr,Oper.upon_value,b];exact c
   .cases h
  .rename_i hw
   simp only[hw,if_false,X',m6,pg]at h;obtain⟨b,rfl,_⟩:=h;rw[b];exact c
theorem Hl(h:(m != n)=b):(do Go.eqGuard .neq t x y (iv m) (iv n);Go.binOp .neq t (iv m) (iv n):Sem Value).run P w=.ok (.bool b) w:=by
 subst h;rfl
theorem rLt(h:decide (m<n)=b):(do Go.eqGuard .lss t x y (iv m) (iv n);Go.binOp .lss t (iv m) (iv n):Sem Value).run P w=.ok (.bool b) w:=by
 subst h;rfl
theorem rGt(h:decide (n<m)=b):(do Go.eqGuard .gtr t x y (iv m) (iv n);Go.binOp .gtr t (iv m) (iv n):Sem Value).run P w=.ok (.bool b) w:=by
 subst h;rfl
theorem rGe(h:decide (n<=m)=b):(do Go.eqGuard .geq t x y (iv m) (iv n);Go.binOp .geq t (iv m) (iv n):Sem Value).run P w=.ok (.bool b) w:=by
 subst h;rfl
theorem rLe(h:decide (m<=n)=b):(do Go.eqGuard .leq t x y (iv m) (iv n);Go.binOp .leq t (iv m) (iv n):Sem Value).run P w=.ok (.bool b) w:=by
 subst h;rfl
end
end
section
structure Fm where
 n:Nat
 e:List (Nat × Value)
 z:Nat->Value
def lk(z:Nat->Value):List (Nat × Value)->Nat->Value
 | [],t=>z t
 | p::r,t=>cond (Nat.beq p.1 t) p.2 (lk z r t)
def Fm.act(f:Fm):Act:={ tmps:=((List.range f.n).map (lk f.z f.e)).toArray,defers:=[] }
def Fm.ev(f:Fm):Operand->Value
 | .tmp t=>cond (Nat.blt t f.n) (lk f.z f.e t) undef
 | .const v=>v
 | .global g=>.pointer (some ⟨g,0,none⟩)
 | .func k=>.func (.func k) #[] #[]
def Fm.put(f:Fm)(d:Option Tmp)(v:Value):Fm:=match d with|some d=>⟨f.n,(d,v)::f.e,f.z⟩|none=>f
theorem Fm.eval(f:Fm):f.act.eval=f.ev:=by
 funext x
 cases x with
 | tmp t =>
  show((List.range f.n).map (lk f.z f.e)).toArray.getD t undef=_;rw[mY];simp only[m7,mX];show _=cond (Nat.blt t f.n) (lk f.z f.e t) undef;by_cases h:t<f.n
  .have hb:Nat.blt t f.n=true:=(by rw[Nat.blt,pm];exact h);rw[nV h,hb];rfl
  .have hb:Nat.blt t f.n=false:=po.2 λg=>h (by rw[Nat.blt,pm]at g;exact g);rw[nN (by simpa using h),hb];rfl
 | const v=>rfl
 | global g=>rfl
 | func k=>rfl
theorem Fm.qZ(f:Fm)(d:Option Tmp)(v:Value):(f.put d v).act=f.act.put d v:=by
 cases d with
 | none=>rfl
 | some d =>
  unfold Fm.put Fm.act Act.put;simp only[Act.mk.injEq,and_true];apply nO;intro i;rw[pL];simp only[m7,mX,oh,mF,pq];by_cases b:i<f.n
  .rw[nV b];by_cases a:d=i
   .subst a;simp[lk,b]
   .rw[if_neg a];simp only[m5,lk,show Nat.beq d i=false from po.2 λg=>a (mH g),cond_false]
  .rw[nN (by simpa using b)];by_cases a:d=i
   .subst a;simp[b]
   .rw[if_neg a];rfl
def kZ(f:Fm)(want:Bool):Option Tmp->Bool
 | none=>false
 | some d=>match f.ev (.tmp d)with
  | .bool b=>b==want
  | _=>false
theorem fs(f:Fm)(want:Bool)(x:Option Tmp):((match x.bind (f.act.tmps[·]?)with|some (.bool b)=>some b|_=>none)==some want)=kZ f want x:=by
 cases x with
 | none=>rfl
 | some d =>
  have a:f.act.eval (.tmp d)=f.ev (.tmp d):=by rw[f.eval]
  have c:f.act.eval (.tmp d)=(f.act.tmps[d]?).getD undef:=mY ..;rw[c]at a
  show((match f.act.tmps[d]? with|some (.bool b)=>some b|_=>none)==some want)=(match f.ev (.tmp d)with|.bool b=>b==want|_=>false);rw[<- a];cases f.act.tmps[d]? with
  | none=>rfl
  | some v=>cases v<;>rfl
def Fm.au(f:Fm)(ops:Array Oper)(o:Oper):Bool :=
 match o.guard with
 | none=>true
 | some (j,want)=>kZ f want ((ops[j]?).bind (·.dst))
theorem Fm.wanted(f:Fm)(a:Array Oper)(o:Oper):Region.wanted o (yielded a f.act.tmps)=f.au a o:=by
 unfold Region.wanted Fm.au;cases o.guard with
 | none=>rfl
 | some p=>exact fs f p.2 ((a[p.1]?).bind (·.dst))
inductive Tg where
 | z
 | l
 | n (r i:Nat)
def Tg.rk:Tg->Bool|.z=>true|_=>false
structure Sh where
 g:Nat
 o:Obj
 t:Tg
 w:Bool
instance:Inhabited Sh:=⟨⟨0,default,.z,false⟩⟩
structure Gh where
 t:Nat->Tg
 k:Nat->Nat
structure Cg(B:Nat)(T:List Tg)(g:Gh)(w:World)(g':Gh)(w':World):Prop where
 os:w'.os=w.os
 tape:w'.tape=w.tape
 output:w'.output=w.output
 size:w.heap.size<=w'.heap.size
 rE:∀ b,b<w.heap.size->g'.t b=g.t b\/(g.t b=.l/\B<=b/\g'.t b=.z)
 ry:∀ b,b<w.heap.size->g.k b<=g'.k b
 rV:∀ b,b<w.heap.size->g.t b∉T->(g.t b=.l->b<B)->g'.k b=g.k b
 same:∀ b,b<w.heap.size->g.t b∉T->(g.t b=.l->b<B)->w'.heap[b]?=w.heap[b]?
 rp:∀ b,b<w.heap.size->∀ j,j<g.k b->w'.cell? ⟨b,j,none⟩=w.cell? ⟨b,j,none⟩
variable{B:Nat}{T:List Tg}{g g':Gh}{w w':World}
theorem Cg.tag(h:Cg B T g w g' w'){b:Nat}(a:b<w.heap.size)(c:g.t b=.l->b<B):g'.t b=g.t b:=by
 rcases h.rE b a with h1|⟨h1,h2,_⟩
 .exact h1
 .have:=c h1;omega
theorem Cg.refl(B:Nat)(T:List Tg)(g:Gh)(w:World):Cg B T g w g w:=⟨rfl,rfl,rfl,A' _,λ_ _=>.inl rfl,λ_ _=>A' _,λ_ _ _ _=>rfl,λ_ _ _ _=>rfl,λ_ _ _ _=>rfl⟩
theorem Cg.trans{f:Gh}{i:World}(h:Cg B T g w g' w')(k:Cg B T g' w' f i):Cg B T g w f i :=
 have e:∀ {b},b<w.heap.size->b<w'.heap.size:=λa=>Z' a h.size
 ⟨k.os.trans h.os,k.tape.trans h.tape,k.output.trans h.output,mg h.size k.size,λb a=>by
  rcases h.rE b a with d|⟨d,c,h3⟩
  .rcases k.rE b (e a)with k1|⟨k1,k2,k3⟩
   .exact .inl (k1.trans d)
   .exact .inr ⟨d▸k1,k2,k3⟩
  .rcases k.rE b (e a)with k1|⟨k1,k2,k3⟩
   .exact .inr ⟨d,c,k1.trans h3⟩
   .exact .inr ⟨d,c,k3⟩,
  λb a=>mg (h.ry b a) (k.ry b (e a)),
  λb a d c=>(k.rV b (e a) (by rw[h.tag a c];exact d) (by rw[h.tag a c];exact c)).trans (h.rV b a d c),
  λb a d c=>(k.same b (e a) (by rw[h.tag a c];exact d) (by rw[h.tag a c];exact c)).trans (h.same b a d c),
  λb a j l=>(k.rp b (e a) j (Z' l (h.ry b a))).trans (h.rp b a j l)⟩
theorem Cg.mono{f:List Tg}(h:Cg B T g w g' w')(i:∀ t∈T,t∈f):Cg B f g w g' w' :=
 ⟨h.os,h.tape,h.output,h.size,h.rE,h.ry,λb e a c=>h.rV b e (λd=>a (i _ d)) c,λb e a c=>h.same b e (λd=>a (i _ d)) c,h.rp⟩
theorem Cg.ret(h:Cg w.heap.size T g w g' w'):Cg B T g w g' w' :=
 ⟨h.os,h.tape,h.output,h.size,λb a=>.inl (h.tag a (λ_=>a)),h.ry,λb a c _=>h.rV b a c (λ_=>a),λb a c _=>h.same b a c (λ_=>a),h.rp⟩
theorem Cg.ed(h:Bw w w'):Cg B T g w g w' :=
 ⟨h.os,h.tape,h.output,h.size,λ_ _=>.inl rfl,λ_ _=>A' _,λ_ _ _ _=>rfl,λb a _ _=>h.block b a,λb a j _=>World.cell?_of_block (w:=w) (h.block b a)⟩
theorem Cg.af(h:Cg w.heap.size T g w g' w')(c:∀ b,b<w.heap.size->g.t b∉T):Bw w w' :=
 ⟨h.os,h.tape,h.output,h.size,λb a=>h.same b a (c b a) (λ_=>a)⟩
structure Kn(B:Nat)(g:Gh)(w:World)(L:List Sh):Prop where
 row:∀ x∈L,w.heap[x.g]?=some x.o/\g.t x.g=x.t/\(x.t=.l->B<=x.g)/\(x.t≠.z->g.k x.g=0)
 rH:L.Pairwise λx y=>x.g=y.g->(x.t=.z/\x.w=false)/\y.t=.z/\y.w=false
 new:∀ b,w.heap.size<=b->g.t b=.z/\g.k b=0
 base:B<=w.heap.size
def AZ(L:List Sh)(w:World):Prop:=∀ x∈L,w.heap[x.g]?=some x.o
theorem Kn.rows{L:List Sh}(h:Kn B g w L):AZ L w:=λx a=>(h.row x a).1
inductive Kt where
 | c (x:Code)
 | b (id:Nat)
 | o (ops:Array Oper) (is:List Nat)
 | x (ops:Array Oper) (m:Nat) (Ld:Array Bool) (s:Nat) (L0:List Sh)
 | y (ops:Array Oper) (m:Nat) (Ld:Array Bool) (s:Nat) (L0:List Sh) (i:Nat)
 | j (J:Act->World->Prop)
def Kq(P:Program)(R:Exit->Act->World->Prop):List Kt->Exit->Act->World->Prop
 | []=>R
 | .c x::K=>Exit.then (x.wp P (Kq P R K)) (Kq P R K)
 | .b id::K=>Exit.inBlock id (Kq P R K)
 | .o ops is::K=>Exit.then (wpOps P ops (Kq P R K) is) (Kq P R K)
 | .x ops m Ld s L0::K=>Exit.then (BE P .any ops (Kq P R K) [(s,AZ L0)] m Ld) (Kq P R K)
 | .y ops m Ld s L0 i::K=>Exit.then (wpOp P ops (Kq P R K) i (λa w=>Sx [(s,AZ L0)] (Ld.setIfInBounds i true) w/\BE P .any ops (Kq P R K) [(s,AZ L0)] m (Ld.setIfInBounds i true) a w)) (Kq P R K)
 | .j J::K=>Exit.then J (Kq P R K)
structure Xs where
 K:List Kt
 f:Fm
 L:List Sh
structure GG(P:Program)(fn:Func)(R:Ending->World->Prop)(B:Nat)(T:List Tg)(s:Xs)(g:Gh)(w:World):Prop where
 ex:Kn B g w s.L->Kq P (bodyPost P fn R) s.K .normal s.f.act w
theorem Kq.panic{P:Program}{e:Func}{R:Ending->World->Prop}:∀ (K:List Kt) (c:List PanicEntry) (a:Act) (d:Option Tmp) (v:Value) (w:World),Kq P (bodyPost P e R) K (.panic c) (a.put d v) w->Kq P (bodyPost P e R) K (.panic c) a w
 | [],c,a,d,v,w,h=>by
  have hd:(a.put d v).defers=a.defers:=by cases d<;>rfl
  exact⟨hd▸h.1,h.2⟩
 | .c x::K,c,a,d,v,w,h=>Kq.panic K c a d v w h
 | .b id::K,c,a,d,v,w,h=>Kq.panic K c a d v w h
 | .o ops is::K,c,a,d,v,w,h=>Kq.panic K c a d v w h
 | .x ops m Ld s L0::K,c,a,d,v,w,h=>Kq.panic K c a d v w h
 | .y ops m Ld s L0 i::K,c,a,d,v,w,h=>Kq.panic K c a d v w h
 | .j J::K,c,a,d,v,w,h=>Kq.panic K c a d v w h
inductive Ob where
 | r (x y:World->Result Next)
 | v (x y:Value)
 | t (x y:Tg)
 | l (x y:List Sh)
 | b (x:Bool)
inductive Oe where
 | r (x:World->Result Next)
 | v (x:Value)
 | t (x:Tg)
 | l (x:List Sh)
 | b (x:Bool)
def Ob.l':Ob->Oe|.r x _=>.r x|.v x _=>.v x|.t x _=>.t x|.l x _=>.l x|.b x=>.b x
def Ob.r':Ob->Oe|.r _ x=>.r x|.v _ x=>.v x|.t _ x=>.t x|.l _ x=>.l x|.b _=>.b true
def Ob.ok:Ob->Prop|.r x y=>x=y|.v x y=>x=y|.t x y=>x=y|.l x y=>x=y|.b x=>x=true
theorem Ob.all{l:List Ob}(h:l.map Ob.l'=l.map Ob.r'):∀ o∈l,o.ok:=by
 intro o d;have c:∀ o∈l,o.l'=o.r':=List.map_inj_left.1 h;have a:=c o d;cases o<;>simp only[Ob.l',Ob.r',Oe.r.injEq,Oe.v.injEq,Oe.t.injEq,Oe.l.injEq,Oe.b.injEq]at a<;>exact a
def Ic:Value->Nat|.pointer (some a)=>a.off|_=>0
def CY:Obj->Array Value|.cells c _ _=>c|_=>#[]
def EC:Obj->Bool|.cells _ _ (0,0)=>true|_=>false
def fS:Obj->Array Value->Obj|.cells _ t f,c=>.cells c t f|o,_=>o
def szT(P:Program)(ty:TypeId):Nat:=((P.info? ty).map (·.size)).getD 0
def GA(P:Program)(ty:TypeId):Bool:=match P.underlying ty with|some d=>d.isRow|none=>false
def reA:Value->Nat->Value
 | .pointer (some a),g=>.pointer (some { a with block:=g })
 | .slice (some a) n c,g=>.slice (some { a with block:=g }) n c
 | .map (some _),g=>.map (some g)
 | v,_=>v
def eU:Result Next->Value|.ok (.value v) _=>v|_=>undef
def iq:Result Next->Obj|.ok _ w=>(w.heap[0]?).getD default|_=>default
def fC:Op->Bool|.alloc _|.box _ _|.buildSlice _ _ _|.makeSlice _ _ _|.makeMap _ _=>true|_=>false
def kM:Op->Bool|.store _ _ _=>true|_=>false
def lY(i:Nat):Nat->Tg|0=>.z|1=>.l|r+2=>.n r i
structure Rs where
 f:Fm
 L:List Sh
 j:Nat
 h:List Nat
 o:List Ob
def exQ(P:Program)(ops:Array Oper)(o:Oper)(f:Fm)(L:List Sh)(h:List Nat):Value × List Nat × List Ob :=
 cond (f.au ops o) (match o.op with
  | .load ty x =>
   let r:=L.getD (h.headD 0) default
   let off:=Ic (f.ev x)
   (cond (GA P ty) (.agg (((CY r.o).toList.drop off).take (szT P ty)).toArray) ((CY r.o).getD off undef),h.tail,
    [.v (f.ev x) (pt r.g off),.b (Nat.blt (h.headD 0) L.length&&Nat.ble (off+szT P ty) (CY r.o).size&&(P.info? ty).isSome&&(P.underlying ty).isSome&&EC r.o&&(GA P ty||Nat.beq (szT P ty) 1))])
  | _=>let q:=(execOp f.ev o).run P default;(eU q,h,[.r (λw=>(execOp f.ev o).run P w) (λw=>.ok (.value (eU q)) w)]))
  (undef,h,[])
def stP:Op->TypeId × Operand × Operand|.store t x y=>(t,x,y)|_=>(0,.tmp 0,.tmp 0)
def exS(P:Program)(T:List Tg)(o:Oper)(f:Fm)(L:List Sh)(j:Nat)(h:List Nat):Rs :=
 let ty:=(stP o.op).1
 let x:=(stP o.op).2.1
 let r:=L.getD (h.headD 0) default
 let off:=Ic (f.ev x)
 let v:=f.ev (stP o.op).2.2
 let cs:=cond (GA P ty) v.cells #[v]
 let m:=h.tail.headD 0
 ⟨f,L.set (h.headD 0) { r with o:=fS r.o (dV (CY r.o) off cs.toList) },j,h.tail.tail,
  [.v (f.ev x) (pt r.g off),.v v (cond (GA P ty) (.agg cs) v),.t (cond r.w .l r.t) (cond r.w .l ((Tg.l::T).getD m .z)),
   .b (Nat.blt (h.headD 0) L.length&&Nat.ble (off+cs.size) (CY r.o).size&&(P.info? ty).isSome&&Nat.beq (szT P ty) cs.size&&EC r.o&&o.dst.isNone&&cs.all (·.oneCell')&&(r.w||(Nat.ble m T.length&&!r.t.rk)))]⟩
def exN(P:Program)(gs:Nat->Nat)(o:Oper)(f:Fm)(L:List Sh)(j:Nat)(h:List Nat):Rs :=
 let q:=(execOp f.ev o).run P default
 ⟨f.put o.dst (reA (eU q) (gs j)),L++[⟨gs j,iq q,lY (h.tail.headD 0) (h.headD 0),true⟩],j+1,h.tail.tail,
  [.r (λw=>(execOp f.ev o).run P w) (λw=>.ok (.value (reA (eU q) w.heap.size)) (w.alloc (iq q))),.b o.dst.isSome]⟩
def exO(P:Program)(T:List Tg)(gs:Nat->Nat)(ops:Array Oper)(o:Oper)(f:Fm)(L:List Sh)(j:Nat)(h:List Nat):Rs :=
 cond (f.au ops o&&kM o.op) (exS P T o f L j h) (cond (f.au ops o&&fC o.op) (exN P gs o f L j h)
  (let q:=exQ P ops o f L h;⟨f.put o.dst q.1,L,j,q.2.1,.b (o.dst.isSome||!f.au ops o)::q.2.2⟩))
def Wn(id:Nat):List Kt->List Kt
 | []=>[]
 | .b i::K=>cond (Nat.beq i id) K (Wn id K)
 | _::K=>Wn id K
def Yx(id:Nat):List Kt->Bool
 | []=>false
 | .b i::K=>cond (Nat.beq i id) true (Yx id K)
 | _::K=>Yx id K
def Yb(ops:Array Oper)(i:Nat):List Nat :=
 (List.range ops.size).foldl (λD j=>cond (match ops[j]? with|none=>false|some o=>o.after.any λe=>Region.binds .any e&&D.contains e.on) (j::D) D) [i]
def tkB(ops:Array Oper)(Ld:Array Bool)(s i:Nat)(ld:Bool):Bool :=
 Region.noSelect ops&&(Region.free .any ops Ld i&&(Region.ready .any ops Ld).contains i&&(s != i)&&decide (Ld.size=ops.size) &&
  (cond ld (let D:=Yb ops i;D.contains i&&(D.contains s||decide (ops.size<=s))&&ML .any ops i D&&D.all λj=>Ld.getD j true==false) (Ld.getD i true==false)))
def db:Op->Bool|.load _ _=>true|_=>false
def BM(L:List Sh):List Sh:=L.map λx=>⟨x.g,x.o,x.t,false⟩
structure Rz where
 s:Xs
 o:List Ob
def rn(P:Program)(T:List Tg)(gs:Nat->Nat):Nat->Xs->Nat->List Nat->Rz
 | 0,s,_,_=>⟨s,[]⟩
 | m+1,s,j,h=>match s.K with
  | []=>⟨s,[.b false]⟩
  | .c x::K=>match x with
   | .skip=>rn P T gs m ⟨K,s.f,s.L⟩ j h
   | .seq x y=>rn P T gs m ⟨.c x::.c y::K,s.f,s.L⟩ j h
   | .block id x=>rn P T gs m ⟨.c x::.b id::K,s.f,s.L⟩ j h
   | .exit id=>let r:=rn P T gs m ⟨Wn id K,s.f,s.L⟩ j h;⟨r.s,.b (Yx id K)::r.o⟩
   | .cond c x y=>match s.f.ev c with
    | .bool t=>rn P T gs m ⟨.c (cond t x y)::K,s.f,s.L⟩ j h
    | _=>⟨s,[.b false]⟩
   | .region _ ops false=>rn P T gs m ⟨.o ops (List.range ops.size)::K,s.f,s.L⟩ j h
   | .region _ ops true=>let r:=rn P T gs m ⟨.x ops ops.size (Array.replicate ops.size false) (h.headD 0) (BM s.L)::K,s.f,s.L⟩ j h.tail;⟨r.s,.b (P.follows .mixedOrders)::r.o⟩
   | _=>⟨s,[.b false]⟩
  | .b _::K=>rn P T gs m ⟨K,s.f,s.L⟩ j h
  | .j _::_=>⟨s,[.b false]⟩
  | .o _ []::K=>rn P T gs m ⟨K,s.f,s.L⟩ j h
  | .o ops (i::is)::K=>match ops[i]? with
   | none=>⟨s,[.b false]⟩
   | some o=>let q:=exO P T gs ops o s.f s.L j h;let r:=rn P T gs m ⟨.o ops is::K,q.f,q.L⟩ q.j q.h;⟨r.s,q.o++r.o⟩
  | .y ops u Ld e L0 i::K=>match ops[i]? with
   | none=>⟨s,[.b false]⟩
   | some o =>
    let q:=exO P T gs ops o s.f s.L j h
    let Ld':=Ld.setIfInBounds i true
    let r:=rn P T gs m ⟨.x ops u Ld' e L0::K,q.f,q.L⟩ q.j q.h
    ⟨r.s,.l (cond (Ld'.getD e false) [] L0) (cond (Ld'.getD e false) [] (BM (q.L.take L0.length)))::(q.o++r.o)⟩
  | .x ops 0 Ld _ _::K=>let r:=rn P T gs m ⟨K,s.f,s.L⟩ j h;⟨r.s,.b (Region.ready .any ops Ld).isEmpty::r.o⟩
  | .x ops (u+1) Ld e L0::K =>
   let i:=h.headD 0/2
   let Ld':=Ld.setIfInBounds i true
   match ops[i]? with
   | none=>⟨s,[.b false]⟩
   | some o=>cond (Nat.beq (h.headD 0%2) 0)
    (let q:=exQ P ops o s.f L0 h.tail
     let r:=rn P T gs m ⟨.x ops u Ld' e L0::K,s.f.put o.dst q.1,s.L⟩ j q.2.1
     let d:=db o.op&&s.f.au ops o
     ⟨r.s,.b (tkB ops Ld e i d&&o.dst.isSome&&(!d||!Ld.getD e false))::.l (cond (Ld.getD e false) [] L0) (cond (Ld.getD e false) [] (BM (s.L.take L0.length)))::(q.2.2++r.o)⟩)
    (let q:=exO P T gs ops o s.f s.L j h.tail
     let r:=rn P T gs m ⟨.x ops u Ld' e L0::K,q.f,q.L⟩ q.j q.h
     ⟨r.s,.b (match Region.ready .any ops Ld with|[k]=>Nat.beq k i|_=>false)::.l (cond (Ld'.getD e false) [] L0) (cond (Ld'.getD e false) [] (BM (q.L.take L0.length)))::(q.o++r.o)⟩)
end
section
variable{P:Program}{ops:Array Oper}{Q:Exit->Act->World->Prop}
section
variable{B i j:Nat}{L:List Sh}{T:List Tg}{f:Fm}{g g0:Gh}{h:List Nat}{o:Oper}{w w' w0:World}
theorem OY(p:ops[i]?=some o)(a:∀ x∈(exQ P ops o f L h).2.2,x.ok)(W:World)(E:AZ L W\/(db o.op&&f.au ops o)=false) :
  got P ops f.act W i=some (o.dst,(exQ P ops o f L h).1,W):=by
 unfold exQ at a ⊢;cases hwt:f.au ops o with
 | false =>
  simp only[cond_false];unfold got;simp only[p,f.wanted,hwt,if_false,pg]
 | true =>
  rw[hwt]at a E
  simp only[cond_true]at a ⊢;have b:Region.wanted o (yielded ops f.act.tmps)=true:=by rw[f.wanted,hwt]
  split at a
  .rename_i ty x hop
   simp only[];have u:AZ L W:=E.resolve_right (by simp[hop,db]);have c:=a _ (M' ..);have n:=a _ (I' _ (M' ..));simp only[Ob.ok,mG]at c n;obtain⟨⟨⟨⟨⟨z,s⟩,A⟩,B⟩,C⟩,D⟩:=n;generalize N:h.headD 0=k at *;have m:k<L.length:=by rw[Nat.blt,pm]at z;exact z
   have H:L.getD k default=L[k]:=by rw[mO,H' m];rfl
   rw[H]at c s C ⊢
   have g:=u L[k] (mP m);generalize L[k]=r at *;obtain⟨q,J,Q,K⟩:=r;cases J with
   | cells cs t fr =>
    obtain⟨O,M⟩:=fr;simp only[CY]at s ⊢;rw[pm]at s
    cases hu:P.underlying ty with
    | none=>rw[hu]at B;cases B
    | some dd =>
     cases hi':P.info? ty with
     | none=>rw[hi']at A;cases A
     | some inf =>
      have y:szT P ty=inf.size:=by unfold szT;rw[hi'];rfl
      have j:GA P ty=dd.isRow:=by unfold GA;rw[hu]
      have F:f.act.eval x=pt q (Ic (f.ev x)):=by rw[f.eval];exact c
      cases hrow':dd.isRow with
      | false =>
       rw[j,hrow',cond_false];have e:Ic (f.ev x)<cs.size:=by rw[j,hrow',p8]at D;have:=mH D;omega
       have w:W.cell? ⟨q,Ic (f.ev x),none⟩=some (cs.getD (Ic (f.ev x)) undef):=by
        rw[cell_of_row _ _ _ _ _ _ g,n8 e,mY,n8 e];rfl
       have l:(isAgg ty).run P W=.ok false W:=by
        unfold isAgg;rw[Sem.run_bind,run_underlying hu W];clear a c u;cases dd<;>first|rfl|(simp only[TypeDesc.isRow]at hrow';cases hrow')
       have G:(loadVar ty ⟨q,Ic (f.ev x),none⟩).run P W=.ok (cs.getD (Ic (f.ev x)) undef) W:=by
        generalize cs.getD (Ic (f.ev x)) undef=v at *;generalize Ic (f.ev x)=k0 at *;clear a c u;simp[loadVar,l,w,go_sem]
       unfold got execOp;simp only[p,b,if_true,hop,F,Instr.loadAt,Instr.sureAddr,Sem.run_bind,Sem.run_pure,Result.andThen_ok,G]
      | true =>
       rw[j,hrow',cond_true];have d:((cs.toList.drop (Ic (f.ev x))).take (szT P ty)).length=szT P ty:=by rw[j',mo,nF];omega
       have w:=Rd g (Ic (f.ev x)) ((cs.toList.drop (Ic (f.ev x))).take (szT P ty)) (by rw[d]);have I:(P.info? ty).map (·.size)=some (((cs.toList.drop (Ic (f.ev x))).take (szT P ty))).length:=by rw[hi',d,y];rfl
       unfold got execOp;simp only[p,b,if_true,hop,F,Instr.loadAt,Instr.sureAddr,Sem.run_bind,Sem.run_pure,Result.andThen_ok,run_loadVar_mid W q _ ty _ dd w hu hrow' I]
   | _=>cases C
  .rename_i hno
   have c:=a _ (M' ..);simp only[Ob.ok]at c;have n:=congrFun c W;unfold got;simp only[p,b,if_true,f.eval,n]
theorem Kn.two(h:Kn B g w L){i j:Nat}(d:i<L.length)(e:j<L.length)(a:i≠j)(c:L[i].g=L[j].g):(L[i].t=.z/\L[i].w=false)/\L[j].t=.z/\L[j].w=false:=by
 have b:=m8.1 h.rH;rcases Nat.lt_or_gt_of_ne a with hl|hl
 .exact b i j d e hl c
 .have:=b j i e d hl c.symm;exact⟨this.2,this.1⟩
theorem Kn.set{k:Nat}(C:k<L.length)(f:Kn B g w L)(y:L[k].w=true\/L[k].t≠.z)(q:Obj)(G:w'.heap[L[k].g]?=some q)(v:Only L[k].g w w') :
  Kn B g w' (L.set k { L[k]with o:=q }):=by
 have E:∀ n (p:n<L.length),n≠k->L[n].g≠L[k].g:=λn p e r=>by
  have:=f.two p C e r;rcases y with h|h
  .rw[this.2.2]at h;cases h
  .exact h this.2.1
 refine⟨λx H=>?_,?_,λb D=>f.new b (by rw[<- v.size];exact D),by rw[v.size];exact f.base⟩
 .obtain⟨n,p,rfl⟩:=oE H;have d:n<L.length:=by simpa using p
  rw[nY];split
  .exact⟨G,(f.row _ (mP C)).2⟩
  .rename_i e
   have A:=f.row _ (mP d);refine⟨?_,A.2⟩;rw[v.other _ (E n d (λh=>e h.symm))];exact A.1
 .rw[m8];intro i j s u F r;have a:i<L.length:=by simpa using s
  have c:j<L.length:=by simpa using u
  have m:∀ n (p:n<(L.set k { L[k]with o:=q }).length) (d:n<L.length),(L.set k { L[k]with o:=q })[n].g=L[n].g/\(L.set k { L[k]with o:=q })[n].t=L[n].t/\(L.set k { L[k]with o:=q })[n].w=L[n].w:=λn p d=>by
   rw[nY];split
   .rename_i h;subst h;exact⟨rfl,rfl,rfl⟩
   .exact⟨rfl,rfl,rfl⟩
  rw[(m i s a).1,(m j u c).1]at r
  have:=f.two a c (by omega) r;rw[(m i s a).2.1,(m i s a).2.2,(m j u c).2.1,(m j u c).2.2];exact this
theorem Cg.only{b:Nat}(h:Cg B T g0 w0 g w)(d:Only b w w')(hb:w0.heap.size<=b\/((g.t b∈T\/(g.t b=.l/\B<=b))/\g.k b=0)):Cg B T g0 w0 g w' :=
 ⟨d.os.trans h.os,d.tape.trans h.tape,d.output.trans h.output,by rw[d.size];exact h.size,h.rE,h.ry,h.rV,λc e i f=>by
  have a:c≠b:=by
   rintro rfl;rcases hb with hb|⟨hb|hb,_⟩
   .omega
   .rw[h.tag e f]at hb;exact i hb
   .rw[h.tag e f]at hb;have:=f hb.1;omega
  rw[d.other c a];exact h.same c e i f,λc e j m=>by
  have a:c≠b:=by
   rintro rfl;rcases hb with hb|⟨_,hb⟩
   .omega
   .have:=h.ry _ e;omega
  rw[World.cell?_of_block (w:=w) (d.other c a)];exact h.rp c e j m⟩
theorem Kn.push(d:Kn B g w L)(o:Obj)(t:Tg)(b:Bool) :
  Kn B ⟨λc=>if c=w.heap.size then t else g.t c,g.k⟩ (w.alloc o) (L++[⟨w.heap.size,o,t,b⟩]):=by
 have e:∀ x∈L,x.g<w.heap.size:=λx i=>rl (d.row x i).1;refine⟨λx i=>?_,?_,λc f=>?_,?_⟩
 .rcases Q'.1 i with h|h
  .have h1:=d.row x h;have m:=e x h;exact⟨by rw[Below.heap_alloc _ _ _ m];exact h1.1,by show(if x.g=w.heap.size then t else g.t x.g)=_;rw[if_neg (by omega)];exact h1.2.1,h1.2.2.1,h1.2.2.2⟩
  .obtain rfl:x=⟨w.heap.size,o,t,b⟩:=by simpa using h
   exact⟨heap_alloc_new _ _,if_pos rfl,λ_=>d.base,λ_=>(d.new _ (A' _)).2⟩
 .rw[oc];refine⟨d.rH,ph _ _,λa p c f j=>?_⟩;have:=e a p;rw[D'.1 f]at j
  simp only at j;omega
 .have h1:w.heap.size+1<=c:=by simpa using f
  show(if c=w.heap.size then t else g.t c)=.z/\g.k c=0;rw[if_neg (by omega)];exact d.new c (by omega)
 .have:=d.base;simp;omega
theorem Cg.push(h:Cg B T g0 w0 g w)(o:Obj)(t:Tg):Cg B T g0 w0 ⟨λc=>if c=w.heap.size then t else g.t c,g.k⟩ (w.alloc o) :=
 ⟨h.os,h.tape,h.output,by have:=h.size;simp;omega,λb a=>by
  show(if b=w.heap.size then t else g.t b)=_\/(_/\_/\(if b=w.heap.size then t else g.t b)=_);have:=h.size;rw[if_neg (by omega)];exact h.rE b a,h.ry,h.rV,λb a d e=>by
  have:=h.size;rw[Below.heap_alloc _ _ _ (by omega)];exact h.same b a d e,λb a j f=>by
  have:=h.size;rw[World.cell?_of_block (w:=w) (Below.heap_alloc _ _ _ (by show b<_;omega))];exact h.rp b a j f⟩
theorem Su{gs:Nat->Nat}{K:Act->World->Prop}(ho:ops[i]?=some o)(a:∀ x∈(exO P T gs ops o f L j h).o,x.ok)(R:Kn B g w L)(W:Cg B T g0 w0 g w)(X:∀ x∈L,x.w=true->w0.heap.size<=x.g)(hj:∀ k,gs (j+k)=w.heap.size+k)(c:∀ g' w',Kn B g' w' (exO P T gs ops o f L j h).L->Cg B T g0 w0 g' w'->(∀ x∈(exO P T gs ops o f L j h).L,x.w=true->w0.heap.size<=x.g)->(∀ k,gs ((exO P T gs ops o f L j h).j+k)=w'.heap.size+k)->K (exO P T gs ops o f L j h).f.act w') :
  wpOp P ops Q i K f.act w:=by
 unfold exO at a c;cases hs:f.au ops o&&kM o.op with
 | true =>
  rw[hs]at a c
  simp only[cond_true]at a c;simp only[mG]at hs;obtain⟨a2,D⟩:=hs;have r:Region.wanted o (yielded ops f.act.tmps)=true:=by rw[f.wanted,a2]
  obtain⟨V,x,y,J⟩:∃ V x y,o.op=.store V x y:=by
   cases hh:o.op<;>rw[hh]at D<;>first|exact⟨_,_,_,rfl⟩|cases D
  unfold exS at a c;simp only[J,stP]at a c;have O:=a _ (M' ..);have A:=a _ (I' _ (M' ..));have v:=a _ (I' _ (I' _ (M' ..)));have h4:=a _ (I' _ (I' _ (I' _ (M' ..))));clear a;simp only[Ob.ok,mG]at O A v h4;obtain⟨⟨⟨⟨⟨⟨⟨b1,F⟩,b3⟩,b4⟩,N⟩,b6⟩,b7⟩,u⟩:=h4;generalize a3:h.headD 0=k at *;have s:k<L.length:=by rw[Nat.blt,pm]at b1;exact b1
  have hr:L.getD k default=L[k]:=by rw[mO,H' s];rfl
  rw[hr]at O v F N u
  simp only[hr]at c;have q:=R.row L[k] (mP s);have a0:o.dst=none:=by cases Z:o.dst with|none=>rfl|some _=>rw[Z]at b6;cases b6
  have E:f.act.eval x=pt L[k].g (Ic (f.ev x)):=by rw[f.eval];exact O
  obtain⟨cs,t,Y⟩:∃ cs t,L[k].o=.cells cs t (0,0):=by
   cases hh:L[k].o with
   | cells cs t fr =>
    obtain⟨lo,S⟩:=fr;rw[hh]at N
    cases lo with
    | zero=>cases S with
     | zero=>exact⟨cs,t,rfl⟩
     | succ n=>cases N
    | succ n=>cases N
   | _=>rw[hh]at N;cases N
  simp only[Y,CY,fS]at F c;have e:=q.1;rw[Y]at e
  rw[pm]at F
  have S:(P.info? V).map (·.size)=some (cond (GA P V) (f.ev y).cells #[f.ev y]).size:=by
   have:=mH b4;unfold szT at this;cases hh:P.info? V with
   | none=>rw[hh]at b3;cases b3
   | some inf=>rw[hh]at this;rw[<- this];rfl
  have hin:w0.heap.size<=L[k].g\/((g.t L[k].g∈T\/(g.t L[k].g=.l/\B<=L[k].g))/\g.k L[k].g=0):=by
   cases U:L[k].w with
   | true=>exact .inl (X _ (mP s) U)
   | false =>
    rw[U]at v u
    simp only[cond_false,p8,mG,pu]at v u;have hz:L[k].t≠.z:=λH=>by rw[H]at u;cases u.2
    refine .inr ⟨?_,q.2.2.2 hz⟩;rw[q.2.1];have hm:=u.1;rw[pm]at hm
    generalize h.tail.headD 0=m at *;cases m with
    | zero=>exact .inr ⟨v,q.2.2.1 v⟩
    | succ m =>
     left;rw[v];show T.getD m .z∈T;rw[mO,H' (by omega)];exact mP _
  have a1:L[k].w=true\/L[k].t≠.z:=by
   cases U:L[k].w with
   | true=>exact .inl rfl
   | false =>
    rw[U]at u
    simp only[p8,mG,pu]at u;exact .inr λH=>by rw[H]at u;cases u.2
  have C:∀ o',∀ x∈L.set k { L[k]with o:=o' },x.w=true->w0.heap.size<=x.g:=λo' x E p=>by
   obtain⟨n,hn,rfl⟩:=oE E;rw[nY]at p ⊢
   split
   .rename_i H;rw[if_pos H]at p;exact X L[k] (mP s) p
   .rename_i H;rw[if_neg H]at p;exact X _ (mP (by simpa using hn)) p
  cases hrt:GA P V with
  | false =>
   simp only[hrt,cond_false]at S A b7 F c;refine jV (f.ev y) e ho r a0 J E (by rw[f.eval]) S (Nat.lt_of_succ_le F) (by simpa using b7) rfl λw' M G=>c g w' (R.set s a1 _ M G) (W.only G hin) (C _) (by rw[G.size];exact hj)
  | true =>
   simp only[hrt,cond_true]at S A b7 F c;refine jU (f.ev y).cells e ho r a0 J E (by rw[f.eval];exact A) S F b7 rfl λw' M G=>c g w' (R.set s a1 _ M G) (W.only G hin) (C _) (by rw[G.size];exact hj)
 | false =>
  rw[hs]at a c
  simp only[cond_false]at a c;clear hs;cases hc:f.au ops o&&fC o.op with
  | false =>
   rw[hc]at a c
   simp only[cond_false]at a c;have hq:=OY (h:=h) ho (λx E=>a x (I' _ E)) w (.inl R.rows);have Z:=a _ (M' ..);simp only[Ob.ok,pM,pu]at Z;have b:=c g w R W X hj;rw[Fm.qZ]at b
   cases hdd:o.dst with
   | some d=>rw[hdd]at hq b;exact jT d _ hq b
   | none =>
    rw[hdd]at Z b
    have U:f.au ops o=false:=by simpa using Z
    unfold wpOp;rw[ho];simp only[f.wanted,U,pg,if_false,hdd];exact b
  | true =>
   rw[hc]at a c
   simp only[cond_true]at a c;simp only[mG]at hc;have r:Region.wanted o (yielded ops f.act.tmps)=true:=by rw[f.wanted,hc.1]
   unfold exN at a c;have O:=a _ (M' ..);have A:=a _ (I' _ (M' ..));simp only[Ob.ok]at O A;have v:=congrFun O w;have I:gs j=w.heap.size:=by have:=hj 0;simpa using this
   cases hdd:o.dst with
   | none=>rw[hdd]at A;cases A
   | some d =>
    refine Zl ho r hdd (by rw[f.eval];exact v) ?_;have b:=c _ _ (by simp only[I];exact R.push (iq ((execOp f.ev o).run P default)) _ true) (W.push _ _) (λx E p=>?_) (λk=>?_)
    .simp only[I,hdd]at b;rw[<- Fm.qZ];exact b
    .rcases Q'.1 E with h5|h5
     .exact X x h5 p
     .have h6:=D'.1 h5;rw[h6];show _<=gs j;rw[I];exact W.size
    .have:=hj (1+k);show gs (j+1+k)=_;rw[show j+1+k=j+(1+k)by omega,this];simp;omega
end
end
section
variable{P:Program}{fn:Func}{R:Ending->World->Prop}
section
theorem Kq.exit(id:Nat):∀ (K:List Kt) (a:Act) (w:World),Yx id K=true->Kq P (bodyPost P fn R) (Wn id K) .normal a w->Kq P (bodyPost P fn R) K (.exit id) a w
 | [],a,w,h,_=>by cases h
 | .c x::K,a,w,h,hk=>Kq.exit id K a w h hk
 | .b i::K,a,w,h,hk=>by
  show(if id=i then Kq P (bodyPost P fn R) K .normal a w else Kq P (bodyPost P fn R) K (.exit id) a w);unfold Yx at h;unfold Wn at hk;cases hb:Nat.beq i id with
  | true =>
   rw[hb]at hk
   rw[if_pos (mH hb).symm];exact hk
  | false =>
   rw[hb]at h hk
   rw[if_neg (λhe=>by subst he;rw[qp]at hb;cases hb)];exact Kq.exit id K a w h hk
 | .o ops is::K,a,w,h,hk=>Kq.exit id K a w h hk
 | .x ops m Ld s L0::K,a,w,h,hk=>Kq.exit id K a w h hk
 | .y ops m Ld s L0 i::K,a,w,h,hk=>Kq.exit id K a w h hk
 | .j J::K,a,w,h,hk=>Kq.exit id K a w h hk
variable{B:Nat}{L:List Sh}{T:List Tg}{g g0:Gh}{w w0:World}
theorem Cg.drew(h:Cg B T g0 w0 g w):Cg B T g0 w0 g w.drew:=⟨h.os,h.tape,h.output,h.size,h.rE,h.ry,h.rV,h.same,h.rp⟩
theorem Kn.drew(h:Kn B g w L):Kn B g w.drew L:=⟨h.row,h.rH,h.new,h.base⟩
theorem WK{ops:Array Oper}{e:Nat}{a:List Sh}{b:Array Bool}(h:AZ L w)(d:cond (b.getD e false) [] a=cond (b.getD e false) [] (BM (L.take a.length))):Sx [(e,AZ a)] b w:=by
 refine⟨λg=>?_,trivial⟩;rw[g]at d
 have c:a=BM (L.take a.length):=d;intro x f;rw[c]at f
 obtain⟨y,i,rfl⟩:=mB.1 f;exact h y (mx i)
theorem kD(gs:Nat->Nat):∀ (m:Nat) (s:Xs) (j:Nat) (h:List Nat) (g:Gh) (w:World),(∀ x∈(rn P T gs m s j h).o,x.ok)->Kn B g w s.L->Cg B T g0 w0 g w ->
  (∀ x∈s.L,x.w=true->w0.heap.size<=x.g)->(∀ k,gs (j+k)=w.heap.size+k) ->
  (∀ g' w',Kn B g' w' (rn P T gs m s j h).s.L->Cg B T g0 w0 g' w'->Kq P (bodyPost P fn R) (rn P T gs m s j h).s.K .normal (rn P T gs m s j h).s.f.act w') ->
  Kq P (bodyPost P fn R) s.K .normal s.f.act w:=by
 intro m;induction m with
 | zero=>intro s j h g w _ C E _ _ q;exact q g w C E
 | succ m ih =>
  intro s j h g w p C E G H q;obtain⟨K,f,L⟩:=s;unfold rn at p q;cases K with
  | nil=>exact absurd (p _ (M' ..)) (by simp[Ob.ok])
  | cons t K =>
   cases t with
   | c x =>
    cases x with
    | skip=>exact wp_skip (ih ⟨K,f,L⟩ j h g w p C E G H q)
    | seq x y=>exact wp_seq (ih ⟨.c x::.c y::K,f,L⟩ j h g w p C E G H q)
    | block id x=>exact wp_block (ih ⟨.c x::.b id::K,f,L⟩ j h g w p C E G H q)
    | exit id =>
     refine wp_exit (Kq.exit id K _ _ (p _ (M' ..)) ?_);exact ih ⟨Wn id K,f,L⟩ j h g w (λx r=>p x (I' _ r)) C E G H q
    | cond c x y =>
     simp only at p q;split at p
     .rename_i t ht
      simp only[ht]at q;have hc:f.act.eval c=.bool t:=by rw[f.eval];exact ht
      have D:=ih ⟨.c (cond t x y)::K,f,L⟩ j h g w p C E G H q;refine wp_cond hc ?_;cases t<;>exact D
     .exact absurd (p _ (M' ..)) (by simp[Ob.ok])
    | region id ops d =>
     cases d with
     | false =>
      refine wp_region ?_;rw[List.range_eq_range',<- List.range_eq_range'];exact ih ⟨.o ops (List.range ops.size)::K,f,L⟩ j h g w p C E G H q
     | true =>
      refine fi [(h.headD 0,AZ (BM L))] (p _ (M' ..)) ?_;exact ih ⟨.x ops ops.size (Array.replicate ops.size false) (h.headD 0) (BM L)::K,f,L⟩ j h.tail g w.drew (λx r=>p x (I' _ r)) C.drew E.drew G H q
    | _=>exact absurd (p _ (M' ..)) (by simp[Ob.ok])
   | b id=>exact ih ⟨K,f,L⟩ j h g w p C E G H q
   | j J=>exact absurd (p _ (M' ..)) (by simp[Ob.ok])
   | o ops is =>
    cases is with
    | nil=>exact ih ⟨K,f,L⟩ j h g w p C E G H q
    | cons i is =>
     simp only at p q;cases ho:ops[i]? with
     | none=>rw[ho]at p;exact absurd (p _ (M' ..)) (by simp[Ob.ok])
     | some o =>
      simp only[ho]at p q;show wpOps P ops (Kq P (bodyPost P fn R) K) (i::is) f.act w;rw[wpOps_cons];refine Su (h:=h) (j:=j) (gs:=gs) ho (λx r=>p x (mn _ r)) C E G H λg' w' F I M N=>ih ⟨.o ops is::K,_,_⟩ _ _ g' w' (λx r=>p x (mj _ r)) F I M N q
   | y ops u Ld e L0 i =>
    simp only at p q;cases ho:ops[i]? with
    | none=>rw[ho]at p;exact absurd (p _ (M' ..)) (by simp[Ob.ok])
    | some o =>
     simp only[ho]at p q;have O:=p _ (M' ..);simp only[Ob.ok]at O;show wpOp P ops (Kq P (bodyPost P fn R) K) i (λa w=>Sx [(e,AZ L0)] (Ld.setIfInBounds i true) w/\BE P .any ops (Kq P (bodyPost P fn R) K) [(e,AZ L0)] u (Ld.setIfInBounds i true) a w) f.act w;refine Su (h:=h) (j:=j) (gs:=gs) ho (λx r=>p x (I' _ (mn _ r))) C E G H λg' w' F I M N=>⟨WK (ops:=ops) F.rows O,ih ⟨.x ops u (Ld.setIfInBounds i true) e L0::K,_,_⟩ _ _ g' w' (λx r=>p x (I' _ (mj _ r))) F I M N q⟩
   | x ops u Ld e L0 =>
    cases u with
    | zero =>
     have D:=p _ (M' ..);simp only[Ob.ok,List.isEmpty_iff]at D;exact⟨D,ih ⟨K,f,L⟩ j h g w (λx r=>p x (I' _ r)) C E G H q⟩
    | succ u =>
     simp only at p q;generalize hi:h.headD 0/2=i at *;cases ho:ops[i]? with
     | none=>rw[ho]at p;exact absurd (p _ (M' ..)) (by simp[Ob.ok])
     | some o =>
      simp only[ho]at p q;have hQ:∀ c a d v w,Kq P (bodyPost P fn R) K (.panic c) (a.put (some d) v) w->Kq P (bodyPost P fn R) K (.panic c) a w:=λc a d v w=>Kq.panic K c a (some d) v w;cases hm:Nat.beq (h.headD 0%2) 0 with
      | true =>
       simp only[hm,cond_true]at p q;have D:=p _ (M' ..);have O:=p _ (I' _ (M' ..));have V:∀ x∈(exQ P ops o f L0 h.tail).2.2,x.ok:=λx r=>p x (I' _ (I' _ (mn _ r)));have X:=λx r=>p x (I' _ (I' _ (mj _ r)));simp only[Ob.ok,mG]at D O;obtain⟨⟨D,Q⟩,S⟩:=D;have Y:Sx [(e,AZ L0)] Ld w:=WK (ops:=ops) C.rows O;have A:=ih ⟨.x ops u (Ld.setIfInBounds i true) e L0::K,f.put o.dst (exQ P ops o f L0 h.tail).1,L⟩ j _ g w X C E G H q;simp only[Fm.qZ]at A;cases hdd:o.dst with
       | none=>rw[hdd]at Q;cases Q
       | some d =>
        rw[hdd]at A
        unfold tkB at D;simp only[mG]at D;obtain⟨ns,⟨⟨⟨⟨t1,t2⟩,t3⟩,t4⟩,U⟩⟩:=D;cases hld:db o.op&&f.au ops o with
        | false =>
         rw[hld,cond_false]at U
         refine xB0 u [i] [(d,(exQ P ops o f L0 h.tail).1)] (λW=>?_) ns ?_ rfl rfl hQ Y A
         .have hg:=OY (h:=h.tail) ho V W (.inr hld);rw[hdd]at hg
          simp only[S6,au,mR,nG,hg]
         .simp only[MA,mR,nG,oD,qq,p9,mG];exact⟨⟨⟨⟨t1,t2⟩,t3⟩,t4⟩,U⟩
        | true =>
         rw[hld,cond_true]at U
         rw[hld]at S
         have Z:Ld.getD e false=false:=by simpa using S
         refine xC0 u i d (Yb ops i) (exQ P ops o f L0 h.tail).1 (λW hW=>?_) (Y.1 Z) ns ?_ rfl hQ Y A
         .have hg:=OY (h:=h.tail) ho V W (.inl hW);rw[hdd]at hg
          exact hg
         .simp only[mR,nG,oD,qq,p9,mG]at U ⊢;exact⟨⟨⟨⟨t1,t2⟩,t3⟩,t4⟩,U⟩
      | false =>
       simp only[hm,cond_false]at p q;have D:=p _ (M' ..);have O:=p _ (I' _ (M' ..));have V:=λx r=>p x (I' _ (I' _ (mn _ r)));have X:=λx r=>p x (I' _ (I' _ (mj _ r)));simp only[Ob.ok]at D O;have hr:Region.ready .any ops Ld=[i]:=by
        split at D
        .rename_i k q;rw[q,mH D]
        .cases D
       refine xS0 u i hr rfl ?_;refine Su (h:=h.tail) (j:=j) (gs:=gs) ho V C E G H λg' w' F I M N=>⟨WK (ops:=ops) F.rows O,ih ⟨.x ops u (Ld.setIfInBounds i true) e L0::K,_,_⟩ _ _ g' w' X F I M N q⟩
end
end
section
variable{P:Program}{fn:Func}{R:Ending->World->Prop}{B:Nat}{T:List Tg}{g:Gh}{w:World}
section
variable{L:List Sh}{T':List Tg}{args:Array Value}{f:FuncId}{g' g'':Gh}{i':Nat}{s:Xs}{w' w'':World}
theorem Kn.sq(h:Kn B g w L):Kn B g w (BM L):=by
 refine⟨λx c=>?_,?_,h.new,h.base⟩
 .obtain⟨y,hy,rfl⟩:=mB.1 c;exact h.row y hy
 .unfold BM;rw[List.pairwise_map];exact h.rH.imp λb a=>⟨⟨(b a).1.1,rfl⟩,(b a).2.1,rfl⟩
def rn0(P:Program)(T:List Tg)(gs:Nat->Nat)(m:Nat)(s:Xs)(h:List Nat):Rz:=rn P T gs m ⟨s.K,s.f,BM s.L⟩ 0 h
theorem cO(a:List Tg)(m:Nat)(h:List Nat)(d:∀ gs,(rn0 P a gs m s h).o.map Ob.l'=(rn0 P a gs m s h).o.map Ob.r')(j:∀ gs g' w',Cg B a g w g' w'->GG P fn R B T (rn0 P a gs m s h).s g' w'):GG P fn R B T s g w:=by
 refine⟨λi=>?_⟩;refine kD (λk=>w.heap.size+k) m ⟨s.K,s.f,BM s.L⟩ 0 h g w (Ob.all (d _)) i.sq (Cg.refl B a g w) ?_ (λk=>by simp) λg' w' c b=>(j _ g' w' b).ex c;intro x p e;obtain⟨y,q,rfl⟩:=mB.1 p;cases e
theorem Af(h:Kn B g w s.L->GG P fn R B T s g w):GG P fn R B T s g w:=⟨λa=>(h a).ex a⟩
def opN(s:Xs)(i':Nat):Option (Array Oper × Nat × Oper):=match s.K with
 | .o ops (i::_)::_=>match ops[i]? with|some o=>some (ops,i,o)|none=>none
 | .x ops _ _ _ _::_=>match ops[i']? with|some o=>some (ops,i',o)|none=>none
 | .y ops _ _ _ _ i::_=>match ops[i]? with|some o=>some (ops,i,o)|none=>none
 | _=>none
def nxt(s:Xs)(i':Nat)(v:Value)(L:List Sh):Rz:=match s.K with
 | .o ops (i::is)::K=>match ops[i]? with|some o=>⟨⟨.o ops is::K,s.f.put o.dst v,L⟩,[.b (s.f.au ops o)]⟩|none=>⟨s,[.b false]⟩
 | .x ops (u+1) Ld e L0::K=>match ops[i']? with
  | some o =>
   let Ld':=Ld.setIfInBounds i' true
   ⟨⟨.x ops u Ld' e L0::K,s.f.put o.dst v,L⟩,[.b (s.f.au ops o),.b (match Region.ready .any ops Ld with|[k]=>Nat.beq k i'|_=>false),.l (cond (Ld'.getD e false) [] L0) (cond (Ld'.getD e false) [] (BM (L.take L0.length)))]⟩
  | none=>⟨s,[.b false]⟩
 | .y ops u Ld e L0 i::K=>match ops[i]? with
  | some o =>
   let Ld':=Ld.setIfInBounds i true
   ⟨⟨.x ops u Ld' e L0::K,s.f.put o.dst v,L⟩,[.b (s.f.au ops o),.l (cond (Ld'.getD e false) [] L0) (cond (Ld'.getD e false) [] (BM (L.take L0.length)))]⟩
  | none=>⟨s,[.b false]⟩
 | _=>⟨s,[.b false]⟩
theorem SX{ops:Array Oper}{i:Nat}{o:Oper}(b:opN s i'=some (ops,i,o))(L:List Sh)(r:(nxt s i' undef L).o.map Ob.l'=(nxt s i' undef L).o.map Ob.r')(h:∀ (Q:Exit->Act->World->Prop) (K:Act->World->Prop),ops[i]?=some o->Region.wanted o (yielded ops s.f.act.tmps)=true->(∀ v g' w',Kn B g' w' L->GG P fn R B T (nxt s i' v L).s g' w'->K (s.f.act.put o.dst v) w')->wpOp P ops Q i K s.f.act w):GG P fn R B T s g w:=by
 refine⟨λD=>?_⟩;obtain⟨K,f,C⟩:=s;have c:=Ob.all r;unfold opN at b;unfold nxt at c h;cases K with
 | nil=>cases b
 | cons t K =>
  cases t with
  | o ops1 is =>
   cases is with
   | nil=>cases b
   | cons i1 is =>
    simp only at b c h;cases ho:ops1[i1]? with
    | none=>rw[ho]at b;cases b
    | some o1 =>
     rw[ho]at b
     simp only[X',m6]at b;obtain⟨rfl,rfl,rfl⟩:=b;simp only[ho]at c;have m:=c _ (M' ..);show wpOps P ops1 (Kq P (bodyPost P fn R) K) (i1::is) f.act w;rw[wpOps_cons];refine h _ _ ho (by rw[f.wanted];exact m) λv g' w' d j=>?_;simp only[ho]at j;have:=j.ex d;rw[Fm.qZ]at this
     exact this
  | y ops1 u Ld e L0 i1 =>
   simp only at b c h;cases ho:ops1[i1]? with
   | none=>rw[ho]at b;cases b
   | some o1 =>
    rw[ho]at b
    simp only[X',m6]at b;obtain⟨rfl,rfl,rfl⟩:=b;simp only[ho]at c;have m:=c _ (M' ..);have p:=c _ (I' _ (M' ..));simp only[Ob.ok]at m p;show wpOp P ops1 (Kq P (bodyPost P fn R) K) i1 (λa w=>Sx [(e,AZ L0)] (Ld.setIfInBounds i1 true) w/\BE P .any ops1 (Kq P (bodyPost P fn R) K) [(e,AZ L0)] u (Ld.setIfInBounds i1 true) a w) f.act w;refine h _ _ ho (by rw[f.wanted];exact m) λv g' w' d j=>?_;simp only[ho]at j;have:=j.ex d;rw[Fm.qZ]at this
    exact⟨WK (ops:=ops1) d.rows p,this⟩
  | x ops1 u Ld e L0 =>
   cases u with
   | zero=>exact absurd (c _ (M' ..)) (by simp[Ob.ok])
   | succ u =>
    simp only at b c h;cases ho:ops1[i']? with
    | none=>rw[ho]at b;cases b
    | some o1 =>
     rw[ho]at b
     simp only[X',m6]at b;obtain⟨rfl,rfl,rfl⟩:=b;simp only[ho]at c;have m:=c _ (M' ..);have q:=c _ (I' _ (M' ..));have p:=c _ (I' _ (I' _ (M' ..)));simp only[Ob.ok]at m q p;have A:Region.ready .any ops1 Ld=[i']:=by
      split at q
      .rename_i k hk;rw[hk,mH q]
      .cases q
     refine xS0 u i' A rfl ?_;refine h _ _ ho (by rw[f.wanted];exact m) λv g' w' d j=>?_;simp only[ho]at j;have:=j.ex d;rw[Fm.qZ]at this
     exact⟨WK (ops:=ops1) d.rows p,this⟩
  | _=>cases b
def Tg.ne:Tg->Tg->Bool
 | .z,.z=>false
 | .l,.l=>false
 | .n r _,.n r' _=>!Nat.beq r r'
 | _,_=>true
theorem Tg.rX{a b:Tg}(h:a.ne b=true):a≠b:=by
 rintro rfl;cases a with
 | z=>cases h
 | l=>cases h
 | n r i=>simp[Tg.ne,Nat.beq_refl]at h
def AI:List Bool->List Sh->List Sh
 | true::m,x::L=>x::AI m L
 | false::m,_::L=>AI m L
 | _,_=>[]
theorem DD:∀ (m:List Bool) (L:List Sh),(AI m L).Sublist L
 | true::m,x::L=>(DD m L).cons_cons x
 | false::m,x::L=>(DD m L).cons x
 | [],L=>by unfold AI;exact qg _
 | true::m,[]=>qg _
 | false::m,[]=>qg _
theorem Cg.n(h:Cg B T g w g' w')(k:Cg B [] g' w' g'' w''):Cg B T g w g'' w'':=h.trans (k.mono λ_ h=>absurd h O')
theorem Cg.m(h:Cg B T g w g' w')(k:Cg B T' g' w' g'' w'')(a:∀ t∈T',t∈T:=by simp):Cg B T g w g'' w'':=h.trans (k.mono a)
theorem Cg.nil(h:Cg B [] g w g' w')(T:List Tg):Cg B T g w g' w':=h.mono λ_ h=>absurd h O'
theorem Kn.sub{a:List Sh}(h:Kn B g w L)(b:a.Sublist L):Kn B g w a:=⟨λx c=>h.row x (b.subset c),h.rH.sublist b,h.new,h.base⟩
theorem Kn.ch(h:Kn B g w L)(c:Cg w.heap.size T' g w g' w')(hn:∀ b,w'.heap.size<=b->g'.t b=.z/\g'.k b=0)(j:L.all (λx=>T'.all λt=>x.t.ne t)=true):Kn B g' w' L:=by
 refine⟨λx f=>?_,h.rH,hn,mg h.base c.size⟩;have e:=h.row x f;have a:=rl e.1;have d:g.t x.g∉T':=by
  rw[e.2.1];intro m;have i:=nD.1 (nD.1 j x f) _ m;exact Tg.rX i rfl
 exact⟨(c.same _ a d (λ_=>a)).trans e.1,(c.tag a (λ_=>a)).trans e.2.1,e.2.2.1,λo=>(c.rV _ a d (λ_=>a)).trans (e.2.2.2 o)⟩
theorem Kn.af(h:Kn B g w L)(b:Below w.heap.size w w'):Kn B g w' L :=
 ⟨λx a=>⟨rB b (h.row x a).1,(h.row x a).2⟩,h.rH,λc d=>h.new c (mg b.size d),mg h.base b.size⟩
def Df(P:Program)(s:Xs)(i':Nat)(W:World):Option (Result Next):=(opN s i').map λx=>(execOp s.f.ev x.2.2).run P W
theorem PW{r:World->Result Next}(h:∀ W,Df P s i' W=some (r W)):∃ ops i o,opN s i'=some (ops,i,o)/\∀ W,(execOp s.f.ev o).run P W=r W:=by
 unfold Df at h;cases hx:opN s i' with
 | none=>have:=h default;rw[hx]at this;cases this
 | some x =>
  obtain⟨ops,i,o⟩:=x;exact⟨ops,i,o,rfl,λW=>by have:=h W;rw[hx]at this;simpa using this⟩
def Kz(s:Xs)(i':Nat):Bool:=match opN s i' with|some x=>x.2.2.dst.isSome|none=>false
theorem gM(j:Nat)(f:FuncId)(a:Array Value)(x:∀ W,Df P s j W=some (.ok (.enter f a) W))(k:Kz s j=true)(l:(nxt s j undef s.L).o.map Ob.l'=(nxt s j undef s.L).o.map Ob.r'){C:Ending->World->Prop}(q:Calls P f a w C)(t:∀ e w',C e w'->∃ v,e=.returned v/\Below w.heap.size w w'/\GG P fn R B T (nxt s j v s.L).s g w'):GG P fn R B T s g w:=by
 obtain⟨A,i,o,b,c⟩:=PW x;refine Af λn=>SX b s.L l λQ K u z h=>?_;unfold Kz at k;rw[b]at k
 cases hdd:o.dst with
 | none=>simp only[hdd]at k;cases k
 | some d =>
  refine Pk u z hdd (by rw[s.f.eval];exact c w) (q.mono λe w' r=>?_);obtain⟨v,y,p,m⟩:=t e w' r;refine⟨v,y,?_⟩;have:=h v g w' (n.af p) m;rw[hdd]at this
  exact this
theorem S1(p:Nat)(f:FuncId)(a:Array Value)(y:List Tg)(m:List Bool)(M:∀ W,Df P s p W=some (.ok (.enter f a) W))(q:Kz s p=true)(u:(nxt s p undef (AI m s.L)).o.map Ob.l'=(nxt s p undef (AI m s.L)).o.map Ob.r')(E:(AI m s.L).all (λx=>y.all λt=>x.t.ne t)=true){C:Ending->World->Prop}(F:Calls P f a w C)(H:∀ e w',C e w'->∃ v g',e=.returned v/\Cg w.heap.size y g w g' w'/\(∀ b,w'.heap.size<=b->g'.t b=.z/\g'.k b=0)/\GG P fn R B T (nxt s p v (AI m s.L)).s g' w'):GG P fn R B T s g w:=by
 obtain⟨S,i,o,c,j⟩:=PW M;refine Af λD=>SX c (AI m s.L) u λQ K J O h=>?_;unfold Kz at q;rw[c]at q
 cases hdd:o.dst with
 | none=>simp only[hdd]at q;cases q
 | some d =>
  refine Pk J O hdd (by rw[s.f.eval];exact j w) (F.mono λe w' G=>?_);obtain⟨v,g',N,r,I,A⟩:=H e w' G;refine⟨v,N,?_⟩;have:=h v g' w' ((D.sub (DD m s.L)).ch r I E) A;rw[hdd]at this
  exact this
theorem L9(c:Nat)(L:List Sh)(e:(nxt s c undef L).o.map Ob.l'=(nxt s c undef L).o.map Ob.r')(j:(opN s c).isSome=true)(h:Kn B g w s.L->∀ ops i o,opN s c=some (ops,i,o)->∃ v w' g',((execOp s.f.ev o).run P w=.ok (.value v) w'\/((execOp s.f.ev o).run P w=.ok .skip w'/\v=undef))/\Kn B g' w' L/\GG P fn R B T (nxt s c v L).s g' w'):GG P fn R B T s g w:=by
 cases hop:opN s c with
 | none=>rw[hop]at j;cases j
 | some x =>
  obtain⟨ops,i,o⟩:=x;refine Af λp=>SX hop L e λQ K q r k=>?_;obtain⟨v,w',g',a,d,m⟩:=h p ops i o hop;have b:=k v g' w' d m;unfold wpOp;rw[q];simp only[r,if_true];refine .inl ?_;unfold Oper.wp;rw[s.f.eval];rcases a with a|⟨a,rfl⟩
  .rw[a,Oper.upon_value];exact b
  .rw[a,Oper.upon_skip];exact b
theorem gFm(e:List (Nat × Value))(b:e.map (λp=>lk s.f.z s.f.e p.1)=e.map (·.2))(h:∀ z,GG P fn R B T ⟨s.K,⟨s.f.n,e,z⟩,s.L⟩ g w):GG P fn R B T s g w:=by
 refine⟨λd=>?_⟩;have a:=(h (lk s.f.z s.f.e)).ex d;have c:(⟨s.f.n,e,lk s.f.z s.f.e⟩:Fm).act=s.f.act:=by
  unfold Fm.act;simp only[Act.mk.injEq,and_true]
  congr 1
  refine pN λt _=>?_;clear h a;induction e with
  | nil=>rfl
  | cons p r ih =>
   simp only[mR,ol]at b;show cond (Nat.beq p.1 t) p.2 (lk (lk s.f.z s.f.e) r t)=lk s.f.z s.f.e t;cases hb:Nat.beq p.1 t with
   | true=>rw[cond_true,<- b.1,mH hb]
   | false=>rw[cond_false];exact ih b.2
 simp only at a;rw[c]at a
 exact a
theorem I3(m:List Bool)(h:GG P fn R B T ⟨s.K,s.f,AI m s.L⟩ g w):GG P fn R B T s g w:=⟨λa=>h.ex (a.sub (DD m s.L))⟩
theorem Cr(x:Sh)(p:Kn B g w s.L->w.heap[x.g]?=some x.o/\g.t x.g=x.t/\(x.t=.l->B<=x.g)/\(x.t≠.z->g.k x.g=0))(j:(!x.w&&(x.t.rk||s.L.all (λy=>x.t.ne y.t)))=true)(h:GG P fn R B T ⟨s.K,s.f,BM s.L++[x]⟩ g w):GG P fn R B T s g w:=by
 refine⟨λb=>h.ex ⟨λy d=>?_,?_,b.new,b.base⟩⟩
 .rcases Q'.1 d with h1|h1
  .exact b.sq.row y h1
  .rw[D'.1 h1];exact p b
 .show(BM s.L++[x]).Pairwise _;simp only[mG,pu,pM]at j;rw[oc];refine⟨b.sq.rH,ph _ _,λa u c v m=>?_⟩;rw[D'.1 v]at m ⊢
  obtain⟨y,d,rfl⟩:=mB.1 u;have e:=(b.row y d).2.1;have q:=(p b).2.1;simp only at m ⊢;rw[m,q]at e
  rcases j.2 with hz|hn
  .have:x.t=.z:=by cases hh:x.t with|z=>rfl|l=>rw[hh]at hz;cases hz|n r i=>rw[hh]at hz;cases hz
   exact⟨⟨e▸this,trivial⟩,this,j.1⟩
  .exact absurd e (Tg.rX (nD.1 hn y d))
theorem Kq.ret{R':Exit->Act->World->Prop}:∀ (K:List Kt) (a:Act) (w:World),R' .ret a w->Kq P R' K .ret a w
 | [],a,w,h=>h
 | .c x::K,a,w,h=>Kq.ret K a w h
 | .b id::K,a,w,h=>Kq.ret K a w h
 | .o ops is::K,a,w,h=>Kq.ret K a w h
 | .x ops m Ld s L0::K,a,w,h=>Kq.ret K a w h
 | .y ops m Ld s L0 i::K,a,w,h=>Kq.ret K a w h
 | .j J::K,a,w,h=>Kq.ret K a w h
def MZ:List Kt->Bool|[]=>true|.c .ret::_=>true|_=>false
theorem VA(v:Value)(d:MZ s.K=true)(b:Kn B g w s.L->(results fn s.f.act.tmps).run P w=.ok v w)(h:Kn B g w s.L->R (.returned v) w):GG P fn R B T s g w:=by
 refine⟨λa=>?_⟩;obtain⟨K,f,L⟩:=s;cases K with
 | nil=>exact⟨rfl,v,b a,h a⟩
 | cons t K =>
  cases t with
  | c x =>
   cases x with
   | ret=>exact wp_ret (Kq.ret K _ _ ⟨rfl,v,b a,h a⟩)
   | _=>cases d
  | _=>cases d
def ON:Nat->List Value->List (Nat × Value)
 | _,[]=>[]
 | i,v::r=>(i,v)::ON (i+1) r
theorem U0:∀ (l:List Value) (i t:Nat),lk (λ_=>undef) (ON i l) t=if i<=t then l.getD (t-i) undef else undef
 | [],i,t=>by simp[ON,lk]
 | v::r,i,t=>by
  unfold ON lk;cases hb:Nat.beq i t with
  | true=>obtain rfl:=mH hb;simp
  | false =>
   have b:i≠t:=λa=>by rw[a,qp]at hb;cases hb
   rw[cond_false,U0 r (i+1) t];by_cases h:i<=t
   .rw[if_pos h,if_pos (by omega),show t-i=(t-(i+1))+1 by omega];simp
   .rw[if_neg h,if_neg (by omega)]
theorem lD{n:Nat}(c:args.size<=n):(⟨n,ON 0 args.toList,λ_=>undef⟩:Fm).act={ tmps:=args++Array.replicate (n-args.size) undef,defers:=[] }:=by
 unfold Fm.act;simp only[Act.mk.injEq,and_true];apply nO;intro i;simp only[m7,mX,Array.getElem?_append,Array.getElem?_replicate];by_cases b:i<n
 .rw[nV b];simp only[m5,U0,mL,if_true,Nat.sub_zero];by_cases a:i<args.size
  .rw[if_pos a,mO];simp[a]
  .rw[if_neg a,if_pos (by omega),mO];simp[a]
 .rw[nN (by simpa using b),if_neg (by omega),if_neg (by omega)];rfl
def PS(fn:Func):Code:=match fn.body with|some c=>c|none=>.skip
theorem gIn(T:List Tg)(g:Gh)(i:P.funcs[f]?=some fn)(d:fn.body.isSome=true)(e:Nat.ble args.size fn.ntmps=true)(j:∀ b,w.heap.size<=b->g.t b=.z/\g.k b=0)(h:GG P fn R w.heap.size T ⟨[.c (PS fn)],⟨fn.ntmps,ON 0 args.toList,λ_=>undef⟩,[]⟩ g w):Calls P f args w R:=by
 cases hh:fn.body with
 | none=>rw[hh]at d;cases d
 | some c =>
  refine calls_of_wp i hh ?_;have a:=h.ex ⟨(λx m=>absurd m O'),List.Pairwise.nil,j,A' _⟩;simp only[lD (by rw[pm]at e;exact e)]at a;unfold PS at a;rw[hh]at a
  exact a
theorem gI(T:List Tg)(g:Gh)(d:P.funcs[f]?=some fn)(e:∀ b,w.heap.size<=b->g.t b=.z/\g.k b=0)(h:GG P fn R w.heap.size T ⟨[.c (PS fn)],⟨fn.ntmps,ON 0 args.toList,λ_=>undef⟩,[]⟩ g w)(a:fn.body.isSome=true:=by kernel_rfl)(i:Nat.ble args.size fn.ntmps=true:=by kernel_rfl):Calls P f args w R:=gIn T g d a i e h
end
end
end
end Go.Proofs.YtdjfdfpkkenjbacGreatDoor
