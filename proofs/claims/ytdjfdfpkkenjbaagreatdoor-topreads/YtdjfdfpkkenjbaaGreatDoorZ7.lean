/- Part 7 of the walk. -/
import Derived.Test.YtdjfdfpkkenjbaaGreatDoorZ6
set_option maxRecDepth 100000
set_option maxHeartbeats 4000000
open Go.Proofs.Tryz
set_option linter.unusedVariables false
namespace Go.Proofs.YtdjfdfpkkenjbaaGreatDoor
open Go.RowKit
section
theorem VP(u v:Vt)(w:World):(Op.equal 156 (.agg (vtA u)) (.agg (vtA v))).run prog w=.ok (decide (u=v)) w:=by
 have a:=VN u.au u.b.r u.b.n u.w.k u.w.c u.w.s u.w.n u.w.v v.au v.b.r v.b.n v.w.k v.w.c v.w.s v.w.n v.w.v w;have d:decide (u.au=v.au/\u.b.r=v.b.r/\u.b.n=v.b.n/\u.w.k=v.w.k/\u.w.c=v.w.c/\u.w.s=v.w.s/\u.w.n=v.w.n/\u.w.v=v.w.v)=decide (u=v):=by
  apply jf.2;constructor
  .rintro⟨a1,a2,a3,a4,a5,a6,a7,a8⟩;exact(Vt.eq_iff u v).1 ⟨a1,(Bal.eq_iff _ _).1 ⟨a2,a3⟩,(Cmd.eq_iff _ _).1 ⟨a4,a5,a6,a7,a8⟩⟩
  .rintro rfl;exact⟨rfl,rfl,rfl,rfl,rfl,rfl,rfl,rfl⟩
 rw[d]at a
 rw[run_eql_struct]at a
 show(Op.equalIn 10000 _ _ _).run _ _=_;simp only[vtA,vtC];cases hr:(Op.equalIn 10000 156 (.agg #[.int .i64 u.au,.int .i64 u.b.r,.int .i64 u.b.n,.int .i64 u.w.k,.int .i64 u.w.c,.int .i64 u.w.s,.int .i64 u.w.n,.int .i64 u.w.v]) (.agg #[.int .i64 v.au,.int .i64 v.b.r,.int .i64 v.b.n,.int .i64 v.w.k,.int .i64 v.w.c,.int .i64 v.w.s,.int .i64 v.w.n,.int .i64 v.w.v])).run prog w with
 | ok b w'=>rw[hr]at a;simp[Result.andThen]at a;rw[a.1,a.2]
 | _=>rw[hr]at a;simp[Result.andThen]at a
abbrev Cnt:=Vt × Nat × Nat
def mkE(x:Cnt):MapEntry:={ key:=.agg (vtA x.1),val:=.int .i64 (x.2.1:Int),born:=x.2.2 }
def Kw(v:Vt):List Cnt->Nat->Option (Nat × Value)
 | [],_=>none
 | x::c,i=>if v=x.1 then some (i,.int .i64 (x.2.1:Int))else Kw v c (i+1)
theorem Mg(v:Vt)(w:World):∀ (c:List Cnt) (i:Nat),(Instr.findAsking 156 (.agg (vtA v)) (c.map mkE) i).run prog w=.ok (Kw v c i) w
 | [],i=>by simp[Instr.findAsking,Kw]
 | x::c,i=>by
  have h:=VP v x.1 w;rw[iU,Instr.findAsking,Sem.run_bind];show((Op.equal 156 (.agg (vtA v)) (.agg (vtA x.1))).run _ w).andThen _=_;rw[h,Result.andThen_ok,Kw];by_cases e:v=x.1
  .rw[I' e,if_pos e];simp[mkE]
  .rw[D' e,if_neg e];simpa using Mg v w c (i+1)
theorem JJ(v:Vt)(w:World)(c:List Cnt):(Instr.findKey 156 (.agg (vtA v)) (c.map mkE)).run prog w=.ok (Kw v c 0) w:=by
 rw[Instr.findKey,Sem.run_bind,run_underlying underlying156 w,Result.andThen_ok];cases c with
 | nil=>simp[Instr.findNow,Kw]
 | cons x c =>
  show Sem.run _ (match(none:Option (Option (Nat × Value)))with|some r=>pure r|none=>Instr.findAsking 156 (.agg (vtA v)) ((x::c).map mkE)) w=_;exact Mg v w (x::c) 0
theorem Ha(a:Bool)(v:Vt)(w:World):(Instr.checkKey a 10000 156 (.agg (vtA v))).run prog w=.ok () w:=by
 obtain⟨s,⟨r,n⟩,⟨k,c,q,m,x⟩⟩:=v;kernel_rfl
def Di(c:List Cnt)(v:Vt):Nat:=match c.find? (λx=>decide (v=x.1))with|some x=>x.2.1|none=>0
theorem Kx(v:Vt):∀ (c:List Cnt) (i:Nat),(Kw v c i=none/\Di c v=0/\∀ x∈c,v≠x.1)\/∃ a x b,c=a++x::b/\x.1=v/\(∀ y∈a,v≠y.1)/\Kw v c i=some (i+a.length,.int .i64 (x.2.1:Int))/\Di c v=x.2.1
 | [],i=>.inl ⟨rfl,rfl,λx hx=>by cases hx⟩
 | x::c,i=>by
  by_cases e:v=x.1
  .refine .inr ⟨[],x,c,rfl,e.symm,λy hy=>(M' hy).elim,?_,?_⟩
   .rw[Kw,if_pos e];simp
   .simp[Di,e]
  .rcases Kx v c (i+1)with⟨h1,h2,h3⟩|⟨a,y,b,rfl,hy,h3,h4,h5⟩
   .refine .inl ⟨by rw[Kw,if_neg e,h1],?_,λy hy=>?_⟩
    .rw[<- h2];simp[Di,e]
    .rcases iG.1 hy with rfl|hy
     .exact e
     .exact h3 y hy
   .refine .inr ⟨x::a,y,b,rfl,hy,λz hz=>?_,?_,?_⟩
    .rcases iG.1 hz with rfl|hz
     .exact e
     .exact h3 z hz
    .rw[Kw,if_neg e,h4];simp;omega
    .rw[<- h5];simp[Di,e]
structure CMap(w:World)(b:Nat)(c:List Cnt):Prop where
 ex:∃ clock,w.heap[b]?=some (.map (c.map mkE).toArray clock)/\∀ x∈c,x.2.2<clock
 oh:c.Pairwise λx y=>x.2.2≠y.2.2
variable{a c d:List Cnt}{b born k n:Nat}{es:Array MapEntry}{v:Vt}{w w':World}
theorem CMap.lt(h:CMap w b c):b<w.heap.size:=by
 obtain⟨⟨k,a,_⟩,_⟩:=h;exact(H'.1 a).1
theorem CMap.nL(h:CMap w b c)(f:w'.heap[b]?=w.heap[b]?):CMap w' b c:=by
 obtain⟨⟨k,a,d⟩,e⟩:=h;exact⟨⟨k,f.trans a,d⟩,e⟩
theorem CMap.ab(h:CMap w b c)(a:Bw w w'):CMap w' b c:=h.nL (a.block b h.lt)
theorem CMap.made(w:World):CMap (w.alloc (.map #[] 0)) w.heap.size []:=⟨⟨0,heap_alloc_new _ _,λx a=>by cases a⟩,List.Pairwise.nil⟩
theorem gL(w:World):(zeroValue 3).run prog w=.ok (.int .i64 0) w:=by kernel_rfl
theorem CMap.look(h:CMap w b c)(v:Vt):(Instr.lookup 273 (.map (some b)) (.agg (vtA v)) false).run prog w=.ok (.int .i64 (Di c v:Int)) w:=by
 obtain⟨⟨k,f,_⟩,_⟩:=h;have e:(getObj b).run prog w=.ok (.map (c.map mkE).toArray k) w:=by simp[getObj,Sem.run,f]
 rcases Kx v c 0 with⟨h1,h2,_⟩|⟨a,x,d,_,_,_,h1,h2⟩
 .simp[Instr.lookup,run_underlying underlying273,e,Ha,JJ,h1,h2]
 .simp[Instr.lookup,run_underlying underlying273,e,Ha,JJ,h1,h2]
theorem aD(v:Vt)(n:Nat):Instr.sameBits (n+1) (.agg (vtA v)) (.agg (vtA v))=true:=by
 simp[Instr.sameBits,vtA,vtC]
theorem XP(v:Vt)(w:World):(Instr.keyThatStays (.agg (vtA v)) (.agg (vtA v))).run prog w=.ok (.agg (vtA v)) w:=by
 rw[Instr.keyThatStays,if_pos (aD v 9999)];rfl
theorem To{u:Vt}{m:Nat}(b:∀ y∈a,v≠y.1):Di (a++(v,m,born)::d) u=if u=v then m else Di (a++(v,n,born)::d) u:=by
 unfold Di;rw[jF,jF,ke,ke];by_cases e:u=v
 .subst e;have c:a.find? (λx=>decide (u=x.1))=none:=by
   rw[jL];intro y f;simp[b y f]
  rw[c];simp
 .rw[if_neg e];simp[e]
theorem IA(a:w.heap[b]?=some (.map es k))(o:Obj):Below b w (ChangeMaps.setBlock w b o) :=
 ⟨rfl,rfl,rfl,by simp[ChangeMaps.setBlock],λi c=>ChangeMaps.heap_setBlock_other a o (by omega)⟩
theorem IB(a:w.heap[b]?=some (.map es k))(o:Obj)(i:Nat)(h:i≠b):(ChangeMaps.setBlock w b o).heap[i]?=w.heap[i]?:=ChangeMaps.heap_setBlock_other a o h
theorem CMap.entry(h:CMap w b c)(v:Vt):∃ (a d:List Cnt) (born:Nat) (w':World),(Instr.mapEntry 273 (.map (some b)) (.agg (vtA v))).run prog w=.ok (.tuple #[.int .i64 (Di c v:Int),.int .i64 (born:Int)]) w'/\CMap w' b (a++(v,Di c v,born)::d)/\(∀ y∈a,v≠y.1)/\(∀ u,Di (a++(v,Di c v,born)::d) u=Di c u)/\Below b w w'/\∀ i,i≠b->w'.heap[i]?=w.heap[i]?:=by
 obtain⟨⟨k,f,j⟩,m⟩:=h;have n:(getObj b).run prog w=.ok (.map (c.map mkE).toArray k) w:=by simp[getObj,Sem.run,f]
 rcases Kx v c 0 with⟨h1,h2,h3⟩|⟨a,x,d,rfl,rfl,h3,h1,h2⟩
 .refine⟨c,[],k,ChangeMaps.setBlock w b (.map ((c++[(v,0,k)]).map mkE).toArray (k+1)),?_,⟨⟨k+1,?_,?_⟩,?_⟩,h3,?_,IA f _,IB f _⟩
  .have hs:=MapKept.run_setObj_map (P:=prog) (w:=w) (.map ((c++[(v,0,k)]).map mkE).toArray (k+1)) f;have g:((c.map mkE).toArray.push { key:=.agg (vtA v),val:=.int .i64 0,born:=k })=((c++[(v,0,k)]).map mkE).toArray:=by simp[mkE]
   rw[Instr.mapEntry];simp only[Sem.run_bind,run_underlying underlying273,Result.andThen_ok,n,Ha,JJ,h1,h2,gL,g,hs];rfl
  .rw[h2];exact ChangeMaps.heap_setBlock_same f _
  .intro y hy;rcases P'.1 hy with hy|hy
   .have:=j y hy;omega
   .obtain rfl:y=(v,Di c v,k):=by simpa using hy
    show k<k+1;omega
  .rw[jT];refine⟨m,kz _ _,λy hy z p=>?_⟩;obtain rfl:z=(v,Di c v,k):=by simpa using p
   have:=j y hy;show y.2.2≠k;omega
  .intro u;rw[h2];unfold Di;rw[jF];cases hf:c.find? (λx=>decide (u=x.1))with
   | some y=>rfl
   | none =>
    by_cases e:u=v
    .subst e;simp
    .simp[e]
 .refine⟨a,d,x.2.2,ChangeMaps.setBlock w b (.map ((a++x::d).map mkE).toArray k),?_,⟨⟨k,?_,?_⟩,?_⟩,h3,?_,IA f _,IB f _⟩
  .have hs:=MapKept.run_setObj_map (P:=prog) (w:=w) (.map ((a++x::d).map mkE).toArray k) f;have o:((a++x::d).map mkE).toArray[a.length]?=some (mkE x):=by simp
   have g:(((a++x::d).map mkE).toArray.modify a.length λe=>{ e with key:=.agg (vtA x.1) })=((a++x::d).map mkE).toArray:=by
    apply j8;intro i;rw[kX];split
    .rename_i hi
     subst hi;rw[o];rfl
    .rfl
   have l:=XP x.1 w;rw[Instr.mapEntry];simp only[Sem.run_bind,run_underlying underlying273,Result.andThen_ok,n,Ha,JJ,h1,i5,o,i8,lf];rw[show(mkE x).key=.agg (vtA x.1)from rfl,l,Result.andThen_ok,g,hs];simp[goInt,ChangeMaps.setBlock,h2,mkE]
  .rw[h2];exact ChangeMaps.heap_setBlock_same f _
  .rw[h2];exact j
  .rw[h2];exact m
  .intro u;rw[h2]
theorem CMap.store(h:CMap w b (a++(v,n,born)::d))(m:Nat):∃ w',(Instr.entryStore 273 (.map (some b)) (.int .i64 (born:Int)) (.int .i64 (m:Int))).run prog w=.ok () w'/\CMap w' b (a++(v,m,born)::d)/\Below b w w'/\∀ i,i≠b->w'.heap[i]?=w.heap[i]?:=by
 obtain⟨⟨k,f,l⟩,c⟩:=h;have r:(getObj b).run prog w=.ok (.map ((a++(v,n,born)::d).map mkE).toArray k) w:=by simp[getObj,Sem.run,f]
 refine⟨ChangeMaps.setBlock w b (.map ((a++(v,m,born)::d).map mkE).toArray k),?_,⟨⟨k,ChangeMaps.heap_setBlock_same f _,?_⟩,?_⟩,IA f _,IB f _⟩
 .have hs:=MapKept.run_setObj_map (P:=prog) (w:=w) (.map ((a++(v,m,born)::d).map mkE).toArray k) f;have p:((a++(v,n,born)::d).map mkE).toArray.findIdx? (λe=>(e.born:Int)==(born:Int))=some a.length:=by
   rw[List.findIdx?_toArray,iL,List.findIdx?_append];have o:(a.map mkE).findIdx? (λe=>(e.born:Int)==(born:Int))=none:=by
    rw[List.findIdx?_eq_none_iff];intro e j;obtain⟨y,hy,rfl⟩:=i7.1 j;have:=(jT.1 c).2.2 y hy (v,n,born) (by simp);simp[mkE];intro g;exact this (show y.2.2=born by omega)
   rw[o,iU,List.findIdx?_cons];simp[mkE]
  have j:(((a++(v,n,born)::d).map mkE).toArray.modify a.length λe=>{ e with val:=.int .i64 (m:Int) })=((a++(v,m,born)::d).map mkE).toArray:=by
   apply j8;intro i;rw[kX];split
   .rename_i hi
    subst hi;simp[mkE]
   .rename_i hi
    simp only[jb,iL,iU];rcases ja i a.length with g|g
    .rw[iF (by simpa using g),iF (by simpa using g)]
    .rw[iH (by simpa using g),iH (by simpa using g)];obtain⟨q,s⟩:∃ q,i-(a.map mkE).length=q+1:=⟨i-a.length-1,by simp;omega⟩;rw[s];rfl
  rw[Instr.entryStore];simp only[Sem.run_bind,r,Result.andThen_ok,asInt,asIntOf,Sem.run_pure,p,j,hs];rfl
 .intro y hy;rcases P'.1 hy with hy|hy
  .exact l y (jh _ hy)
  .rcases iG.1 hy with rfl|hy
   .exact l (v,n,born) (by simp)
   .exact l y (jl _ (Q' _ hy))
 .rw[jT,List.pairwise_cons]at c ⊢
  refine⟨c.1,⟨λy hy=>c.2.1.1 y hy,c.2.1.2⟩,λy hy z hz=>?_⟩;rcases iG.1 hz with rfl|hz
  .exact c.2.2 y hy (v,n,born) (by simp)
  .exact c.2.2 y hy z (Q' _ hz)
end
section
variable{P:Program}{md:Region.Mode}{ops:Array Oper}{Q:Exit->Act->World->Prop}{S:World->Prop}
section
variable{K:Act->World->Prop}{a:Act}{d i:Nat}{o:Oper}{w w':World}
theorem Xa(k:ops[i]?=some o)(l:Region.wanted o (yielded ops a.tmps)=true)(g:o.dst=some d)(t:TypeId)(m x:Operand)(c:o.op=.lookup t m x false)(e f v:Value)(j:a.eval m=e)(n:a.eval x=f)(b:(Instr.lookup t e f false).run P w=.ok v w)(h:K (a.put (some d) v) w):wpOp P ops Q i K a w :=
 Xb k l g (by unfold execOp;simp only[c,j,n,Sem.run_bind,b,Result.andThen_ok,Sem.run_pure]) h
theorem S9(k:ops[i]?=some o)(l:Region.wanted o (yielded ops a.tmps)=true)(g:o.dst=some d)(t:TypeId)(m x:Operand)(c:o.op=.mapEntry t m x)(e f v:Value)(j:a.eval m=e)(n:a.eval x=f)(b:(Instr.mapEntry t e f).run P w=.ok v w')(h:K (a.put (some d) v) w'):wpOp P ops Q i K a w :=
 Xb k l g (by unfold execOp;simp only[c,j,n,Sem.run_bind,b,Result.andThen_ok,Sem.run_pure]) h
theorem Pg(l:ops[i]?=some o)(n:Region.wanted o (yielded ops a.tmps)=true)(j:o.dst=none)(t:TypeId)(m x y:Operand)(c:o.op=.entryStore t m x y)(d e f:Value)(k:a.eval m=d)(p:a.eval x=e)(q:a.eval y=f)(b:(Instr.entryStore t d e f).run P w=.ok () w')(h:K a w'):wpOp P ops Q i K a w :=
 wpOp_step l λr g=>by
  rw[if_pos n];unfold Oper.wp execOp;simp only[c,k,p,q,Sem.run_bind,b,Result.andThen_ok,Sem.run_pure];exact g _ _ (by rw[j];exact h)
end
end
section
variable{W w w0:World}{a:Act}{ac:List Acc}{b i j k m nb ob:Nat}{g:Gh}{l:List Vt}{ls:List Let}{ops:Array Oper}{p:Nod}{s:Int}{ts:List Tol}{x:NX}
theorem MW{S:World->Prop}{op:Oper}(d:Region.wanted op (yielded ops a.tmps)=true)(x:Operand)(c:op.op=.binOp .add 3 x (.const (.int .i64 1)) 3)(n m:Nat)(e:a.eval x=.int .i64 (n:Int))(g:m=n+1)(f:n<=1000) :
  YieldsIf prog ops S op (.int .i64 (m:Int)) a :=
 .inl ⟨d,λw _=>by
  have b:a.eval (.const (.int .i64 1))=.int .i64 1:=rfl;unfold execOp;simp only[c,e,b];simp[go_sem];rw[IntKind.wrap_i64];omega⟩
theorem Xf{P:Program}{d:Nat}{K:Act->World->Prop}{Q:Exit->Act->World->Prop}(R:Nat->World->Prop){A:Nat->Act}(c:∀ K':Act->World->Prop,Hid (∀ x W2,R x W2->K' (A x) W2)->(Code.region d ops true).wp P (Exit.then K' Q) a w)(b:∀ x W2,R x W2->K (A x) W2):(Code.region d ops true).wp P (Exit.then K Q) a w:=c K b
def Hm(l:List Vt)(m:Nat):Cmd:=((Hb l m).map (·.w)).getD ⟨0,0,0,0,0⟩
def Ho(l:List Vt)(m:Nat):Int:=if(Hb l m).isSome then 0 else 9
theorem I1{v:Vt}(h:Hb l m=some v):Hm l m=v.w/\Ho l m=0:=by unfold Hm Ho;rw[h];exact⟨rfl,rfl⟩
theorem I0(h:Hb l m=none):Hm l m=⟨0,0,0,0,0⟩/\Ho l m=9:=by unfold Hm Ho;rw[h];exact⟨rfl,rfl⟩
theorem YB:(prog.info? 49).map (·.size)=some 5:=by kernel_rfl
theorem eQ:(prog.info? 97).map (·.size)=some 3:=by kernel_rfl
theorem Pd(l:List Vt)(u v:Vt):CL (l++[u]) v=if v=u then CL l v+1 else CL l v:=by
 unfold CL;rw[List.countP_append];by_cases e:v=u
 .subst e;simp
 .rw[if_neg e];simp;exact λg=>e g.symm
theorem WR(x:Value)(ac:List Acc)(s:Int)(w:World)(h:Sac w x ac)(P:ac.length<=5)(a4:∀ a∈ac,Ak a) :
  Calls prog 165 #[x,.int .i64 s] w λe w'=>e=.returned (.tuple #[.agg (cmC (Hm (Fk ac s) ac.length)),.int .i64 (Ho (Fk ac s) ac.length)])/\Bw w w':=by
 have a0:Hid (∀ a∈ac,Ak a):=a4;clear a4;obtain⟨ax,cp,rfl⟩:=h.shape;obtain⟨N,hN⟩:∃ N,ac.length=N:=⟨_,rfl⟩;have HN:Hid (ac.length=N):=hN;rw[hN]at h P ⊢
 clear hN;have f8:(zV5:Array Value).all (·.oneCell')=true:=by simp[Value.oneCell']
 have rr:=heap_alloc_new w (.cells zV5 49);have bb:Bw w (w.alloc (.cells zV5 49)):=(Below.refl _ _).alloc (A' _) _;have z0:(w.alloc (.cells zV5 49)).heap.size=w.heap.size+1:=by simp
 generalize e6:w.alloc (.cells zV5 49)=w1 at rr bb z0;have h0:=h.ab bb;clear h;have b0:Below (w.heap.size+1) w1 (w1.alloc (.map #[] 0)):=(Below.refl _ _).alloc (by omega) _;have v0:CMap (w1.alloc (.map #[] 0)) (w.heap.size+1) []:=by rw[<- z0];exact CMap.made _
 generalize e8:w1.alloc (.map #[] 0)=WA at b0 v0;have f4:=@run_makeMap prog;go_enter func165,ntmps165
 go_wp2_with fail
 clear e8 e6 f4;have b7:w.heap.size<w.heap.size+1:=by omega
 generalize hB:w.heap.size+1=B at b0 v0 z0 b7 ⊢;have HB:Hid (B=w1.heap.size):=z0.symm;clear hB z0
 go_loopw [14] (λiv wr=>∃ (j:Nat) (c:List Cnt),j<=N/\iv=.int .i64 (j:Int)/\CMap wr B c/\(∀ v,Di c v=CL (Al ((ac.take j).map (·.vs)).flatten s) v)/\(∀ v,2*CL (Al ((ac.take j).map (·.vs)).flatten s) v<=N)/\Below B w1 wr) (λiv _=>((N:Int)-intOf iv).toNat)
 case atStart=>exact⟨0,[],by omega,rfl,v0,λv=>rfl,λv=>by simp[CL,Al],b0⟩
 case round =>
  clear v0 b0;obtain⟨j,c,hj,rfl,b3,a1,c8,E⟩:=hrel;have HC:Hid (∀ v,Di c v=CL (Al ((ac.take j).map (·.vs)).flatten s) v):=a1;have HL:Hid (∀ v,2*CL (Al ((ac.take j).map (·.vs)).flatten s) v<=N):=c8;clear a1 c8;by_cases f3:j<N
  .have hji:(j:Int)<(N:Int):=by omega
   obtain⟨A,hA⟩:∃ A,ac[j]?=some A:=⟨_,E' (by have:=HN.out;omega)⟩;obtain⟨b,e0,y,rfl,g0,d2,R⟩:=h0.spot j A hA;have d0:Ak A:=a0.out A (jq.2 ⟨j,hA⟩);obtain⟨⟨pr,pn⟩,l⟩:=A;simp only at d2 R;have c7:=Ur b e0 N cp j f3;obtain⟨ay,cy,hy⟩:=R.shape;obtain⟨M,hM⟩:∃ M,l.length=M:=⟨_,rfl⟩;have HM:Hid (l.length=M):=hM;rw[hM]at hy
   subst hy;have H:Hid (B2 l):=d0.2.2;have HF:Hid (((ac.take (j+1)).map (·.vs)).flatten=((ac.take j).map (·.vs)).flatten++l):=RK ac j _ hA;clear hA hM d0;have d3:=Rt E (show b<B by rw[HB.out];exact g0) d2;have d4:=R.ab (E.mono (by rw[HB.out];exact A' _));have F:Bw wr (wr.alloc (.cells #[.int .i64 0,.int .i64 0,.slice none 0 0] 97)):=(Below.refl _ _).alloc (A' _) _;have Z:=heap_alloc_new wr (.cells #[.int .i64 0,.int .i64 0,.slice none 0 0] 97);have d1:(#[.int .i64 pr,.int .i64 pn,.slice ay M cy]:Array Value).all (·.oneCell')=true:=by simp[Value.oneCell']
   generalize a7:wr.alloc (.cells #[.int .i64 0,.int .i64 0,.slice none 0 0] 97)=WN at F Z
   go_upto_region 5 with((with_reducible (refine Cv ?_));first|(refine wpList_load_mid rfl 97 _ rfl b (e0+3*j) rfl [.int .i64 pr,.int .i64 pn,.slice ay M cy] _ d3 underlying97 rfl eQ ?_)|(refine wpList_store_row rfl 97 (.tmp 8) (.tmp 17) rfl wr.heap.size (#[.int .i64 pr,.int .i64 pn,.slice ay M cy]) rfl rfl 97 _ Z eQ rfl d1 ?_))
   clear a7;have q:=setRow_heap WN wr.heap.size _ (#[.int .i64 pr,.int .i64 pn,.slice ay M cy]) 97 _ Z;replace F:=DZ F (A' _) (#[.int .i64 pr,.int .i64 pn,.slice ay M cy]);generalize WN.setRow wr.heap.size (#[.int .i64 pr,.int .i64 pn,.slice ay M cy])=W at q F ⊢;have Y:wr.heap.size<W.heap.size:=(H'.1 q).1;have O:=b3.ab F;have d5:=E.size;have f9:B<wr.heap.size:=b3.lt;have eW:=E.trans (F.mono (by omega));have sW:=d4.ab F;generalize wr.heap.size=G at q Y f9 ⊢;have c2:W.cell? ⟨G,2,none⟩=some (.slice ay M cy):=cell_of_row _ _ 2 _ _ _ q;clear Z d3 c7 F b3 d4 E d5;go_wp2_with fail
   refine(Jd _ l s W H.out sW).mono ?_;rintro e W2 ⟨p,rfl,hp,b2⟩;have HP:Hid (Plc l s p):=hp;have c2:=(b2.cell (p:=⟨G,2,none⟩) Y).trans c2;have V:=O.ab b2;have s2:=sW.ab b2;have e2:=eW.trans (b2.mono (by omega));have g2:G<W2.heap.size:=Y' Y b2.size;clear hp b2 O sW eW q Y;go_wp2_with fail
   refine(IT _ l p s W2 s2).mono ?_;rintro e T ⟨rfl,rfl⟩;generalize hh:K3 l p s=bh;cases bh
   .have HT:Hid (Al ((ac.take (j+1)).map (·.vs)).flatten s=Al ((ac.take j).map (·.vs)).flatten s):=by
     unfold Hid;rw[HF.out,Df,Plc.mO H.out HP.out (K4 hh),iZ]
    clear hh;go_wp2
    go_roundw
    case rel=>exact⟨j+1,c,by omega,by go_num,V,by rw[HT.out];exact HC.out,by rw[HT.out];exact HL.out,e2⟩
    case measure=>simp[intOf];omega
   .obtain⟨u,hu,hus⟩:=Ms hh;have HT:Hid (Al ((ac.take (j+1)).map (·.vs)).flatten s=Al ((ac.take j).map (·.vs)).flatten s++[u]):=by
     unfold Hid;rw[HF.out,Df,Plc.mV H.out hu hus]
    have f6:p<M:=by have:=(O'.1 hu).1;have:=HM.out;omega
    obtain⟨b4,o4,f0,d8,c0⟩:=s2.spot p u hu;subst f0;have f2:=I6 b4 o4 M cy p f6;have hi:=XJ u;have c6:Di c u=CL (Al ((ac.take j).map (·.vs)).flatten s) u:=HC.out u;have f5:=HL.out u;obtain⟨n,X⟩:∃ n,CL (Al ((ac.take j).map (·.vs)).flatten s) u=n:=⟨_,rfl⟩;rw[X]at c6 f5
    have c3:Hid (CL (Al ((ac.take (j+1)).map (·.vs)).flatten s) u=n+1):=by unfold Hid;rw[HT.out,Pd,if_pos rfl,X]
    have a5:Hid (∀ v,CL (Al ((ac.take (j+1)).map (·.vs)).flatten s) v=if v=u then n+1 else CL (Al ((ac.take j).map (·.vs)).flatten s) v):=λv=>by
     rw[HT.out,Pd];split
     .rename_i g;rw[g,X]
     .rfl
    clear hu hus hh X HT;obtain⟨D,⟨C,z⟩,⟨k,f,o,m,r⟩⟩:=u;simp only[vtC]at c0 hi;have F:Bw T (T.alloc (.cells zV8 156)):=(Below.refl _ _).alloc (A' _) _;have Z:=heap_alloc_new T (.cells zV8 156);have b9:(#[.int .i64 D,.int .i64 C,.int .i64 z,.int .i64 k,.int .i64 f,.int .i64 o,.int .i64 m,.int .i64 r]:Array Value).all (·.oneCell')=true:=by simp[Value.oneCell']
    generalize a7:T.alloc (.cells zV8 156)=WN at F Z
    go_upto_region 8 with((with_reducible (refine Cv ?_));first|(refine wpList_load_mid rfl 156 _ rfl b4 (o4+8*p) rfl [.int .i64 D,.int .i64 C,.int .i64 z,.int .i64 k,.int .i64 f,.int .i64 o,.int .i64 m,.int .i64 r] _ c0 underlying156 rfl hi ?_)|(refine wpList_store_row rfl 156 (.tmp 10) (.tmp 32) rfl T.heap.size (#[.int .i64 D,.int .i64 C,.int .i64 z,.int .i64 k,.int .i64 f,.int .i64 o,.int .i64 m,.int .i64 r]) rfl rfl 156 _ Z hi rfl b9 ?_))
    clear a7;have q:=setRow_heap WN T.heap.size _ (#[.int .i64 D,.int .i64 C,.int .i64 z,.int .i64 k,.int .i64 f,.int .i64 o,.int .i64 m,.int .i64 r]) 156 _ Z;replace F:=DZ F (A' _) (#[.int .i64 D,.int .i64 C,.int .i64 z,.int .i64 k,.int .i64 f,.int .i64 o,.int .i64 m,.int .i64 r]);generalize WN.setRow T.heap.size (#[.int .i64 D,.int .i64 C,.int .i64 z,.int .i64 k,.int .i64 f,.int .i64 o,.int .i64 m,.int .i64 r])=W at q F ⊢;have d7:T.heap.size<W.heap.size:=(H'.1 q).1;have O:=V.ab F;have d6:B<T.heap.size:=V.lt;have eW:=e2.trans (F.mono (by omega));generalize T.heap.size=G2 at q d7 d6 ⊢;clear Z c0 f2 F V e2 c2 s2 d8;apply Xf (λt W2=>∃ U,CMap W2 B U/\(∀ u,Di U u=if u=⟨D,⟨C,z⟩,⟨k,f,o,m,r⟩⟩then n+1 else Di c u)/\W2.heap[G2]?=some (.cells (vtA ⟨D,⟨C,z⟩,⟨k,f,o,m,r⟩⟩) 156 (0,0))/\Below B W W2)
    .intro K2 HK2;refine wp_region_held (S:=λw':World=>w'.heap[G2]?=some (.cells (vtA ⟨D,⟨C,z⟩,⟨k,f,o,m,r⟩⟩) 156 (0,0))) (by kernel_rfl) ?_;have L:(λw':World=>w'.heap[G2]?=some (.cells (vtA ⟨D,⟨C,z⟩,⟨k,f,o,m,r⟩⟩) 156 (0,0))) W.drew:=q;have c5:CMap W.drew B c:=O.nL rfl;refine AO (i:=0) 33 (v:=.map (some B)) rfl rfl (by kernel_rfl) (by kernel_rfl) (by kernel_rfl) (λ_ _ _ h=>h) (lR ⟨by rfl,λ_ _=>by kernel_rfl⟩) L ?_;simp only[Act.put,iz,iC,iD];refine AO (i:=1) 34 (v:=.agg (vtA ⟨D,⟨C,z⟩,⟨k,f,o,m,r⟩⟩)) rfl rfl (by kernel_rfl) (by kernel_rfl) (by kernel_rfl) (λ_ _ _ h=>h) (bC (by rfl) (.tmp 10) rfl G2 rfl ⟨D,⟨C,z⟩,⟨k,f,o,m,r⟩⟩ (λw' f7=>f7)) L ?_;simp only[Act.put,iz,iC,iD];obtain⟨ca,cd,t,w5,K,J,e9,c1,b5,k5⟩:=c5.entry ⟨D,⟨C,z⟩,⟨k,f,o,m,r⟩⟩;have P:Di c ⟨D,⟨C,z⟩,⟨k,f,o,m,r⟩⟩=n:=c6;rw[P]at K J c1
     have I:w5.heap[G2]?=some (.cells (vtA ⟨D,⟨C,z⟩,⟨k,f,o,m,r⟩⟩) 156 (0,0)):=(k5 G2 (by omega)).trans L;obtain⟨w6,Q,f1,b6,k6⟩:=J.store (n+1);have a6:w6.heap[G2]?=some (.cells (vtA ⟨D,⟨C,z⟩,⟨k,f,o,m,r⟩⟩) 156 (0,0)):=(k6 G2 (by omega)).trans I;have a2:=c5.look ⟨D,⟨C,z⟩,⟨k,f,o,m,r⟩⟩;rw[P]at a2
     have a3:=J.look ⟨D,⟨C,z⟩,⟨k,f,o,m,r⟩⟩;rw[c1,P]at a3
     have c4:Hid (∃ U,CMap w6 B U/\(∀ u,Di U u=if u=⟨D,⟨C,z⟩,⟨k,f,o,m,r⟩⟩then n+1 else Di c u)/\w6.heap[G2]?=some (.cells (vtA ⟨D,⟨C,z⟩,⟨k,f,o,m,r⟩⟩) 156 (0,0))/\Below B W w6):=⟨_,f1,λu=>by rw[To (n:=n) e9,c1],a6,((Below.refl B W).drew.trans b5).trans b6⟩;refine Zk (i:=2) (i':=4) (by kernel_rfl) (Xa (i:=2) (d:=35) rfl (by kernel_rfl) rfl 273 (.tmp 33) (.tmp 34) rfl (.map (some B)) (.agg (vtA ⟨D,⟨C,z⟩,⟨k,f,o,m,r⟩⟩)) (.int .i64 (n:Int)) (by kernel_rfl) (by kernel_rfl) a2 ⟨L,?_⟩) (S9 (i:=4) (d:=37) rfl (by kernel_rfl) rfl 273 (.tmp 33) (.tmp 34) rfl (.map (some B)) (.agg (vtA ⟨D,⟨C,z⟩,⟨k,f,o,m,r⟩⟩)) (.tuple #[.int .i64 (n:Int),.int .i64 (t:Int)]) (by kernel_rfl) (by kernel_rfl) K ⟨I,?_⟩)
     .simp only[Act.put,iz,iC,iD];refine AO (i:=3) 36 (v:=.int .i64 ((n+1:Nat):Int)) rfl rfl (by kernel_rfl) (by kernel_rfl) (by kernel_rfl) (λ_ _ _ h=>h) (MW (by rfl) (.tmp 35) rfl n (n+1) rfl rfl (by omega)) L ?_;simp only[Act.put,iz,iC,iD];refine Dy (i:=4) (by kernel_rfl) (S9 (i:=4) (d:=37) rfl (by kernel_rfl) rfl 273 (.tmp 33) (.tmp 34) rfl (.map (some B)) (.agg (vtA ⟨D,⟨C,z⟩,⟨k,f,o,m,r⟩⟩)) (.tuple #[.int .i64 (n:Int),.int .i64 (t:Int)]) (by kernel_rfl) (by kernel_rfl) K ⟨I,?_⟩);simp only[Act.put,iz,iC,iD];refine AO (i:=5) 38 (v:=.int .i64 (t:Int)) rfl rfl (by kernel_rfl) (by kernel_rfl) (by kernel_rfl) (λ_ _ _ h=>h) (lR ⟨by rfl,λ_ _=>by kernel_rfl⟩) I ?_;simp only[Act.put,iz,iC,iD];refine Dy (i:=6) (by kernel_rfl) (Pg (i:=6) rfl (by kernel_rfl) rfl 273 (.tmp 33) (.tmp 38) (.tmp 36) rfl (.map (some B)) (.int .i64 (t:Int)) (.int .i64 ((n+1:Nat):Int)) (by kernel_rfl) (by kernel_rfl) (by kernel_rfl) Q ⟨a6,?_⟩);exact wpAnyH_done (by kernel_rfl) (HK2.out t _ c4.out) _
     .simp only[Act.put,iz,iC,iD];refine AO (i:=5) 38 (v:=.int .i64 (t:Int)) rfl rfl (by kernel_rfl) (by kernel_rfl) (by kernel_rfl) (λ_ _ _ h=>h) (lR ⟨by rfl,λ_ _=>by kernel_rfl⟩) I ?_;simp only[Act.put,iz,iC,iD];refine Dy (i:=2) (by kernel_rfl) (Xa (i:=2) (d:=35) rfl (by kernel_rfl) rfl 273 (.tmp 33) (.tmp 34) rfl (.map (some B)) (.agg (vtA ⟨D,⟨C,z⟩,⟨k,f,o,m,r⟩⟩)) (.int .i64 (n:Int)) (by kernel_rfl) (by kernel_rfl) a3 ⟨I,?_⟩);simp only[Act.put,iz,iC,iD];refine AO (i:=3) 36 (v:=.int .i64 ((n+1:Nat):Int)) rfl rfl (by kernel_rfl) (by kernel_rfl) (by kernel_rfl) (λ_ _ _ h=>h) (MW (by rfl) (.tmp 35) rfl n (n+1) rfl rfl (by omega)) I ?_;simp only[Act.put,iz,iC,iD];refine Dy (i:=6) (by kernel_rfl) (Pg (i:=6) rfl (by kernel_rfl) rfl 273 (.tmp 33) (.tmp 38) (.tmp 36) rfl (.map (some B)) (.int .i64 (t:Int)) (.int .i64 ((n+1:Nat):Int)) (by kernel_rfl) (by kernel_rfl) (by kernel_rfl) Q ⟨a6,?_⟩);exact wpAnyH_done (by kernel_rfl) (HK2.out t _ c4.out) _
    intro t W5 e7;obtain⟨U,J,b1,q5,b5⟩:=e7;have e5:=eW.trans b5;have c9:=J.look ⟨D,⟨C,z⟩,⟨k,f,o,m,r⟩⟩;rw[b1,if_pos rfl]at c9
    have e3:Hid (∀ v,Di U v=CL (Al ((ac.take (j+1)).map (·.vs)).flatten s) v):=λv=>by rw[b1,a5.out v,HC.out v]
    have e1:Hid (CMap W5 B U):=J;clear b1 J q eW b5 O HC;have a9:((n+1:Nat):Int)=(n:Int)+1:=by omega
    rw[a9]at c9
    by_cases g1:N<2*(n+1)
    .have HCH:Hid (Hm (Fk ac s) N=⟨k,f,o,m,r⟩/\Ho (Fk ac s) N=0):=by
      refine I1 (v:=⟨D,⟨C,z⟩,⟨k,f,o,m,r⟩⟩) (Qk ?_ ?_)
      .have g:=cW a0.out s;rw[HN.out]at g
       exact g
      .have g:=ZK (Al ((ac.take (j+1)).map (·.vs)).flatten s) (Al ((ac.drop (j+1)).map (·.vs)).flatten s) ⟨D,⟨C,z⟩,⟨k,f,o,m,r⟩⟩;rw[<- Df,<- List.flatten_append,<- iL,jp,c3.out]at g
       show N<2*CL (Fk ac s) ⟨D,⟨C,z⟩,⟨k,f,o,m,r⟩⟩;unfold Fk;omega
     have a8:(N:Int)<2*((n:Int)+1):=by omega
     have x3:W5.cell? ⟨G2,3,none⟩=some (.int .i64 k):=cell_of_row _ _ 3 _ _ _ q5;have x4:W5.cell? ⟨G2,4,none⟩=some (.int .i64 f):=cell_of_row _ _ 4 _ _ _ q5;have x5:W5.cell? ⟨G2,5,none⟩=some (.int .i64 o):=cell_of_row _ _ 5 _ _ _ q5;have x6:W5.cell? ⟨G2,6,none⟩=some (.int .i64 m):=cell_of_row _ _ 6 _ _ _ q5;have x7:W5.cell? ⟨G2,7,none⟩=some (.int .i64 r):=cell_of_row _ _ 7 _ _ _ q5;have rR:=(e5.block w.heap.size b7).trans rr;have b8:(#[.int .i64 k,.int .i64 f,.int .i64 o,.int .i64 m,.int .i64 r]:Array Value).all (·.oneCell')=true:=by simp[Value.oneCell']
     go_wp2_with ((with_reducible (refine Cv ?_));first|(refine wpList_load_row rfl 156 (.tmp 10) rfl G2 rfl 156 _ (0,0) _ q5 underlying156 rfl hi ?_)|(refine wpList_store_row rfl 49 (.tmp 4) (.tmp 47) rfl w.heap.size #[.int .i64 k,.int .i64 f,.int .i64 o,.int .i64 m,.int .i64 r] rfl rfl 49 _ rR YB rfl b8 ?_))
     have q9:=setRow_heap W5 w.heap.size _ (#[.int .i64 k,.int .i64 f,.int .i64 o,.int .i64 m,.int .i64 r]) 49 _ rR;have d9:=DZ (bb.trans (e5.mono (by omega))) (A' _) (#[.int .i64 k,.int .i64 f,.int .i64 o,.int .i64 m,.int .i64 r]);refine bodyPost_ret (bO rfl _ _ w.heap.size 49 _ (0,0) _ rfl q9 underlying49 rfl YB) rfl ?_;rw[HCH.out.1,HCH.out.2];exact⟨rfl,d9⟩
    .have a8:¬ (N:Int)<2*((n:Int)+1):=by omega
     have e4:Hid (∀ v,2*CL (Al ((ac.take (j+1)).map (·.vs)).flatten s) v<=N):=λv=>by
      rw[a5.out v];split
      .omega
      .exact HL.out v
     clear a5 c3 HL;go_wp2_with ((with_reducible (refine Cv ?_));(refine wpList_load_row rfl 156 (.tmp 10) rfl G2 rfl 156 _ (0,0) _ q5 underlying156 rfl hi ?_))
     go_roundw
     case rel=>exact⟨j+1,U,by omega,by go_num,e1.out,e3.out,e4.out,e5⟩
     case measure=>simp[intOf];omega
  .have HCH:Hid (Hm (Fk ac s) N=⟨0,0,0,0,0⟩/\Ho (Fk ac s) N=9):=by
    refine I0 (Vq λv=>?_);have g:=HL.out v;rw[iE (by have:=HN.out;omega)]at g
    exact g
   have rR:=(E.block w.heap.size b7).trans rr;go_wp2_with ((with_reducible (refine Cv ?_));(refine wpList_store_row rfl 49 (.tmp 4) (.tmp 49) rfl w.heap.size zV5 rfl rfl 49 _ rR YB rfl f8 ?_))
   have q9:=setRow_heap wr w.heap.size _ (zV5) 49 _ rR;have d9:=DZ (bb.trans (E.mono (by omega))) (A' _) (zV5);refine bodyPost_ret (bO rfl _ _ w.heap.size 49 _ (0,0) _ rfl q9 underlying49 rfl YB) rfl ?_;rw[HCH.out.1,HCH.out.2];exact⟨rfl,d9⟩
theorem fU{x:S3}{c:Nat}(d:x.a=some ⟨b,c,none⟩)(j:Nat)(f:j<x.n):(Instr.indexAt 220 x.v (iv (j:Int))).run prog W=.ok (pt b (c+3*j)) W:=by
 unfold S3.v;rw[d];exact KT (P:=prog) (e:=97) (z:=3) underlying220 (by kernel_rfl) (by kernel_rfl) f _ rfl
theorem bV{a:Acc}{y:S3}(h:W.rangeAt b k [iv a.p.r,iv a.p.n,S3.v y]):(Instr.loadAt 97 (pt b k)).run prog W=.ok (.agg #[iv a.p.r,iv a.p.n,S3.v y]) W:=by
 have c:=run_loadVar_mid (P:=prog) W b k 97 _ _ h underlying97 rfl (by kernel_rfl);simp only[Instr.loadAt,Instr.sureAddr,Sem.run_bind,Sem.run_pure,Result.andThen_ok];exact c
theorem Vs(h:(0<=s/\s<=39)/\(1<=(ac.length:Int)/\(ac.length:Int)<=5))(b:∀ a∈ac,Ak a):CE ac s=Hm (Fk ac s) ac.length/\Dx ac s=Ho (Fk ac s) ac.length:=by
 cases ho:Hb (Fk ac s) ac.length with
 | none=>rw[(I0 ho).1,(I0 ho).2];exact Vu h b ho
 | some v=>rw[(I1 ho).1,(I1 ho).2];exact Vv h b ho
theorem Kf(x:Value)(ac:List Acc)(s:Int)(w:World)(h:Sac w x ac)(ht:NTab w) :
  Calls prog 135 #[x,.int .i64 s] w λe w'=>e=.returned (.tuple #[.agg (cmC (CE ac s)),.int .i64 (Dx ac s)])/\Bw w w':=by
 have a1:=h.len;obtain⟨a,i,rfl⟩:=h.shape;obtain⟨y,H⟩:∃ y:S3,y=⟨a,ac.length,i⟩:=⟨_,rfl⟩;have a2:y.n=ac.length:=by rw[H]
 rw[show(.slice a ac.length i:Value)=y.v by rw[H]]at h ⊢
 clear H;refine tIn [] func135 trivial (tR 9 [1,0] λb _ _=>?_);by_cases L:0<=s/\s<=39
 .refine tC1 1 (λF C=>D4 (r:=true) (I' L)) λ_=>tR 4 [] λa3 _ _=>?_;by_cases h2:y.n<1
  .refine tV 6 (.bool true) (λF C=>(rLt (t:=3) (m:=(y.n:Int)) (n:=1) (x:=(.tmp 14)) (y:=(.const (iv 1))) (I' (by omega)))) ?_;refine tR 14 [0,0] λa4 _ _=>tX λF C=>qE2 4 5 49 0 (b 0) #[iv 0,iv 0,iv 0,iv 0,iv 0] (iv 2) λ_=>by rw[(CX (ac:=ac) (s:=s) (by omega)).1,(CX (ac:=ac) (s:=s) (by omega)).2];exact⟨rfl,CgQ.ab C⟩
  .refine tV 6 (.bool false) (λF C=>(rLt (t:=3) (m:=(y.n:Int)) (n:=1) (x:=(.tmp 14)) (y:=(.const (iv 1))) (D' (by omega)))) (tR 4 [] λa5 _ _=>?_);by_cases h3:5<y.n
   .refine tV 11 (.bool true) (λF C=>(rGt (t:=3) (m:=(y.n:Int)) (n:=5) (x:=(.tmp 19)) (y:=(.const (iv 5))) (I' (by omega)))) ?_;refine tR 9 [0,0] λa6 _ _=>tX λF C=>qE2 4 5 49 0 (b 0) #[iv 0,iv 0,iv 0,iv 0,iv 0] (iv 2) λ_=>by rw[(CX (ac:=ac) (s:=s) (by omega)).1,(CX (ac:=ac) (s:=s) (by omega)).2];exact⟨rfl,CgQ.ab C⟩
   .refine tV 11 (.bool false) (λF C=>(rGt (t:=3) (m:=(y.n:Int)) (n:=5) (x:=(.tmp 19)) (y:=(.const (iv 5))) (D' (by omega)))) ?_;have N:(0<=s/\s<=39)/\(1<=(ac.length:Int)/\(ac.length:Int)<=5):=by omega
    refine tR 12 [] λa7 _ _=>Dp 41 [(0,S3.v y),(1,iv s),(4,pt (b 0) 0),(23,S3.v y),(24,iv (y.n:Int)),(25,iv 0)] [true] [⟨(b 0),.cells #[iv 0,iv 0,iv 0,iv 0,iv 0] 49,.l,false⟩] [] (λkk ee LL o=>∃ (j:Nat),kk=y.n-j/\ee=[(0,S3.v y),(1,iv s),(4,pt (b 0) 0),(23,S3.v y),(24,iv (y.n:Int)),(25,iv (j:Int))]/\LL=[⟨(b 0),.cells #[iv 0,iv 0,iv 0,iv 0,iv 0] 49,.l,false⟩]/\o=[]/\j<=ac.length/\∀ a∈ac.take j,Ak a) (y.n) ⟨0,rfl,rfl,rfl,rfl,by omega,λa u=>(by simp at u)⟩ (λF=>trivial) ?_;rintro k _ _ _ ⟨j,rfl,rfl,rfl,rfl,hj,d⟩ _ _ _ J hJ;refine tR 5 [] λa8 _ _=>?_;by_cases h4:j<y.n
    .refine tI ((decide ((j:Int)<(y.n:Int)))) true (I' (by omega)) ?_;obtain⟨A,B⟩:∃ A,ac[j]?=some A:=⟨_,E' (by omega)⟩;obtain⟨bb,K,yl,I,G,hr,P⟩:=h.spot j A B;obtain⟨z,rfl⟩:=P.s3;refine tR 5 [] λa9 _ _=>tV 0 (pt bb (K+3*j)) (λF C=>(fU I j (by omega))) (tV 1 (.agg #[iv A.p.r,iv A.p.n,S3.v z]) (λF C=>(bV (a:=A) (Rt (CgQ.ab C) G hr))) (tR 6 [0,0,1,0,1] λR _ _=>tC1 1 (λF C=>Ir A.p z.v A.vs _ (P.ab (CgQ.ab C)) (ht.ab (CgQ.ab C))) λ_=>tR 7 [] λS _ _=>?_));by_cases q:Ak A
     .have f:EF ⟨A.p,A.vs⟩=0:=if_pos q;refine tI (((EF ⟨A.p,A.vs⟩) != 0)) false (by rw[f];decide) (tR 3 [] λT _ _=>tV 0 (iv ((j:Int)+1)) (λF C=>(AD 25 (j:Int) underlying3 (by omega))) (tR 2 [] λU _ _=>tB hJ (y.n-(j+1)) (by omega) [true,false] ⟨j+1,rfl,rfl,rfl,rfl,by omega,λa u=>by rw[lL,B]at u;exact(P'.1 u).elim (d a) λg=>by rw[show a=A by simpa using g];exact q⟩ (λF=>trivial)))
     .have f:EF ⟨A.p,A.vs⟩=5:=if_neg q;have M:=Tl N λg=>q (g A (iN B));refine tI (((EF ⟨A.p,A.vs⟩) != 0)) true (by rw[f];decide) ?_;refine tR 7 [0,0] λV _ _=>tX λF C=>qE2 4 5 49 0 (b 0) #[iv 0,iv 0,iv 0,iv 0,iv 0] (iv (EF ⟨A.p,A.vs⟩)) λ_=>by rw[f,M.1,M.2];exact⟨rfl,CgQ.ab C⟩
    .refine tI ((decide ((j:Int)<(y.n:Int)))) false (D' (by omega)) ?_;rw[iE (show ac.length<=j by omega)]at d
     obtain⟨X,O⟩:∃ X,Hm (Fk ac s) ac.length=X:=⟨_,rfl⟩;obtain⟨E,f⟩:∃ E,Ho (Fk ac s) ac.length=E:=⟨_,rfl⟩;have Q:=λW g=>WR y.v ac s W g (by omega) d;have D:=Vs N d;rw[O,f]at D
     simp only[O,f]at Q;refine tR 5 [] λY _ _=>tC1 2 (λF C=>Q _ (h.ab (CgQ.ab C))) λ_=>tR 5 [0,0] λZ _ _=>tX λF C=>qE2 4 5 49 0 (b 0) #[iv X.k,iv X.c,iv X.s,iv X.n,iv X.v] (iv E) λ_=>by rw[D.1,D.2];exact⟨rfl,CgQ.ab C⟩
 .refine tC1 1 (λF C=>D4 (r:=false) (D' L)) λ_=>tR 19 [0,0] λa0 _ _=>tX λF C=>qE2 4 5 49 0 (b 0) #[iv 0,iv 0,iv 0,iv 0,iv 0] (iv 2) λ_=>by rw[(CX (ac:=ac) (s:=s) (by omega)).1,(CX (ac:=ac) (s:=s) (by omega)).2];exact⟨rfl,CgQ.ab C⟩
theorem KF{g:Gh}(b:w.heap[nb]?=some (.cells (Az i ob p x) 109))(a:j<5):w.rangeAt nb (18+3*j) [iv (p.bw.br j).p.r,iv (p.bw.br j).p.n,S3.v (x.hv j)]:=by
 rcases mj a with rfl|rfl|rfl|rfl|rfl<;>exact Pv b _ _ rfl
theorem Pb(h:NodeAt g w i nb ob x p):Sac w (.slice (some ⟨nb,18,none⟩) 5 5) p.bw.me:=by
 refine⟨⟨some ⟨nb,18,none⟩,5,rfl,.inr ⟨nb,18,rfl,rl h.row,λj A a=>?_⟩⟩,by show 5<=3518437208780;decide⟩;have b:j<5:=by have:=(O'.1 a).1;exact this
 refine⟨S3.v (x.hv j),?_⟩;have c:=KF (g:=g) h.row b;have d:=(h.br j b).s;rcases mj b with rfl|rfl|rfl|rfl|rfl<;>(simp[Rnd.me]at a;subst a;exact⟨c,d⟩)
theorem Vp(h:40<=s):Dx ac s≠0:=by rw[(CX (by omega)).2];decide
theorem Vr{n:Nat}(h:Dx ac (n:Int)=0):n<=39:=by
 rcases ja 39 n with h2|h2
 .exact absurd h (Vp (by omega))
 .exact h2
theorem AM.at{L:List Sh}(h:AM L W)(k b:Nat)(o:Obj)(t:Tg)(a:L[k]?=some ⟨b,o,t,false⟩):W.heap[b]?=some o:=h _ (iN a)
theorem Fi(h:NS i nb ob g w p ls ts)(hB:Base w0 g w)(hT:Tabs w0)(hb:p.ae.length<=40) :
  Calls prog 100 #[pt nb 0] w (NP i nb ob g w (.tuple #[]) p.ml ls ts):=by
 obtain⟨x,lt,tl,hN,hO,hg⟩:=h;refine gI (fn:=f100) (TN i) g func100 hg (qN hN (qO hO (qR [] 1 [] λs1 g1 w1 c1=>BD 34 [(0,pt nb 0)] [false,false] [] (λk O Q e L=>∃ l:List Cmd,e=[(0,pt nb 0)]/\L=[]/\NS i nb ob O Q { p with ae:=l } ls ts/\K8 k p.bw l=K8 41 p.bw p.ae/\41<=l.length+k/\l.length<=41/\Cg w.heap.size (TN i) g w O Q) (by kernel_rfl) (by kernel_rfl) (by kernel_rfl) (by kernel_rfl) 41 (λK=>?_) ?_)))
 .have C2:=c1;exact⟨p.ae,rfl,rfl,(nsC hN hO C2 K),rfl,by omega,by omega,(c1.nil (TN i))⟩
 .rintro k gr wr _ zr _ ⟨l,rfl,rfl,hM,hI,hk1,hk2,hC⟩ J hJ;obtain⟨b,H,M,a,u,a7⟩:=hM;refine qN a (qO u ?_);have q:b.ae.n=l.length:=a.ae.num;refine qR [] 15 [19,0,2,4,6,8,10,12,14,16,18,20,0,22] λs3 g3 w3 y=>BK 34 (λO Q e L=>∃ (bA:Nat),e=[(0,pt nb 0),(2,pt bA 0),(3,iv (Dx p.bw.me (b.ae.n:Int)))]/\L=[⟨nb,.cells (Az i ob ({ p with ae:=l }) b) 109,.n 0 i,false⟩,⟨ob,.cells #[S3.v H,S3.v M] 86,.n 50 0,false⟩,⟨bA,.cells #[iv (CE p.bw.me (b.ae.n:Int)).k,iv (CE p.bw.me (b.ae.n:Int)).c,iv (CE p.bw.me (b.ae.n:Int)).s,iv (CE p.bw.me (b.ae.n:Int)).n,iv (CE p.bw.me (b.ae.n:Int)).v] 49,.l,false⟩]/\Cg w.heap.size [] gr wr O Q) (by kernel_rfl) ?_ ?_
  .intro J hJ;refine CH 12 16 (by kernel_rfl) ?_ ?_
   .have hS6:=Pb (a.ch y);have W:=hB.ch (((hC.n y))) (AZ i);refine qC 12 (Kf _ _ (b.ae.n:Int) w3 hS6 (W.tn hT)) ?_;rintro e' w7 ⟨rfl,Z⟩;refine⟨_,rfl,Z,?_⟩;have c7:=Cg.bu (B:=w.heap.size) (T:=[]) (g:=g3) Z;refine qR [] 7 [26,28,30,33,1,0,35,2,0,36] λs8 g8 w8 c8=>qB [true,true,true] λz N K=>hJ _ _ _ z _ ⟨(s8 0),rfl,rfl,((y.trans c7).trans c8)⟩ K
   .refine qR [] 1 [1,0] λs9 g9 w9 V=>?_;have G:=Pb (a.ch (y.trans V));have F:=hB.ch (hC.trans ((y.trans V).nil _)) (AZ i);refine qC 12 (Kf _ _ (b.ae.n:Int) w9 G (F.tn hT)) ?_;rintro e' b2 ⟨rfl,A⟩;refine⟨_,rfl,A,?_⟩;have S:=Cg.bu (B:=w.heap.size) (T:=[]) (g:=g9) A;refine qR [] 6 [26,28,30,35,2,0,36] λa9 a2 b3 U=>qB [true,true,true] λz N K=>hJ _ _ _ z _ ⟨(s9 0),rfl,rfl,(((y.trans V).trans S).trans U)⟩ K
  .rintro g4 w4 _ z4 _ ⟨bA,rfl,rfl,hc⟩;refine qR [] 6 [] λb0 a3 b4 o=>?_;by_cases P:Dx p.bw.me (b.ae.n:Int)≠0
   .refine qI (((Dx p.bw.me (b.ae.n:Int)) != 0)) true (by simpa using P) (qE (.tuple #[]) λK=>?_);have hE:p.ml={ p with ae:=l }:=by unfold Nod.ml;rw[<- hI];cases k with|zero=>rfl|succ k=>rw[K8,if_neg (by rw[<- q];exact P)]
    rw[hE];exact⟨_,rfl,(nsC a u (hc.n o) K),((hC.n hc).n o)⟩
   .refine qI (((Dx p.bw.me (b.ae.n:Int)) != 0)) false (by simpa using P) ?_;have E:Dx p.bw.me (b.ae.n:Int)=0:=by simpa using P
    have a0:l.length<=39:=by rw[<- q];exact Vr E
    obtain⟨k,rfl⟩:∃ k1,k=k1+1:=⟨k-1,by omega⟩;refine qR [] 10 [12,0,2,4,6,8,10,0,12,2,15,0,0] λI a4 b5 r=>Jx 8 (x:=b.ae) 35 35 49 5 40 (.agg #[iv 0,iv 0,iv 0,iv 0,iv 0]) ⟨(I 0),0,none⟩ 1 1 [iv (CE p.bw.me (b.ae.n:Int)).k,iv (CE p.bw.me (b.ae.n:Int)).c,iv (CE p.bw.me (b.ae.n:Int)).s,iv (CE p.bw.me (b.ae.n:Int)).n,iv (CE p.bw.me (b.ae.n:Int)).v] (a.ae.ch ((hc.trans o).trans r) (by simp) (by simp)) (by kernel_rfl) (by kernel_rfl) (by kernel_rfl) underlying35 (by kernel_rfl) (by kernel_rfl) (by decide) (by decide) rfl (by simp[Value.oneCell']) (λK=>BL K 3 (I 0) [iv (CE p.bw.me (b.ae.n:Int)).k,iv (CE p.bw.me (b.ae.n:Int)).c,iv (CE p.bw.me (b.ae.n:Int)).s,iv (CE p.bw.me (b.ae.n:Int)).n,iv (CE p.bw.me (b.ae.n:Int)).v] 49 .z true (by kernel_rfl)) (by unfold maxLen;omega) (by omega) ?_;intro Y a5 b6 R a8 D a1;have C:=D w.heap.size [.n 3 i] (N'.2 rfl);refine qR [.n 0 i] 6 [18,20,22,25,0,1] λb1 a6 b8 t=>DX J 34 [(0,pt nb 0)] [false,false,false,false] [] (by kernel_rfl) (by kernel_rfl) (by kernel_rfl) (by kernel_rfl) (by kernel_rfl) (λz N K=>?_);have X:CE p.bw.me (b.ae.n:Int)=CE p.bw.me (l.length:Int):=by rw[q]
    refine hJ k _ _ _ z _ (by omega) ⟨l++[CE p.bw.me (l.length:Int)],rfl,rfl,?_,?_,by simp;omega,by simp;omega,(((((hC.n hc).n o).n r).trans (C.mono (by simp[TN]))).trans (t.mono (by simp[TN])))⟩ K
    skip
    have d:=((((hc.nil ([.n 3 i,.n 0 i]:List Tg)).n o).n r).m C).m t;have j:Tg.z∉([.n 3 i,.n 0 i]:List Tg):=by simp
    .rw[<- X];exact⟨{ b with ae:=Y },H,M,N.nd 0 (a.tape.ch d j) (a.kc.ch d j) (Bf a.br d j) (BF a.bt d j (by simp)) (a.dW.ch d) (by rw[BO];exact R.ch t) (a.an.ch d) (a.cl.ch d) a.mT,u.ch d j (by simp<;>omega),N.new⟩
    .rw[<- hI,K8,if_pos (by rw[<- q];exact E)]
theorem Mm(h:NS i nb ob g w p ls ts)(hB:Base w0 g w)(hT:Tabs w0)(j:Nat)(Z:j<5)(v:Vt)(hb:p.ae.length<=40) :
  Calls prog 103 #[pt nb 0,iv (j:Int),.agg #[iv v.au,iv v.b.r,iv v.b.n,iv v.w.k,iv v.w.c,iv v.w.s,iv v.w.n,iv v.w.v]] w (NP i nb ob g w (.tuple #[]) (p.count j v) ls ts):=by
 obtain⟨x,lt,tl,d,hO,hg⟩:=h;refine gI (fn:=f103) (TN i) g func103 hg (qN d (qO hO (qR [] 15 [0,0,9,0,2,2,4,6,8,10,12,14,0] λs1 g1 w1 c1=>?_)));by_cases R:v.b≠p.bw.lr
 .refine qT 8 (.bool true) (λ_=>(Hv (x:=(.tmp 9)) (y:=(.tmp 15)) v.b p.bw.lr R)) (qR [] 2 [] λs2 g2 w2 c2=>qE (.tuple #[]) λK=>?_);rw[show p.count j v=p from if_pos R];exact⟨_,rfl,(nsC d hO (c1.n c2) K),((c1.nil (TN i)).n c2)⟩
 .have h10:v.b=p.bw.lr:=by simpa using R
  refine qT 8 (.bool false) (λ_=>(Hu (x:=(.tmp 9)) (y:=(.tmp 15)) v.b p.bw.lr h10)) (qR [] 11 [16,0,2,4,6,8,10] λs4 g4 w4 F=>?_);refine OG 6 (pt nb (18+3*j)) false (λW hW=>by rcases mj Z with rfl|rfl|rfl|rfl|rfl<;>kernel_rfl) (by kernel_rfl) ?_;refine qU 7 (.agg #[iv (p.bw.br j).p.r,iv (p.bw.br j).p.n,S3.v (x.hv j)]) (λW hW=>(bV (KF (g:=g) (AM.at (hW rfl) 0 nb (.cells (Az i ob p x) 109) (.n 0 i) (by kernel_rfl)) Z))) (qR [] 1 [16,2] λs6 g6 w6 G=>BK 42 (λg' w' e L=>∃ (ys:S3) (bA:Nat),e=[(0,pt nb 0),(1,iv (j:Int)),(6,pt bA 0),(7,iv (Bb (p.bw.br j) v))]/\L=[⟨nb,.cells (Az i ob p x) 109,.n 0 i,false⟩,⟨ob,.cells #[S3.v lt,S3.v tl] 86,.n 50 0,false⟩,⟨(s1 0),.cells #[iv v.au,iv v.b.r,iv v.b.n,iv v.w.k,iv v.w.c,iv v.w.s,iv v.w.n,iv v.w.v] 156,.z,false⟩,⟨bA,.cells #[iv (BU (p.bw.br j) v).r,iv (BU (p.bw.br j) v).n,S3.v ys] 97,.l,false⟩]/\FSv g' w' ys (Ck (p.bw.br j) v)/\Cg w.heap.size [] g w g' w') (by kernel_rfl) ?_ ?_)
  .intro J hJ;refine CH 9 13 (by kernel_rfl) ?_ ?_
   .refine Ae λa5=>?_;have b5:=((d.br j Z).ch ((c1.trans F).trans G) (by simp)).s;have b3:=hB.ch ((c1.trans F).trans G) (by simp);have b4:∀ z,w6.heap.size<=z->g6.t z=.z:=λz hz=>(a5.new z hz).1;refine qC 9 (BN (p.bw.br j).p _ (p.bw.br j).vs v w6 b5 (b3.tn hT)) ?_;rintro e' e3 ⟨f3,rfl,a0,c5,I⟩;refine⟨_,rfl,I,?_⟩;have a7:=Cg.bu (B:=w.heap.size) (T:=[]) (g:=g6) I;obtain⟨a3,rfl,b6,D⟩:=D0 a0 b4 (by omega);refine qR [] 7 [20,22,24,27,1,0,29,3,0,30] λb8 d0 e4 N=>qB [true,true,true,true] λz K0 K=>hJ _ _ _ z _ ⟨a3,(b8 0),rfl,rfl,(D.ch N),((((c1.trans F).trans G).trans a7).trans N)⟩ K
   .refine qR [] 1 [1,0] λb9 Q a2 C=>Ae λH=>?_;have Y:=((d.br j Z).ch (((c1.trans F).trans G).trans C) (by simp)).s;have S:=hB.ch (((c1.trans F).trans G).trans C) (by simp);have U:∀ z,a2.heap.size<=z->Q.t z=.z:=λz hz=>(H.new z hz).1;refine qC 9 (BN (p.bw.br j).p _ (p.bw.br j).vs v a2 Y (S.tn hT)) ?_;rintro e' e5 ⟨f4,rfl,a1,c7,M⟩;refine⟨_,rfl,M,?_⟩;have a8:=Cg.bu (B:=w.heap.size) (T:=[]) (g:=Q) M;obtain⟨a4,rfl,b7,E⟩:=D0 a1 U (by omega);refine qR [] 6 [20,22,24,29,3,0,30] λd7 d1 e6 O=>qB [true,true,true,true] λz K0 K=>hJ _ _ _ z _ ⟨a4,(b9 0),rfl,rfl,(E.ch O),(((((c1.trans F).trans G).trans C).trans a8).trans O)⟩ K
  .rintro g7 w7 _ z7 _ ⟨ys,bA,rfl,rfl,hys,hc⟩;refine qR [] 6 [] λd8 d2 e7 m=>?_;by_cases h2:Bb (p.bw.br j) v≠0
   .refine qI (((Bb (p.bw.br j) v) != 0)) true (by simpa using h2) (qE (.tuple #[]) λK=>?_);rw[show p.count j v=p from by unfold Nod.count;rw[if_neg R,if_pos h2]];exact⟨_,rfl,(nsC d hO (hc.n m) K),((hc.nil (TN i)).n m)⟩
   .refine qI (((Bb (p.bw.br j) v) != 0)) false (by simpa using h2) (qR [] 10 [8,0,2,4,3,6,8,10,12] λd9 b1 c0 q=>BK 42 (λg' w' e L=>e=[(0,pt nb 0)]/\L=[⟨nb,.cells (Az i ob ({ p with bw:={ p.bw with br:=upN p.bw.br j ⟨BU (p.bw.br j) v,Ck (p.bw.br j) v⟩ } }) ({ x with hv:=upN x.hv j ys })) 109,.n 0 i,false⟩,⟨ob,.cells #[S3.v lt,S3.v tl] 86,.n 50 0,false⟩,⟨(s1 0),.cells #[iv v.au,iv v.b.r,iv v.b.n,iv v.w.k,iv v.w.c,iv v.w.s,iv v.w.n,iv v.w.v] 156,.z,false⟩,⟨bA,.cells #[iv (BU (p.bw.br j) v).r,iv (BU (p.bw.br j) v).n,S3.v ys] 97,.l,false⟩]/\True/\Cg w.heap.size ([.n 0 i]:List Tg) b1 c0 g' w') (by kernel_rfl) ?_ ?_)
    .intro J hJ;rcases mj Z with rfl|rfl|rfl|rfl|rfl <;>
     (refine qR [.n 0 i] 3 [14,17,0,1] λe0 d4 e9 a9=>?_;exact qB [true,true,true,true] λz K0 K=>hJ _ _ _ z _ ⟨rfl,rfl,trivial,a9⟩ K)
    rintro d3 e8 _ f5 _ ⟨rfl,rfl,_,u⟩;refine qR [] 2 [] λe1 b2 c3 A=>?_;rw[show p.count j v=Nod.ml { p with bw:={ p.bw with br:=upN p.bw.br j ⟨BU (p.bw.br j) v,Ck (p.bw.br j) v⟩ } }from by unfold Nod.count;rw[if_neg R,if_neg h2]];refine Ae λK=>?_;have a:=((((hc.nil ([.n 0 i]:List Tg)).n m).n q).trans (u)).n A;have o:Tg.z∉([.n 0 i]:List Tg):=by simp
    have a6:NS i nb ob b2 c3 ({ p with bw:={ p.bw with br:=upN p.bw.br j ⟨BU (p.bw.br j) v,Ck (p.bw.br j) v⟩ } }) ls ts:=⟨{ x with hv:=upN x.hv j ys },lt,tl,K.nd 0 (d.tape.ch a o) (d.kc.ch a o) (λk hk=>(by show FSv _ _ (upN x.hv j ys k) (upN p.bw.br j ⟨BU (p.bw.br j) v,Ck (p.bw.br j) v⟩ k).vs;unfold upN;split;exact((((hys.ch m).ch q).ch u).ch A);exact(d.br k hk).ch a o)) (BF d.bt a o (by simp)) (d.dW.ch a) (d.ae.ch a) (d.an.ch a) (d.cl.ch a) d.mT,hO.ch a o (by simp<;>omega),K.new⟩;refine qS0 1 [false,false,true,true] (Fi a6 (hB.ch (((((hc.nil (TN i)).n m).n q).trans (u.mono (by simp[TN]))).n A) (AZ i)) hT hb) λd5 f0 f2 c8 c9 V X b0=>qR [] 1 [] λe2 d6 f1 P=>qF V X P (((((((hc.nil (TN i)).n m).n q).trans (u.mono (by simp[TN]))).n A).trans (b0)).n P)
theorem NU(h:NS i nb ob g w p ls ts)(q:Base w0 g w)(s:Tabs w0)(d:Nat)(l:Let)(v:Cj g w d l)(B:l.src<5)(t:p.ae.length<=40) :
  Calls prog 57 #[pt nb 0,pt d 0] w (NP i nb ob g w (.tuple #[]) (p.count l.src l.cn) ls ts):=by
 obtain⟨x,lt,L,j,k,u⟩:=h;refine gI (fn:=f57) (TN i) g func57 u (qN j (qO k ?_));obtain⟨E,F,a,y,A⟩:=v;refine BJ ⟨d,.cells (EN l E F) 158,.z,false⟩ (λ_=>⟨a.r,a.z,λh=>(by cases h),λh=>absurd rfl h⟩) (by kernel_rfl) ?_;refine qR [] 10 [9,0,2,4,6,8,2,10,12,14,16,2] λJ G M c1=>qS 9 [false,false,true] j k c1 (λm=>Mm m (q.ch (c1.nil (TN i)) (AZ i)) s l.src B l.cn t) λH N P C D b c o=>qR [] 1 [] λK I O e=>qF b c e (((c1.nil (TN i)).trans (o)).n e)
theorem FW(q:List Cmd)(c:Cmd)(l:List Cmd):LE q (c::l)=LE (if q.length<40/\c∉q then q++[c]else q) l:=rfl
theorem Dk{l:List Cmd}{c:Cmd}(h:l[j]?=some c):l.drop j=c::l.drop (j+1):=by
 obtain⟨a,b⟩:=O'.1 h;rw[<- b];exact jc a
theorem YT(q l:List Cmd)(h:q.length<=40):(LE q l).length<=40:=by
 induction l generalizing q with
 | nil=>exact h
 | cons c l ih =>
  rw[FW];refine ih _ ?_;split
  .rw[G'];show _+1<=_;omega
  .exact h
theorem IP(h:NS i nb ob g w p ls ts)(a:List Cmd)(I:S3)(hw:Rc g w I a)(hb:a.length<100000000)(hq:p.bw.dW.length<=40) :
  Calls prog 105 #[pt nb 0,I.v] w (NP i nb ob g w (.tuple #[]) (p.gC a) ls ts):=by
 have c2:=h;obtain⟨x,lt,tl,hN,hO,hg⟩:=h;have d0:=hw.len;refine gI (fn:=f105) (TN i) g func105 hg (qN hN (qO hO (qR [] 4 [] λs1 g1 w1 c1=>Ae λK=>?_)));have N3:NS i nb ob g1 w1 p ls ts:=(nsC hN hO c1 K);refine qC 1 (Mx N3) ?_;rintro e' w4 ⟨rfl,b4⟩;refine⟨_,rfl,b4,?_⟩;have c4:=Cg.bu (B:=w.heap.size) (T:=[]) (g:=g1) b4;refine qR [] 2 [] λs5 g5 w5 c5=>?_;by_cases h1:p.leads=true
 .refine qI ((!p.leads)) false (by simpa using h1) ?_;rw[show p.gC a={ p with bw:={ p.bw with dW:=LE p.bw.dW a } }from if_pos h1];refine qR [] 8 [] λs6 g6 w6 c6=>BD 49 [(0,pt nb 0),(9,S3.v I),(10,iv (I.n:Int)),(11,iv 0)] [false,false] [] (λk g' w' e L=>∃ (j:Nat) (q:List Cmd),k=a.length-j/\j<=a.length/\e=[(0,pt nb 0),(9,S3.v I),(10,iv (I.n:Int)),(11,iv (j:Int))]/\L=[]/\NS i nb ob g' w' { p with bw:={ p.bw with dW:=q } } ls ts/\LE q (a.drop j)=LE p.bw.dW a/\q.length<=40/\Cg w.heap.size (TN i) g w g' w') (by kernel_rfl) (by kernel_rfl) (by kernel_rfl) (by kernel_rfl) a.length (λK=>?_) ?_
  .have C7:=((c1.n c4).n c5).n c6;exact⟨0,p.bw.dW,rfl,by omega,rfl,rfl,(nsC hN hO C7 K),rfl,hq,((((c1.nil (TN i)).n c4).n c5).n c6)⟩
  .rintro k gr wr _ zr _ ⟨j,q,rfl,hj,rfl,rfl,hM,hI,hq1,hC⟩ J hJ;obtain⟨xr,a5,a6,b,F,c3⟩:=hM;refine qN b (qO F ?_);have c7:xr.dW.n=q.length:=b.dW.num;refine qR [] 5 [] λs8 g8 w8 E=>?_;by_cases h2:j<a.length
   .refine qI ((decide ((j:Int)<(I.n:Int)))) true (I' (by omega)) ?_;obtain⟨c,H⟩:∃ c,a[j]?=some c:=⟨_,E' h2⟩;have a3:=hw.ch hC (AZ i);obtain⟨bx,ox,Z⟩:=hw.addr h2;refine qR [] 5 [] λs9 g9 w9 G=>qV 0 (pt bx (ox+5*j)) (MD Z j (by omega)) ?_;have a4:=a3.ch (E.trans G);refine qV 1 (.agg #[iv c.k,iv c.c,iv c.s,iv c.n,iv c.v]) (Um c λq_ u hu=>a4.cellAt Z H hu) (qR [] 12 [0,0,2,0,19,0,2,4,6,8,10,0,12] λd2 a9 e2 o=>?_);by_cases h3:(xr.dW.n:Int)<40
    .refine qT 7 (.bool true) (λ_=>(rLt (t:=3) (x:=(.tmp 21)) (y:=(.const (iv 40))) (I' h3))) (qR [] 8 [16,18,20,22,24,26,28,0,30,2] λd3 a2 e3 r=>qC 16 (EI (l:=q) (b.dW.ch (((E.trans G).trans o).trans r) (by simp) (by simp)).rd (by omega) c) ?_);rintro e' e4 ⟨rfl,Q⟩;refine⟨_,rfl,Q,?_⟩;have C:=Cg.bu (B:=w.heap.size) (T:=[]) (g:=a2) Q;refine qR [] 3 [34,36] λd4 b0 e5 D=>?_;by_cases h4:c∈q
     .refine qI ((!(decide (c∈q)))) false (by simpa using h4) (qR [] 3 [] λd5 b1 e6 R=>qV 0 (iv ((j:Int)+1)) (AD 11 (j:Int) underlying3 (by omega)) (qR [] 2 [] λd6 b2 e7 S=>qB [false,false,false] λz P K=>hJ (a.length-(j+1)) _ _ _ z _ (by omega) ⟨j+1,q,rfl,by omega,rfl,rfl,?_,?_,by omega,((((((((hC.n E).n G).n o).n r).n C).n D).n R).n S)⟩ K))
      .exact(nsC b F (((((((E.n G).n o).n r).n C).n D).n R).n S) P)
      .rw[<- hI,Dk H,FW,if_neg (λh=>h.2 h4)]
     .refine qI ((!(decide (c∈q)))) true (by simpa using h4) (qR [] 10 [14,0,2,4,6,8,10,12,0,14,2,17,0,0] λa0 b3 e8 M=>Jx 9 (x:=xr.dW) 35 35 49 5 40 (.agg #[iv 0,iv 0,iv 0,iv 0,iv 0]) ⟨(a0 0),0,none⟩ 1 1 [iv c.k,iv c.c,iv c.s,iv c.n,iv c.v] (b.dW.ch ((((((E.trans G).trans o).trans r).trans C).trans D).trans M) (by simp) (by simp)) (by kernel_rfl) (by kernel_rfl) (by kernel_rfl) underlying35 (by kernel_rfl) (by kernel_rfl) (by decide) (by decide) rfl (by simp[Value.oneCell']) (λK=>BL K 3 (a0 0) [iv c.k,iv c.c,iv c.s,iv c.n,iv c.v] 49 .z true (by kernel_rfl)) (by unfold maxLen;omega) (by omega) ?_);intro a7 b5 e9 a1 d1 Y a8;have U:=Y w.heap.size [.n 2 i] (N'.2 rfl);refine qR [.n 0 i] 8 [20,22,24,26,29,0,1] λd7 b6 f0 N=>qV 0 (iv ((j:Int)+1)) (AD 11 (j:Int) underlying3 (by omega)) (qR [] 2 [] λd8 b7 f1 O=>qB [false,false,false,false] λz P K=>hJ (a.length-(j+1)) _ _ _ z _ (by omega) ⟨j+1,(q++[c]),rfl,by omega,rfl,rfl,?_,?_,by simp;omega,((((((((((hC.n E).n G).n o).n r).n C).n D).n M).trans (U.mono (by simp[TN]))).trans (N.mono (by simp[TN]))).n O)⟩ K);have d:=(((((((((E.nil ([.n 2 i,.n 0 i]:List Tg)).n G).n o).n r).n C).n D).n M).m U).m N).n O;have A:Tg.z∉([.n 2 i,.n 0 i]:List Tg):=by simp
      .exact⟨{ xr with dW:=a7 },a5,a6,P.nd 0 (b.tape.ch d A) (b.kc.ch d A) (Bf b.br d A) (BF b.bt d A (by simp)) (by rw[BO];exact((a1.ch N).ch O)) (b.ae.ch d) (b.an.ch d) (b.cl.ch d) b.mT,F.ch d A (by simp<;>omega),P.new⟩
      .rw[<- hI,Dk H,FW,if_pos ⟨by omega,h4⟩]
    .refine qT 7 (.bool false) (λ_=>(rLt (t:=3) (x:=(.tmp 21)) (y:=(.const (iv 40))) (D' h3))) (qR [] 16 [16,18,20,22,24,26,28,30,32,34,36] λd9 b8 f2 V=>qV 0 (iv ((j:Int)+1)) (AD 11 (j:Int) underlying3 (by omega)) (qR [] 2 [] λe0 b9 f3 W=>qB [false,false,false] λz P K=>hJ (a.length-(j+1)) _ _ _ z _ (by omega) ⟨j+1,q,rfl,by omega,rfl,rfl,?_,?_,by omega,(((((hC.n E).n G).n o).n V).n W)⟩ K))
     .exact(nsC b F ((((E.n G).n o).n V).n W) P)
     .rw[<- hI,Dk H,FW,if_neg (by omega)]
   .refine qI ((decide ((j:Int)<(I.n:Int)))) false (D' (by omega)) (qR [] 1 [] λe1 c0 f4 X=>?_);obtain rfl:j=a.length:=by omega
    rw[jM]at hI
    refine qE (.tuple #[]) λK=>?_;rw[<- hI];exact⟨_,rfl,(nsC b F (E.n X) K),((hC.n E).n X)⟩
 .refine qI ((!p.leads)) true (by simpa using h1) (qE (.tuple #[]) λK=>?_);rw[show p.gC a=p from if_neg h1];exact⟨_,rfl,(nsC hN hO ((c1.n c4).n c5) K),(((c1.nil (TN i)).n c4).n c5)⟩
theorem E4(h:NS i nb ob g w p ls ts){b:Bool}(a:p.leads=b) :
  Calls prog 99 #[pt nb 0] w λe w'=>e=.returned (.bool b)/\Bw w w':=by subst a;exact Mx h
theorem VM(p:Nod)(l:List Cmd):(p.gC l).bt=p.bt:=by unfold Nod.gC;split<;>rfl
theorem Lk(h:NS i nb ob g w p ls ts)(j:Nat)(l:Let)(E:Cj g w j l)(D:l.kind=6)(N:p.bt.length<100000000)(u:l.fa.length<100000000)(Q:p.bw.dW.length<=40) :
  Calls prog 59 #[pt nb 0,pt j 0] w (NP i nb ob g w (.tuple #[]) (p.take l) ls ts):=by
 obtain⟨x,lt,tl,B,C,O⟩:=h;refine gI (fn:=f59) (TN i) g func59 O (qN B (qO C ?_));have q:=E;obtain⟨W,F,e,P,v⟩:=E;refine BJ ⟨j,.cells (EN l W F) 158,.z,false⟩ (λ_=>⟨e.r,e.z,λh=>(by cases h),λh=>absurd rfl h⟩) (by kernel_rfl) ?_;refine qR [] 12 [0,0,0,0,5,0,3,2,4,4,6,8,2] λk g1 w1 c1=>qS 5 [false,false,true,true,true] B C c1 (λH=>IP H l.fa F (v.ch (c1.nil (TN i)) (AZ i)) u Q) λg2 w2 G R U a d m=>?_;have hn:=a.ae.num;refine qR [] 15 [11,0,2,2,4,6,0,8,1,10,12,14,16,3,18,20] λs4 g4 w4 c=>?_;by_cases A:l.au<(p.gC l.fa).ae.length
 .refine qI ((decide ((l.au:Int)<(G.ae.n:Int)))) true (I' (by omega)) (qR [] 3 [1] λs5 M Y o=>?_);rw[show p.take l=(p.gC l.fa).wait (.tell l.src l.au)from by unfold Nod.take;rw[D];exact if_pos A];refine Ae λK=>?_;obtain⟨Z,z2⟩:=K.mM 1 (k 0) (.cells #[pt nb 0] 89) false (by kernel_rfl);obtain⟨z3,z4⟩:=K.mM 2 (k 1) (.cells #[pt j 0] 159) false (by kernel_rfl);have I:NS i nb ob M Y (p.gC l.fa) ls ts:=(nsC a d (c.n o) K);refine qS0 2 [true,true,true,false,false] (AI I (by rw[VM];exact N) _ _ (.tell l.src l.au) ⟨(k 0),(k 1),j,l,rfl,⟨Z,z2⟩,⟨z3,z4⟩,q.ch ((((c1.nil (TN i)).trans (m)).n c).n o) (AZ i),rfl,rfl⟩) λg6 w6 x6 S V s t J=>qR [] 1 [] λs8 g8 w8 y=>qF s t y ((((((c1.nil (TN i)).trans (m)).n c).n o).trans (J)).n y)
 .refine qI ((decide ((l.au:Int)<(G.ae.n:Int)))) false (D' (by omega)) (qR [] 1 [] λT L X b=>qE (.tuple #[]) λK=>?_);rw[show p.take l=(p.gC l.fa)from by unfold Nod.take;rw[D];exact if_neg A];exact⟨_,rfl,(nsC a d (c.n b) K),((((c1.nil (TN i)).trans (m)).n c).n b)⟩
theorem J9(h:NS i nb ob g w p ls ts)(hB:Base w0 g w)(hT:Tabs w0)(I:Nat)(l:Let)(hl:Cj g w I l)(Y:l.kind=1)(hs:l.src<5)(hb:(p.hZ 0 l.fa).ae.length<=40)(b1:l.fa.length<=40)(X:(p.bw.br l.src).vs.length<100000000) :
  Calls prog 54 #[pt nb 0,pt I 0] w (NP i nb ob g w (.tuple #[]) (p.take l) ls ts):=by
 obtain⟨H,src,q,b,cn,a,c,fa⟩:=l;simp only at Y hs hb b1 X;obtain⟨x,lt,tl,hN,hO,hg⟩:=h;refine gI (fn:=f54) (TN i) g func54 hg (qN hN (qO hO ?_));obtain⟨vs,wh,Z,b2,a0⟩:=hl;obtain⟨wa,wn,wc⟩:=wh;obtain rfl:wn=fa.length:=a0.len;have d7:p.ae.length<=40:=iy (by unfold Nod.hZ;rw[G'];omega) hb;refine BJ ⟨I,.cells (EN (Let.mk H src q b cn a c fa) vs (S3.mk wa fa.length wc)) 158,.z,false⟩ (λ_=>⟨Z.r,Z.z,λh=>(by cases h),λh=>absurd rfl h⟩) (by kernel_rfl) ?_;refine qR [] 7 [2] λs1 g1 w1 c1=>qS 5 [false,false,true] hN hO c1 (λN2=>My N2 0 fa (S3.mk wa fa.length wc) (a0.ch (c1.nil (TN i)) (AZ i)) (by omega) (by omega) (by omega)) λg2 w2 x2 b3 b4 s t D=>?_;by_cases h1:(p.hZ 0 fa).leads=false
 .refine qR [] 5 [29,0] λs4 g4 w4 c4=>Ae λK=>?_;have N6:NS i nb ob g4 w4 (p.hZ 0 fa) ls ts:=(nsC s t c4 K);refine qC 1 (E4 N6 h1) ?_;rintro e' w7 ⟨rfl,b7⟩;refine⟨_,rfl,b7,?_⟩;have c7:=Cg.bu (B:=w.heap.size) (T:=[]) (g:=g4) b7;refine qR [] 29 [4,6,8,10,12,14,16,18,20,22,24,26,28,30,32,34,36,38,40,42,44,46,48,50,52,54,56] λs8 g8 w8 c8=>qE (.tuple #[]) λK=>?_;rw[show p.take (Let.mk H src q b cn a c fa)=(p.hZ 0 fa)from by unfold Nod.take;rw[Y];exact if_pos (.inl h1)];exact⟨_,rfl,(nsC s t ((c4.n c7).n c8) K),(((((c1.nil (TN i)).trans (D)).n c4).n c7).n c8)⟩
 .have h10:(p.hZ 0 fa).leads=true:=by simpa using h1
  refine qR [] 5 [29,0] λd8 R b5 d=>Ae λK=>?_;have a2:NS i nb ob R b5 (p.hZ 0 fa) ls ts:=(nsC s t d K);refine qC 1 (E4 a2 h10) ?_;rintro e' e8 ⟨rfl,N⟩;refine⟨_,rfl,N,?_⟩;have j:=Cg.bu (B:=w.heap.size) (T:=[]) (g:=R) N;refine qR [] 12 [4,6,8,10,12,14,0,16,18,20,22,24,26,1] λd9 c5 e9 k=>?_;by_cases h2:b≠(p.hZ 0 fa).bw.lr
  .refine qT 14 (.bool true) (λ_=>(Hv (x:=(.tmp 17)) (y:=(.tmp 23)) b (p.hZ 0 fa).bw.lr h2)) (qR [] 16 [30,32,34,36,38,40,42,44,46,48,50,52,54,56] λe0 c6 f0 O=>qE (.tuple #[]) λK=>?_);rw[show p.take (Let.mk H src q b cn a c fa)=(p.hZ 0 fa)from by unfold Nod.take;rw[Y];exact if_pos (.inr (.inl h2))];exact⟨_,rfl,(nsC s t (((d.n j).n k).n O) K),((((((c1.nil (TN i)).trans (D)).n d).n j).n k).n O)⟩
  .have h20:b=(p.hZ 0 fa).bw.lr:=by simpa using h2
   refine qT 14 (.bool false) (λ_=>(Hu (x:=(.tmp 17)) (y:=(.tmp 23)) b (p.hZ 0 fa).bw.lr h20)) (qR [] 11 [30,32,34,36,38,40,42,0,44,46,48,50] λe1 a8 b6 m=>BK 69 (λg' w' e L=>e=[(0,pt nb 0),(1,pt I 0),(38,.bool ((p.hZ 0 fa).bw.mC src))]/\L=[⟨I,.cells (EN (Let.mk H src q b cn a c fa) vs (S3.mk wa fa.length wc)) 158,.z,false⟩,⟨nb,.cells (Az i ob (p.hZ 0 fa) x2) 109,.n 0 i,false⟩,⟨ob,.cells #[S3.v b3,S3.v b4] 86,.n 50 0,false⟩]/\True/\Cg w.heap.size ([]:List Tg) a8 b6 g' w') (by kernel_rfl) ?_ ?_)
   .intro J hJ;rcases mj hs with rfl|rfl|rfl|rfl|rfl <;>
    (refine qR [] 4 [52,54,1,56] λe2 d0 f2 a5=>?_;exact qB [true,true,true] λz K0 K=>hJ _ _ _ z _ ⟨rfl,rfl,trivial,(a5.nil ([]:List Tg))⟩ K)
   rintro c9 f1 _ g0 _ ⟨rfl,rfl,_,o⟩;by_cases h3:(p.hZ 0 fa).bw.mC src=true
   .refine qI (((p.hZ 0 fa).bw.mC src)) true h3 (qE (.tuple #[]) λK=>?_);rw[show p.take (Let.mk H src q b cn a c fa)=(p.hZ 0 fa)from by unfold Nod.take;rw[Y];exact if_pos (.inr (.inr h3))];exact⟨_,rfl,(nsC s t ((((d.n j).n k).n m).n o) K),(((((((c1.nil (TN i)).trans (D)).n d).n j).n k).n m).n o)⟩
   .refine qI (((p.hZ 0 fa).bw.mC src)) false (by simpa using h3) (qR [] 15 [12,0,2,4,6,8,10,12,14,0,16,18,20,22,0] λe3 d1 f3 u=>qS 12 [true,false,false] s t (((((d.n j).n k).n m).n o).n u) (λa3=>OL a3 (hB.ch ((((((((c1.nil (TN i)).trans (D)).n d).n j).n k).n m).n o).n u) (AZ i)) hT src hs a vs (b2.ch ((((((((c1.nil (TN i)).trans (D)).n d).n j).n k).n m).n o).n u) (AZ i)) X) λd2 f4 a1 A C S V P=>qR [] 17 [15,0,2,4,6,8,0,10,12,14,16,0,18,20,22,24,26] λe4 a9 b8 E=>BK 69 (λg' w' e L=>e=[(0,pt nb 0)]/\L=[⟨I,.cells (EN (Let.mk H src q b cn a c fa) vs (S3.mk wa fa.length wc)) 158,.z,false⟩,⟨nb,.cells (Az i ob ({ (p.hZ 0 fa)with bw:={ (p.hZ 0 fa).bw.mE src a with cF:=upN (p.hZ 0 fa).bw.cF src fa.length } }) a1) 109,.n 0 i,false⟩,⟨ob,.cells #[S3.v A,S3.v C] 86,.n 50 0,false⟩]/\True/\Cg w.heap.size ([.n 0 i]:List Tg) a9 b8 g' w') (by kernel_rfl) ?_ ?_)
    .intro J hJ;rcases mj hs with rfl|rfl|rfl|rfl|rfl <;>
     (refine qR [.n 0 i] 3 [28,31,1,1] λe5 d4 f6 a6=>?_;exact qB [true,true,true] λz K0 K=>hJ _ _ _ z _ ⟨rfl,rfl,trivial,a6⟩ K)
    rintro d3 f5 _ g3 _ ⟨rfl,rfl,_,F⟩;refine qR [] 2 [] λe6 b0 b9 G=>?_;rw[show p.take (Let.mk H src q b cn a c fa)=Nod.ml { (p.hZ 0 fa)with bw:={ (p.hZ 0 fa).bw.mE src a with cF:=upN (p.hZ 0 fa).bw.cF src fa.length } }from by unfold Nod.take;rw[Y];exact if_neg (by rintro(h|h|h);exact h1 h;exact h2 h;exact h3 h)];refine Ae λK=>?_;have M:=((E.nil ([.n 0 i]:List Tg)).trans (F)).n G;have a4:NS i nb ob b0 b9 ({ (p.hZ 0 fa)with bw:={ (p.hZ 0 fa).bw.mE src a with cF:=upN (p.hZ 0 fa).bw.cF src fa.length } }) ls ts:=⟨a1,A,C,K.ny 1 S M,V.ch M (hn:=by simp<;>omega),K.new⟩;refine qS0 1 [true,false,false] (Fi a4 (hB.ch ((((((((((((c1.nil (TN i)).trans (D)).n d).n j).n k).n m).n o).n u).trans (P)).n E).trans (F.mono (by simp[TN]))).n G) (AZ i)) hT hb) λd5 f7 f9 c0 c3 U W a7=>qR [] 1 [] λe7 d6 f8 Q=>qF U W Q ((((((((((((((c1.nil (TN i)).trans (D)).n d).n j).n k).n m).n o).n u).trans (P)).n E).trans (F.mono (by simp[TN]))).n G).trans (a7)).n Q)
def tkG:Nat->FuncId
 | 0=>53
 | 1=>54
 | 2=>55
 | 3=>56
 | 4=>57
 | 5=>58
 | _=>59
def tkV(k:Nat):Value:=.func (.func (tkG k)) #[] #[]
def tkL(j:Nat):List MapEntry:=(List.range j).map λ(k:Nat)=>{ key:=iv (k:Int),val:=tkV k,born:=k }
structure TkAt(g:Gh)(w:World)(b j:Nat):Prop where
 t:g.t b=.n 70 0
 k:g.k b=0
 row:w.heap[b]?=some (.map (tkL j).toArray j)
theorem TkAt.ch{B:Nat}{T:List Tg}{d:Gh}{e:World}(h:TkAt g w b j)(c:Cg B T g w d e)(hn:Tg.n 70 0∉T:=by simp):TkAt d e b j :=
 have a:=c.rc h.row h.t hn
 ⟨a.2.1,a.2.2.trans h.k,a.1⟩
theorem XI(h:k<7):k=0\/k=1\/k=2\/k=3\/k=4\/k=5\/k=6:=by omega
theorem PL(a:Bool)(k:Nat)(w:World):(Instr.checkKey a 10000 142 (iv (k:Int))).run prog w=.ok () w:=by kernel_rfl
theorem aS(h:j<7)(w:World):(Instr.findKey 142 (iv (j:Int)) (tkL j)).run prog w=.ok none w:=by
 rcases XI h with rfl|rfl|rfl|rfl|rfl|rfl|rfl<;>kernel_rfl
theorem aR(h:j<7)(w:World):(Instr.findKey 142 (iv (j:Int)) (tkL 7)).run prog w=.ok (some (j,tkV j)) w:=by
 rcases XI h with rfl|rfl|rfl|rfl|rfl|rfl|rfl<;>kernel_rfl
theorem ez(h:TkAt g w b j)(e:j<7):∃ w',(Instr.mapUpdate 87 (.map (some b)) (iv (j:Int)) (tkV j)).run prog w=.ok () w'/\TkAt g w' b (j+1)/\(∀ B T,Tg.n 70 0∈T->Cg B T g w g w')/\w'.heap.size=w.heap.size:=by
 have d:(getObj b).run prog w=.ok (.map (tkL j).toArray j) w:=by simp[getObj,Sem.run,h.row]
 have f:=MapKept.run_setObj_map (P:=prog) (w:=w) (.map (tkL (j+1)).toArray (j+1)) h.row;have c:((tkL j).toArray.push { key:=iv (j:Int),val:=tkV j,born:=j })=(tkL (j+1)).toArray:=by simp[tkL,List.range_succ]
 refine⟨_,?_,⟨h.t,h.k,ChangeMaps.heap_setBlock_same h.row (.map (tkL (j+1)).toArray (j+1))⟩,λB T a=>Cg.block h.row h.t h.k a _,by simp[ChangeMaps.setBlock]⟩;rw[Instr.mapUpdate];simp only[Sem.run_bind,run_underlying underlying87,Result.andThen_ok,d,PL,aS e,c,f];rfl
theorem rTk(a:w.heap[b]?=some (.map (tkL 7).toArray 7))(d:k<7):(Instr.lookup 87 (.map (some b)) (iv (k:Int)) false).run prog w=.ok (tkV k) w:=by
 have c:(getObj b).run prog w=.ok (.map (tkL 7).toArray 7) w:=by simp[getObj,Sem.run,a]
 simp[Instr.lookup,run_underlying underlying87,c,PL,aR d]
end
section
variable{fn:Func}{R:Ending->World->Prop}{B:Nat}{T:List Tg}{g:Gh}{w:World}
theorem fA{s:Xs}(d:Nat)(c:CP s d=some (Instr.makeMap 87 none>>=λv=>pure (.value v)))
  (e:(nxt s d undef s.L).o.map Ob.l'=(nxt s d undef s.L).o.map Ob.r')
  (p:∀ b g' w',w.heap.size<=b->TkAt g' w' b 0->(∀ B T,Cg B T g w g' w')->(∀ b,w'.heap.size<=b->g'.t b=.z/\g'.k b=0)->GG prog fn R B T (nxt s d (.map (some b)) s.L).s g' w'):GG prog fn R B T s g w:=by
 refine Jy d s.L e (Bz c) λl r j o f=>?_;have q:(Instr.makeMap 87 none).run prog w=.ok (.map (some w.heap.size)) (w.alloc (.map #[] 0)):=by
  simp[Instr.makeMap,go_sem]
 have h:∀ B T,Cg B T g w (Nn g w (.n 70 0) 0) (w.alloc (.map #[] 0)):=λB T =>
  ⟨rfl,rfl,rfl,by simp,λb a=>.inl (if_neg (by omega)),λb a=>by show _<=(if b=w.heap.size then _ else g.k b);rw[if_neg (by omega)];exact A' _,λb a _ _=>if_neg (by omega),λb a _ _=>heap_alloc_old w _ a,λb a j u=>World.cell?_of_block (w:=w) (heap_alloc_old w _ a)⟩
 have i:∀ b,(w.alloc (.map #[] 0)).heap.size<=b->(Nn g w (.n 70 0) 0).t b=.z/\(Nn g w (.n 70 0) 0).k b=0:=λb a=>by
  have m:w.heap.size+1<=b:=by simpa using a
  show(if b=w.heap.size then _ else g.t b)=.z/\(if b=w.heap.size then _ else g.k b)=0;rw[if_neg (by omega),if_neg (by omega)];exact l.new b (by omega)
 refine⟨.map (some w.heap.size),_,Nn g w (.n 70 0) 0,.inl ?_,l.ch (h _ []) i (by simp),p _ _ _ (A' _) ⟨if_pos rfl,if_pos rfl,heap_alloc_new _ _⟩ h i⟩;rw[CQ c f,Sem.run_bind,q,Result.andThen_ok];rfl
theorem GC{s:Xs}(c:Nat){b j:Nat}(h:TkAt g w b j)(u:j<7)(a:CP s c=some (Instr.mapUpdate 87 (.map (some b)) (iv (j:Int)) (tkV j)>>=λ_=>pure .skip))
  (d:(nxt s c undef s.L).o.map Ob.l'=(nxt s c undef s.L).o.map Ob.r')(r:s.L.all (λy=>[Tg.n 70 0].all λt=>y.t.ne t)=true)
  (v:∀ w',TkAt g w' b (j+1)->(∀ B T,Tg.n 70 0∈T->Cg B T g w g w')->GG prog fn R B T (nxt s c undef s.L).s g w'):GG prog fn R B T s g w:=by
 refine Jy c s.L d (Bz a) λk A i o e=>?_;obtain⟨w',x,p,f,q⟩:=ez h u;refine⟨undef,w',g,.inr ⟨?_,rfl⟩,k.ch (f _ [Tg.n 70 0] (N'.2 rfl)) (λb m=>k.new b (by rw[q]at m;exact m)) r,v w' p f⟩;rw[CQ a e,Sem.run_bind,x,Result.andThen_ok];rfl
end
def TM:List Tg:=[0,1,2,3,4].flatMap TN
theorem EE:Tg.z∉TM:=by simp[TM,TN]
theorem eM{i:Nat}(a:i<5):∀ t∈TN i,t∈TM:=λt b=>km.2 ⟨i,by rcases mj a with rfl|rfl|rfl|rfl|rfl<;>simp,b⟩
theorem eN{i j r:Nat}(h:j≠i)(a:r<6):Tg.n r j∉TN i:=by simp[TN];omega
def mtA(nb:Nat->Nat)(ob tb:Nat):Array Value:=#[pt (nb 0) 0,pt (nb 1) 0,pt (nb 2) 0,pt (nb 3) 0,pt (nb 4) 0,pt ob 0,.map (some tb)]
structure MS(mb tb ob:Nat)(nb:Nat->Nat)(g:Gh)(w:World)(M:Meet):Prop where
 box:Box g w mb (mtA nb ob tb) 92
 tk:TkAt g w tb 7
 af:∀ i,i<5->∃ x,NodeAt g w i (nb i) ob x (M.af i)
 out:∃ lt tl,OutAt g w ob lt tl M.bN M.ed
 new:Il g w
def MP(mb tb ob:Nat)(nb:Nat->Nat)(g:Gh)(w:World)(v:Value)(M:Meet):Ending->World->Prop:=λe w'=>∃ g',e=.returned v/\MS mb tb ob nb g' w' M/\Cg w.heap.size TM g w g' w'
section
variable{mb tb ob i:Nat}{nb:Nat->Nat}{g g':Gh}{w w':World}{M:Meet}
section
theorem MS.ns(h:MS mb tb ob nb g w M)(a:i<5):NS i (nb i) ob g w (M.af i) M.bN M.ed :=
 let ⟨x,hx⟩:=h.af i a
 let ⟨lt,tl,ho⟩:=h.out
 ⟨x,lt,tl,hx,ho,h.new⟩
variable{B:Nat}{ls:List Let}{p:Nod}{ts:List Tol}
theorem MS.mr(h:MS mb tb ob nb g w M)(c:Cg B [] g w g' w')(b:Il g' w'):MS mb tb ob nb g' w' M :=
 ⟨h.box.ch c,h.tk.ch c,λi a=>let ⟨x,hx⟩:=h.af i a;⟨x,hx.ch c⟩,let ⟨lt,tl,ho⟩:=h.out;⟨lt,tl,ho.ch c⟩,b⟩
theorem MS.of(h:MS mb tb ob nb g w M)(n:i<5)(k:NS i (nb i) ob g' w' p ls ts)(c:Cg B (TN i) g w g' w'):MS mb tb ob nb g' w' ⟨upN M.af i p,ls,ts⟩:=by
 obtain⟨x,lt,m,a,b,d⟩:=k;refine⟨h.box.ch c (AZ i),h.tk.ch c (by simp[TN]),λj f=>?_,⟨lt,m,b⟩,d⟩;by_cases e:j=i
 .subst e;exact⟨x,by show NodeAt g' w' j (nb j) ob x (upN M.af j p j);rw[Yi];exact a⟩
 .obtain⟨y,hy⟩:=h.af j f;exact⟨y,by show NodeAt g' w' j (nb j) ob y (upN M.af i p j);rw[eA _ _ e];exact hy.ch c (AZ i) λr l=>eN e l⟩
theorem MS.call(h:MS mb tb ob nb g w M)(b:i<5){f:FuncId}{a:Array Value}{v:Value}(j:Calls prog f a w (NP i (nb i) ob g w v p ls ts)):Calls prog f a w (MP mb tb ob nb g w v ⟨upN M.af i p,ls,ts⟩) :=
 j.mono λe m ⟨d,k,l,c⟩=>⟨d,k,h.of b l c,c.mono (eM b)⟩
theorem S7{W:World}(b:W.heap[mb]?=some (.cells (mtA nb ob tb) 92)){j:Nat}(a:j<5):W.cell? ⟨mb,j,none⟩=some (pt (nb j) 0):=by
 rcases mj a with rfl|rfl|rfl|rfl|rfl<;>(rw[cell_of_row _ _ _ _ _ _ b];rfl)
end
end
end Go.Proofs.YtdjfdfpkkenjbaaGreatDoor
