/- Part 5 of the walk. -/
import Derived.Test.YtcjcngceghfoeaaGreatDoorZ4
set_option maxRecDepth 100000
set_option maxHeartbeats 4000000
open Go.Proofs.Tryz
set_option linter.unusedVariables false
namespace Go.Proofs.YtcjcngceghfoeaaGreatDoor
open Go.RowKit
section
theorem Yc(u v:Vt)(w:World):(Op.equal 156 (.agg (vtA u)) (.agg (vtA v))).run prog w=.ok (decide (u=v)) w:=by
 have a:=Ya u.bu u.b.r u.b.n u.w.k u.w.c u.w.s u.w.n u.w.v v.bu v.b.r v.b.n v.w.k v.w.c v.w.s v.w.n v.w.v w;have d:decide (u.bu=v.bu/\u.b.r=v.b.r/\u.b.n=v.b.n/\u.w.k=v.w.k/\u.w.c=v.w.c/\u.w.s=v.w.s/\u.w.n=v.w.n/\u.w.v=v.w.v)=decide (u=v):=by
  apply nC.2;constructor
  .rintro⟨a1,a2,a3,a4,a5,a6,a7,a8⟩;exact(Vt.eq_iff u v).1 ⟨a1,(Bal.eq_iff _ _).1 ⟨a2,a3⟩,(Cmd.eq_iff _ _).1 ⟨a4,a5,a6,a7,a8⟩⟩
  .rintro rfl;exact⟨rfl,rfl,rfl,rfl,rfl,rfl,rfl,rfl⟩
 rw[d]at a
 rw[run_eql_struct]at a
 show(Op.equalIn 10000 _ _ _).run _ _=_;simp only[vtA,vtC];cases hr:(Op.equalIn 10000 156 (.agg #[.int .i64 u.bu,.int .i64 u.b.r,.int .i64 u.b.n,.int .i64 u.w.k,.int .i64 u.w.c,.int .i64 u.w.s,.int .i64 u.w.n,.int .i64 u.w.v]) (.agg #[.int .i64 v.bu,.int .i64 v.b.r,.int .i64 v.b.n,.int .i64 v.w.k,.int .i64 v.w.c,.int .i64 v.w.s,.int .i64 v.w.n,.int .i64 v.w.v])).run prog w with
 | ok b w'=>rw[hr]at a;simp[Result.andThen]at a;rw[a.1,a.2]
 | _=>rw[hr]at a;simp[Result.andThen]at a
abbrev Cnt:=Vt × Nat × Nat
def mkE(x:Cnt):MapEntry:={ key:=.agg (vtA x.1),val:=.int .i64 (x.2.1:Int),born:=x.2.2 }
def Lr(v:Vt):List Cnt->Nat->Option (Nat × Value)
 | [],_=>none
 | x::c,i=>if v=x.1 then some (i,.int .i64 (x.2.1:Int))else Lr v c (i+1)
theorem Nq(v:Vt)(w:World):∀ (c:List Cnt) (i:Nat),(Instr.findAsking 156 (.agg (vtA v)) (c.map mkE) i).run prog w=.ok (Lr v c i) w
 | [],i=>by simp[Instr.findAsking,Lr]
 | x::c,i=>by
  have h:=Yc v x.1 w;rw[m9,Instr.findAsking,Sem.run_bind];show((Op.equal 156 (.agg (vtA v)) (.agg (vtA x.1))).run _ w).andThen _=_;rw[h,Result.andThen_ok,Lr];by_cases e:v=x.1
  .rw[M' e,if_pos e];simp[mkE]
  .rw[E' e,if_neg e];simpa using Nq v w c (i+1)
theorem KB(v:Vt)(w:World)(c:List Cnt):(Instr.findKey 156 (.agg (vtA v)) (c.map mkE)).run prog w=.ok (Lr v c 0) w:=by
 rw[Instr.findKey,Sem.run_bind,run_underlying underlying156 w,Result.andThen_ok];cases c with
 | nil=>simp[Instr.findNow,Lr]
 | cons x c =>
  show Sem.run _ (match(none:Option (Option (Nat × Value)))with|some r=>pure r|none=>Instr.findAsking 156 (.agg (vtA v)) ((x::c).map mkE)) w=_;exact Nq v w (x::c) 0
theorem Iq(a:Bool)(v:Vt)(w:World):(Instr.checkKey a 10000 156 (.agg (vtA v))).run prog w=.ok () w:=by
 obtain⟨s,⟨r,n⟩,⟨k,c,q,m,x⟩⟩:=v;kernel_rfl
def DJ(c:List Cnt)(v:Vt):Nat:=match c.find? (λx=>decide (v=x.1))with|some x=>x.2.1|none=>0
theorem Ls(v:Vt):∀ (c:List Cnt) (i:Nat),(Lr v c i=none/\DJ c v=0/\∀ x∈c,v≠x.1)\/∃ a x b,c=a++x::b/\x.1=v/\(∀ y∈a,v≠y.1)/\Lr v c i=some (i+a.length,.int .i64 (x.2.1:Int))/\DJ c v=x.2.1
 | [],i=>.inl ⟨rfl,rfl,λx hx=>by cases hx⟩
 | x::c,i=>by
  by_cases e:v=x.1
  .refine .inr ⟨[],x,c,rfl,e.symm,λy hy=>(Q' hy).elim,?_,?_⟩
   .rw[Lr,if_pos e];simp
   .simp[DJ,e]
  .rcases Ls v c (i+1)with⟨h1,h2,h3⟩|⟨a,y,b,rfl,hy,h3,h4,h5⟩
   .refine .inl ⟨by rw[Lr,if_neg e,h1],?_,λy hy=>?_⟩
    .rw[<- h2];simp[DJ,e]
    .rcases mG.1 hy with rfl|hy
     .exact e
     .exact h3 y hy
   .refine .inr ⟨x::a,y,b,rfl,hy,λz hz=>?_,?_,?_⟩
    .rcases mG.1 hz with rfl|hz
     .exact e
     .exact h3 z hz
    .rw[Lr,if_neg e,h4];simp;omega
    .rw[<- h5];simp[DJ,e]
structure CMap(w:World)(b:Nat)(c:List Cnt):Prop where
 ex:∃ clock,w.heap[b]?=some (.map (c.map mkE).toArray clock)/\∀ x∈c,x.2.2<clock
 ui:c.Pairwise λx y=>x.2.2≠y.2.2
variable{a c d:List Cnt}{b born k n:Nat}{es:Array MapEntry}{v:Vt}{w w':World}
theorem CMap.lt(h:CMap w b c):b<w.heap.size:=by
 obtain⟨⟨k,a,_⟩,_⟩:=h;exact(U'.1 a).1
theorem CMap.qX(h:CMap w b c)(f:w'.heap[b]?=w.heap[b]?):CMap w' b c:=by
 obtain⟨⟨k,a,d⟩,e⟩:=h;exact⟨⟨k,f.trans a,d⟩,e⟩
theorem CMap.af(h:CMap w b c)(a:Bw w w'):CMap w' b c:=h.qX (a.block b h.lt)
theorem CMap.made(w:World):CMap (w.alloc (.map #[] 0)) w.heap.size []:=⟨⟨0,heap_alloc_new _ _,λx a=>by cases a⟩,List.Pairwise.nil⟩
theorem lG(w:World):(zeroValue 3).run prog w=.ok (.int .i64 0) w:=by kernel_rfl
theorem CMap.look(h:CMap w b c)(v:Vt):(Instr.lookup 273 (.map (some b)) (.agg (vtA v)) false).run prog w=.ok (.int .i64 (DJ c v:Int)) w:=by
 obtain⟨⟨k,f,_⟩,_⟩:=h;have e:(getObj b).run prog w=.ok (.map (c.map mkE).toArray k) w:=by simp[getObj,Sem.run,f]
 rcases Ls v c 0 with⟨h1,h2,_⟩|⟨a,x,d,_,_,_,h1,h2⟩
 .simp[Instr.lookup,run_underlying underlying273,e,Iq,KB,h1,h2]
 .simp[Instr.lookup,run_underlying underlying273,e,Iq,KB,h1,h2]
theorem ez(v:Vt)(n:Nat):Instr.sameBits (n+1) (.agg (vtA v)) (.agg (vtA v))=true:=by
 simp[Instr.sameBits,vtA,vtC]
theorem aq(v:Vt)(w:World):(Instr.keyThatStays (.agg (vtA v)) (.agg (vtA v))).run prog w=.ok (.agg (vtA v)) w:=by
 rw[Instr.keyThatStays,if_pos (ez v 9999)];rfl
theorem Vm{u:Vt}{m:Nat}(b:∀ y∈a,v≠y.1):DJ (a++(v,m,born)::d) u=if u=v then m else DJ (a++(v,n,born)::d) u:=by
 unfold DJ;rw[nV,nV,oZ,oZ];by_cases e:u=v
 .subst e;have c:a.find? (λx=>decide (u=x.1))=none:=by
   rw[nK];intro y f;simp[b y f]
  rw[c];simp
 .rw[if_neg e];simp[e]
theorem Jv(a:w.heap[b]?=some (.map es k))(o:Obj):Below b w (ChangeMaps.setBlock w b o) :=
 ⟨rfl,rfl,rfl,by simp[ChangeMaps.setBlock],λi c=>ChangeMaps.heap_setBlock_other a o (by omega)⟩
theorem Jw(a:w.heap[b]?=some (.map es k))(o:Obj)(i:Nat)(h:i≠b):(ChangeMaps.setBlock w b o).heap[i]?=w.heap[i]?:=ChangeMaps.heap_setBlock_other a o h
theorem CMap.entry(h:CMap w b c)(v:Vt):∃ (a d:List Cnt) (born:Nat) (w':World),(Instr.mapEntry 273 (.map (some b)) (.agg (vtA v))).run prog w=.ok (.tuple #[.int .i64 (DJ c v:Int),.int .i64 (born:Int)]) w'/\CMap w' b (a++(v,DJ c v,born)::d)/\(∀ y∈a,v≠y.1)/\(∀ u,DJ (a++(v,DJ c v,born)::d) u=DJ c u)/\Below b w w'/\∀ i,i≠b->w'.heap[i]?=w.heap[i]?:=by
 obtain⟨⟨k,f,j⟩,m⟩:=h;have n:(getObj b).run prog w=.ok (.map (c.map mkE).toArray k) w:=by simp[getObj,Sem.run,f]
 rcases Ls v c 0 with⟨h1,h2,h3⟩|⟨a,x,d,rfl,rfl,h3,h1,h2⟩
 .refine⟨c,[],k,ChangeMaps.setBlock w b (.map ((c++[(v,0,k)]).map mkE).toArray (k+1)),?_,⟨⟨k+1,?_,?_⟩,?_⟩,h3,?_,Jv f _,Jw f _⟩
  .have hs:=MapKept.run_setObj_map (P:=prog) (w:=w) (.map ((c++[(v,0,k)]).map mkE).toArray (k+1)) f;have g:((c.map mkE).toArray.push { key:=.agg (vtA v),val:=.int .i64 0,born:=k })=((c++[(v,0,k)]).map mkE).toArray:=by simp[mkE]
   rw[Instr.mapEntry];simp only[Sem.run_bind,run_underlying underlying273,Result.andThen_ok,n,Iq,KB,h1,h2,lG,g,hs];rfl
  .rw[h2];exact ChangeMaps.heap_setBlock_same f _
  .intro y hy;rcases P'.1 hy with hy|hy
   .have:=j y hy;omega
   .obtain rfl:y=(v,DJ c v,k):=by simpa using hy
    show k<k+1;omega
  .rw[oE];refine⟨m,pB _ _,λy hy z p=>?_⟩;obtain rfl:z=(v,DJ c v,k):=by simpa using p
   have:=j y hy;show y.2.2≠k;omega
  .intro u;rw[h2];unfold DJ;rw[nV];cases hf:c.find? (λx=>decide (u=x.1))with
   | some y=>rfl
   | none =>
    by_cases e:u=v
    .subst e;simp
    .simp[e]
 .refine⟨a,d,x.2.2,ChangeMaps.setBlock w b (.map ((a++x::d).map mkE).toArray k),?_,⟨⟨k,?_,?_⟩,?_⟩,h3,?_,Jv f _,Jw f _⟩
  .have hs:=MapKept.run_setObj_map (P:=prog) (w:=w) (.map ((a++x::d).map mkE).toArray k) f;have o:((a++x::d).map mkE).toArray[a.length]?=some (mkE x):=by simp
   have g:(((a++x::d).map mkE).toArray.modify a.length λe=>{ e with key:=.agg (vtA x.1) })=((a++x::d).map mkE).toArray:=by
    apply n8;intro i;rw[o0];split
    .rename_i hi
     subst hi;rw[o];rfl
    .rfl
   have l:=aq x.1 w;rw[Instr.mapEntry];simp only[Sem.run_bind,run_underlying underlying273,Result.andThen_ok,n,Iq,KB,h1,na,o,nm,pU];rw[show(mkE x).key=.agg (vtA x.1)from rfl,l,Result.andThen_ok,g,hs];simp[goInt,ChangeMaps.setBlock,h2,mkE]
  .rw[h2];exact ChangeMaps.heap_setBlock_same f _
  .rw[h2];exact j
  .rw[h2];exact m
  .intro u;rw[h2]
theorem CMap.store(h:CMap w b (a++(v,n,born)::d))(m:Nat):∃ w',(Instr.entryStore 273 (.map (some b)) (.int .i64 (born:Int)) (.int .i64 (m:Int))).run prog w=.ok () w'/\CMap w' b (a++(v,m,born)::d)/\Below b w w'/\∀ i,i≠b->w'.heap[i]?=w.heap[i]?:=by
 obtain⟨⟨k,f,l⟩,c⟩:=h;have r:(getObj b).run prog w=.ok (.map ((a++(v,n,born)::d).map mkE).toArray k) w:=by simp[getObj,Sem.run,f]
 refine⟨ChangeMaps.setBlock w b (.map ((a++(v,m,born)::d).map mkE).toArray k),?_,⟨⟨k,ChangeMaps.heap_setBlock_same f _,?_⟩,?_⟩,Jv f _,Jw f _⟩
 .have hs:=MapKept.run_setObj_map (P:=prog) (w:=w) (.map ((a++(v,m,born)::d).map mkE).toArray k) f;have p:((a++(v,n,born)::d).map mkE).toArray.findIdx? (λe=>(e.born:Int)==(born:Int))=some a.length:=by
   rw[List.findIdx?_toArray,mS,List.findIdx?_append];have o:(a.map mkE).findIdx? (λe=>(e.born:Int)==(born:Int))=none:=by
    rw[List.findIdx?_eq_none_iff];intro e j;obtain⟨y,hy,rfl⟩:=mQ.1 j;have:=(oE.1 c).2.2 y hy (v,n,born) (by simp);simp[mkE];intro g;exact this (show y.2.2=born by omega)
   rw[o,m9,List.findIdx?_cons];simp[mkE]
  have j:(((a++(v,n,born)::d).map mkE).toArray.modify a.length λe=>{ e with val:=.int .i64 (m:Int) })=((a++(v,m,born)::d).map mkE).toArray:=by
   apply n8;intro i;rw[o0];split
   .rename_i hi
    subst hi;simp[mkE]
   .rename_i hi
    simp only[nu,mS,m9];rcases nt i a.length with g|g
    .rw[mK (by simpa using g),mK (by simpa using g)]
    .rw[mM (by simpa using g),mM (by simpa using g)];obtain⟨q,s⟩:∃ q,i-(a.map mkE).length=q+1:=⟨i-a.length-1,by simp;omega⟩;rw[s];rfl
  rw[Instr.entryStore];simp only[Sem.run_bind,r,Result.andThen_ok,asInt,asIntOf,Sem.run_pure,p,j,hs];rfl
 .intro y hy;rcases P'.1 hy with hy|hy
  .exact l y (mD _ hy)
  .rcases mG.1 hy with rfl|hy
   .exact l (v,n,born) (by simp)
   .exact l y (mB _ (I' _ hy))
 .rw[oE,List.pairwise_cons]at c ⊢
  refine⟨c.1,⟨λy hy=>c.2.1.1 y hy,c.2.1.2⟩,λy hy z hz=>?_⟩;rcases mG.1 hz with rfl|hz
  .exact c.2.2 y hy (v,n,born) (by simp)
  .exact c.2.2 y hy z (I' _ hz)
end
section
variable{P:Program}{md:Region.Mode}{ops:Array Oper}{Q:Exit->Act->World->Prop}{S:World->Prop}
section
variable{K:Act->World->Prop}{a:Act}{d i:Nat}{o:Oper}{w w':World}
theorem Ze(k:ops[i]?=some o)(l:Region.wanted o (yielded ops a.tmps)=true)(g:o.dst=some d)(t:TypeId)(m x:Operand)(c:o.op=.lookup t m x false)(e f v:Value)(j:a.eval m=e)(n:a.eval x=f)(b:(Instr.lookup t e f false).run P w=.ok v w)(h:K (a.put (some d) v) w):wpOp P ops Q i K a w :=
 Zf k l g (by unfold execOp;simp only[c,j,n,Sem.run_bind,b,Result.andThen_ok,Sem.run_pure]) h
theorem Ux(k:ops[i]?=some o)(l:Region.wanted o (yielded ops a.tmps)=true)(g:o.dst=some d)(t:TypeId)(m x:Operand)(c:o.op=.mapEntry t m x)(e f v:Value)(j:a.eval m=e)(n:a.eval x=f)(b:(Instr.mapEntry t e f).run P w=.ok v w')(h:K (a.put (some d) v) w'):wpOp P ops Q i K a w :=
 Zf k l g (by unfold execOp;simp only[c,j,n,Sem.run_bind,b,Result.andThen_ok,Sem.run_pure]) h
theorem Q7(l:ops[i]?=some o)(n:Region.wanted o (yielded ops a.tmps)=true)(j:o.dst=none)(t:TypeId)(m x y:Operand)(c:o.op=.entryStore t m x y)(d e f:Value)(k:a.eval m=d)(p:a.eval x=e)(q:a.eval y=f)(b:(Instr.entryStore t d e f).run P w=.ok () w')(h:K a w'):wpOp P ops Q i K a w :=
 wpOp_step l λr g=>by
  rw[if_pos n];unfold Oper.wp execOp;simp only[c,k,p,q,Sem.run_bind,b,Result.andThen_ok,Sem.run_pure];exact g _ _ (by rw[j];exact h)
end
end
section
variable{W w:World}{a:Act}{ac:List Acc}{b i j k m nb ob:Nat}{g:Gh}{l:List Vt}{ls:List Let}{ops:Array Oper}{p:Nod}{s:Int}{ts:List Tol}{x:NX}
theorem O2{S:World->Prop}{op:Oper}(d:Region.wanted op (yielded ops a.tmps)=true)(x:Operand)(c:op.op=.binOp .add 3 x (.const (.int .i64 1)) 3)(n m:Nat)(e:a.eval x=.int .i64 (n:Int))(g:m=n+1)(f:n<=1000) :
  YieldsIf prog ops S op (.int .i64 (m:Int)) a :=
 .inl ⟨d,λw _=>by
  have b:a.eval (.const (.int .i64 1))=.int .i64 1:=rfl;unfold execOp;simp only[c,e,b];simp[go_sem];rw[IntKind.wrap_i64];omega⟩
theorem Zj{P:Program}{d:Nat}{K:Act->World->Prop}{Q:Exit->Act->World->Prop}(R:Nat->World->Prop){A:Nat->Act}(c:∀ K':Act->World->Prop,Hid (∀ x W2,R x W2->K' (A x) W2)->(Code.region d ops true).wp P (Exit.then K' Q) a w)(b:∀ x W2,R x W2->K (A x) W2):(Code.region d ops true).wp P (Exit.then K Q) a w:=c K b
def I6(l:List Vt)(m:Nat):Cmd:=((Ha l m).map (·.w)).getD ⟨0,0,0,0,0⟩
def I7(l:List Vt)(m:Nat):Int:=if(Ha l m).isSome then 0 else 9
theorem Jo{v:Vt}(h:Ha l m=some v):I6 l m=v.w/\I7 l m=0:=by unfold I6 I7;rw[h];exact⟨rfl,rfl⟩
theorem Jn(h:Ha l m=none):I6 l m=⟨0,0,0,0,0⟩/\I7 l m=9:=by unfold I6 I7;rw[h];exact⟨rfl,rfl⟩
theorem bR:(prog.info? 51).map (·.size)=some 5:=by kernel_rfl
theorem j4:(prog.info? 99).map (·.size)=some 3:=by kernel_rfl
theorem Q5(l:List Vt)(u v:Vt):BJ (l++[u]) v=if v=u then BJ l v+1 else BJ l v:=by
 unfold BJ;rw[pD];by_cases e:v=u
 .subst e;simp
 .rw[if_neg e];simp;exact λg=>e g.symm
theorem YV(x:Value)(ac:List Acc)(s:Int)(w:World)(h:Sac w x ac)(P:ac.length<=5)(a4:∀ a∈ac,Ag a) :
  Calls prog 165 #[x,.int .i64 s] w λe w'=>e=.returned (.tuple #[.agg (cmC (I6 (Dz ac s) ac.length)),.int .i64 (I7 (Dz ac s) ac.length)])/\Bw w w':=by
 have a0:Hid (∀ a∈ac,Ag a):=a4;clear a4;obtain⟨ax,cp,rfl⟩:=h.shape;obtain⟨N,hN⟩:∃ N,ac.length=N:=⟨_,rfl⟩;have HN:Hid (ac.length=N):=hN;rw[hN]at h P ⊢
 clear hN;have f8:(zV5:Array Value).all (·.oneCell')=true:=by simp[Value.oneCell']
 have rr:=heap_alloc_new w (.cells zV5 51);have bb:Bw w (w.alloc (.cells zV5 51)):=(Below.refl _ _).alloc (A' _) _;have z0:(w.alloc (.cells zV5 51)).heap.size=w.heap.size+1:=by simp
 generalize e6:w.alloc (.cells zV5 51)=w1 at rr bb z0;have h0:=h.af bb;clear h;have b0:Below (w.heap.size+1) w1 (w1.alloc (.map #[] 0)):=(Below.refl _ _).alloc (by omega) _;have v0:CMap (w1.alloc (.map #[] 0)) (w.heap.size+1) []:=by rw[<- z0];exact CMap.made _
 generalize e8:w1.alloc (.map #[] 0)=WA at b0 v0;have f4:=@run_makeMap prog;go_enter func165,ntmps165
 go_wp2_with fail
 clear e8 e6 f4;have b7:w.heap.size<w.heap.size+1:=by omega
 generalize hB:w.heap.size+1=B at b0 v0 z0 b7 ⊢;have HB:Hid (B=w1.heap.size):=z0.symm;clear hB z0
 go_loopw [14] (λiv wr=>∃ (j:Nat) (c:List Cnt),j<=N/\iv=.int .i64 (j:Int)/\CMap wr B c/\(∀ v,DJ c v=BJ (Ae ((ac.take j).map (·.vs)).flatten s) v)/\(∀ v,2*BJ (Ae ((ac.take j).map (·.vs)).flatten s) v<=N)/\Below B w1 wr) (λiv _=>((N:Int)-intOf iv).toNat)
 case atStart=>exact⟨0,[],by omega,rfl,v0,λv=>rfl,λv=>by simp[BJ,Ae],b0⟩
 case round =>
  clear v0 b0;obtain⟨j,c,hj,rfl,b3,a1,c8,E⟩:=hrel;have HC:Hid (∀ v,DJ c v=BJ (Ae ((ac.take j).map (·.vs)).flatten s) v):=a1;have HL:Hid (∀ v,2*BJ (Ae ((ac.take j).map (·.vs)).flatten s) v<=N):=c8;clear a1 c8;by_cases f3:j<N
  .have hji:(j:Int)<(N:Int):=by omega
   obtain⟨A,hA⟩:∃ A,ac[j]?=some A:=⟨_,G' (by have:=HN.out;omega)⟩;obtain⟨b,e0,y,rfl,g0,d2,R⟩:=h0.spot j A hA;have d0:Ag A:=a0.out A (nA.2 ⟨j,hA⟩);obtain⟨⟨pr,pn⟩,l⟩:=A;simp only at d2 R;have c7:=Ws b e0 N cp j f3;obtain⟨ay,cy,hy⟩:=R.shape;obtain⟨M,hM⟩:∃ M,l.length=M:=⟨_,rfl⟩;have HM:Hid (l.length=M):=hM;rw[hM]at hy
   subst hy;have H:Hid (BL l):=d0.2.2;have HF:Hid (((ac.take (j+1)).map (·.vs)).flatten=((ac.take j).map (·.vs)).flatten++l):=T9 ac j _ hA;clear hA hM d0;have d3:=Td E (show b<B by rw[HB.out];exact g0) d2;have d4:=R.af (E.mono (by rw[HB.out];exact A' _));have F:Bw wr (wr.alloc (.cells #[.int .i64 0,.int .i64 0,.slice none 0 0] 99)):=(Below.refl _ _).alloc (A' _) _;have Z:=heap_alloc_new wr (.cells #[.int .i64 0,.int .i64 0,.slice none 0 0] 99);have d1:(#[.int .i64 pr,.int .i64 pn,.slice ay M cy]:Array Value).all (·.oneCell')=true:=by simp[Value.oneCell']
   generalize a7:wr.alloc (.cells #[.int .i64 0,.int .i64 0,.slice none 0 0] 99)=WN at F Z
   go_upto_region 5 with((with_reducible (refine CW ?_));first|(refine wpList_load_mid rfl 99 _ rfl b (e0+3*j) rfl [.int .i64 pr,.int .i64 pn,.slice ay M cy] _ d3 underlying99 rfl j4 ?_)|(refine wpList_store_row rfl 99 (.tmp 8) (.tmp 17) rfl wr.heap.size (#[.int .i64 pr,.int .i64 pn,.slice ay M cy]) rfl rfl 99 _ Z j4 rfl d1 ?_))
   clear a7;have q:=setRow_heap WN wr.heap.size _ (#[.int .i64 pr,.int .i64 pn,.slice ay M cy]) 99 _ Z;replace F:=EF F (A' _) (#[.int .i64 pr,.int .i64 pn,.slice ay M cy]);generalize WN.setRow wr.heap.size (#[.int .i64 pr,.int .i64 pn,.slice ay M cy])=W at q F ⊢;have Y:wr.heap.size<W.heap.size:=(U'.1 q).1;have O:=b3.af F;have d5:=E.size;have f9:B<wr.heap.size:=b3.lt;have eW:=E.trans (F.mono (by omega));have sW:=d4.af F;generalize wr.heap.size=G at q Y f9 ⊢;have c2:W.cell? ⟨G,2,none⟩=some (.slice ay M cy):=cell_of_row _ _ 2 _ _ _ q;clear Z d3 c7 F b3 d4 E d5;go_wp2_with fail
   refine(JQ _ l s W H.out sW).mono ?_;rintro e W2 ⟨p,rfl,hp,b2⟩;have HP:Hid (Plc l s p):=hp;have c2:=(b2.cell (p:=⟨G,2,none⟩) Y).trans c2;have V:=O.af b2;have s2:=sW.af b2;have e2:=eW.trans (b2.mono (by omega));have g2:G<W2.heap.size:=Z' Y b2.size;clear hp b2 O sW eW q Y;go_wp2_with fail
   refine(JI _ l p s W2 s2).mono ?_;rintro e T ⟨rfl,rfl⟩;generalize hh:Lw l p s=bh;cases bh
   .have HT:Hid (Ae ((ac.take (j+1)).map (·.vs)).flatten s=Ae ((ac.take j).map (·.vs)).flatten s):=by
     unfold Hid;rw[HF.out,DG,Plc.rP H.out HP.out (Lx hh),mT]
    clear hh;go_wp2
    go_roundw
    case rel=>exact⟨j+1,c,by omega,by go_num,V,by rw[HT.out];exact HC.out,by rw[HT.out];exact HL.out,e2⟩
    case measure=>simp[intOf];omega
   .obtain⟨u,hu,hus⟩:=NG hh;have HT:Hid (Ae ((ac.take (j+1)).map (·.vs)).flatten s=Ae ((ac.take j).map (·.vs)).flatten s++[u]):=by
     unfold Hid;rw[HF.out,DG,Plc.sc H.out hu hus]
    have f6:p<M:=by have:=(V'.1 hu).1;have:=HM.out;omega
    obtain⟨b4,o4,f0,d8,c0⟩:=s2.spot p u hu;subst f0;have f2:=Jt b4 o4 M cy p f6;have hi:=ZY u;have c6:DJ c u=BJ (Ae ((ac.take j).map (·.vs)).flatten s) u:=HC.out u;have f5:=HL.out u;obtain⟨n,X⟩:∃ n,BJ (Ae ((ac.take j).map (·.vs)).flatten s) u=n:=⟨_,rfl⟩;rw[X]at c6 f5
    have c3:Hid (BJ (Ae ((ac.take (j+1)).map (·.vs)).flatten s) u=n+1):=by unfold Hid;rw[HT.out,Q5,if_pos rfl,X]
    have a5:Hid (∀ v,BJ (Ae ((ac.take (j+1)).map (·.vs)).flatten s) v=if v=u then n+1 else BJ (Ae ((ac.take j).map (·.vs)).flatten s) v):=λv=>by
     rw[HT.out,Q5];split
     .rename_i g;rw[g,X]
     .rfl
    clear hu hus hh X HT;obtain⟨D,⟨C,z⟩,⟨k,f,o,m,r⟩⟩:=u;simp only[vtC]at c0 hi;have F:Bw T (T.alloc (.cells zV8 156)):=(Below.refl _ _).alloc (A' _) _;have Z:=heap_alloc_new T (.cells zV8 156);have b9:(#[.int .i64 D,.int .i64 C,.int .i64 z,.int .i64 k,.int .i64 f,.int .i64 o,.int .i64 m,.int .i64 r]:Array Value).all (·.oneCell')=true:=by simp[Value.oneCell']
    generalize a7:T.alloc (.cells zV8 156)=WN at F Z
    go_upto_region 8 with((with_reducible (refine CW ?_));first|(refine wpList_load_mid rfl 156 _ rfl b4 (o4+8*p) rfl [.int .i64 D,.int .i64 C,.int .i64 z,.int .i64 k,.int .i64 f,.int .i64 o,.int .i64 m,.int .i64 r] _ c0 underlying156 rfl hi ?_)|(refine wpList_store_row rfl 156 (.tmp 10) (.tmp 32) rfl T.heap.size (#[.int .i64 D,.int .i64 C,.int .i64 z,.int .i64 k,.int .i64 f,.int .i64 o,.int .i64 m,.int .i64 r]) rfl rfl 156 _ Z hi rfl b9 ?_))
    clear a7;have q:=setRow_heap WN T.heap.size _ (#[.int .i64 D,.int .i64 C,.int .i64 z,.int .i64 k,.int .i64 f,.int .i64 o,.int .i64 m,.int .i64 r]) 156 _ Z;replace F:=EF F (A' _) (#[.int .i64 D,.int .i64 C,.int .i64 z,.int .i64 k,.int .i64 f,.int .i64 o,.int .i64 m,.int .i64 r]);generalize WN.setRow T.heap.size (#[.int .i64 D,.int .i64 C,.int .i64 z,.int .i64 k,.int .i64 f,.int .i64 o,.int .i64 m,.int .i64 r])=W at q F ⊢;have d7:T.heap.size<W.heap.size:=(U'.1 q).1;have O:=V.af F;have d6:B<T.heap.size:=V.lt;have eW:=e2.trans (F.mono (by omega));generalize T.heap.size=G2 at q d7 d6 ⊢;clear Z c0 f2 F V e2 c2 s2 d8;apply Zj (λt W2=>∃ U,CMap W2 B U/\(∀ u,DJ U u=if u=⟨D,⟨C,z⟩,⟨k,f,o,m,r⟩⟩then n+1 else DJ c u)/\W2.heap[G2]?=some (.cells (vtA ⟨D,⟨C,z⟩,⟨k,f,o,m,r⟩⟩) 156 (0,0))/\Below B W W2)
    .intro K2 HK2;refine wp_region_held (S:=λw':World=>w'.heap[G2]?=some (.cells (vtA ⟨D,⟨C,z⟩,⟨k,f,o,m,r⟩⟩) 156 (0,0))) (by kernel_rfl) ?_;have L:(λw':World=>w'.heap[G2]?=some (.cells (vtA ⟨D,⟨C,z⟩,⟨k,f,o,m,r⟩⟩) 156 (0,0))) W.drew:=q;have c5:CMap W.drew B c:=O.qX rfl;refine Bb (i:=0) 33 (v:=.map (some B)) rfl rfl (by kernel_rfl) (by kernel_rfl) (by kernel_rfl) (λ_ _ _ h=>h) (qy ⟨by rfl,λ_ _=>by kernel_rfl⟩) L ?_;simp only[Act.put,mC,mH,mI];refine Bb (i:=1) 34 (v:=.agg (vtA ⟨D,⟨C,z⟩,⟨k,f,o,m,r⟩⟩)) rfl rfl (by kernel_rfl) (by kernel_rfl) (by kernel_rfl) (λ_ _ _ h=>h) (fA (by rfl) (.tmp 10) rfl G2 rfl ⟨D,⟨C,z⟩,⟨k,f,o,m,r⟩⟩ (λw' f7=>f7)) L ?_;simp only[Act.put,mC,mH,mI];obtain⟨ca,cd,t,w5,K,J,e9,c1,b5,k5⟩:=c5.entry ⟨D,⟨C,z⟩,⟨k,f,o,m,r⟩⟩;have P:DJ c ⟨D,⟨C,z⟩,⟨k,f,o,m,r⟩⟩=n:=c6;rw[P]at K J c1
     have I:w5.heap[G2]?=some (.cells (vtA ⟨D,⟨C,z⟩,⟨k,f,o,m,r⟩⟩) 156 (0,0)):=(k5 G2 (by omega)).trans L;obtain⟨w6,Q,f1,b6,k6⟩:=J.store (n+1);have a6:w6.heap[G2]?=some (.cells (vtA ⟨D,⟨C,z⟩,⟨k,f,o,m,r⟩⟩) 156 (0,0)):=(k6 G2 (by omega)).trans I;have a2:=c5.look ⟨D,⟨C,z⟩,⟨k,f,o,m,r⟩⟩;rw[P]at a2
     have a3:=J.look ⟨D,⟨C,z⟩,⟨k,f,o,m,r⟩⟩;rw[c1,P]at a3
     have c4:Hid (∃ U,CMap w6 B U/\(∀ u,DJ U u=if u=⟨D,⟨C,z⟩,⟨k,f,o,m,r⟩⟩then n+1 else DJ c u)/\w6.heap[G2]?=some (.cells (vtA ⟨D,⟨C,z⟩,⟨k,f,o,m,r⟩⟩) 156 (0,0))/\Below B W w6):=⟨_,f1,λu=>by rw[Vm (n:=n) e9,c1],a6,((Below.refl B W).drew.trans b5).trans b6⟩;refine cX (i:=2) (i':=4) (by kernel_rfl) (Ze (i:=2) (d:=35) rfl (by kernel_rfl) rfl 273 (.tmp 33) (.tmp 34) rfl (.map (some B)) (.agg (vtA ⟨D,⟨C,z⟩,⟨k,f,o,m,r⟩⟩)) (.int .i64 (n:Int)) (by kernel_rfl) (by kernel_rfl) a2 ⟨L,?_⟩) (Ux (i:=4) (d:=37) rfl (by kernel_rfl) rfl 273 (.tmp 33) (.tmp 34) rfl (.map (some B)) (.agg (vtA ⟨D,⟨C,z⟩,⟨k,f,o,m,r⟩⟩)) (.tuple #[.int .i64 (n:Int),.int .i64 (t:Int)]) (by kernel_rfl) (by kernel_rfl) K ⟨I,?_⟩)
     .simp only[Act.put,mC,mH,mI];refine Bb (i:=3) 36 (v:=.int .i64 ((n+1:Nat):Int)) rfl rfl (by kernel_rfl) (by kernel_rfl) (by kernel_rfl) (λ_ _ _ h=>h) (O2 (by rfl) (.tmp 35) rfl n (n+1) rfl rfl (by omega)) L ?_;simp only[Act.put,mC,mH,mI];refine Eb (i:=4) (by kernel_rfl) (Ux (i:=4) (d:=37) rfl (by kernel_rfl) rfl 273 (.tmp 33) (.tmp 34) rfl (.map (some B)) (.agg (vtA ⟨D,⟨C,z⟩,⟨k,f,o,m,r⟩⟩)) (.tuple #[.int .i64 (n:Int),.int .i64 (t:Int)]) (by kernel_rfl) (by kernel_rfl) K ⟨I,?_⟩);simp only[Act.put,mC,mH,mI];refine Bb (i:=5) 38 (v:=.int .i64 (t:Int)) rfl rfl (by kernel_rfl) (by kernel_rfl) (by kernel_rfl) (λ_ _ _ h=>h) (qy ⟨by rfl,λ_ _=>by kernel_rfl⟩) I ?_;simp only[Act.put,mC,mH,mI];refine Eb (i:=6) (by kernel_rfl) (Q7 (i:=6) rfl (by kernel_rfl) rfl 273 (.tmp 33) (.tmp 38) (.tmp 36) rfl (.map (some B)) (.int .i64 (t:Int)) (.int .i64 ((n+1:Nat):Int)) (by kernel_rfl) (by kernel_rfl) (by kernel_rfl) Q ⟨a6,?_⟩);exact wpAnyH_done (by kernel_rfl) (HK2.out t _ c4.out) _
     .simp only[Act.put,mC,mH,mI];refine Bb (i:=5) 38 (v:=.int .i64 (t:Int)) rfl rfl (by kernel_rfl) (by kernel_rfl) (by kernel_rfl) (λ_ _ _ h=>h) (qy ⟨by rfl,λ_ _=>by kernel_rfl⟩) I ?_;simp only[Act.put,mC,mH,mI];refine Eb (i:=2) (by kernel_rfl) (Ze (i:=2) (d:=35) rfl (by kernel_rfl) rfl 273 (.tmp 33) (.tmp 34) rfl (.map (some B)) (.agg (vtA ⟨D,⟨C,z⟩,⟨k,f,o,m,r⟩⟩)) (.int .i64 (n:Int)) (by kernel_rfl) (by kernel_rfl) a3 ⟨I,?_⟩);simp only[Act.put,mC,mH,mI];refine Bb (i:=3) 36 (v:=.int .i64 ((n+1:Nat):Int)) rfl rfl (by kernel_rfl) (by kernel_rfl) (by kernel_rfl) (λ_ _ _ h=>h) (O2 (by rfl) (.tmp 35) rfl n (n+1) rfl rfl (by omega)) I ?_;simp only[Act.put,mC,mH,mI];refine Eb (i:=6) (by kernel_rfl) (Q7 (i:=6) rfl (by kernel_rfl) rfl 273 (.tmp 33) (.tmp 38) (.tmp 36) rfl (.map (some B)) (.int .i64 (t:Int)) (.int .i64 ((n+1:Nat):Int)) (by kernel_rfl) (by kernel_rfl) (by kernel_rfl) Q ⟨a6,?_⟩);exact wpAnyH_done (by kernel_rfl) (HK2.out t _ c4.out) _
    intro t W5 e7;obtain⟨U,J,b1,q5,b5⟩:=e7;have e5:=eW.trans b5;have c9:=J.look ⟨D,⟨C,z⟩,⟨k,f,o,m,r⟩⟩;rw[b1,if_pos rfl]at c9
    have e3:Hid (∀ v,DJ U v=BJ (Ae ((ac.take (j+1)).map (·.vs)).flatten s) v):=λv=>by rw[b1,a5.out v,HC.out v]
    have e1:Hid (CMap W5 B U):=J;clear b1 J q eW b5 O HC;have a9:((n+1:Nat):Int)=(n:Int)+1:=by omega
    rw[a9]at c9
    by_cases g1:N<2*(n+1)
    .have HCH:Hid (I6 (Dz ac s) N=⟨k,f,o,m,r⟩/\I7 (Dz ac s) N=0):=by
      refine Jo (v:=⟨D,⟨C,z⟩,⟨k,f,o,m,r⟩⟩) (RC ?_ ?_)
      .have g:=gJ a0.out s;rw[HN.out]at g
       exact g
      .have g:=dC (Ae ((ac.take (j+1)).map (·.vs)).flatten s) (Ae ((ac.drop (j+1)).map (·.vs)).flatten s) ⟨D,⟨C,z⟩,⟨k,f,o,m,r⟩⟩;rw[<- DG,<- List.flatten_append,<- mS,nI,c3.out]at g
       show N<2*BJ (Dz ac s) ⟨D,⟨C,z⟩,⟨k,f,o,m,r⟩⟩;unfold Dz;omega
     have a8:(N:Int)<2*((n:Int)+1):=by omega
     have x3:W5.cell? ⟨G2,3,none⟩=some (.int .i64 k):=cell_of_row _ _ 3 _ _ _ q5;have x4:W5.cell? ⟨G2,4,none⟩=some (.int .i64 f):=cell_of_row _ _ 4 _ _ _ q5;have x5:W5.cell? ⟨G2,5,none⟩=some (.int .i64 o):=cell_of_row _ _ 5 _ _ _ q5;have x6:W5.cell? ⟨G2,6,none⟩=some (.int .i64 m):=cell_of_row _ _ 6 _ _ _ q5;have x7:W5.cell? ⟨G2,7,none⟩=some (.int .i64 r):=cell_of_row _ _ 7 _ _ _ q5;have rR:=(e5.block w.heap.size b7).trans rr;have b8:(#[.int .i64 k,.int .i64 f,.int .i64 o,.int .i64 m,.int .i64 r]:Array Value).all (·.oneCell')=true:=by simp[Value.oneCell']
     go_wp2_with ((with_reducible (refine CW ?_));first|(refine wpList_load_row rfl 156 (.tmp 10) rfl G2 rfl 156 _ (0,0) _ q5 underlying156 rfl hi ?_)|(refine wpList_store_row rfl 51 (.tmp 4) (.tmp 47) rfl w.heap.size #[.int .i64 k,.int .i64 f,.int .i64 o,.int .i64 m,.int .i64 r] rfl rfl 51 _ rR bR rfl b8 ?_))
     have q9:=setRow_heap W5 w.heap.size _ (#[.int .i64 k,.int .i64 f,.int .i64 o,.int .i64 m,.int .i64 r]) 51 _ rR;have d9:=EF (bb.trans (e5.mono (by omega))) (A' _) (#[.int .i64 k,.int .i64 f,.int .i64 o,.int .i64 m,.int .i64 r]);refine bodyPost_ret (fM rfl _ _ w.heap.size 51 _ (0,0) _ rfl q9 underlying51 rfl bR) rfl ?_;rw[HCH.out.1,HCH.out.2];exact⟨rfl,d9⟩
    .have a8:¬ (N:Int)<2*((n:Int)+1):=by omega
     have e4:Hid (∀ v,2*BJ (Ae ((ac.take (j+1)).map (·.vs)).flatten s) v<=N):=λv=>by
      rw[a5.out v];split
      .omega
      .exact HL.out v
     clear a5 c3 HL;go_wp2_with ((with_reducible (refine CW ?_));(refine wpList_load_row rfl 156 (.tmp 10) rfl G2 rfl 156 _ (0,0) _ q5 underlying156 rfl hi ?_))
     go_roundw
     case rel=>exact⟨j+1,U,by omega,by go_num,e1.out,e3.out,e4.out,e5⟩
     case measure=>simp[intOf];omega
  .have HCH:Hid (I6 (Dz ac s) N=⟨0,0,0,0,0⟩/\I7 (Dz ac s) N=9):=by
    refine Jn (X4 λv=>?_);have g:=HL.out v;rw[mJ (by have:=HN.out;omega)]at g
    exact g
   have rR:=(E.block w.heap.size b7).trans rr;go_wp2_with ((with_reducible (refine CW ?_));(refine wpList_store_row rfl 51 (.tmp 4) (.tmp 49) rfl w.heap.size zV5 rfl rfl 51 _ rR bR rfl f8 ?_))
   have q9:=setRow_heap wr w.heap.size _ (zV5) 51 _ rR;have d9:=EF (bb.trans (E.mono (by omega))) (A' _) (zV5);refine bodyPost_ret (fM rfl _ _ w.heap.size 51 _ (0,0) _ rfl q9 underlying51 rfl bR) rfl ?_;rw[HCH.out.1,HCH.out.2];exact⟨rfl,d9⟩
theorem ky{x:S3}{c:Nat}(d:x.a=some ⟨b,c,none⟩)(j:Nat)(f:j<x.n):(Instr.indexAt 220 x.v (iv (j:Int))).run prog W=.ok (pt b (c+3*j)) W:=by
 unfold S3.v;rw[d];exact Kv (P:=prog) (e:=99) (z:=3) underlying220 (by kernel_rfl) (by kernel_rfl) f _ rfl
theorem fT{a:Acc}{y:S3}(h:W.rangeAt b k [iv a.p.r,iv a.p.n,S3.v y]):(Instr.loadAt 99 (pt b k)).run prog W=.ok (.agg #[iv a.p.r,iv a.p.n,S3.v y]) W:=by
 have c:=run_loadVar_mid (P:=prog) W b k 99 _ _ h underlying99 rfl (by kernel_rfl);simp only[Instr.loadAt,Instr.sureAddr,Sem.run_bind,Sem.run_pure,Result.andThen_ok];exact c
theorem X7(h:(0<=s/\s<=39)/\(1<=(ac.length:Int)/\(ac.length:Int)<=5))(b:∀ a∈ac,Ag a):CN ac s=I6 (Dz ac s) ac.length/\CU ac s=I7 (Dz ac s) ac.length:=by
 cases ho:Ha (Dz ac s) ac.length with
 | none=>rw[(Jn ho).1,(Jn ho).2];exact X8 h b ho
 | some v=>rw[(Jo ho).1,(Jo ho).2];exact X9 h b ho
theorem KV(x:Value)(ac:List Acc)(s:Int)(w:World)(h:Sac w x ac)(ht:NTab w) :
  Calls prog 135 #[x,.int .i64 s] w λe w'=>e=.returned (.tuple #[.agg (cmC (CN ac s)),.int .i64 (CU ac s)])/\Bw w w':=by
 have a1:=h.len;obtain⟨a,i,rfl⟩:=h.shape;obtain⟨y,H⟩:∃ y:S3,y=⟨a,ac.length,i⟩:=⟨_,rfl⟩;have a2:y.n=ac.length:=by rw[H]
 rw[show(.slice a ac.length i:Value)=y.v by rw[H]]at h ⊢
 clear H;refine tIn [] func135 trivial (tR 9 [1,0] λb _ _=>?_);by_cases L:0<=s/\s<=39
 .refine tC1 1 (λF C=>Ej (r:=true) (M' L)) λ_=>tR 4 [] λa3 _ _=>?_;by_cases h2:y.n<1
  .refine tV 6 (.bool true) (λF C=>(rLt (t:=3) (m:=(y.n:Int)) (n:=1) (x:=(.tmp 14)) (y:=(.const (iv 1))) (M' (by omega)))) ?_;refine tR 14 [0,0] λa4 _ _=>tX λF C=>qE2 4 5 51 0 (b 0) #[iv 0,iv 0,iv 0,iv 0,iv 0] (iv 2) λ_=>by rw[(D3 (ac:=ac) (s:=s) (by omega)).1,(D3 (ac:=ac) (s:=s) (by omega)).2];exact⟨rfl,CgQ.af C⟩
  .refine tV 6 (.bool false) (λF C=>(rLt (t:=3) (m:=(y.n:Int)) (n:=1) (x:=(.tmp 14)) (y:=(.const (iv 1))) (E' (by omega)))) (tR 4 [] λa5 _ _=>?_);by_cases h3:5<y.n
   .refine tV 11 (.bool true) (λF C=>(rGt (t:=3) (m:=(y.n:Int)) (n:=5) (x:=(.tmp 19)) (y:=(.const (iv 5))) (M' (by omega)))) ?_;refine tR 9 [0,0] λa6 _ _=>tX λF C=>qE2 4 5 51 0 (b 0) #[iv 0,iv 0,iv 0,iv 0,iv 0] (iv 2) λ_=>by rw[(D3 (ac:=ac) (s:=s) (by omega)).1,(D3 (ac:=ac) (s:=s) (by omega)).2];exact⟨rfl,CgQ.af C⟩
   .refine tV 11 (.bool false) (λF C=>(rGt (t:=3) (m:=(y.n:Int)) (n:=5) (x:=(.tmp 19)) (y:=(.const (iv 5))) (E' (by omega)))) ?_;have N:(0<=s/\s<=39)/\(1<=(ac.length:Int)/\(ac.length:Int)<=5):=by omega
    refine tR 12 [] λa7 _ _=>D1 41 [(0,S3.v y),(1,iv s),(4,pt (b 0) 0),(23,S3.v y),(24,iv (y.n:Int)),(25,iv 0)] [true] [⟨(b 0),.cells #[iv 0,iv 0,iv 0,iv 0,iv 0] 51,.l,false⟩] [] (λkk ee LL o=>∃ (j:Nat),kk=y.n-j/\ee=[(0,S3.v y),(1,iv s),(4,pt (b 0) 0),(23,S3.v y),(24,iv (y.n:Int)),(25,iv (j:Int))]/\LL=[⟨(b 0),.cells #[iv 0,iv 0,iv 0,iv 0,iv 0] 51,.l,false⟩]/\o=[]/\j<=ac.length/\∀ a∈ac.take j,Ag a) (y.n) ⟨0,rfl,rfl,rfl,rfl,by omega,λa u=>(by simp at u)⟩ (λF=>trivial) ?_;rintro k _ _ _ ⟨j,rfl,rfl,rfl,rfl,hj,d⟩ _ _ _ J hJ;refine tR 5 [] λa8 _ _=>?_;by_cases h4:j<y.n
    .refine tI ((decide ((j:Int)<(y.n:Int)))) true (M' (by omega)) ?_;obtain⟨A,B⟩:∃ A,ac[j]?=some A:=⟨_,G' (by omega)⟩;obtain⟨bb,K,yl,I,G,hr,P⟩:=h.spot j A B;obtain⟨z,rfl⟩:=P.s3;refine tR 5 [] λa9 _ _=>tV 0 (pt bb (K+3*j)) (λF C=>(ky I j (by omega))) (tV 1 (.agg #[iv A.p.r,iv A.p.n,S3.v z]) (λF C=>(fT (a:=A) (Td (CgQ.af C) G hr))) (tR 6 [0,0,1,0,1] λR _ _=>tC1 1 (λF C=>Ja A.p z.v A.vs _ (P.af (CgQ.af C)) (ht.af (CgQ.af C))) λ_=>tR 7 [] λS _ _=>?_));by_cases q:Ag A
     .have f:Fu ⟨A.p,A.vs⟩=0:=if_pos q;refine tI (((Fu ⟨A.p,A.vs⟩) != 0)) false (by rw[f];decide) (tR 3 [] λT _ _=>tV 0 (iv ((j:Int)+1)) (λF C=>(AO 25 (j:Int) underlying3 (by omega))) (tR 2 [] λU _ _=>tB hJ (y.n-(j+1)) (by omega) [true,false] ⟨j+1,rfl,rfl,rfl,rfl,by omega,λa u=>by rw[oq,B]at u;exact(P'.1 u).elim (d a) λg=>by rw[show a=A by simpa using g];exact q⟩ (λF=>trivial)))
     .have f:Fu ⟨A.p,A.vs⟩=5:=if_neg q;have M:=Vi N λg=>q (g A (mP B));refine tI (((Fu ⟨A.p,A.vs⟩) != 0)) true (by rw[f];decide) ?_;refine tR 7 [0,0] λV _ _=>tX λF C=>qE2 4 5 51 0 (b 0) #[iv 0,iv 0,iv 0,iv 0,iv 0] (iv (Fu ⟨A.p,A.vs⟩)) λ_=>by rw[f,M.1,M.2];exact⟨rfl,CgQ.af C⟩
    .refine tI ((decide ((j:Int)<(y.n:Int)))) false (E' (by omega)) ?_;rw[mJ (show ac.length<=j by omega)]at d
     obtain⟨X,O⟩:∃ X,I6 (Dz ac s) ac.length=X:=⟨_,rfl⟩;obtain⟨E,f⟩:∃ E,I7 (Dz ac s) ac.length=E:=⟨_,rfl⟩;have Q:=λW g=>YV y.v ac s W g (by omega) d;have D:=X7 N d;rw[O,f]at D
     simp only[O,f]at Q;refine tR 5 [] λY _ _=>tC1 2 (λF C=>Q _ (h.af (CgQ.af C))) λ_=>tR 5 [0,0] λZ _ _=>tX λF C=>qE2 4 5 51 0 (b 0) #[iv X.k,iv X.c,iv X.s,iv X.n,iv X.v] (iv E) λ_=>by rw[D.1,D.2];exact⟨rfl,CgQ.af C⟩
 .refine tC1 1 (λF C=>Ej (r:=false) (E' L)) λ_=>tR 19 [0,0] λa0 _ _=>tX λF C=>qE2 4 5 51 0 (b 0) #[iv 0,iv 0,iv 0,iv 0,iv 0] (iv 2) λ_=>by rw[(D3 (ac:=ac) (s:=s) (by omega)).1,(D3 (ac:=ac) (s:=s) (by omega)).2];exact⟨rfl,CgQ.af C⟩
theorem LE{g:Gh}(b:w.heap[nb]?=some (.cells (AG i ob p x) 111))(a:j<5):w.rangeAt nb (18+3*j) [iv (p.av.an j).p.r,iv (p.av.an j).p.n,S3.v (x.hv j)]:=by
 rcases ri a with rfl|rfl|rfl|rfl|rfl<;>exact QL b _ _ rfl
theorem Qz(h:NodeAt g w i nb ob x p):Sac w (.slice (some ⟨nb,18,none⟩) 5 5) p.av.jv:=by
 refine⟨⟨some ⟨nb,18,none⟩,5,rfl,.inr ⟨nb,18,rfl,rl h.row,λj A a=>?_⟩⟩,by show 5<=3518437208780;decide⟩;have b:j<5:=by have:=(V'.1 a).1;exact this
 refine⟨S3.v (x.hv j),?_⟩;have c:=LE (g:=g) h.row b;have d:=(h.an j b).s;rcases ri b with rfl|rfl|rfl|rfl|rfl<;>(simp[Rnd.jv]at a;subst a;exact⟨c,d⟩)
theorem X2(h:40<=s):CU ac s≠0:=by rw[(D3 (by omega)).2];decide
theorem X6{n:Nat}(h:CU ac (n:Int)=0):n<=39:=by
 rcases nt 39 n with h2|h2
 .exact absurd h (X2 (by omega))
 .exact h2
theorem AX.at{L:List Sh}(h:AX L W)(k b:Nat)(o:Obj)(t:Tg)(a:L[k]?=some ⟨b,o,t,false⟩):W.heap[b]?=some o:=h _ (mP a)
theorem FX(h:NS i nb ob g w p ls ts){w0:World}(hB:Base w0 g w)(hT:Tabs w0)(hb:p.ab.length<=40) :
  Calls prog 100 #[pt nb 0] w (NP i nb ob g w (.tuple #[]) p.rj ls ts):=by
 obtain⟨x,lt,tl,hN,hO,hg⟩:=h;refine gI (fn:=f100) (TN i) g func100 hg (qN hN (qO hO (qR [] 1 [] λs1 g1 w1 c1=>Ca 34 [(0,pt nb 0)] [false,false] [] (λk O Q e L=>∃ l:List Cmd,e=[(0,pt nb 0)]/\L=[]/\NS i nb ob O Q { p with ab:=l } ls ts/\FB k p.av l=FB 41 p.av p.ab/\41<=l.length+k/\l.length<=41/\Cg w.heap.size (TN i) g w O Q) (by kernel_rfl) (by kernel_rfl) (by kernel_rfl) (by kernel_rfl) 41 (λK=>?_) ?_)))
 .have C2:=c1;exact⟨p.ab,rfl,rfl,(nsC hN hO C2 K),rfl,by omega,by omega,(c1.nil (TN i))⟩
 .rintro k gr wr _ zr _ ⟨l,rfl,rfl,hM,hI,hk1,hk2,hC⟩ J hJ;obtain⟨b,H,M,a,u,a7⟩:=hM;refine qN a (qO u ?_);have q:b.ab.n=l.length:=a.ab.num;refine qR [] 15 [19,0,2,4,6,8,10,12,14,16,18,20,0,22] λs3 g3 w3 y=>DS 34 (λO Q e L=>∃ (bA:Nat),e=[(0,pt nb 0),(2,pt bA 0),(3,iv (CU p.av.jv (b.ab.n:Int)))]/\L=[⟨nb,.cells (AG i ob ({ p with ab:=l }) b) 111,.n 0 i,false⟩,⟨ob,.cells #[S3.v H,S3.v M] 88,.n 50 0,false⟩,⟨bA,.cells #[iv (CN p.av.jv (b.ab.n:Int)).k,iv (CN p.av.jv (b.ab.n:Int)).c,iv (CN p.av.jv (b.ab.n:Int)).s,iv (CN p.av.jv (b.ab.n:Int)).n,iv (CN p.av.jv (b.ab.n:Int)).v] 51,.l,false⟩]/\Cg w.heap.size [] gr wr O Q) (by kernel_rfl) ?_ ?_
  .intro J hJ;refine DM 12 16 (by kernel_rfl) ?_ ?_
   .have hS6:=Qz (a.ch y);have W:=hB.ch (((hC.n y))) (By i);refine qC 12 (KV _ _ (b.ab.n:Int) w3 hS6 (W.tn hT)) ?_;rintro e' w7 ⟨rfl,Z⟩;refine⟨_,rfl,Z,?_⟩;have c7:=Cg.eb (B:=w.heap.size) (T:=[]) (g:=g3) Z;refine qR [] 7 [26,28,30,33,1,0,35,2,0,36] λs8 g8 w8 c8=>qB [true,true,true] λz N K=>hJ _ _ _ z _ ⟨(s8 0),rfl,rfl,((y.trans c7).trans c8)⟩ K
   .refine qR [] 1 [1,0] λs9 g9 w9 V=>?_;have G:=Qz (a.ch (y.trans V));have F:=hB.ch (hC.trans ((y.trans V).nil _)) (By i);refine qC 12 (KV _ _ (b.ab.n:Int) w9 G (F.tn hT)) ?_;rintro e' b2 ⟨rfl,A⟩;refine⟨_,rfl,A,?_⟩;have S:=Cg.eb (B:=w.heap.size) (T:=[]) (g:=g9) A;refine qR [] 6 [26,28,30,35,2,0,36] λa9 a2 b3 U=>qB [true,true,true] λz N K=>hJ _ _ _ z _ ⟨(s9 0),rfl,rfl,(((y.trans V).trans S).trans U)⟩ K
  .rintro g4 w4 _ z4 _ ⟨bA,rfl,rfl,hc⟩;refine qR [] 6 [] λb0 a3 b4 o=>?_;by_cases P:CU p.av.jv (b.ab.n:Int)≠0
   .refine qI (((CU p.av.jv (b.ab.n:Int)) != 0)) true (by simpa using P) (qE (.tuple #[]) λK=>?_);have hE:p.rj={ p with ab:=l }:=by unfold Nod.rj;rw[<- hI];cases k with|zero=>rfl|succ k=>rw[FB,if_neg (by rw[<- q];exact P)]
    rw[hE];exact⟨_,rfl,(nsC a u (hc.n o) K),((hC.n hc).n o)⟩
   .refine qI (((CU p.av.jv (b.ab.n:Int)) != 0)) false (by simpa using P) ?_;have E:CU p.av.jv (b.ab.n:Int)=0:=by simpa using P
    have a0:l.length<=39:=by rw[<- q];exact X6 E
    obtain⟨k,rfl⟩:∃ k1,k=k1+1:=⟨k-1,by omega⟩;refine qR [] 10 [12,0,2,4,6,8,10,0,12,2,15,0,0] λI a4 b5 r=>Km 8 (x:=b.ab) 35 35 51 5 40 (.agg #[iv 0,iv 0,iv 0,iv 0,iv 0]) ⟨(I 0),0,none⟩ 1 1 [iv (CN p.av.jv (b.ab.n:Int)).k,iv (CN p.av.jv (b.ab.n:Int)).c,iv (CN p.av.jv (b.ab.n:Int)).s,iv (CN p.av.jv (b.ab.n:Int)).n,iv (CN p.av.jv (b.ab.n:Int)).v] (a.ab.ch ((hc.trans o).trans r) (by simp) (by simp)) (by kernel_rfl) (by kernel_rfl) (by kernel_rfl) underlying35 (by kernel_rfl) (by kernel_rfl) (by decide) (by decide) rfl (by simp[Value.oneCell']) (λK=>Cu K 3 (I 0) [iv (CN p.av.jv (b.ab.n:Int)).k,iv (CN p.av.jv (b.ab.n:Int)).c,iv (CN p.av.jv (b.ab.n:Int)).s,iv (CN p.av.jv (b.ab.n:Int)).n,iv (CN p.av.jv (b.ab.n:Int)).v] 51 .z true (by kernel_rfl)) (by unfold maxLen;omega) (by omega) ?_;intro Y a5 b6 R a8 D a1;have C:=D w.heap.size [.n 3 i] (D'.2 rfl);refine qR [.n 0 i] 6 [18,20,22,25,0,1] λb1 a6 b8 t=>ED J 34 [(0,pt nb 0)] [false,false,false,false] [] (by kernel_rfl) (by kernel_rfl) (by kernel_rfl) (by kernel_rfl) (by kernel_rfl) (λz N K=>?_);have X:CN p.av.jv (b.ab.n:Int)=CN p.av.jv (l.length:Int):=by rw[q]
    refine hJ k _ _ _ z _ (by omega) ⟨l++[CN p.av.jv (l.length:Int)],rfl,rfl,?_,?_,by simp;omega,by simp;omega,(((((hC.n hc).n o).n r).trans (C.mono (by simp[TN]))).trans (t.mono (by simp[TN])))⟩ K
    skip
    have d:=((((hc.nil ([.n 3 i,.n 0 i]:List Tg)).n o).n r).m C).m t;have j:Tg.z∉([.n 3 i,.n 0 i]:List Tg):=by simp
    .rw[<- X];exact⟨{ b with ab:=Y },H,M,N.nd 0 (a.tape.ch d j) (a.mv.ch d j) (BA a.an d j) (Cc a.bw d j (by simp)) (a.fv.ch d) (by rw[Cp];exact R.ch t) (a.bn.ch d) (a.cl.ch d) a.rW,u.ch d j (by simp<;>omega),N.new⟩
    .rw[<- hI,FB,if_pos (by rw[<- q];exact E)]
theorem Nx(h:NS i nb ob g w p ls ts){w0:World}(hB:Base w0 g w)(hT:Tabs w0)(j:Nat)(hj:j<5)(v:Vt)(hb:p.ab.length<=40) :
  Calls prog 103 #[pt nb 0,iv (j:Int),.agg #[iv v.bu,iv v.b.r,iv v.b.n,iv v.w.k,iv v.w.c,iv v.w.s,iv v.w.n,iv v.w.v]] w (NP i nb ob g w (.tuple #[]) (p.count j v) ls ts):=by
 obtain⟨x,lt,tl,d,hO,hg⟩:=h;refine gI (fn:=f103) (TN i) g func103 hg (qN d (qO hO (qR [] 15 [0,0,9,0,2,2,4,6,8,10,12,14,0] λs1 g1 w1 C=>?_)));by_cases S:v.b≠p.av.hU
 .refine qT 8 (.bool true) (λ_=>(ID (x:=(.tmp 9)) (y:=(.tmp 15)) v.b p.av.hU S)) (qR [] 2 [] λs2 g2 w2 c2=>qE (.tuple #[]) λK=>?_);rw[show p.count j v=p from if_pos S];exact⟨_,rfl,(nsC d hO (C.n c2) K),((C.nil (TN i)).n c2)⟩
 .have h10:v.b=p.av.hU:=by simpa using S
  refine qT 8 (.bool false) (λ_=>(IC (x:=(.tmp 9)) (y:=(.tmp 15)) v.b p.av.hU h10)) (qR [] 11 [16,0,2,4,6,8,10] λs4 g4 w4 G=>?_);refine Qf 6 (pt nb (18+3*j)) false (λW hW=>by rcases ri hj with rfl|rfl|rfl|rfl|rfl<;>kernel_rfl) (by kernel_rfl) ?_;refine qU 7 (.agg #[iv (p.av.an j).p.r,iv (p.av.an j).p.n,S3.v (x.hv j)]) (λW hW=>(fT (LE (g:=g) (AX.at (hW rfl) 0 nb (.cells (AG i ob p x) 111) (.n 0 i) (by kernel_rfl)) hj))) (qR [] 1 [16,2] λs6 g6 w6 H=>DS 42 (λg' w' e L=>∃ (ys:S3) (bA:Nat),e=[(0,pt nb 0),(1,iv (j:Int)),(6,pt bA 0),(7,iv (AY (p.av.an j) v))]/\L=[⟨nb,.cells (AG i ob p x) 111,.n 0 i,false⟩,⟨ob,.cells #[S3.v lt,S3.v tl] 88,.n 50 0,false⟩,⟨(s1 0),.cells #[iv v.bu,iv v.b.r,iv v.b.n,iv v.w.k,iv v.w.c,iv v.w.s,iv v.w.n,iv v.w.v] 156,.z,false⟩,⟨bA,.cells #[iv (BG (p.av.an j) v).r,iv (BG (p.av.an j) v).n,S3.v ys] 99,.l,false⟩]/\FSv g' w' ys (Br (p.av.an j) v)/\Cg w.heap.size [] g w g' w') (by kernel_rfl) ?_ ?_)
  .intro J hJ;refine DM 9 13 (by kernel_rfl) ?_ ?_
   .refine Af λa5=>?_;have b5:=((d.an j hj).ch ((C.trans G).trans H) (by simp)).s;have b3:=hB.ch ((C.trans G).trans H) (by simp);have b4:∀ z,w6.heap.size<=z->g6.t z=.z:=λz hz=>(a5.new z hz).1;refine qC 9 (Co (p.av.an j).p _ (p.av.an j).vs v w6 b5 (b3.tn hT)) ?_;rintro e' e3 ⟨f3,rfl,a0,c5,M⟩;refine⟨_,rfl,M,?_⟩;have a7:=Cg.eb (B:=w.heap.size) (T:=[]) (g:=g6) M;obtain⟨a3,rfl,b6,E⟩:=Ed a0 b4 (by omega);refine qR [] 7 [20,22,24,27,1,0,29,3,0,30] λb8 d0 e4 O=>qB [true,true,true,true] λz K0 K=>hJ _ _ _ z _ ⟨a3,(b8 0),rfl,rfl,(E.ch O),((((C.trans G).trans H).trans a7).trans O)⟩ K
   .refine qR [] 1 [1,0] λb9 R a2 D=>Af λI=>?_;have Z:=((d.an j hj).ch (((C.trans G).trans H).trans D) (by simp)).s;have U:=hB.ch (((C.trans G).trans H).trans D) (by simp);have V:∀ z,a2.heap.size<=z->R.t z=.z:=λz hz=>(I.new z hz).1;refine qC 9 (Co (p.av.an j).p _ (p.av.an j).vs v a2 Z (U.tn hT)) ?_;rintro e' e5 ⟨f4,rfl,a1,c7,N⟩;refine⟨_,rfl,N,?_⟩;have a8:=Cg.eb (B:=w.heap.size) (T:=[]) (g:=R) N;obtain⟨a4,rfl,b7,F⟩:=Ed a1 V (by omega);refine qR [] 6 [20,22,24,29,3,0,30] λd7 d1 e6 P=>qB [true,true,true,true] λz K0 K=>hJ _ _ _ z _ ⟨a4,(b9 0),rfl,rfl,(F.ch P),(((((C.trans G).trans H).trans D).trans a8).trans P)⟩ K
  .rintro g7 w7 _ z7 _ ⟨ys,bA,rfl,rfl,hys,hc⟩;refine qR [] 6 [] λd8 d2 e7 m=>?_;by_cases h2:AY (p.av.an j) v≠0
   .refine qI (((AY (p.av.an j) v) != 0)) true (by simpa using h2) (qE (.tuple #[]) λK=>?_);rw[show p.count j v=p from by unfold Nod.count;rw[if_neg S,if_pos h2]];exact⟨_,rfl,(nsC d hO (hc.n m) K),((hc.nil (TN i)).n m)⟩
   .refine qI (((AY (p.av.an j) v) != 0)) false (by simpa using h2) (qR [] 10 [8,0,2,4,3,6,8,10,12] λd9 b1 c0 q=>DS 42 (λg' w' e L=>e=[(0,pt nb 0)]/\L=[⟨nb,.cells (AG i ob ({ p with av:={ p.av with an:=upN p.av.an j ⟨BG (p.av.an j) v,Br (p.av.an j) v⟩ } }) ({ x with hv:=upN x.hv j ys })) 111,.n 0 i,false⟩,⟨ob,.cells #[S3.v lt,S3.v tl] 88,.n 50 0,false⟩,⟨(s1 0),.cells #[iv v.bu,iv v.b.r,iv v.b.n,iv v.w.k,iv v.w.c,iv v.w.s,iv v.w.n,iv v.w.v] 156,.z,false⟩,⟨bA,.cells #[iv (BG (p.av.an j) v).r,iv (BG (p.av.an j) v).n,S3.v ys] 99,.l,false⟩]/\True/\Cg w.heap.size ([.n 0 i]:List Tg) b1 c0 g' w') (by kernel_rfl) ?_ ?_)
    .intro J hJ;rcases ri hj with rfl|rfl|rfl|rfl|rfl <;>
     (refine qR [.n 0 i] 3 [14,17,0,1] λe0 d4 e9 a9=>?_;exact qB [true,true,true,true] λz K0 K=>hJ _ _ _ z _ ⟨rfl,rfl,trivial,a9⟩ K)
    rintro d3 e8 _ f5 _ ⟨rfl,rfl,_,u⟩;refine qR [] 2 [] λe1 b2 c3 A=>?_;rw[show p.count j v=Nod.rj { p with av:={ p.av with an:=upN p.av.an j ⟨BG (p.av.an j) v,Br (p.av.an j) v⟩ } }from by unfold Nod.count;rw[if_neg S,if_neg h2]];refine Af λK=>?_;have a:=((((hc.nil ([.n 0 i]:List Tg)).n m).n q).trans (u)).n A;have o:Tg.z∉([.n 0 i]:List Tg):=by simp
    have a6:NS i nb ob b2 c3 ({ p with av:={ p.av with an:=upN p.av.an j ⟨BG (p.av.an j) v,Br (p.av.an j) v⟩ } }) ls ts:=⟨{ x with hv:=upN x.hv j ys },lt,tl,K.nd 0 (d.tape.ch a o) (d.mv.ch a o) (λk hk=>(by show FSv _ _ (upN x.hv j ys k) (upN p.av.an j ⟨BG (p.av.an j) v,Br (p.av.an j) v⟩ k).vs;unfold upN;split;exact((((hys.ch m).ch q).ch u).ch A);exact(d.an k hk).ch a o)) (Cc d.bw a o (by simp)) (d.fv.ch a) (d.ab.ch a) (d.bn.ch a) (d.cl.ch a) d.rW,hO.ch a o (by simp<;>omega),K.new⟩;refine qS0 1 [false,false,true,true] (FX a6 (hB.ch (((((hc.nil (TN i)).n m).n q).trans (u.mono (by simp[TN]))).n A) (By i)) hT hb) λd5 f0 f2 c8 c9 X Y b0=>qR [] 1 [] λe2 d6 f1 Q=>qF X Y Q (((((((hc.nil (TN i)).n m).n q).trans (u.mono (by simp[TN]))).n A).trans (b0)).n Q)
theorem Pu(h:NS i nb ob g w p ls ts){o:World}(t:Base o g w)(u:Tabs o)(e:Nat)(l:Let)(A:CM g w e l)(D:l.src<5)(v:p.ab.length<=40) :
  Calls prog 57 #[pt nb 0,pt e 0] w (NP i nb ob g w (.tuple #[]) (p.count l.src l.cn) ls ts):=by
 obtain⟨x,lt,N,k,m,y⟩:=h;refine gI (fn:=f57) (TN i) g func57 y (qN k (qO m ?_));obtain⟨G,H,a,B,C⟩:=A;refine Cl ⟨e,.cells (FA l G H) 158,.z,false⟩ (λ_=>⟨a.r,a.z,λh=>(by cases h),λh=>absurd rfl h⟩) (by kernel_rfl) ?_;refine qR [] 10 [9,0,2,4,6,8,2,10,12,14,16,2] λL I O b=>qS 9 [false,false,true] k m b (λq=>Nx q (t.ch (b.nil (TN i)) (By i)) u l.src D l.cn v) λJ P R E F c d s=>qR [] 1 [] λM K Q j=>qF c d j (((b.nil (TN i)).trans (s)).n j)
theorem GO(q:List Cmd)(c:Cmd)(l:List Cmd):Hb q (c::l)=Hb (if q.length<40/\c∉q then q++[c]else q) l:=rfl
theorem DL{l:List Cmd}{c:Cmd}(h:l[j]?=some c):l.drop j=c::l.drop (j+1):=by
 obtain⟨a,b⟩:=V'.1 h;rw[<- b];exact nv a
theorem cC(q l:List Cmd)(h:q.length<=40):(Hb q l).length<=40:=by
 induction l generalizing q with
 | nil=>exact h
 | cons c l ih =>
  rw[GO];refine ih _ ?_;split
  .rw[H'];show _+1<=_;omega
  .exact h
theorem JE(h:NS i nb ob g w p ls ts)(a:List Cmd)(I:S3)(hw:Rc g w I a)(hb:a.length<100000000)(hq:p.av.fv.length<=40) :
  Calls prog 105 #[pt nb 0,I.v] w (NP i nb ob g w (.tuple #[]) (p.dT a) ls ts):=by
 have c3:=h;obtain⟨x,lt,tl,hN,hO,hg⟩:=h;have d1:=hw.len;refine gI (fn:=f105) (TN i) g func105 hg (qN hN (qO hO (qR [] 4 [] λs1 g1 w1 R=>Af λK=>?_)));have N3:NS i nb ob g1 w1 p ls ts:=(nsC hN hO R K);refine qC 1 (NL N3) ?_;rintro e' w4 ⟨rfl,b4⟩;refine⟨_,rfl,b4,?_⟩;have c4:=Cg.eb (B:=w.heap.size) (T:=[]) (g:=g1) b4;refine qR [] 2 [] λs5 g5 w5 c5=>?_;by_cases h1:p.leads=true
 .refine qI ((!p.leads)) false (by simpa using h1) ?_;rw[show p.dT a={ p with av:={ p.av with fv:=Hb p.av.fv a } }from if_pos h1];refine qR [] 8 [] λs6 g6 w6 c6=>Ca 49 [(0,pt nb 0),(9,S3.v I),(10,iv (I.n:Int)),(11,iv 0)] [false,false] [] (λk g' w' e L=>∃ (j:Nat) (q:List Cmd),k=a.length-j/\j<=a.length/\e=[(0,pt nb 0),(9,S3.v I),(10,iv (I.n:Int)),(11,iv (j:Int))]/\L=[]/\NS i nb ob g' w' { p with av:={ p.av with fv:=q } } ls ts/\Hb q (a.drop j)=Hb p.av.fv a/\q.length<=40/\Cg w.heap.size (TN i) g w g' w') (by kernel_rfl) (by kernel_rfl) (by kernel_rfl) (by kernel_rfl) a.length (λK=>?_) ?_
  .have C7:=((R.n c4).n c5).n c6;exact⟨0,p.av.fv,rfl,by omega,rfl,rfl,(nsC hN hO C7 K),rfl,hq,((((R.nil (TN i)).n c4).n c5).n c6)⟩
  .rintro k gr wr _ zr _ ⟨j,q,rfl,hj,rfl,rfl,hM,hI,hq1,hC⟩ J hJ;obtain⟨xr,a6,a7,b,F,c7⟩:=hM;refine qN b (qO F ?_);have d0:xr.fv.n=q.length:=b.fv.num;refine qR [] 5 [] λs8 g8 w8 E=>?_;by_cases h2:j<a.length
   .refine qI ((decide ((j:Int)<(I.n:Int)))) true (M' (by omega)) ?_;obtain⟨c,H⟩:∃ c,a[j]?=some c:=⟨_,G' h2⟩;have a4:=hw.ch hC (By i);obtain⟨bx,ox,a0⟩:=hw.addr h2;refine qR [] 5 [] λs9 g9 w9 G=>qV 0 (pt bx (ox+5*j)) (Oa a0 j (by omega)) ?_;have a5:=a4.ch (E.trans G);refine qV 1 (.agg #[iv c.k,iv c.c,iv c.s,iv c.n,iv c.v]) (Wl c λq_ u hu=>a5.cellAt a0 H hu) (qR [] 12 [0,0,2,0,19,0,2,4,6,8,10,0,12] λd3 b0 e3 o=>?_);by_cases h3:(xr.fv.n:Int)<40
    .refine qT 7 (.bool true) (λ_=>(rLt (t:=3) (x:=(.tmp 21)) (y:=(.const (iv 40))) (M' h3))) (qR [] 8 [16,18,20,22,24,26,28,0,30,2] λd4 a3 e4 r=>qC 16 (F1 (l:=q) (b.fv.ch (((E.trans G).trans o).trans r) (by simp) (by simp)).rd (by omega) c) ?_);rintro e' e5 ⟨rfl,Q⟩;refine⟨_,rfl,Q,?_⟩;have C:=Cg.eb (B:=w.heap.size) (T:=[]) (g:=a3) Q;refine qR [] 3 [34,36] λd5 b1 e6 D=>?_;by_cases h4:c∈q
     .refine qI ((!(decide (c∈q)))) false (by simpa using h4) (qR [] 3 [] λd6 b2 e7 S=>qV 0 (iv ((j:Int)+1)) (AO 11 (j:Int) underlying3 (by omega)) (qR [] 2 [] λd7 b3 e8 U=>qB [false,false,false] λz P K=>hJ (a.length-(j+1)) _ _ _ z _ (by omega) ⟨j+1,q,rfl,by omega,rfl,rfl,?_,?_,by omega,((((((((hC.n E).n G).n o).n r).n C).n D).n S).n U)⟩ K))
      .exact(nsC b F (((((((E.n G).n o).n r).n C).n D).n S).n U) P)
      .rw[<- hI,DL H,GO,if_neg (λh=>h.2 h4)]
     .refine qI ((!(decide (c∈q)))) true (by simpa using h4) (qR [] 10 [14,0,2,4,6,8,10,12,0,14,2,17,0,0] λa1 b5 e9 M=>Km 9 (x:=xr.fv) 35 35 51 5 40 (.agg #[iv 0,iv 0,iv 0,iv 0,iv 0]) ⟨(a1 0),0,none⟩ 1 1 [iv c.k,iv c.c,iv c.s,iv c.n,iv c.v] (b.fv.ch ((((((E.trans G).trans o).trans r).trans C).trans D).trans M) (by simp) (by simp)) (by kernel_rfl) (by kernel_rfl) (by kernel_rfl) underlying35 (by kernel_rfl) (by kernel_rfl) (by decide) (by decide) rfl (by simp[Value.oneCell']) (λK=>Cu K 3 (a1 0) [iv c.k,iv c.c,iv c.s,iv c.n,iv c.v] 51 .z true (by kernel_rfl)) (by unfold maxLen;omega) (by omega) ?_);intro a8 b6 f0 a2 d2 Z a9;have V:=Z w.heap.size [.n 2 i] (D'.2 rfl);refine qR [.n 0 i] 8 [20,22,24,26,29,0,1] λd8 b7 f1 N=>qV 0 (iv ((j:Int)+1)) (AO 11 (j:Int) underlying3 (by omega)) (qR [] 2 [] λd9 b8 f2 O=>qB [false,false,false,false] λz P K=>hJ (a.length-(j+1)) _ _ _ z _ (by omega) ⟨j+1,(q++[c]),rfl,by omega,rfl,rfl,?_,?_,by simp;omega,((((((((((hC.n E).n G).n o).n r).n C).n D).n M).trans (V.mono (by simp[TN]))).trans (N.mono (by simp[TN]))).n O)⟩ K);have d:=(((((((((E.nil ([.n 2 i,.n 0 i]:List Tg)).n G).n o).n r).n C).n D).n M).m V).m N).n O;have A:Tg.z∉([.n 2 i,.n 0 i]:List Tg):=by simp
      .exact⟨{ xr with fv:=a8 },a6,a7,P.nd 0 (b.tape.ch d A) (b.mv.ch d A) (BA b.an d A) (Cc b.bw d A (by simp)) (by rw[Cp];exact((a2.ch N).ch O)) (b.ab.ch d) (b.bn.ch d) (b.cl.ch d) b.rW,F.ch d A (by simp<;>omega),P.new⟩
      .rw[<- hI,DL H,GO,if_pos ⟨by omega,h4⟩]
    .refine qT 7 (.bool false) (λ_=>(rLt (t:=3) (x:=(.tmp 21)) (y:=(.const (iv 40))) (E' h3))) (qR [] 16 [16,18,20,22,24,26,28,30,32,34,36] λe0 b9 f3 W=>qV 0 (iv ((j:Int)+1)) (AO 11 (j:Int) underlying3 (by omega)) (qR [] 2 [] λe1 c0 f4 X=>qB [false,false,false] λz P K=>hJ (a.length-(j+1)) _ _ _ z _ (by omega) ⟨j+1,q,rfl,by omega,rfl,rfl,?_,?_,by omega,(((((hC.n E).n G).n o).n W).n X)⟩ K))
     .exact(nsC b F ((((E.n G).n o).n W).n X) P)
     .rw[<- hI,DL H,GO,if_neg (by omega)]
   .refine qI ((decide ((j:Int)<(I.n:Int)))) false (E' (by omega)) (qR [] 1 [] λe2 c2 f5 Y=>?_);obtain rfl:j=a.length:=by omega
    rw[og]at hI
    refine qE (.tuple #[]) λK=>?_;rw[<- hI];exact⟨_,rfl,(nsC b F (E.n Y) K),((hC.n E).n Y)⟩
 .refine qI ((!p.leads)) true (by simpa using h1) (qE (.tuple #[]) λK=>?_);rw[show p.dT a=p from if_neg h1];exact⟨_,rfl,(nsC hN hO ((R.n c4).n c5) K),(((R.nil (TN i)).n c4).n c5)⟩
theorem Fg(h:NS i nb ob g w p ls ts){b:Bool}(a:p.leads=b) :
  Calls prog 99 #[pt nb 0] w λe w'=>e=.returned (.bool b)/\Bw w w':=by subst a;exact NL h
theorem XZ(p:Nod)(l:List Cmd):(p.dT l).bw=p.bw:=by unfold Nod.dT;split<;>rfl
theorem Mm(h:NS i nb ob g w p ls ts)(k:Nat)(l:Let)(F:CM g w k l)(E:l.kind=6)(O:p.bw.length<100000000)(v:l.gC.length<100000000)(R:p.av.fv.length<=40) :
  Calls prog 59 #[pt nb 0,pt k 0] w (NP i nb ob g w (.tuple #[]) (p.take l) ls ts):=by
 obtain⟨x,lt,tl,C,D,P⟩:=h;refine gI (fn:=f59) (TN i) g func59 P (qN C (qO D ?_));have s:=F;obtain⟨X,G,j,Q,y⟩:=F;refine Cl ⟨k,.cells (FA l X G) 158,.z,false⟩ (λ_=>⟨j.r,j.z,λh=>(by cases h),λh=>absurd rfl h⟩) (by kernel_rfl) ?_;refine qR [] 12 [0,0,0,0,5,0,3,2,4,4,6,8,2] λm g1 w1 b=>qS 5 [false,false,true,true,true] C D b (λI=>JE I l.gC G (y.ch (b.nil (TN i)) (By i)) v R) λg2 w2 H S V a e o=>?_;have hn:=a.ab.num;refine qR [] 15 [11,0,2,2,4,6,0,8,1,10,12,14,16,3,18,20] λs4 g4 w4 d=>?_;by_cases B:l.bu<(p.dT l.gC).ab.length
 .refine qI ((decide ((l.bu:Int)<(H.ab.n:Int)))) true (M' (by omega)) (qR [] 3 [1] λs5 N Z q=>?_);rw[show p.take l=(p.dT l.gC).wait (.tell l.src l.bu)from by unfold Nod.take;rw[E];exact if_pos B];refine Af λK=>?_;obtain⟨z1,z2⟩:=K.rM 1 (m 0) (.cells #[pt nb 0] 91) false (by kernel_rfl);obtain⟨z3,z4⟩:=K.rM 2 (m 1) (.cells #[pt k 0] 159) false (by kernel_rfl);have J:NS i nb ob N Z (p.dT l.gC) ls ts:=(nsC a e (d.n q) K);refine qS0 2 [true,true,true,false,false] (AT J (by rw[XZ];exact O) _ _ (.tell l.src l.bu) ⟨(m 0),(m 1),k,l,rfl,⟨z1,z2⟩,⟨z3,z4⟩,s.ch ((((b.nil (TN i)).trans (o)).n d).n q) (By i),rfl,rfl⟩) λg6 w6 x6 T W t u L=>qR [] 1 [] λs8 g8 w8 A=>qF t u A ((((((b.nil (TN i)).trans (o)).n d).n q).trans (L)).n A)
 .refine qI ((decide ((l.bu:Int)<(H.ab.n:Int)))) false (E' (by omega)) (qR [] 1 [] λU M Y c=>qE (.tuple #[]) λK=>?_);rw[show p.take l=(p.dT l.gC)from by unfold Nod.take;rw[E];exact if_neg B];exact⟨_,rfl,(nsC a e (d.n c) K),((((b.nil (TN i)).trans (o)).n d).n c)⟩
theorem K3(h:NS i nb ob g w p ls ts){w0:World}(hB:Base w0 g w)(hT:Tabs w0)(M:Nat)(l:Let)(hl:CM g w M l)(Z:l.kind=1)(hs:l.src<5)(hb:(p.ln 0 l.gC).ab.length<=40)(b2:l.gC.length<=40)(Y:(p.av.an l.src).vs.length<100000000) :
  Calls prog 54 #[pt nb 0,pt M 0] w (NP i nb ob g w (.tuple #[]) (p.take l) ls ts):=by
 obtain⟨I,src,q,b,cn,a,c,gC⟩:=l;simp only at Z hs hb b2 Y;obtain⟨x,lt,tl,hN,hO,hg⟩:=h;refine gI (fn:=f54) (TN i) g func54 hg (qN hN (qO hO ?_));obtain⟨vs,wh,a0,b3,a1⟩:=hl;obtain⟨wa,wn,wc⟩:=wh;obtain rfl:wn=gC.length:=a1.len;have d8:p.ab.length<=40:=my (by unfold Nod.ln;rw[H'];omega) hb;refine Cl ⟨M,.cells (FA (Let.mk I src q b cn a c gC) vs (S3.mk wa gC.length wc)) 158,.z,false⟩ (λ_=>⟨a0.r,a0.z,λh=>(by cases h),λh=>absurd rfl h⟩) (by kernel_rfl) ?_;refine qR [] 7 [2] λs1 g1 w1 A=>qS 5 [false,false,true] hN hO A (λN2=>NN N2 0 gC (S3.mk wa gC.length wc) (a1.ch (A.nil (TN i)) (By i)) (by omega) (by omega) (by omega)) λg2 w2 x2 b4 b5 s t E=>?_;by_cases h1:(p.ln 0 gC).leads=false
 .refine qR [] 5 [29,0] λs4 g4 w4 c4=>Af λK=>?_;have N6:NS i nb ob g4 w4 (p.ln 0 gC) ls ts:=(nsC s t c4 K);refine qC 1 (Fg N6 h1) ?_;rintro e' w7 ⟨rfl,b7⟩;refine⟨_,rfl,b7,?_⟩;have c7:=Cg.eb (B:=w.heap.size) (T:=[]) (g:=g4) b7;refine qR [] 29 [4,6,8,10,12,14,16,18,20,22,24,26,28,30,32,34,36,38,40,42,44,46,48,50,52,54,56] λs8 g8 w8 c8=>qE (.tuple #[]) λK=>?_;rw[show p.take (Let.mk I src q b cn a c gC)=(p.ln 0 gC)from by unfold Nod.take;rw[Z];exact if_pos (.inl h1)];exact⟨_,rfl,(nsC s t ((c4.n c7).n c8) K),(((((A.nil (TN i)).trans (E)).n c4).n c7).n c8)⟩
 .have h10:(p.ln 0 gC).leads=true:=by simpa using h1
  refine qR [] 5 [29,0] λd9 S b6 d=>Af λK=>?_;have a3:NS i nb ob S b6 (p.ln 0 gC) ls ts:=(nsC s t d K);refine qC 1 (Fg a3 h10) ?_;rintro e' e9 ⟨rfl,O⟩;refine⟨_,rfl,O,?_⟩;have j:=Cg.eb (B:=w.heap.size) (T:=[]) (g:=S) O;refine qR [] 12 [4,6,8,10,12,14,0,16,18,20,22,24,26,1] λe0 c6 f0 k=>?_;by_cases h2:b≠(p.ln 0 gC).av.hU
  .refine qT 14 (.bool true) (λ_=>(ID (x:=(.tmp 17)) (y:=(.tmp 23)) b (p.ln 0 gC).av.hU h2)) (qR [] 16 [30,32,34,36,38,40,42,44,46,48,50,52,54,56] λe1 c9 f1 P=>qE (.tuple #[]) λK=>?_);rw[show p.take (Let.mk I src q b cn a c gC)=(p.ln 0 gC)from by unfold Nod.take;rw[Z];exact if_pos (.inr (.inl h2))];exact⟨_,rfl,(nsC s t (((d.n j).n k).n P) K),((((((A.nil (TN i)).trans (E)).n d).n j).n k).n P)⟩
  .have h20:b=(p.ln 0 gC).av.hU:=by simpa using h2
   refine qT 14 (.bool false) (λ_=>(IC (x:=(.tmp 17)) (y:=(.tmp 23)) b (p.ln 0 gC).av.hU h20)) (qR [] 11 [30,32,34,36,38,40,42,0,44,46,48,50] λe2 a9 b8 m=>DS 69 (λg' w' e L=>e=[(0,pt nb 0),(1,pt M 0),(38,.bool ((p.ln 0 gC).av.qZ src))]/\L=[⟨M,.cells (FA (Let.mk I src q b cn a c gC) vs (S3.mk wa gC.length wc)) 158,.z,false⟩,⟨nb,.cells (AG i ob (p.ln 0 gC) x2) 111,.n 0 i,false⟩,⟨ob,.cells #[S3.v b4,S3.v b5] 88,.n 50 0,false⟩]/\True/\Cg w.heap.size ([]:List Tg) a9 b8 g' w') (by kernel_rfl) ?_ ?_)
   .intro J hJ;rcases ri hs with rfl|rfl|rfl|rfl|rfl <;>
    (refine qR [] 4 [52,54,1,56] λe3 d1 f3 a6=>?_;exact qB [true,true,true] λz K0 K=>hJ _ _ _ z _ ⟨rfl,rfl,trivial,(a6.nil ([]:List Tg))⟩ K)
   rintro d0 f2 _ g3 _ ⟨rfl,rfl,_,o⟩;by_cases h3:(p.ln 0 gC).av.qZ src=true
   .refine qI (((p.ln 0 gC).av.qZ src)) true h3 (qE (.tuple #[]) λK=>?_);rw[show p.take (Let.mk I src q b cn a c gC)=(p.ln 0 gC)from by unfold Nod.take;rw[Z];exact if_pos (.inr (.inr h3))];exact⟨_,rfl,(nsC s t ((((d.n j).n k).n m).n o) K),(((((((A.nil (TN i)).trans (E)).n d).n j).n k).n m).n o)⟩
   .refine qI (((p.ln 0 gC).av.qZ src)) false (by simpa using h3) (qR [] 15 [12,0,2,4,6,8,10,12,14,0,16,18,20,22,0] λe4 d2 f4 u=>qS 12 [true,false,false] s t (((((d.n j).n k).n m).n o).n u) (λa4=>Qk a4 (hB.ch ((((((((A.nil (TN i)).trans (E)).n d).n j).n k).n m).n o).n u) (By i)) hT src hs a vs (b3.ch ((((((((A.nil (TN i)).trans (E)).n d).n j).n k).n m).n o).n u) (By i)) Y) λd3 f5 a2 C D U W Q=>qR [] 17 [15,0,2,4,6,8,0,10,12,14,16,0,18,20,22,24,26] λe5 b0 b9 F=>DS 69 (λg' w' e L=>e=[(0,pt nb 0)]/\L=[⟨M,.cells (FA (Let.mk I src q b cn a c gC) vs (S3.mk wa gC.length wc)) 158,.z,false⟩,⟨nb,.cells (AG i ob ({ (p.ln 0 gC)with av:={ (p.ln 0 gC).av.rC src a with bN:=upN (p.ln 0 gC).av.bN src gC.length } }) a2) 111,.n 0 i,false⟩,⟨ob,.cells #[S3.v C,S3.v D] 88,.n 50 0,false⟩]/\True/\Cg w.heap.size ([.n 0 i]:List Tg) b0 b9 g' w') (by kernel_rfl) ?_ ?_)
    .intro J hJ;rcases ri hs with rfl|rfl|rfl|rfl|rfl <;>
     (refine qR [.n 0 i] 3 [28,31,1,1] λe6 d5 f7 a7=>?_;exact qB [true,true,true] λz K0 K=>hJ _ _ _ z _ ⟨rfl,rfl,trivial,a7⟩ K)
    rintro d4 f6 _ g5 _ ⟨rfl,rfl,_,G⟩;refine qR [] 2 [] λe7 b1 c0 H=>?_;rw[show p.take (Let.mk I src q b cn a c gC)=Nod.rj { (p.ln 0 gC)with av:={ (p.ln 0 gC).av.rC src a with bN:=upN (p.ln 0 gC).av.bN src gC.length } }from by unfold Nod.take;rw[Z];exact if_neg (by rintro(h|h|h);exact h1 h;exact h2 h;exact h3 h)];refine Af λK=>?_;have N:=((F.nil ([.n 0 i]:List Tg)).trans (G)).n H;have a5:NS i nb ob b1 c0 ({ (p.ln 0 gC)with av:={ (p.ln 0 gC).av.rC src a with bN:=upN (p.ln 0 gC).av.bN src gC.length } }) ls ts:=⟨a2,C,D,K.sQ 1 U N,W.ch N (hn:=by simp<;>omega),K.new⟩;refine qS0 1 [true,false,false] (FX a5 (hB.ch ((((((((((((A.nil (TN i)).trans (E)).n d).n j).n k).n m).n o).n u).trans (Q)).n F).trans (G.mono (by simp[TN]))).n H) (By i)) hT hb) λd6 f8 g0 c3 c5 V X a8=>qR [] 1 [] λe8 d7 f9 R=>qF V X R ((((((((((((((A.nil (TN i)).trans (E)).n d).n j).n k).n m).n o).n u).trans (Q)).n F).trans (G.mono (by simp[TN]))).n H).trans (a8)).n R)
def tkG:Nat->FuncId
 | 0=>53
 | 1=>54
 | 2=>55
 | 3=>56
 | 4=>57
 | 5=>58
 | _=>59
def tkV(k:Nat):Value:=.func (.func (tkG k)) #[] #[]
def tkL(j:Nat):List MapEntry:=(List.range j).map λ(k:Nat)=>{ key:=iv (k:Int),val:=tkV k,born:=k }
structure TkAt(g:Gh)(w:World)(b j:Nat):Prop where
 t:g.t b=.n 70 0
 k:g.k b=0
 row:w.heap[b]?=some (.map (tkL j).toArray j)
theorem TkAt.ch{B:Nat}{T:List Tg}{d:Gh}{e:World}(h:TkAt g w b j)(c:Cg B T g w d e)(hn:Tg.n 70 0∉T:=by simp):TkAt d e b j :=
 have a:=c.rc h.row h.t hn
 ⟨a.2.1,a.2.2.trans h.k,a.1⟩
theorem ZX(h:k<7):k=0\/k=1\/k=2\/k=3\/k=4\/k=5\/k=6:=by omega
theorem Rn(a:Bool)(k:Nat)(w:World):(Instr.checkKey a 10000 142 (iv (k:Int))).run prog w=.ok () w:=by kernel_rfl
theorem eS(h:j<7)(w:World):(Instr.findKey 142 (iv (j:Int)) (tkL j)).run prog w=.ok none w:=by
 rcases ZX h with rfl|rfl|rfl|rfl|rfl|rfl|rfl<;>kernel_rfl
theorem eQ(h:j<7)(w:World):(Instr.findKey 142 (iv (j:Int)) (tkL 7)).run prog w=.ok (some (j,tkV j)) w:=by
 rcases ZX h with rfl|rfl|rfl|rfl|rfl|rfl|rfl<;>kernel_rfl
theorem jn(h:TkAt g w b j)(e:j<7):∃ w',(Instr.mapUpdate 89 (.map (some b)) (iv (j:Int)) (tkV j)).run prog w=.ok () w'/\TkAt g w' b (j+1)/\(∀ B T,Tg.n 70 0∈T->Cg B T g w g w')/\w'.heap.size=w.heap.size:=by
 have d:(getObj b).run prog w=.ok (.map (tkL j).toArray j) w:=by simp[getObj,Sem.run,h.row]
 have f:=MapKept.run_setObj_map (P:=prog) (w:=w) (.map (tkL (j+1)).toArray (j+1)) h.row;have c:((tkL j).toArray.push { key:=iv (j:Int),val:=tkV j,born:=j })=(tkL (j+1)).toArray:=by simp[tkL,List.range_succ]
 refine⟨_,?_,⟨h.t,h.k,ChangeMaps.heap_setBlock_same h.row (.map (tkL (j+1)).toArray (j+1))⟩,λB T a=>Cg.block h.row h.t h.k a _,by simp[ChangeMaps.setBlock]⟩;rw[Instr.mapUpdate];simp only[Sem.run_bind,run_underlying underlying89,Result.andThen_ok,d,Rn,eS e,c,f];rfl
theorem rTk(a:w.heap[b]?=some (.map (tkL 7).toArray 7))(d:k<7):(Instr.lookup 89 (.map (some b)) (iv (k:Int)) false).run prog w=.ok (tkV k) w:=by
 have c:(getObj b).run prog w=.ok (.map (tkL 7).toArray 7) w:=by simp[getObj,Sem.run,a]
 simp[Instr.lookup,run_underlying underlying89,c,Rn,eQ d]
end
section
variable{fn:Func}{R:Ending->World->Prop}{B:Nat}{T:List Tg}{g:Gh}{w:World}
theorem jS{s:Xs}(d:Nat)(c:Du s d=some (Instr.makeMap 89 none>>=λv=>pure (.value v)))
  (e:(nxt s d undef s.L).o.map Ob.l'=(nxt s d undef s.L).o.map Ob.r')
  (p:∀ b g' w',w.heap.size<=b->TkAt g' w' b 0->(∀ B T,Cg B T g w g' w')->(∀ b,w'.heap.size<=b->g'.t b=.z/\g'.k b=0)->GG prog fn R B T (nxt s d (.map (some b)) s.L).s g' w'):GG prog fn R B T s g w:=by
 refine Ko d s.L e (BT c) λl r j o f=>?_;have q:(Instr.makeMap 89 none).run prog w=.ok (.map (some w.heap.size)) (w.alloc (.map #[] 0)):=by
  simp[Instr.makeMap,go_sem]
 have h:∀ B T,Cg B T g w (OO g w (.n 70 0) 0) (w.alloc (.map #[] 0)):=λB T =>
  ⟨rfl,rfl,rfl,by simp,λb a=>.inl (if_neg (by omega)),λb a=>by show _<=(if b=w.heap.size then _ else g.k b);rw[if_neg (by omega)];exact A' _,λb a _ _=>if_neg (by omega),λb a _ _=>heap_alloc_old w _ a,λb a j u=>World.cell?_of_block (w:=w) (heap_alloc_old w _ a)⟩
 have i:∀ b,(w.alloc (.map #[] 0)).heap.size<=b->(OO g w (.n 70 0) 0).t b=.z/\(OO g w (.n 70 0) 0).k b=0:=λb a=>by
  have m:w.heap.size+1<=b:=by simpa using a
  show(if b=w.heap.size then _ else g.t b)=.z/\(if b=w.heap.size then _ else g.k b)=0;rw[if_neg (by omega),if_neg (by omega)];exact l.new b (by omega)
 refine⟨.map (some w.heap.size),_,OO g w (.n 70 0) 0,.inl ?_,l.ch (h _ []) i (by simp),p _ _ _ (A' _) ⟨if_pos rfl,if_pos rfl,heap_alloc_new _ _⟩ h i⟩;rw[Dv c f,Sem.run_bind,q,Result.andThen_ok];rfl
theorem H4{s:Xs}(c:Nat){b j:Nat}(h:TkAt g w b j)(u:j<7)(a:Du s c=some (Instr.mapUpdate 89 (.map (some b)) (iv (j:Int)) (tkV j)>>=λ_=>pure .skip))
  (d:(nxt s c undef s.L).o.map Ob.l'=(nxt s c undef s.L).o.map Ob.r')(r:s.L.all (λy=>[Tg.n 70 0].all λt=>y.t.ne t)=true)
  (v:∀ w',TkAt g w' b (j+1)->(∀ B T,Tg.n 70 0∈T->Cg B T g w g w')->GG prog fn R B T (nxt s c undef s.L).s g w'):GG prog fn R B T s g w:=by
 refine Ko c s.L d (BT a) λk A i o e=>?_;obtain⟨w',x,p,f,q⟩:=jn h u;refine⟨undef,w',g,.inr ⟨?_,rfl⟩,k.ch (f _ [Tg.n 70 0] (D'.2 rfl)) (λb m=>k.new b (by rw[q]at m;exact m)) r,v w' p f⟩;rw[Dv a e,Sem.run_bind,x,Result.andThen_ok];rfl
end
def TM:List Tg:=[0,1,2,3,4].flatMap TN
theorem Ft:Tg.z∉TM:=by simp[TM,TN]
theorem j1{i:Nat}(a:i<5):∀ t∈TN i,t∈TM:=λt b=>pg.2 ⟨i,by rcases ri a with rfl|rfl|rfl|rfl|rfl<;>simp,b⟩
theorem j2{i j r:Nat}(h:j≠i)(a:r<6):Tg.n r j∉TN i:=by simp[TN];omega
def mtA(nb:Nat->Nat)(ob tb:Nat):Array Value:=#[pt (nb 0) 0,pt (nb 1) 0,pt (nb 2) 0,pt (nb 3) 0,pt (nb 4) 0,pt ob 0,.map (some tb)]
structure MS(mb tb ob:Nat)(nb:Nat->Nat)(g:Gh)(w:World)(M:Meet):Prop where
 box:Box g w mb (mtA nb ob tb) 94
 tk:TkAt g w tb 7
 ae:∀ i,i<5->∃ x,NodeAt g w i (nb i) ob x (M.ae i)
 out:∃ lt tl,OutAt g w ob lt tl M.br M.ed
 new:IU g w
def MP(mb tb ob:Nat)(nb:Nat->Nat)(g:Gh)(w:World)(v:Value)(M:Meet):Ending->World->Prop:=λe w'=>∃ g',e=.returned v/\MS mb tb ob nb g' w' M/\Cg w.heap.size TM g w g' w'
section
variable{mb tb ob i:Nat}{nb:Nat->Nat}{g g':Gh}{w w':World}{M:Meet}
theorem MS.ns(h:MS mb tb ob nb g w M)(a:i<5):NS i (nb i) ob g w (M.ae i) M.br M.ed :=
 let ⟨x,hx⟩:=h.ae i a
 let ⟨lt,tl,ho⟩:=h.out
 ⟨x,lt,tl,hx,ho,h.new⟩
theorem MS.rA{B:Nat}(h:MS mb tb ob nb g w M)(c:Cg B [] g w g' w')(b:IU g' w'):MS mb tb ob nb g' w' M :=
 ⟨h.box.ch c,h.tk.ch c,λi a=>let ⟨x,hx⟩:=h.ae i a;⟨x,hx.ch c⟩,let ⟨lt,tl,ho⟩:=h.out;⟨lt,tl,ho.ch c⟩,b⟩
theorem MS.of{B:Nat}(h:MS mb tb ob nb g w M)(q:i<5){p:Nod}{a:List Let}{b:List Tol}(m:NS i (nb i) ob g' w' p a b)(c:Cg B (TN i) g w g' w'):MS mb tb ob nb g' w' ⟨upN M.ae i p,a,b⟩:=by
 obtain⟨x,lt,o,d,f,k⟩:=m;refine⟨h.box.ch c (By i),h.tk.ch c (by simp[TN]),λj l=>?_,⟨lt,o,f⟩,k⟩;by_cases e:j=i
 .subst e;exact⟨x,by show NodeAt g' w' j (nb j) ob x (upN M.ae j p j);rw[CZ];exact d⟩
 .obtain⟨y,hy⟩:=h.ae j l;exact⟨y,by show NodeAt g' w' j (nb j) ob y (upN M.ae i p j);rw[Dw _ _ e];exact hy.ch c (By i) λr n=>j2 e n⟩
theorem MS.call(h:MS mb tb ob nb g w M)(b:i<5){f:FuncId}{a:Array Value}{v:Value}{p:Nod}{d:List Let}{j:List Tol}(l:Calls prog f a w (NP i (nb i) ob g w v p d j)):Calls prog f a w (MP mb tb ob nb g w v ⟨upN M.ae i p,d,j⟩) :=
 l.mono λe o ⟨k,m,n,c⟩=>⟨k,m,h.of b n c,c.mono (j1 b)⟩
theorem Uw{W:World}(b:W.heap[mb]?=some (.cells (mtA nb ob tb) 94)){j:Nat}(a:j<5):W.cell? ⟨mb,j,none⟩=some (pt (nb j) 0):=by
 rcases ri a with rfl|rfl|rfl|rfl|rfl<;>(rw[cell_of_row _ _ _ _ _ _ b];rfl)
end
section
def Nb(B:Nat)(y:S3)(l:List Int):Prop:=l≠[]->∀ a,y.a=some a->B<=a.block
variable{B sz:Nat}{e:TypeId}{g:Gh}{l:List Int}{w:World}{x:S3}{xs:List Value}
theorem Jq{y:Value}(h:w.ownsRow B 5 1 y l.length (l.map (Value.int .u8)))(f:l.length<=140737488351232)(e:∀ x∈l,0<=x/\x<256):∃ z:S3,y=z.v/\Sl w z.v l/\Nb B z l:=by
 have d:=Sl.nn h f e;rcases h.2 with⟨rfl,h0⟩|⟨b,cap,cur,rfl,hbb,_⟩
 .exact⟨s30,rfl,d,λg=>absurd (j' h0) g⟩
 .exact⟨⟨some ⟨b,0,none⟩,l.length,cap⟩,rfl,d,λ_ a c=>by simp only[Y']at c;subst c;exact hbb⟩
theorem Sg(g:Gh)(w:World):FSl g w s30 []:=⟨⟨⟨none,0,rfl,A' _,λ_=>rfl,.inl rfl⟩,by simp,by simp⟩,λh=>absurd rfl h⟩
theorem Ct{y:S3}(h:Sl w y.v l)(n:Nb B y l)(G:∀ b,B<=b->g.t b=.z):FSl g w y l:=⟨h,λd a c=>G _ (n d a c)⟩
structure OwN(B:Nat)(w:World)(e:TypeId)(sz:Nat)(x:S3)(xs:List Value):Prop where
 len:xs.length=x.n*sz
 ex:(x.a=none/\x.n=0/\x.c=0)\/∃ b cur,B<=b/\x.a=some ⟨b,0,none⟩/\w.heap[b]?=some (.cells cur e (0,0))/\x.n<=x.c/\x.c<=maxLen/\cur.size=x.c*sz/\cur.toList.take (x.n*sz)=xs
theorem OwnS.own{c:World}{r:Nat}{p:Bool}(h:OwnS g w (.n 60 r) p e sz x xs)(C:Cg c.heap.size TQ gS c g w):OwN c.heap.size w e sz x xs:=by
 refine⟨h.len,h.ex.imp id λ⟨b,a,f,i,j,k,l,m,o,q⟩=>⟨b,a,?_,f,i,j,k,l,m⟩⟩;refine pV λd=>?_;have:=C.tag d (λ_=>d);rw[o]at this
 cases this
theorem OwN.rv(h:OwN B w e sz x xs):RdV w x sz xs:=by
 rcases h.ex with⟨h1,h2,h3⟩|⟨b,cur,h0,h1,h2,h3,h4,h5,h6⟩
 .exact⟨h.len,by omega,λ_=>h3,.inl h2⟩
 .refine⟨h.len,h3,λh=>(by rw[h1]at h;cases h),.inr ⟨b,0,h1,rl h2,λj u a=>?_⟩⟩;rw[na,cell_of_row _ _ _ _ _ _ h2];rw[<- h6,nz]at a
  split at a
  .simpa using a
  .cases a
theorem OwN.fz(h:OwN B w e sz x xs)(G:∀ b,B<=b->g.t b=.z):FzV g w x sz xs :=
 ⟨h.rv,λ_ a c=>by
  rcases h.ex with⟨h1,h2,h3⟩|⟨b,cur,h0,h1,_⟩
  .rw[h1]at c;cases c
  .rw[h1]at c;cases c;exact G _ h0⟩
theorem RdV.fz(h:RdV w x sz xs):FzV gS w x sz xs:=⟨h,λ_ _ _=>rfl⟩
theorem RdV.spot(h:RdV w x sz xs){i:Nat}(d:i<x.n):∃ b off,x.a=some ⟨b,off,none⟩/\b<w.heap.size/\∀ j u,xs[sz*i+j]?=some u->w.cell? ⟨b,off+sz*i+j,none⟩=some u:=by
 rcases h.ex with h1|⟨b,off,h1,h2,h3⟩
 .omega
 .exact⟨b,off,h1,h2,λj u c=>by rw[nB];exact h3 _ u c⟩
theorem OwN.take{l:World}(h:OwN w.heap.size l e sz x xs)(b:Bw w l)(G:∀ b,w.heap.size<=b->g.t b=.z/\g.k b=0)(r:Nat):∃ g',(∀ B,Cg B [] g w g' l)/\(∀ b,l.heap.size<=b->g'.t b=.z/\g'.k b=0)/\OwnS g' l (.n 60 r) true e sz x xs/\∀ b,w.heap.size<=b->(∀ a,x.a=some a->b≠a.block)->g'.t b=.z:=by
 have m:=b.size;rcases h.ex with h1|⟨c,cur,h0,h1,h2,h3,h4,h5,h6⟩
 .exact⟨g,λ_=>Cg.eb b,λd f=>G d (my m f),⟨h.len,.inl h1⟩,λd f _=>(G d f).1⟩
 .have hc:c<l.heap.size:=rl h2;have i:∀ d,d<w.heap.size->¬ d=c:=λd f e=>by omega
  refine⟨⟨λd=>if d=c then .n 60 r else g.t d,λd=>if d=c then xs.length else g.k d⟩,λ_=>⟨b.os,b.tape,b.output,m,λd f=>.inl (if_neg (i d f)),λd f=>?_,λd f _ _=>if_neg (i d f),λd f _ _=>b.block d f,λd f j _=>World.cell?_of_block (w:=w) (b.block d f)⟩,λd f=>?_,⟨h.len,.inr ⟨c,cur,h1,h2,h3,h4,h5,h6,if_pos rfl,if_pos rfl⟩⟩,λd f o=>(if_neg (o _ h1)).trans (G d f).1⟩
  .show g.k d<=(if d=c then _ else g.k d);rw[if_neg (i d f)];exact A' _
  .have hd2:¬ d=c:=by omega
   show(if d=c then _ else g.t d)=.z/\(if d=c then _ else g.k d)=0;rw[if_neg hd2,if_neg hd2];exact G d (my m f)
end
section
variable{P:Program}{fn:Func}{R:Ending->World->Prop}{w0:World}{Φ:List Fa}{g:Gh}{w:World}
section
variable{s:Xs}
theorem tG(i:Nat)(m:List Bool)(r:Nat){f:FuncId}{j:Array Value}{K:Ending->World->Prop}(B:AllF g w Φ->Cg w0.heap.size TQ gS w0 g w->Calls P f j w K)(E:(∀ b,w.heap.size<=b->g.t b=.z)->∀ e w',K e w'->∃ v Ψ et sz x xs,e=.returned v/\Bw w w'/\OwN w.heap.size w' et sz x xs/\∀ g',(AllF g' w' Φ->OwnS g' w' (.n 60 r) true et sz x xs->(∀ b,w.heap.size<=b->(∀ a,x.a=some a->b≠a.block)->g'.t b=.z)->AllF g' w' Ψ)/\GT P fn R w0 Ψ (nxt s i v (AH m s.L)).s g' w')(H:∀ W,Db P s i W=some (.ok (.enter f j) W):=by intro _;kernel_rfl)(D:Kl s i=true:=by kernel_rfl)(d:(nxt s i undef (AH m s.L)).o.map Ob.l'=(nxt s i undef (AH m s.L)).o.map Ob.r':=by kernel_rfl):GT P fn R w0 Φ s g w:=by
 refine⟨λF C=>Af λl=>qG i [] m (B F C) (λe w' h=>?_) H D d (by simp)⟩;obtain⟨v,Ψ,et,sz,x,xs,p,q,u,k⟩:=E (λb A=>(l.new b A).1) e w' h;obtain⟨g',c,G,y,I⟩:=u.take q l.new r;exact⟨v,g',p,c _,G,(k g').2.ex ((k g').1 (F.rA (c w0.heap.size)) y I) (C.trans ((c _).nil TQ))⟩
theorem iM{P:Program}{W:World}(t f e:TypeId)(i:TypeInfo)(c:P.underlying t=some (.slice e))(b:P.info? e=some i)(y:S3)(d:y.n=0):(Builtin.append_ #[t,t] f #[s30.v,y.v]).run P W=.ok s30.v W:=by
 obtain⟨g,k,h⟩:=y;simp only at d;subst d;show(Builtin.append_ #[t,t] f #[.slice none 0 0,.slice g 0 h]).run P W=.ok (.slice none 0 0) W;cases g with
 | none=>simp[Builtin.append_,run_underlying c,sizeOf,typeInfo,b,Builtin.lenOf,run_firstCells_none]
 | some a =>
  have j:=run_firstCells_some (P:=P) W i.size 0 a 0 h [] (by simp) (by simp);simp[Builtin.append_,run_underlying c,sizeOf,typeInfo,b,Builtin.lenOf,run_firstCells_none,j]
theorem fY(i:Nat)(r:Nat)(y:S3)(news:List Value)(t M e:TypeId)(p a:Nat)(z:Value)(O:AllF g w Φ->RdV w y p news)(Ψ:List Fa)(B:AllF g w Φ->AllF g w Ψ)(I:Ψ.all (λf=>f.ro != some r)=true)(H:Tg.n 60 r∈TQ)(Q:∀ u∈news,u.oneCell'=true)(E:y.n<=maxLen)(h:y.n*a<=140737488355328)(G:∀ x' g' w',x'.n=y.n->GT P fn R w0 (Fa.ow r e p x' news::Ψ) (nxt s i (S3.v x') s.L).s g' w')(J:0<p:=by decide)(N:P.underlying t=some (.slice e):=by kernel_rfl)(d:(P.info? e).map (λi=>(i.zero,i.size,i.bytes))=some (some z,p,a):=by kernel_rfl)(K:Nat.beq z.cells.size p=true:=by kernel_rfl)(k:Du s i=some (Builtin.append_ #[t,t] M #[s30.v,y.v]>>=λv=>pure (.value v)):=by kernel_rfl)(A:(nxt s i undef s.L).o.map Ob.l'=(nxt s i undef s.L).o.map Ob.r':=by kernel_rfl)(S:s.L.all (λy=>[Tg.n 60 r].all λt=>y.t.ne t)=true:=by kernel_rfl):GT P fn R w0 Φ s g w:=by
 refine tF λF C=>?_;have D:=O F;by_cases q:y.n=0
 .obtain⟨inf,hi⟩:∃ inf,P.info? e=some inf:=by cases hh:P.info? e with|none=>rw[hh]at d;cases d|some j=>exact⟨j,rfl⟩
  obtain rfl:news=[]:=j' (by rw[D.len,q,qj]);refine tV i s30.v (λ_ _=>iM t M e inf N hi y q) ?_ k A;exact tCv (Fa.ow r e p s30 []::Ψ) (λF=>⟨OwnS.nil _ _ _ _ _ _,B F⟩) (G s30 g w q.symm)
 .obtain⟨b,off,ha,_,_⟩:=D.spot (i:=0) (by omega);obtain⟨V,m,c⟩:=y;simp only at ha q E h G k D;subst ha;refine Mh i r (x:=s30) (xs:=[]) t M e p a z ⟨b,off,none⟩ m c news (λ_=>OwnS.nil _ _ _ _ _ _) Ψ B I H D.len Q (λF _ j u T=>?_) (by show 0+m<=_;omega) (by show(0+m)*a<=_;rw[na];exact h) (λx' g' w' U=>?_) (qk q) J N d K k A S
  .rcases(O F).ex with h2|⟨b2,off2,k1,k2,k3⟩
   .exact absurd h2 q
   .cases k1;have:(⟨b,off,none⟩:Addr).add j=⟨b,off+j,none⟩:=by unfold Addr.add;split<;>simp_all
    rw[this];exact k3 j u T
  .rw[nZ];exact G x' g' w' (by rw[U];show 0+m=m;omega)
theorem tW(i:Nat)(v:Value){S:Sem Value}(c:AllF g w Φ->Kn w0.heap.size g w s.L->S.run P w=.ok v w)(b:GT P fn R w0 Φ (nxt s i v s.L).s g w)(d:Du s i=some (S>>=λv=>pure (.value v)):=by kernel_rfl)(a:(nxt s i undef s.L).o.map Ob.l'=(nxt s i undef s.L).o.map Ob.r':=by kernel_rfl):GT P fn R w0 Φ s g w:=⟨λF C=>Af λK=>qV i v (c F K) (b.ex F C) d a⟩
end
end
theorem btr{w c d:World}(a:Bw w c)(b:Bw c d):Bw w d:=a.trans (b.mono a.size)
def lB(L:List Sh):List Nat:=L.filterMap λx=>match x.t with|.l=>some x.g|_=>none
def gK(L:List Sh):Gh:=⟨λb=>if(lB L).elem b then .l else .z,λ_=>0⟩
def zl(L:List Sh):Bool:=L.all λx=>match x.t with|.n _ _=>false|_=>true
theorem L5{L:List Sh}{b:Nat}:b∈lB L↔∃ x∈L,x.t=.l/\x.g=b:=by
 unfold lB;rw[List.mem_filterMap];constructor
 .rintro⟨x,hx,h⟩;cases ht:x.t<;>rw[ht]at h<;>simp at h;exact⟨x,hx,ht,h⟩
 .rintro⟨x,hx,ht,rfl⟩;exact⟨x,hx,by rw[ht]⟩
section
variable{P:Program}{fn:Func}{R:Ending->World->Prop}{B:Nat}{T:List Tg}{g:Gh}{w:World}
section
variable{L L':List Sh}{f:FuncId}{s:Xs}{w':World}
theorem Kn.re(h:Kn B g w L)(q:zl L=true):Kn B (gK L) w L:=by
 refine⟨λx d=>?_,h.sj,λb s=>⟨?_,rfl⟩,h.base⟩
 .have h1:=h.row x d;refine⟨h1.1,?_,h1.2.2.1,λ_=>rfl⟩;show(if(lB L).elem x.g then Tg.l else Tg.z)=x.t;cases ht:x.t with
  | l=>rw[if_pos (by rw[pi];exact M' (L5.2 ⟨x,d,ht,rfl⟩))]
  | n r i=>have:=nN.1 q x d;rw[ht]at this;cases this
  | z =>
   rw[if_neg];rw[pi];intro f;obtain⟨y,m,c,a⟩:=L5.1 (m5 f);have k:x≠y:=λe=>by rw[e,c]at ht;cases ht
   have:(x.g=y.g->(x.t=.z/\x.w=false)/\y.t=.z/\y.w=false)\/(y.g=x.g->(y.t=.z/\y.w=false)/\x.t=.z/\x.w=false):=by
    obtain⟨i,o,rfl⟩:=oP d;obtain⟨j,p,rfl⟩:=oP m;rcases pK i j with h1|h1|h1
    .exact .inl (nW.1 h.sj i j o p h1)
    .subst h1;exact absurd rfl k
    .exact .inr (nW.1 h.sj j i p o h1)
   rcases this with h2|h2
   .have:=(h2 a.symm).2.1;rw[c]at this;cases this
   .have:=(h2 a).1.1;rw[c]at this;cases this
 .show(if(lB L).elem b then Tg.l else Tg.z)=.z;rw[if_neg];rw[pi];intro f;obtain⟨y,m,_,a⟩:=L5.1 (m5 f);have:=(U'.1 (h.row y m).1).1;omega
def GK(P:Program)(fn:Func)(R:Ending->World->Prop)(B:Nat)(s:Xs)(w:World):Prop:=GG P fn R B [] s (gK s.L) w
theorem kIn{a:Array Value}(d:P.funcs[f]?=some fn)(h:GK P fn R w.heap.size ⟨[.c (PB fn)],⟨fn.ntmps,O7 0 a.toList,λ_=>undef⟩,[]⟩ w)(b:fn.body.isSome=true:=by kernel_rfl)(e:Nat.ble a.size fn.ntmps=true:=by kernel_rfl):Calls P f a w R:=gIn [] (gK []) d b e (λ_ _=>⟨rfl,rfl⟩) h
theorem cP{d:Gh}(c:Cg B [] (gK s.L) w d w')(j:Kn B g w s.L)(a:Kn B d w' L')(p:(L'.take s.L.length).map (λx=>(x.g,x.o))=s.L.map (λx=>(x.g,x.o))):Bw w w':=by
 refine⟨c.os,c.tape,c.output,c.size,λb k=>?_⟩;by_cases e:b∈lB s.L
 .obtain⟨x,hx,_,rfl⟩:=L5.1 e;have f:(x.g,x.o)∈(L'.take s.L.length).map (λx=>(x.g,x.o)):=by rw[p];exact mQ.2 ⟨x,hx,rfl⟩
  obtain⟨y,q,m⟩:=mQ.1 f;injection m with e1 e2
  have i:=(a.row y (mL q)).1;rw[<- e1,i,e2,e1];exact(j.row x hx).1.symm
 .refine c.same b k Q' (λh=>?_);have:(if(lB s.L).elem b then Tg.l else Tg.z)=.l:=h;rw[if_neg (by rw[pi];simpa using e)]at this
  cases this
theorem kR(m:Nat)(h:List Nat)(e:∀ gs w',Bw w w'->GK P fn R B (rn0 P [] gs m s h).s w')(b:∀ gs,(rn0 P [] gs m s h).o.map Ob.l'=(rn0 P [] gs m s h).o.map Ob.r':=by intro _;kernel_rfl)(i:∀ gs,zl (rn0 P [] gs m s h).s.L=true:=by intro _;kernel_rfl)(f:∀ gs,((rn0 P [] gs m s h).s.L.take s.L.length).map (λx=>(x.g,x.o))=s.L.map (λx=>(x.g,x.o)):=by intro _;kernel_rfl):GK P fn R B s w :=
 Af λd=>cQ [] m h b λgs j w' c=>⟨λa=>(e gs w' (cP c d a (f gs))).ex (a.re (i gs))⟩
structure Kept(L:List Sh)(w w':World):Prop where
 size:w.heap.size<=w'.heap.size
 rows:AX L w
 same:∀ b,b<w.heap.size->b∉lB L->w'.heap[b]?=w.heap[b]?
theorem kF(m:Nat)(h:List Nat)(i:∀ gs w',Below B w w'->Kept s.L w w'->GK P fn R B (rn0 P [] gs m s h).s w')(e:∀ gs,(rn0 P [] gs m s h).o.map Ob.l'=(rn0 P [] gs m s h).o.map Ob.r':=by intro _;kernel_rfl)(k:∀ gs,zl (rn0 P [] gs m s h).s.L=true:=by intro _;kernel_rfl):GK P fn R B s w :=
 Af λg=>cQ [] m h e λgs p w' c=>⟨λd=>(i gs w' ⟨c.os,c.tape,c.output,c.size,λb a=>c.same b (Z' a g.base) Q' (λ_=>a)⟩ ⟨c.size,g.rows,λb a j=>c.same b a Q' λh=>by
  have f:(if(lB s.L).elem b then Tg.l else Tg.z)=.l:=h;rw[if_neg (by rw[pi];simpa using j)]at f
  cases f⟩).ex (d.re (k gs))⟩
def noU(L:List Sh):Bool:=L.all λx=>match x.t,x.o with|.l,.cells c _ _=>c.all (λv=>match v with|.int .u8 _=>false|_=>true)|.l,_=>false|_,_=>true
theorem Sl.kept{x:Value}{l:List Int}(h:Sl w x l)(k:Kept L w w')(p:noU L=true:=by kernel_rfl):Sl w' x l:=by
 obtain⟨⟨a,g,B,v,A,j⟩,t,u⟩:=h;refine⟨⟨a,g,B,v,A,?_⟩,t,u⟩;rcases j with j|⟨b,off,ha,hbs,hcell⟩
 .exact .inl j
 .by_cases hl:l=[]
  .exact .inl hl
  .refine .inr ⟨b,off,ha,Z' hbs k.size,λi z=>?_⟩;have m:b∉lB L:=by
    intro m;obtain⟨y,s,q,rfl⟩:=L5.1 m;have r:=k.rows y s;have f:=nN.1 p y s;have n:0<l.length:=List.length_pos_iff.2 hl;have d:=hcell 0 n;rw[q]at f
    cases ho:y.o with
    | cells c e fr =>
     rw[ho]at f r
     rw[cell_of_row _ _ _ _ _ _ r]at d
     have:=Array.all_eq_true.1 f (off+0) (U'.1 d).1;rw[(U'.1 d).2]at this
     cases this
    | _=>rw[ho]at f;cases f
   rw[World.cell?_of_block (w:=w) (k.same b hbs m)];exact hcell i z
theorem fJ(s:Xs)(i:Nat)(v:Value)(a:(nxt s i undef s.L).o.map Ob.l'=(nxt s i undef s.L).o.map Ob.r'):(nxt s i v s.L).s.L=s.L:=by
 obtain⟨K,f,L⟩:=s;unfold nxt;cases K with
 | nil=>rfl
 | cons t K=>cases t<;>first|rfl|(simp only;repeat' split)<;>rfl
theorem GK.of{a:Xs}(h:GK P fn R B a w)(e:a.L=s.L):GG P fn R B [] a (gK s.L) w:=by rw[<- e];exact h
theorem kV(i:Nat)(v:Value){S:Sem Value}(c:S.run P w=.ok v w)(b:GK P fn R B (nxt s i v s.L).s w)(d:Du s i=some (S>>=λv=>pure (.value v)):=by kernel_rfl)(a:(nxt s i undef s.L).o.map Ob.l'=(nxt s i undef s.L).o.map Ob.r':=by kernel_rfl):GK P fn R B s w:=qV i v c (b.of (fJ s i v a)) d a
theorem bY(s:Xs)(t:Bool):(Lb s t).L=s.L:=by unfold Lb;split<;>rfl
theorem kI(b t:Bool)(a:b=t)(h:GK P fn R B (Lb s t) w)(c:PN s=.bool b:=by kernel_rfl):GK P fn R B s w:=qI b t a (h.of (bY s t)) c
theorem kC(i:Nat){f:FuncId}{b:Array Value}{C:Ending->World->Prop}(c:Calls P f b w C)(g:∀ e w',C e w'->∃ v,e=.returned v/\Bw w w'/\GK P fn R B (nxt s i v s.L).s w')(j:∀ W,Db P s i W=some (.ok (.enter f b) W):=by intro _;kernel_rfl)(d:Kl s i=true:=by kernel_rfl)(a:(nxt s i undef s.L).o.map Ob.l'=(nxt s i undef s.L).o.map Ob.r':=by kernel_rfl):GK P fn R B s w:=qC i c (λe w' h=>let ⟨v,h1,h2,h3⟩:=g e w' h;⟨v,h1,h2,h3.of (fJ s i v a)⟩) j d a
theorem kE(v:Value)(h:R (.returned v) w)(a:Kn B (gK s.L) w s.L->(results fn s.f.act.tmps).run P w=.ok v w:=by intro _;kernel_rfl)(b:Lj s.K=true:=by kernel_rfl):GK P fn R B s w:=qE v (λ_=>h) a b
theorem jW(n:Nat)(a:World->List (Nat × Value)->List Sh->Prop)(d:∀ J:Act->World->Prop,(∀ w' e z L,a w' e L->Kn B (gK L) w' L->J (⟨n,e,z⟩:Fm).act w')->GK P fn R B (XG s J) w)(g:∀ w' e z L,a w' e L->GK P fn R B ⟨s.K.tail,⟨n,e,z⟩,L⟩ w')(j:s.K.isEmpty=false:=by kernel_rfl):GK P fn R B s w:=by
 refine DS n (λc w' e L=>a w' e L/\c=gK L) j (λJ h=>?_) ?_
 .have:=d J λw' e z L b i=>h (gK L) w' e z L ⟨b,rfl⟩ i;exact this.of (by obtain⟨K,f,L⟩:=s;unfold XG;cases K<;>rfl)
 .rintro c w' e z L ⟨b,rfl⟩;exact g w' e z L b
theorem kB{J:Act->World->Prop}{n:Nat}{e:List (Nat × Value)}(m:List Bool){a:List Sh}(h:∀ z,Kn B (gK a) w a->J (⟨n,e,z⟩:Fm).act w)(g:isJ s.K=true:=by kernel_rfl)(b:jK s.K=J:=by kernel_rfl)(i:s.f.n=n:=by kernel_rfl)(d:e.map (λp=>lk s.f.z s.f.e p.1)=e.map (·.2):=by kernel_rfl)(c:BM (AH m s.L)=a:=by kernel_rfl)(j:zl a=true:=by kernel_rfl):GK P fn R B s w:=qB m (λz _ K=>h z (K.re j)) g b i d c
theorem jY(i j:Nat)(a:GK P fn R B (J8 s i) w)(b:GK P fn R B (J8 s j) w)(c:eT s i j=true:=by kernel_rfl):GK P fn R B s w :=
 have e:∀ i,(J8 s i).L=s.L:=λi=>by unfold J8;split<;>rfl
 DM i j c (a.of (e i)) (b.of (e j))
end
end
end Go.Proofs.YtcjcngceghfoeaaGreatDoor
