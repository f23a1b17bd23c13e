/- Part 7 of the walk. -/
import Derived.Test.YthohlalejhgbmaaGreatDoorZ6
set_option maxRecDepth 100000
set_option maxHeartbeats 4000000
open Go.Proofs.Tryz
set_option linter.unusedVariables false
namespace Go.Proofs.YthohlalejhgbmaaGreatDoor
open Go.RowKit
section
theorem WK(u v:Vt)(w:World):(Op.equal 148 (.agg (vtA u)) (.agg (vtA v))).run prog w=.ok (decide (u=v)) w:=by
 have a:=WI u.au u.b.r u.b.n u.w.k u.w.c u.w.s u.w.n u.w.v v.au v.b.r v.b.n v.w.k v.w.c v.w.s v.w.n v.w.v w;have d:decide (u.au=v.au/\u.b.r=v.b.r/\u.b.n=v.b.n/\u.w.k=v.w.k/\u.w.c=v.w.c/\u.w.s=v.w.s/\u.w.n=v.w.n/\u.w.v=v.w.v)=decide (u=v):=by
  apply kN.2;constructor
  .rintro⟨a1,a2,a3,a4,a5,a6,a7,a8⟩;exact(Vt.eq_iff u v).1 ⟨a1,(Bal.eq_iff _ _).1 ⟨a2,a3⟩,(Cmd.eq_iff _ _).1 ⟨a4,a5,a6,a7,a8⟩⟩
  .rintro rfl;exact⟨rfl,rfl,rfl,rfl,rfl,rfl,rfl,rfl⟩
 rw[d]at a
 rw[run_eql_struct]at a
 show(Op.equalIn 10000 _ _ _).run _ _=_;simp only[vtA,vtC];cases hr:(Op.equalIn 10000 148 (.agg #[.int .i64 u.au,.int .i64 u.b.r,.int .i64 u.b.n,.int .i64 u.w.k,.int .i64 u.w.c,.int .i64 u.w.s,.int .i64 u.w.n,.int .i64 u.w.v]) (.agg #[.int .i64 v.au,.int .i64 v.b.r,.int .i64 v.b.n,.int .i64 v.w.k,.int .i64 v.w.c,.int .i64 v.w.s,.int .i64 v.w.n,.int .i64 v.w.v])).run prog w with
 | ok b w'=>rw[hr]at a;simp[Result.andThen]at a;rw[a.1,a.2]
 | _=>rw[hr]at a;simp[Result.andThen]at a
abbrev Cnt:=Vt × Nat × Nat
def mkE(x:Cnt):MapEntry:={ key:=.agg (vtA x.1),val:=.int .i64 (x.2.1:Int),born:=x.2.2 }
def KV(v:Vt):List Cnt->Nat->Option (Nat × Value)
 | [],_=>none
 | x::c,i=>if v=x.1 then some (i,.int .i64 (x.2.1:Int))else KV v c (i+1)
theorem MJ(v:Vt)(w:World):∀ (c:List Cnt) (i:Nat),(Instr.findAsking 148 (.agg (vtA v)) (c.map mkE) i).run prog w=.ok (KV v c i) w
 | [],i=>by simp[Instr.findAsking,KV]
 | x::c,i=>by
  have h:=WK v x.1 w;rw[kf,Instr.findAsking,Sem.run_bind];show((Op.equal 148 (.agg (vtA v)) (.agg (vtA x.1))).run _ w).andThen _=_;rw[h,Result.andThen_ok,KV];by_cases e:v=x.1
  .rw[I' e,if_pos e];simp[mkE]
  .rw[D' e,if_neg e];simpa using MJ v w c (i+1)
theorem Kl(v:Vt)(w:World)(c:List Cnt):(Instr.findKey 148 (.agg (vtA v)) (c.map mkE)).run prog w=.ok (KV v c 0) w:=by
 rw[Instr.findKey,Sem.run_bind,run_underlying underlying148 w,Result.andThen_ok];cases c with
 | nil=>simp[Instr.findNow,KV]
 | cons x c =>
  show Sem.run _ (match(none:Option (Option (Nat × Value)))with|some r=>pure r|none=>Instr.findAsking 148 (.agg (vtA v)) ((x::c).map mkE)) w=_;exact MJ v w (x::c) 0
theorem Hs(a:Bool)(v:Vt)(w:World):(Instr.checkKey a 10000 148 (.agg (vtA v))).run prog w=.ok () w:=by
 obtain⟨s,⟨r,n⟩,⟨k,c,q,m,x⟩⟩:=v;kernel_rfl
def Dq(c:List Cnt)(v:Vt):Nat:=match c.find? (λx=>decide (v=x.1))with|some x=>x.2.1|none=>0
theorem KW(v:Vt):∀ (c:List Cnt) (i:Nat),(KV v c i=none/\Dq c v=0/\∀ x∈c,v≠x.1)\/∃ a x b,c=a++x::b/\x.1=v/\(∀ y∈a,v≠y.1)/\KV v c i=some (i+a.length,.int .i64 (x.2.1:Int))/\Dq c v=x.2.1
 | [],i=>.inl ⟨rfl,rfl,λx hx=>by cases hx⟩
 | x::c,i=>by
  by_cases e:v=x.1
  .refine .inr ⟨[],x,c,rfl,e.symm,λy hy=>(N' hy).elim,?_,?_⟩
   .rw[KV,if_pos e];simp
   .simp[Dq,e]
  .rcases KW v c (i+1)with⟨h1,h2,h3⟩|⟨a,y,b,rfl,hy,h3,h4,h5⟩
   .refine .inl ⟨by rw[KV,if_neg e,h1],?_,λy hy=>?_⟩
    .rw[<- h2];simp[Dq,e]
    .rcases jQ.1 hy with rfl|hy
     .exact e
     .exact h3 y hy
   .refine .inr ⟨x::a,y,b,rfl,hy,λz hz=>?_,?_,?_⟩
    .rcases jQ.1 hz with rfl|hz
     .exact e
     .exact h3 z hz
    .rw[KV,if_neg e,h4];simp;omega
    .rw[<- h5];simp[Dq,e]
structure CMap(w:World)(b:Nat)(c:List Cnt):Prop where
 ex:∃ clock,w.heap[b]?=some (.map (c.map mkE).toArray clock)/\∀ x∈c,x.2.2<clock
 qi:c.Pairwise λx y=>x.2.2≠y.2.2
variable{a c d:List Cnt}{b born k n:Nat}{es:Array MapEntry}{v:Vt}{w w':World}
theorem CMap.lt(h:CMap w b c):b<w.heap.size:=by
 obtain⟨⟨k,a,_⟩,_⟩:=h;exact(H'.1 a).1
theorem CMap.ov(h:CMap w b c)(f:w'.heap[b]?=w.heap[b]?):CMap w' b c:=by
 obtain⟨⟨k,a,d⟩,e⟩:=h;exact⟨⟨k,f.trans a,d⟩,e⟩
theorem CMap.ab(h:CMap w b c)(a:Bw w w'):CMap w' b c:=h.ov (a.block b h.lt)
theorem CMap.made(w:World):CMap (w.alloc (.map #[] 0)) w.heap.size []:=⟨⟨0,heap_alloc_new _ _,λx a=>by cases a⟩,List.Pairwise.nil⟩
theorem jl(w:World):(zeroValue 3).run prog w=.ok (.int .i64 0) w:=by kernel_rfl
theorem CMap.look(h:CMap w b c)(v:Vt):(Instr.lookup 265 (.map (some b)) (.agg (vtA v)) false).run prog w=.ok (.int .i64 (Dq c v:Int)) w:=by
 obtain⟨⟨k,f,_⟩,_⟩:=h;have e:(getObj b).run prog w=.ok (.map (c.map mkE).toArray k) w:=by simp[getObj,Sem.run,f]
 rcases KW v c 0 with⟨h1,h2,_⟩|⟨a,x,d,_,_,_,h1,h2⟩
 .simp[Instr.lookup,run_underlying underlying265,e,Hs,Kl,h1,h2]
 .simp[Instr.lookup,run_underlying underlying265,e,Hs,Kl,h1,h2]
theorem cz(v:Vt)(n:Nat):Instr.sameBits (n+1) (.agg (vtA v)) (.agg (vtA v))=true:=by
 simp[Instr.sameBits,vtA,vtC]
theorem YB(v:Vt)(w:World):(Instr.keyThatStays (.agg (vtA v)) (.agg (vtA v))).run prog w=.ok (.agg (vtA v)) w:=by
 rw[Instr.keyThatStays,if_pos (cz v 9999)];rfl
theorem Ud{u:Vt}{m:Nat}(b:∀ y∈a,v≠y.1):Dq (a++(v,m,born)::d) u=if u=v then m else Dq (a++(v,n,born)::d) u:=by
 unfold Dq;rw[lz,lz,mi,mi];by_cases e:u=v
 .subst e;have c:a.find? (λx=>decide (u=x.1))=none:=by
   rw[lF];intro y f;simp[b y f]
  rw[c];simp
 .rw[if_neg e];simp[e]
theorem IV(a:w.heap[b]?=some (.map es k))(o:Obj):Below b w (ChangeMaps.setBlock w b o) :=
 ⟨rfl,rfl,rfl,by simp[ChangeMaps.setBlock],λi c=>ChangeMaps.heap_setBlock_other a o (by omega)⟩
theorem IW(a:w.heap[b]?=some (.map es k))(o:Obj)(i:Nat)(h:i≠b):(ChangeMaps.setBlock w b o).heap[i]?=w.heap[i]?:=ChangeMaps.heap_setBlock_other a o h
theorem CMap.entry(h:CMap w b c)(v:Vt):∃ (a d:List Cnt) (born:Nat) (w':World),(Instr.mapEntry 265 (.map (some b)) (.agg (vtA v))).run prog w=.ok (.tuple #[.int .i64 (Dq c v:Int),.int .i64 (born:Int)]) w'/\CMap w' b (a++(v,Dq c v,born)::d)/\(∀ y∈a,v≠y.1)/\(∀ u,Dq (a++(v,Dq c v,born)::d) u=Dq c u)/\Below b w w'/\∀ i,i≠b->w'.heap[i]?=w.heap[i]?:=by
 obtain⟨⟨k,f,j⟩,m⟩:=h;have n:(getObj b).run prog w=.ok (.map (c.map mkE).toArray k) w:=by simp[getObj,Sem.run,f]
 rcases KW v c 0 with⟨h1,h2,h3⟩|⟨a,x,d,rfl,rfl,h3,h1,h2⟩
 .refine⟨c,[],k,ChangeMaps.setBlock w b (.map ((c++[(v,0,k)]).map mkE).toArray (k+1)),?_,⟨⟨k+1,?_,?_⟩,?_⟩,h3,?_,IV f _,IW f _⟩
  .have hs:=MapKept.run_setObj_map (P:=prog) (w:=w) (.map ((c++[(v,0,k)]).map mkE).toArray (k+1)) f;have g:((c.map mkE).toArray.push { key:=.agg (vtA v),val:=.int .i64 0,born:=k })=((c++[(v,0,k)]).map mkE).toArray:=by simp[mkE]
   rw[Instr.mapEntry];simp only[Sem.run_bind,run_underlying underlying265,Result.andThen_ok,n,Hs,Kl,h1,h2,jl,g,hs];rfl
  .rw[h2];exact ChangeMaps.heap_setBlock_same f _
  .intro y hy;rcases Q'.1 hy with hy|hy
   .have:=j y hy;omega
   .obtain rfl:y=(v,Dq c v,k):=by simpa using hy
    show k<k+1;omega
  .rw[lQ];refine⟨m,mE _ _,λy hy z p=>?_⟩;obtain rfl:z=(v,Dq c v,k):=by simpa using p
   have:=j y hy;show y.2.2≠k;omega
  .intro u;rw[h2];unfold Dq;rw[lz];cases hf:c.find? (λx=>decide (u=x.1))with
   | some y=>rfl
   | none =>
    by_cases e:u=v
    .subst e;simp
    .simp[e]
 .refine⟨a,d,x.2.2,ChangeMaps.setBlock w b (.map ((a++x::d).map mkE).toArray k),?_,⟨⟨k,?_,?_⟩,?_⟩,h3,?_,IV f _,IW f _⟩
  .have hs:=MapKept.run_setObj_map (P:=prog) (w:=w) (.map ((a++x::d).map mkE).toArray k) f;have o:((a++x::d).map mkE).toArray[a.length]?=some (mkE x):=by simp
   have g:(((a++x::d).map mkE).toArray.modify a.length λe=>{ e with key:=.agg (vtA x.1) })=((a++x::d).map mkE).toArray:=by
    apply l9;intro i;rw[mS];split
    .rename_i hi
     subst hi;rw[o];rfl
    .rfl
   have l:=YB x.1 w;rw[Instr.mapEntry];simp only[Sem.run_bind,run_underlying underlying265,Result.andThen_ok,n,Hs,Kl,h1,kl,o,ku,mV];rw[show(mkE x).key=.agg (vtA x.1)from rfl,l,Result.andThen_ok,g,hs];simp[goInt,ChangeMaps.setBlock,h2,mkE]
  .rw[h2];exact ChangeMaps.heap_setBlock_same f _
  .rw[h2];exact j
  .rw[h2];exact m
  .intro u;rw[h2]
theorem CMap.store(h:CMap w b (a++(v,n,born)::d))(m:Nat):∃ w',(Instr.entryStore 265 (.map (some b)) (.int .i64 (born:Int)) (.int .i64 (m:Int))).run prog w=.ok () w'/\CMap w' b (a++(v,m,born)::d)/\Below b w w'/\∀ i,i≠b->w'.heap[i]?=w.heap[i]?:=by
 obtain⟨⟨k,f,l⟩,c⟩:=h;have r:(getObj b).run prog w=.ok (.map ((a++(v,n,born)::d).map mkE).toArray k) w:=by simp[getObj,Sem.run,f]
 refine⟨ChangeMaps.setBlock w b (.map ((a++(v,m,born)::d).map mkE).toArray k),?_,⟨⟨k,ChangeMaps.heap_setBlock_same f _,?_⟩,?_⟩,IV f _,IW f _⟩
 .have hs:=MapKept.run_setObj_map (P:=prog) (w:=w) (.map ((a++(v,m,born)::d).map mkE).toArray k) f;have p:((a++(v,n,born)::d).map mkE).toArray.findIdx? (λe=>(e.born:Int)==(born:Int))=some a.length:=by
   rw[List.findIdx?_toArray,jW,List.findIdx?_append];have o:(a.map mkE).findIdx? (λe=>(e.born:Int)==(born:Int))=none:=by
    rw[List.findIdx?_eq_none_iff];intro e j;obtain⟨y,hy,rfl⟩:=kn.1 j;have:=(lQ.1 c).2.2 y hy (v,n,born) (by simp);simp[mkE];intro g;exact this (show y.2.2=born by omega)
   rw[o,kf,List.findIdx?_cons];simp[mkE]
  have j:(((a++(v,n,born)::d).map mkE).toArray.modify a.length λe=>{ e with val:=.int .i64 (m:Int) })=((a++(v,m,born)::d).map mkE).toArray:=by
   apply l9;intro i;rw[mS];split
   .rename_i hi
    subst hi;simp[mkE]
   .rename_i hi
    simp only[ky,jW,kf];rcases kt i a.length with g|g
    .rw[jO (by simpa using g),jO (by simpa using g)]
    .rw[jP (by simpa using g),jP (by simpa using g)];obtain⟨q,s⟩:∃ q,i-(a.map mkE).length=q+1:=⟨i-a.length-1,by simp;omega⟩;rw[s];rfl
  rw[Instr.entryStore];simp only[Sem.run_bind,r,Result.andThen_ok,asInt,asIntOf,Sem.run_pure,p,j,hs];rfl
 .intro y hy;rcases Q'.1 hy with hy|hy
  .exact l y (ks _ hy)
  .rcases jQ.1 hy with rfl|hy
   .exact l (v,n,born) (by simp)
   .exact l y (kw _ (O' _ hy))
 .rw[lQ,List.pairwise_cons]at c ⊢
  refine⟨c.1,⟨λy hy=>c.2.1.1 y hy,c.2.1.2⟩,λy hy z hz=>?_⟩;rcases jQ.1 hz with rfl|hz
  .exact c.2.2 y hy (v,n,born) (by simp)
  .exact c.2.2 y hy z (O' _ hz)
end
section
variable{P:Program}{md:Region.Mode}{ops:Array Oper}{Q:Exit->Act->World->Prop}{S:World->Prop}
section
variable{K:Act->World->Prop}{a:Act}{d i:Nat}{o:Oper}{w w':World}
theorem XN(k:ops[i]?=some o)(l:Region.wanted o (yielded ops a.tmps)=true)(g:o.dst=some d)(t:TypeId)(m x:Operand)(c:o.op=.lookup t m x false)(e f v:Value)(j:a.eval m=e)(n:a.eval x=f)(b:(Instr.lookup t e f false).run P w=.ok v w)(h:K (a.put (some d) v) w):wpOp P ops Q i K a w :=
 XO k l g (by unfold execOp;simp only[c,j,n,Sem.run_bind,b,Result.andThen_ok,Sem.run_pure]) h
theorem Tp(k:ops[i]?=some o)(l:Region.wanted o (yielded ops a.tmps)=true)(g:o.dst=some d)(t:TypeId)(m x:Operand)(c:o.op=.mapEntry t m x)(e f v:Value)(j:a.eval m=e)(n:a.eval x=f)(b:(Instr.mapEntry t e f).run P w=.ok v w')(h:K (a.put (some d) v) w'):wpOp P ops Q i K a w :=
 XO k l g (by unfold execOp;simp only[c,j,n,Sem.run_bind,b,Result.andThen_ok,Sem.run_pure]) h
theorem PO(l:ops[i]?=some o)(n:Region.wanted o (yielded ops a.tmps)=true)(j:o.dst=none)(t:TypeId)(m x y:Operand)(c:o.op=.entryStore t m x y)(d e f:Value)(k:a.eval m=d)(p:a.eval x=e)(q:a.eval y=f)(b:(Instr.entryStore t d e f).run P w=.ok () w')(h:K a w'):wpOp P ops Q i K a w :=
 wpOp_step l λr g=>by
  rw[if_pos n];unfold Oper.wp execOp;simp only[c,k,p,q,Sem.run_bind,b,Result.andThen_ok,Sem.run_pure];exact g _ _ (by rw[j];exact h)
end
end
section
variable{W w:World}{a:Act}{ac:List Acc}{b i j k m nb ob:Nat}{g:Gh}{l:List Vt}{ls:List Let}{ops:Array Oper}{p:Nod}{s:Int}{ts:List Tol}{x:NX}
theorem NJ{S:World->Prop}{op:Oper}(d:Region.wanted op (yielded ops a.tmps)=true)(x:Operand)(c:op.op=.binOp .add 3 x (.const (.int .i64 1)) 3)(n m:Nat)(e:a.eval x=.int .i64 (n:Int))(g:m=n+1)(f:n<=1000) :
  YieldsIf prog ops S op (.int .i64 (m:Int)) a :=
 .inl ⟨d,λw _=>by
  have b:a.eval (.const (.int .i64 1))=.int .i64 1:=rfl;unfold execOp;simp only[c,e,b];simp[go_sem];rw[IntKind.wrap_i64];omega⟩
theorem XS{P:Program}{d:Nat}{K:Act->World->Prop}{Q:Exit->Act->World->Prop}(R:Nat->World->Prop){A:Nat->Act}(c:∀ K':Act->World->Prop,Hid (∀ x W2,R x W2->K' (A x) W2)->(Code.region d ops true).wp P (Exit.then K' Q) a w)(b:∀ x W2,R x W2->K (A x) W2):(Code.region d ops true).wp P (Exit.then K Q) a w:=c K b
def Ia(l:List Vt)(m:Nat):Cmd:=((GN l m).map (·.w)).getD ⟨0,0,0,0,0⟩
def Ib(l:List Vt)(m:Nat):Int:=if(GN l m).isSome then 0 else 9
theorem IN{v:Vt}(h:GN l m=some v):Ia l m=v.w/\Ib l m=0:=by unfold Ia Ib;rw[h];exact⟨rfl,rfl⟩
theorem IM(h:GN l m=none):Ia l m=⟨0,0,0,0,0⟩/\Ib l m=9:=by unfold Ia Ib;rw[h];exact⟨rfl,rfl⟩
theorem ZG:(prog.info? 47).map (·.size)=some 5:=by kernel_rfl
theorem gE:(prog.info? 91).map (·.size)=some 3:=by kernel_rfl
theorem PL(l:List Vt)(u v:Vt):BO (l++[u]) v=if v=u then BO l v+1 else BO l v:=by
 unfold BO;rw[nf];by_cases e:v=u
 .subst e;simp
 .rw[if_neg e];simp;exact λg=>e g.symm
theorem XE(x:Value)(ac:List Acc)(s:Int)(w:World)(h:Sac w x ac)(P:ac.length<=5)(a4:∀ a∈ac,Ah a) :
  Calls prog 154 #[x,.int .i64 s] w λe w'=>e=.returned (.tuple #[.agg (cmC (Ia (DU ac s) ac.length)),.int .i64 (Ib (DU ac s) ac.length)])/\Bw w w':=by
 have a0:Hid (∀ a∈ac,Ah a):=a4;clear a4;obtain⟨ax,cp,rfl⟩:=h.shape;obtain⟨N,hN⟩:∃ N,ac.length=N:=⟨_,rfl⟩;have HN:Hid (ac.length=N):=hN;rw[hN]at h P ⊢
 clear hN;have f8:(zV5:Array Value).all (·.oneCell')=true:=by simp[Value.oneCell']
 have rr:=heap_alloc_new w (.cells zV5 47);have bb:Bw w (w.alloc (.cells zV5 47)):=(Below.refl _ _).alloc (A' _) _;have z0:(w.alloc (.cells zV5 47)).heap.size=w.heap.size+1:=by simp
 generalize e6:w.alloc (.cells zV5 47)=w1 at rr bb z0;have h0:=h.ab bb;clear h;have b0:Below (w.heap.size+1) w1 (w1.alloc (.map #[] 0)):=(Below.refl _ _).alloc (by omega) _;have v0:CMap (w1.alloc (.map #[] 0)) (w.heap.size+1) []:=by rw[<- z0];exact CMap.made _
 generalize e8:w1.alloc (.map #[] 0)=WA at b0 v0;have f4:=@run_makeMap prog;go_enter func154,ntmps154
 go_wp2_with fail
 clear e8 e6 f4;have b7:w.heap.size<w.heap.size+1:=by omega
 generalize hB:w.heap.size+1=B at b0 v0 z0 b7 ⊢;have HB:Hid (B=w1.heap.size):=z0.symm;clear hB z0
 go_loopw [14] (λiv wr=>∃ (j:Nat) (c:List Cnt),j<=N/\iv=.int .i64 (j:Int)/\CMap wr B c/\(∀ v,Dq c v=BO (Af ((ac.take j).map (·.vs)).flatten s) v)/\(∀ v,2*BO (Af ((ac.take j).map (·.vs)).flatten s) v<=N)/\Below B w1 wr) (λiv _=>((N:Int)-intOf iv).toNat)
 case atStart=>exact⟨0,[],by omega,rfl,v0,λv=>rfl,λv=>by simp[BO,Af],b0⟩
 case round =>
  clear v0 b0;obtain⟨j,c,hj,rfl,b3,a1,c8,E⟩:=hrel;have HC:Hid (∀ v,Dq c v=BO (Af ((ac.take j).map (·.vs)).flatten s) v):=a1;have HL:Hid (∀ v,2*BO (Af ((ac.take j).map (·.vs)).flatten s) v<=N):=c8;clear a1 c8;by_cases f3:j<N
  .have hji:(j:Int)<(N:Int):=by omega
   obtain⟨A,hA⟩:∃ A,ac[j]?=some A:=⟨_,E' (by have:=HN.out;omega)⟩;obtain⟨b,e0,y,rfl,g0,d2,R⟩:=h0.spot j A hA;have d0:Ah A:=a0.out A (kS.2 ⟨j,hA⟩);obtain⟨⟨pr,pn⟩,l⟩:=A;simp only at d2 R;have c7:=Vi b e0 N cp j f3;obtain⟨ay,cy,hy⟩:=R.shape;obtain⟨M,hM⟩:∃ M,l.length=M:=⟨_,rfl⟩;have HM:Hid (l.length=M):=hM;rw[hM]at hy
   subst hy;have H:Hid (B2 l):=d0.2.2;have HF:Hid (((ac.take (j+1)).map (·.vs)).flatten=((ac.take j).map (·.vs)).flatten++l):=S6 ac j _ hA;clear hA hM d0;have d3:=RX E (show b<B by rw[HB.out];exact g0) d2;have d4:=R.ab (E.mono (by rw[HB.out];exact A' _));have F:Bw wr (wr.alloc (.cells #[.int .i64 0,.int .i64 0,.slice none 0 0] 91)):=(Below.refl _ _).alloc (A' _) _;have Z:=heap_alloc_new wr (.cells #[.int .i64 0,.int .i64 0,.slice none 0 0] 91);have d1:(#[.int .i64 pr,.int .i64 pn,.slice ay M cy]:Array Value).all (·.oneCell')=true:=by simp[Value.oneCell']
   generalize a7:wr.alloc (.cells #[.int .i64 0,.int .i64 0,.slice none 0 0] 91)=WN at F Z
   go_upto_region 5 with((with_reducible (refine CF ?_));first|(refine wpList_load_mid rfl 91 _ rfl b (e0+3*j) rfl [.int .i64 pr,.int .i64 pn,.slice ay M cy] _ d3 underlying91 rfl gE ?_)|(refine wpList_store_row rfl 91 (.tmp 8) (.tmp 17) rfl wr.heap.size (#[.int .i64 pr,.int .i64 pn,.slice ay M cy]) rfl rfl 91 _ Z gE rfl d1 ?_))
   clear a7;have q:=setRow_heap WN wr.heap.size _ (#[.int .i64 pr,.int .i64 pn,.slice ay M cy]) 91 _ Z;replace F:=Ec F (A' _) (#[.int .i64 pr,.int .i64 pn,.slice ay M cy]);generalize WN.setRow wr.heap.size (#[.int .i64 pr,.int .i64 pn,.slice ay M cy])=W at q F ⊢;have Y:wr.heap.size<W.heap.size:=(H'.1 q).1;have O:=b3.ab F;have d5:=E.size;have f9:B<wr.heap.size:=b3.lt;have eW:=E.trans (F.mono (by omega));have sW:=d4.ab F;generalize wr.heap.size=G at q Y f9 ⊢;have c2:W.cell? ⟨G,2,none⟩=some (.slice ay M cy):=cell_of_row _ _ 2 _ _ _ q;clear Z d3 c7 F b3 d4 E d5;go_wp2_with fail
   refine(Jz _ l s W H.out sW).mono ?_;rintro e W2 ⟨p,rfl,hp,b2⟩;have HP:Hid (Plc l s p):=hp;have c2:=(b2.cell (p:=⟨G,2,none⟩) Y).trans c2;have V:=O.ab b2;have s2:=sW.ab b2;have e2:=eW.trans (b2.mono (by omega));have g2:G<W2.heap.size:=Y' Y b2.size;clear hp b2 O sW eW q Y;go_wp2_with fail
   refine(Jr _ l p s W2 s2).mono ?_;rintro e T ⟨rfl,rfl⟩;generalize hh:KZ l p s=bh;cases bh
   .have HT:Hid (Af ((ac.take (j+1)).map (·.vs)).flatten s=Af ((ac.take j).map (·.vs)).flatten s):=by
     unfold Hid;rw[HF.out,Dm,Plc.oI H.out HP.out (La hh),ki]
    clear hh;go_wp2
    go_roundw
    case rel=>exact⟨j+1,c,by omega,by go_num,V,by rw[HT.out];exact HC.out,by rw[HT.out];exact HL.out,e2⟩
    case measure=>simp[intOf];omega
   .obtain⟨u,hu,hus⟩:=MZ hh;have HT:Hid (Af ((ac.take (j+1)).map (·.vs)).flatten s=Af ((ac.take j).map (·.vs)).flatten s++[u]):=by
     unfold Hid;rw[HF.out,Dm,Plc.oQ H.out hu hus]
    have f6:p<M:=by have:=(U'.1 hu).1;have:=HM.out;omega
    obtain⟨b4,o4,f0,d8,c0⟩:=s2.spot p u hu;subst f0;have f2:=IS b4 o4 M cy p f6;have hi:=Y6 u;have c6:Dq c u=BO (Af ((ac.take j).map (·.vs)).flatten s) u:=HC.out u;have f5:=HL.out u;obtain⟨n,X⟩:∃ n,BO (Af ((ac.take j).map (·.vs)).flatten s) u=n:=⟨_,rfl⟩;rw[X]at c6 f5
    have c3:Hid (BO (Af ((ac.take (j+1)).map (·.vs)).flatten s) u=n+1):=by unfold Hid;rw[HT.out,PL,if_pos rfl,X]
    have a5:Hid (∀ v,BO (Af ((ac.take (j+1)).map (·.vs)).flatten s) v=if v=u then n+1 else BO (Af ((ac.take j).map (·.vs)).flatten s) v):=λv=>by
     rw[HT.out,PL];split
     .rename_i g;rw[g,X]
     .rfl
    clear hu hus hh X HT;obtain⟨D,⟨C,z⟩,⟨k,f,o,m,r⟩⟩:=u;simp only[vtC]at c0 hi;have F:Bw T (T.alloc (.cells zV8 148)):=(Below.refl _ _).alloc (A' _) _;have Z:=heap_alloc_new T (.cells zV8 148);have b9:(#[.int .i64 D,.int .i64 C,.int .i64 z,.int .i64 k,.int .i64 f,.int .i64 o,.int .i64 m,.int .i64 r]:Array Value).all (·.oneCell')=true:=by simp[Value.oneCell']
    generalize a7:T.alloc (.cells zV8 148)=WN at F Z
    go_upto_region 8 with((with_reducible (refine CF ?_));first|(refine wpList_load_mid rfl 148 _ rfl b4 (o4+8*p) rfl [.int .i64 D,.int .i64 C,.int .i64 z,.int .i64 k,.int .i64 f,.int .i64 o,.int .i64 m,.int .i64 r] _ c0 underlying148 rfl hi ?_)|(refine wpList_store_row rfl 148 (.tmp 10) (.tmp 32) rfl T.heap.size (#[.int .i64 D,.int .i64 C,.int .i64 z,.int .i64 k,.int .i64 f,.int .i64 o,.int .i64 m,.int .i64 r]) rfl rfl 148 _ Z hi rfl b9 ?_))
    clear a7;have q:=setRow_heap WN T.heap.size _ (#[.int .i64 D,.int .i64 C,.int .i64 z,.int .i64 k,.int .i64 f,.int .i64 o,.int .i64 m,.int .i64 r]) 148 _ Z;replace F:=Ec F (A' _) (#[.int .i64 D,.int .i64 C,.int .i64 z,.int .i64 k,.int .i64 f,.int .i64 o,.int .i64 m,.int .i64 r]);generalize WN.setRow T.heap.size (#[.int .i64 D,.int .i64 C,.int .i64 z,.int .i64 k,.int .i64 f,.int .i64 o,.int .i64 m,.int .i64 r])=W at q F ⊢;have d7:T.heap.size<W.heap.size:=(H'.1 q).1;have O:=V.ab F;have d6:B<T.heap.size:=V.lt;have eW:=e2.trans (F.mono (by omega));generalize T.heap.size=G2 at q d7 d6 ⊢;clear Z c0 f2 F V e2 c2 s2 d8;apply XS (λt W2=>∃ U,CMap W2 B U/\(∀ u,Dq U u=if u=⟨D,⟨C,z⟩,⟨k,f,o,m,r⟩⟩then n+1 else Dq c u)/\W2.heap[G2]?=some (.cells (vtA ⟨D,⟨C,z⟩,⟨k,f,o,m,r⟩⟩) 148 (0,0))/\Below B W W2)
    .intro K2 HK2;refine wp_region_held (S:=λw':World=>w'.heap[G2]?=some (.cells (vtA ⟨D,⟨C,z⟩,⟨k,f,o,m,r⟩⟩) 148 (0,0))) (by kernel_rfl) ?_;have L:(λw':World=>w'.heap[G2]?=some (.cells (vtA ⟨D,⟨C,z⟩,⟨k,f,o,m,r⟩⟩) 148 (0,0))) W.drew:=q;have c5:CMap W.drew B c:=O.ov rfl;refine AP (i:=0) 33 (v:=.map (some B)) rfl rfl (by kernel_rfl) (by kernel_rfl) (by kernel_rfl) (λ_ _ _ h=>h) (nD ⟨by rfl,λ_ _=>by kernel_rfl⟩) L ?_;simp only[Act.put,jH,jM,jN];refine AP (i:=1) 34 (v:=.agg (vtA ⟨D,⟨C,z⟩,⟨k,f,o,m,r⟩⟩)) rfl rfl (by kernel_rfl) (by kernel_rfl) (by kernel_rfl) (λ_ _ _ h=>h) (dl (by rfl) (.tmp 10) rfl G2 rfl ⟨D,⟨C,z⟩,⟨k,f,o,m,r⟩⟩ (λw' f7=>f7)) L ?_;simp only[Act.put,jH,jM,jN];obtain⟨ca,cd,t,w5,K,J,e9,c1,b5,k5⟩:=c5.entry ⟨D,⟨C,z⟩,⟨k,f,o,m,r⟩⟩;have P:Dq c ⟨D,⟨C,z⟩,⟨k,f,o,m,r⟩⟩=n:=c6;rw[P]at K J c1
     have I:w5.heap[G2]?=some (.cells (vtA ⟨D,⟨C,z⟩,⟨k,f,o,m,r⟩⟩) 148 (0,0)):=(k5 G2 (by omega)).trans L;obtain⟨w6,Q,f1,b6,k6⟩:=J.store (n+1);have a6:w6.heap[G2]?=some (.cells (vtA ⟨D,⟨C,z⟩,⟨k,f,o,m,r⟩⟩) 148 (0,0)):=(k6 G2 (by omega)).trans I;have a2:=c5.look ⟨D,⟨C,z⟩,⟨k,f,o,m,r⟩⟩;rw[P]at a2
     have a3:=J.look ⟨D,⟨C,z⟩,⟨k,f,o,m,r⟩⟩;rw[c1,P]at a3
     have c4:Hid (∃ U,CMap w6 B U/\(∀ u,Dq U u=if u=⟨D,⟨C,z⟩,⟨k,f,o,m,r⟩⟩then n+1 else Dq c u)/\w6.heap[G2]?=some (.cells (vtA ⟨D,⟨C,z⟩,⟨k,f,o,m,r⟩⟩) 148 (0,0))/\Below B W w6):=⟨_,f1,λu=>by rw[Ud (n:=n) e9,c1],a6,((Below.refl B W).drew.trans b5).trans b6⟩;refine aI (i:=2) (i':=4) (by kernel_rfl) (XN (i:=2) (d:=35) rfl (by kernel_rfl) rfl 265 (.tmp 33) (.tmp 34) rfl (.map (some B)) (.agg (vtA ⟨D,⟨C,z⟩,⟨k,f,o,m,r⟩⟩)) (.int .i64 (n:Int)) (by kernel_rfl) (by kernel_rfl) a2 ⟨L,?_⟩) (Tp (i:=4) (d:=37) rfl (by kernel_rfl) rfl 265 (.tmp 33) (.tmp 34) rfl (.map (some B)) (.agg (vtA ⟨D,⟨C,z⟩,⟨k,f,o,m,r⟩⟩)) (.tuple #[.int .i64 (n:Int),.int .i64 (t:Int)]) (by kernel_rfl) (by kernel_rfl) K ⟨I,?_⟩)
     .simp only[Act.put,jH,jM,jN];refine AP (i:=3) 36 (v:=.int .i64 ((n+1:Nat):Int)) rfl rfl (by kernel_rfl) (by kernel_rfl) (by kernel_rfl) (λ_ _ _ h=>h) (NJ (by rfl) (.tmp 35) rfl n (n+1) rfl rfl (by omega)) L ?_;simp only[Act.put,jH,jM,jN];refine D4 (i:=4) (by kernel_rfl) (Tp (i:=4) (d:=37) rfl (by kernel_rfl) rfl 265 (.tmp 33) (.tmp 34) rfl (.map (some B)) (.agg (vtA ⟨D,⟨C,z⟩,⟨k,f,o,m,r⟩⟩)) (.tuple #[.int .i64 (n:Int),.int .i64 (t:Int)]) (by kernel_rfl) (by kernel_rfl) K ⟨I,?_⟩);simp only[Act.put,jH,jM,jN];refine AP (i:=5) 38 (v:=.int .i64 (t:Int)) rfl rfl (by kernel_rfl) (by kernel_rfl) (by kernel_rfl) (λ_ _ _ h=>h) (nD ⟨by rfl,λ_ _=>by kernel_rfl⟩) I ?_;simp only[Act.put,jH,jM,jN];refine D4 (i:=6) (by kernel_rfl) (PO (i:=6) rfl (by kernel_rfl) rfl 265 (.tmp 33) (.tmp 38) (.tmp 36) rfl (.map (some B)) (.int .i64 (t:Int)) (.int .i64 ((n+1:Nat):Int)) (by kernel_rfl) (by kernel_rfl) (by kernel_rfl) Q ⟨a6,?_⟩);exact wpAnyH_done (by kernel_rfl) (HK2.out t _ c4.out) _
     .simp only[Act.put,jH,jM,jN];refine AP (i:=5) 38 (v:=.int .i64 (t:Int)) rfl rfl (by kernel_rfl) (by kernel_rfl) (by kernel_rfl) (λ_ _ _ h=>h) (nD ⟨by rfl,λ_ _=>by kernel_rfl⟩) I ?_;simp only[Act.put,jH,jM,jN];refine D4 (i:=2) (by kernel_rfl) (XN (i:=2) (d:=35) rfl (by kernel_rfl) rfl 265 (.tmp 33) (.tmp 34) rfl (.map (some B)) (.agg (vtA ⟨D,⟨C,z⟩,⟨k,f,o,m,r⟩⟩)) (.int .i64 (n:Int)) (by kernel_rfl) (by kernel_rfl) a3 ⟨I,?_⟩);simp only[Act.put,jH,jM,jN];refine AP (i:=3) 36 (v:=.int .i64 ((n+1:Nat):Int)) rfl rfl (by kernel_rfl) (by kernel_rfl) (by kernel_rfl) (λ_ _ _ h=>h) (NJ (by rfl) (.tmp 35) rfl n (n+1) rfl rfl (by omega)) I ?_;simp only[Act.put,jH,jM,jN];refine D4 (i:=6) (by kernel_rfl) (PO (i:=6) rfl (by kernel_rfl) rfl 265 (.tmp 33) (.tmp 38) (.tmp 36) rfl (.map (some B)) (.int .i64 (t:Int)) (.int .i64 ((n+1:Nat):Int)) (by kernel_rfl) (by kernel_rfl) (by kernel_rfl) Q ⟨a6,?_⟩);exact wpAnyH_done (by kernel_rfl) (HK2.out t _ c4.out) _
    intro t W5 e7;obtain⟨U,J,b1,q5,b5⟩:=e7;have e5:=eW.trans b5;have c9:=J.look ⟨D,⟨C,z⟩,⟨k,f,o,m,r⟩⟩;rw[b1,if_pos rfl]at c9
    have e3:Hid (∀ v,Dq U v=BO (Af ((ac.take (j+1)).map (·.vs)).flatten s) v):=λv=>by rw[b1,a5.out v,HC.out v]
    have e1:Hid (CMap W5 B U):=J;clear b1 J q eW b5 O HC;have a9:((n+1:Nat):Int)=(n:Int)+1:=by omega
    rw[a9]at c9
    by_cases g1:N<2*(n+1)
    .have HCH:Hid (Ia (DU ac s) N=⟨k,f,o,m,r⟩/\Ib (DU ac s) N=0):=by
      refine IN (v:=⟨D,⟨C,z⟩,⟨k,f,o,m,r⟩⟩) (QO ?_ ?_)
      .have g:=eE a0.out s;rw[HN.out]at g
       exact g
      .have g:=bm (Af ((ac.take (j+1)).map (·.vs)).flatten s) (Af ((ac.drop (j+1)).map (·.vs)).flatten s) ⟨D,⟨C,z⟩,⟨k,f,o,m,r⟩⟩;rw[<- Dm,<- List.flatten_append,<- jW,kO,c3.out]at g
       show N<2*BO (DU ac s) ⟨D,⟨C,z⟩,⟨k,f,o,m,r⟩⟩;unfold DU;omega
     have a8:(N:Int)<2*((n:Int)+1):=by omega
     have x3:W5.cell? ⟨G2,3,none⟩=some (.int .i64 k):=cell_of_row _ _ 3 _ _ _ q5;have x4:W5.cell? ⟨G2,4,none⟩=some (.int .i64 f):=cell_of_row _ _ 4 _ _ _ q5;have x5:W5.cell? ⟨G2,5,none⟩=some (.int .i64 o):=cell_of_row _ _ 5 _ _ _ q5;have x6:W5.cell? ⟨G2,6,none⟩=some (.int .i64 m):=cell_of_row _ _ 6 _ _ _ q5;have x7:W5.cell? ⟨G2,7,none⟩=some (.int .i64 r):=cell_of_row _ _ 7 _ _ _ q5;have rR:=(e5.block w.heap.size b7).trans rr;have b8:(#[.int .i64 k,.int .i64 f,.int .i64 o,.int .i64 m,.int .i64 r]:Array Value).all (·.oneCell')=true:=by simp[Value.oneCell']
     go_wp2_with ((with_reducible (refine CF ?_));first|(refine wpList_load_row rfl 148 (.tmp 10) rfl G2 rfl 148 _ (0,0) _ q5 underlying148 rfl hi ?_)|(refine wpList_store_row rfl 47 (.tmp 4) (.tmp 47) rfl w.heap.size #[.int .i64 k,.int .i64 f,.int .i64 o,.int .i64 m,.int .i64 r] rfl rfl 47 _ rR ZG rfl b8 ?_))
     have q9:=setRow_heap W5 w.heap.size _ (#[.int .i64 k,.int .i64 f,.int .i64 o,.int .i64 m,.int .i64 r]) 47 _ rR;have d9:=Ec (bb.trans (e5.mono (by omega))) (A' _) (#[.int .i64 k,.int .i64 f,.int .i64 o,.int .i64 m,.int .i64 r]);refine bodyPost_ret (dA rfl _ _ w.heap.size 47 _ (0,0) _ rfl q9 underlying47 rfl ZG) rfl ?_;rw[HCH.out.1,HCH.out.2];exact⟨rfl,d9⟩
    .have a8:¬ (N:Int)<2*((n:Int)+1):=by omega
     have e4:Hid (∀ v,2*BO (Af ((ac.take (j+1)).map (·.vs)).flatten s) v<=N):=λv=>by
      rw[a5.out v];split
      .omega
      .exact HL.out v
     clear a5 c3 HL;go_wp2_with ((with_reducible (refine CF ?_));(refine wpList_load_row rfl 148 (.tmp 10) rfl G2 rfl 148 _ (0,0) _ q5 underlying148 rfl hi ?_))
     go_roundw
     case rel=>exact⟨j+1,U,by omega,by go_num,e1.out,e3.out,e4.out,e5⟩
     case measure=>simp[intOf];omega
  .have HCH:Hid (Ia (DU ac s) N=⟨0,0,0,0,0⟩/\Ib (DU ac s) N=9):=by
    refine IM (Wd λv=>?_);have g:=HL.out v;rw[jS (by have:=HN.out;omega)]at g
    exact g
   have rR:=(E.block w.heap.size b7).trans rr;go_wp2_with ((with_reducible (refine CF ?_));(refine wpList_store_row rfl 47 (.tmp 4) (.tmp 49) rfl w.heap.size zV5 rfl rfl 47 _ rR ZG rfl f8 ?_))
   have q9:=setRow_heap wr w.heap.size _ (zV5) 47 _ rR;have d9:=Ec (bb.trans (E.mono (by omega))) (A' _) (zV5);refine bodyPost_ret (dA rfl _ _ w.heap.size 47 _ (0,0) _ rfl q9 underlying47 rfl ZG) rfl ?_;rw[HCH.out.1,HCH.out.2];exact⟨rfl,d9⟩
theorem iC{x:S3}{c:Nat}(d:x.a=some ⟨b,c,none⟩)(j:Nat)(f:j<x.n):(Instr.indexAt 214 x.v (iv (j:Int))).run prog W=.ok (pt b (c+3*j)) W:=by
 unfold S3.v;rw[d];exact L2 (P:=prog) (e:=91) (z:=3) underlying214 (by kernel_rfl) (by kernel_rfl) f _ rfl
theorem dH{a:Acc}{y:S3}(h:W.rangeAt b k [iv a.p.r,iv a.p.n,S3.v y]):(Instr.loadAt 91 (pt b k)).run prog W=.ok (.agg #[iv a.p.r,iv a.p.n,S3.v y]) W:=by
 have c:=run_loadVar_mid (P:=prog) W b k 91 _ _ h underlying91 rfl (by kernel_rfl);simp only[Instr.loadAt,Instr.sureAddr,Sem.run_bind,Sem.run_pure,Result.andThen_ok];exact c
theorem Wf(h:(0<=s/\s<=39)/\(1<=(ac.length:Int)/\(ac.length:Int)<=5))(b:∀ a∈ac,Ah a):CE ac s=Ia (DU ac s) ac.length/\Dp ac s=Ib (DU ac s) ac.length:=by
 cases ho:GN (DU ac s) ac.length with
 | none=>rw[(IM ho).1,(IM ho).2];exact Wg h b ho
 | some v=>rw[(IN ho).1,(IN ho).2];exact Wi h b ho
theorem KB(x:Value)(ac:List Acc)(s:Int)(w:World)(h:Sac w x ac)(ht:NTab w) :
  Calls prog 126 #[x,.int .i64 s] w λe w'=>e=.returned (.tuple #[.agg (cmC (CE ac s)),.int .i64 (Dp ac s)])/\Bw w w':=by
 have a1:=h.len;obtain⟨a,i,rfl⟩:=h.shape;obtain⟨y,H⟩:∃ y:S3,y=⟨a,ac.length,i⟩:=⟨_,rfl⟩;have a2:y.n=ac.length:=by rw[H]
 rw[show(.slice a ac.length i:Value)=y.v by rw[H]]at h ⊢
 clear H;refine tIn [] func126 trivial (tR 9 [1,0] λb _ _=>?_);by_cases L:0<=s/\s<=39
 .refine tC1 1 (λF C=>DA (r:=true) (I' L)) λ_=>tR 4 [] λa3 _ _=>?_;by_cases h2:y.n<1
  .refine tV 6 (.bool true) (λF C=>(rLt (t:=3) (m:=(y.n:Int)) (n:=1) (x:=(.tmp 14)) (y:=(.const (iv 1))) (I' (by omega)))) ?_;refine tR 14 [0,0] λa4 _ _=>tX λF C=>qE2 4 5 47 0 (b 0) #[iv 0,iv 0,iv 0,iv 0,iv 0] (iv 2) λ_=>by rw[(Df (ac:=ac) (s:=s) (by omega)).1,(Df (ac:=ac) (s:=s) (by omega)).2];exact⟨rfl,CgQ.ab C⟩
  .refine tV 6 (.bool false) (λF C=>(rLt (t:=3) (m:=(y.n:Int)) (n:=1) (x:=(.tmp 14)) (y:=(.const (iv 1))) (D' (by omega)))) (tR 4 [] λa5 _ _=>?_);by_cases h3:5<y.n
   .refine tV 11 (.bool true) (λF C=>(rGt (t:=3) (m:=(y.n:Int)) (n:=5) (x:=(.tmp 19)) (y:=(.const (iv 5))) (I' (by omega)))) ?_;refine tR 9 [0,0] λa6 _ _=>tX λF C=>qE2 4 5 47 0 (b 0) #[iv 0,iv 0,iv 0,iv 0,iv 0] (iv 2) λ_=>by rw[(Df (ac:=ac) (s:=s) (by omega)).1,(Df (ac:=ac) (s:=s) (by omega)).2];exact⟨rfl,CgQ.ab C⟩
   .refine tV 11 (.bool false) (λF C=>(rGt (t:=3) (m:=(y.n:Int)) (n:=5) (x:=(.tmp 19)) (y:=(.const (iv 5))) (D' (by omega)))) ?_;have N:(0<=s/\s<=39)/\(1<=(ac.length:Int)/\(ac.length:Int)<=5):=by omega
    refine tR 12 [] λa7 _ _=>Eh 41 [(0,S3.v y),(1,iv s),(4,pt (b 0) 0),(23,S3.v y),(24,iv (y.n:Int)),(25,iv 0)] [true] [⟨(b 0),.cells #[iv 0,iv 0,iv 0,iv 0,iv 0] 47,.l,false⟩] [] (λkk ee LL o=>∃ (j:Nat),kk=y.n-j/\ee=[(0,S3.v y),(1,iv s),(4,pt (b 0) 0),(23,S3.v y),(24,iv (y.n:Int)),(25,iv (j:Int))]/\LL=[⟨(b 0),.cells #[iv 0,iv 0,iv 0,iv 0,iv 0] 47,.l,false⟩]/\o=[]/\j<=ac.length/\∀ a∈ac.take j,Ah a) (y.n) ⟨0,rfl,rfl,rfl,rfl,by omega,λa u=>(by simp at u)⟩ (λF=>trivial) ?_;rintro k _ _ _ ⟨j,rfl,rfl,rfl,rfl,hj,d⟩ _ _ _ J hJ;refine tR 5 [] λa8 _ _=>?_;by_cases h4:j<y.n
    .refine tI ((decide ((j:Int)<(y.n:Int)))) true (I' (by omega)) ?_;obtain⟨A,B⟩:∃ A,ac[j]?=some A:=⟨_,E' (by omega)⟩;obtain⟨bb,K,yl,I,G,hr,P⟩:=h.spot j A B;obtain⟨z,rfl⟩:=P.s3;refine tR 5 [] λa9 _ _=>tV 0 (pt bb (K+3*j)) (λF C=>(iC I j (by omega))) (tV 1 (.agg #[iv A.p.r,iv A.p.n,S3.v z]) (λF C=>(dH (a:=A) (RX (CgQ.ab C) G hr))) (tR 6 [0,0,1,0,1] λR _ _=>tC1 1 (λF C=>IA A.p z.v A.vs _ (P.ab (CgQ.ab C)) (ht.ab (CgQ.ab C))) λ_=>tR 7 [] λS _ _=>?_));by_cases q:Ah A
     .have f:EP ⟨A.p,A.vs⟩=0:=if_pos q;refine tI (((EP ⟨A.p,A.vs⟩) != 0)) false (by rw[f];decide) (tR 3 [] λT _ _=>tV 0 (iv ((j:Int)+1)) (λF C=>(AR 25 (j:Int) underlying3 (by omega))) (tR 2 [] λU _ _=>tB hJ (y.n-(j+1)) (by omega) [true,false] ⟨j+1,rfl,rfl,rfl,rfl,by omega,λa u=>by rw[List.take_add_one,B]at u;exact(Q'.1 u).elim (d a) λg=>by rw[show a=A by simpa using g];exact q⟩ (λF=>trivial)))
     .have f:EP ⟨A.p,A.vs⟩=5:=if_neg q;have M:=Ua N λg=>q (g A (jJ B));refine tI (((EP ⟨A.p,A.vs⟩) != 0)) true (by rw[f];decide) ?_;refine tR 7 [0,0] λV _ _=>tX λF C=>qE2 4 5 47 0 (b 0) #[iv 0,iv 0,iv 0,iv 0,iv 0] (iv (EP ⟨A.p,A.vs⟩)) λ_=>by rw[f,M.1,M.2];exact⟨rfl,CgQ.ab C⟩
    .refine tI ((decide ((j:Int)<(y.n:Int)))) false (D' (by omega)) ?_;rw[jS (show ac.length<=j by omega)]at d
     obtain⟨X,O⟩:∃ X,Ia (DU ac s) ac.length=X:=⟨_,rfl⟩;obtain⟨E,f⟩:∃ E,Ib (DU ac s) ac.length=E:=⟨_,rfl⟩;have Q:=λW g=>XE y.v ac s W g (by omega) d;have D:=Wf N d;rw[O,f]at D
     simp only[O,f]at Q;refine tR 5 [] λY _ _=>tC1 2 (λF C=>Q _ (h.ab (CgQ.ab C))) λ_=>tR 5 [0,0] λZ _ _=>tX λF C=>qE2 4 5 47 0 (b 0) #[iv X.k,iv X.c,iv X.s,iv X.n,iv X.v] (iv E) λ_=>by rw[D.1,D.2];exact⟨rfl,CgQ.ab C⟩
 .refine tC1 1 (λF C=>DA (r:=false) (D' L)) λ_=>tR 19 [0,0] λa0 _ _=>tX λF C=>qE2 4 5 47 0 (b 0) #[iv 0,iv 0,iv 0,iv 0,iv 0] (iv 2) λ_=>by rw[(Df (ac:=ac) (s:=s) (by omega)).1,(Df (ac:=ac) (s:=s) (by omega)).2];exact⟨rfl,CgQ.ab C⟩
theorem Lo{g:Gh}(b:w.heap[nb]?=some (.cells (AB i ob p x) 103))(a:j<5):w.rangeAt nb (18+3*j) [iv (p.br.al j).p.r,iv (p.br.al j).p.n,S3.v (x.hv j)]:=by
 rcases nT a with rfl|rfl|rfl|rfl|rfl<;>exact Qb b _ _ rfl
theorem PJ(h:NodeAt g w i nb ob x p):Sac w (.slice (some ⟨nb,18,none⟩) 5 5) p.br.jv:=by
 refine⟨⟨some ⟨nb,18,none⟩,5,rfl,.inr ⟨nb,18,rfl,rl h.row,λj A a=>?_⟩⟩,by show 5<=3518437208780;decide⟩;have b:j<5:=by have:=(U'.1 a).1;exact this
 refine⟨S3.v (x.hv j),?_⟩;have c:=Lo (g:=g) h.row b;have d:=(h.al j b).s;rcases nT b with rfl|rfl|rfl|rfl|rfl<;>(simp[Rnd.jv]at a;subst a;exact⟨c,d⟩)
theorem Wc(h:40<=s):Dp ac s≠0:=by rw[(Df (by omega)).2];decide
theorem We{n:Nat}(h:Dp ac (n:Int)=0):n<=39:=by
 rcases kt 39 n with h2|h2
 .exact absurd h (Wc (by omega))
 .exact h2
theorem AN.at{L:List Sh}(h:AN L W)(k b:Nat)(o:Obj)(t:Tg)(a:L[k]?=some ⟨b,o,t,false⟩):W.heap[b]?=some o:=h _ (jJ a)
theorem Fw(h:NS i nb ob g w p ls ts){w0:World}(hB:Base w0 g w)(hT:Tabs w0)(hb:p.ae.length<=40) :
  Calls prog 92 #[pt nb 0] w (NP i nb ob g w (.tuple #[]) p.nU ls ts):=by
 obtain⟨x,lt,tl,hN,hO,hg⟩:=h;refine gI (fn:=f92) (TN i) g func92 hg (qN hN (qO hO (qR [] 1 [] λs1 g1 w1 c1=>BL 34 [(0,pt nb 0)] [false,false] [] (λk O Q e L=>∃ l:List Cmd,e=[(0,pt nb 0)]/\L=[]/\NS i nb ob O Q { p with ae:=l } ls ts/\II k p.br l=II 41 p.br p.ae/\41<=l.length+k/\l.length<=41/\Cg w.heap.size (TN i) g w O Q) (by kernel_rfl) (by kernel_rfl) (by kernel_rfl) (by kernel_rfl) 41 (λK=>?_) ?_)))
 .have C2:=c1;exact⟨p.ae,rfl,rfl,(nsC hN hO C2 K),rfl,by omega,by omega,(c1.nil (TN i))⟩
 .rintro k gr wr _ zr _ ⟨l,rfl,rfl,hM,hI,hk1,hk2,hC⟩ J hJ;obtain⟨b,H,M,a,u,a7⟩:=hM;refine qN a (qO u ?_);have q:b.ae.n=l.length:=a.ae.num;refine qR [] 15 [19,0,2,4,6,8,10,12,14,16,18,20,0,22] λs3 g3 w3 y=>BV 34 (λO Q e L=>∃ (bA:Nat),e=[(0,pt nb 0),(2,pt bA 0),(3,iv (Dp p.br.jv (b.ae.n:Int)))]/\L=[⟨nb,.cells (AB i ob ({ p with ae:=l }) b) 103,.n 0 i,false⟩,⟨ob,.cells #[S3.v H,S3.v M] 80,.n 50 0,false⟩,⟨bA,.cells #[iv (CE p.br.jv (b.ae.n:Int)).k,iv (CE p.br.jv (b.ae.n:Int)).c,iv (CE p.br.jv (b.ae.n:Int)).s,iv (CE p.br.jv (b.ae.n:Int)).n,iv (CE p.br.jv (b.ae.n:Int)).v] 47,.l,false⟩]/\Cg w.heap.size [] gr wr O Q) (by kernel_rfl) ?_ ?_
  .intro J hJ;refine CU 12 16 (by kernel_rfl) ?_ ?_
   .have hS6:=PJ (a.ch y);have W:=hB.ch (((hC.n y))) (Bg i);refine qC 12 (KB _ _ (b.ae.n:Int) w3 hS6 (W.tn hT)) ?_;rintro e' w7 ⟨rfl,Z⟩;refine⟨_,rfl,Z,?_⟩;have c7:=Cg.bu (B:=w.heap.size) (T:=[]) (g:=g3) Z;refine qR [] 7 [26,28,30,33,1,0,35,2,0,36] λs8 g8 w8 c8=>qB [true,true,true] λz N K=>hJ _ _ _ z _ ⟨(s8 0),rfl,rfl,((y.trans c7).trans c8)⟩ K
   .refine qR [] 1 [1,0] λs9 g9 w9 V=>?_;have G:=PJ (a.ch (y.trans V));have F:=hB.ch (hC.trans ((y.trans V).nil _)) (Bg i);refine qC 12 (KB _ _ (b.ae.n:Int) w9 G (F.tn hT)) ?_;rintro e' b2 ⟨rfl,A⟩;refine⟨_,rfl,A,?_⟩;have S:=Cg.bu (B:=w.heap.size) (T:=[]) (g:=g9) A;refine qR [] 6 [26,28,30,35,2,0,36] λa9 a2 b3 U=>qB [true,true,true] λz N K=>hJ _ _ _ z _ ⟨(s9 0),rfl,rfl,(((y.trans V).trans S).trans U)⟩ K
  .rintro g4 w4 _ z4 _ ⟨bA,rfl,rfl,hc⟩;refine qR [] 6 [] λb0 a3 b4 o=>?_;by_cases P:Dp p.br.jv (b.ae.n:Int)≠0
   .refine qI (((Dp p.br.jv (b.ae.n:Int)) != 0)) true (by simpa using P) (qE (.tuple #[]) λK=>?_);have hE:p.nU={ p with ae:=l }:=by unfold Nod.nU;rw[<- hI];cases k with|zero=>rfl|succ k=>rw[II,if_neg (by rw[<- q];exact P)]
    rw[hE];exact⟨_,rfl,(nsC a u (hc.n o) K),((hC.n hc).n o)⟩
   .refine qI (((Dp p.br.jv (b.ae.n:Int)) != 0)) false (by simpa using P) ?_;have E:Dp p.br.jv (b.ae.n:Int)=0:=by simpa using P
    have a0:l.length<=39:=by rw[<- q];exact We E
    obtain⟨k,rfl⟩:∃ k1,k=k1+1:=⟨k-1,by omega⟩;refine qR [] 10 [12,0,2,4,6,8,10,0,12,2,15,0,0] λI a4 b5 r=>JL 8 (x:=b.ae) 34 34 47 5 40 (.agg #[iv 0,iv 0,iv 0,iv 0,iv 0]) ⟨(I 0),0,none⟩ 1 1 [iv (CE p.br.jv (b.ae.n:Int)).k,iv (CE p.br.jv (b.ae.n:Int)).c,iv (CE p.br.jv (b.ae.n:Int)).s,iv (CE p.br.jv (b.ae.n:Int)).n,iv (CE p.br.jv (b.ae.n:Int)).v] (a.ae.ch ((hc.trans o).trans r) (by simp) (by simp)) (by kernel_rfl) (by kernel_rfl) (by kernel_rfl) underlying34 (by kernel_rfl) (by kernel_rfl) (by decide) (by decide) rfl (by simp[Value.oneCell']) (λK=>Cw K 3 (I 0) [iv (CE p.br.jv (b.ae.n:Int)).k,iv (CE p.br.jv (b.ae.n:Int)).c,iv (CE p.br.jv (b.ae.n:Int)).s,iv (CE p.br.jv (b.ae.n:Int)).n,iv (CE p.br.jv (b.ae.n:Int)).v] 47 .z true (by kernel_rfl)) (by unfold maxLen;omega) (by omega) ?_;intro Y a5 b6 R a8 D a1;have C:=D w.heap.size [.n 3 i] (G'.2 rfl);refine qR [.n 0 i] 6 [18,20,22,25,0,1] λb1 a6 b8 t=>Ea J 34 [(0,pt nb 0)] [false,false,false,false] [] (by kernel_rfl) (by kernel_rfl) (by kernel_rfl) (by kernel_rfl) (by kernel_rfl) (λz N K=>?_);have X:CE p.br.jv (b.ae.n:Int)=CE p.br.jv (l.length:Int):=by rw[q]
    refine hJ k _ _ _ z _ (by omega) ⟨l++[CE p.br.jv (l.length:Int)],rfl,rfl,?_,?_,by simp;omega,by simp;omega,(((((hC.n hc).n o).n r).trans (C.mono (by simp[TN]))).trans (t.mono (by simp[TN])))⟩ K
    skip
    have d:=((((hc.nil ([.n 3 i,.n 0 i]:List Tg)).n o).n r).m C).m t;have j:Tg.z∉([.n 3 i,.n 0 i]:List Tg):=by simp
    .rw[<- X];exact⟨{ b with ae:=Y },H,M,N.nd 0 (a.tape.ch d j) (a.ln.ch d j) (Bl a.al d j) (BP a.bn d j (by simp)) (a.dW.ch d) (by rw[BZ];exact R.ch t) (a.an.ch d) (a.bw.ch d) a.oO,u.ch d j (by simp<;>omega),N.new⟩
    .rw[<- hI,II,if_pos (by rw[<- q];exact E)]
theorem MR(h:NS i nb ob g w p ls ts){w0:World}(hB:Base w0 g w)(hT:Tabs w0)(j:Nat)(Z:j<5)(v:Vt)(hb:p.ae.length<=40) :
  Calls prog 95 #[pt nb 0,iv (j:Int),.agg #[iv v.au,iv v.b.r,iv v.b.n,iv v.w.k,iv v.w.c,iv v.w.s,iv v.w.n,iv v.w.v]] w (NP i nb ob g w (.tuple #[]) (p.count j v) ls ts):=by
 obtain⟨x,lt,tl,d,hO,hg⟩:=h;refine gI (fn:=f95) (TN i) g func95 hg (qN d (qO hO (qR [] 15 [0,0,9,0,2,2,4,6,8,10,12,14,0] λs1 g1 w1 c1=>?_)));by_cases R:v.b≠p.br.fv
 .refine qT 8 (.bool true) (λ_=>(Ik (x:=(.tmp 9)) (y:=(.tmp 15)) v.b p.br.fv R)) (qR [] 2 [] λs2 g2 w2 c2=>qE (.tuple #[]) λK=>?_);rw[show p.count j v=p from if_pos R];exact⟨_,rfl,(nsC d hO (c1.n c2) K),((c1.nil (TN i)).n c2)⟩
 .have h10:v.b=p.br.fv:=by simpa using R
  refine qT 8 (.bool false) (λ_=>(Ij (x:=(.tmp 9)) (y:=(.tmp 15)) v.b p.br.fv h10)) (qR [] 11 [16,0,2,4,6,8,10] λs4 g4 w4 F=>?_);refine Pv 6 (pt nb (18+3*j)) false (λW hW=>by rcases nT Z with rfl|rfl|rfl|rfl|rfl<;>kernel_rfl) (by kernel_rfl) ?_;refine qU 7 (.agg #[iv (p.br.al j).p.r,iv (p.br.al j).p.n,S3.v (x.hv j)]) (λW hW=>(dH (Lo (g:=g) (AN.at (hW rfl) 0 nb (.cells (AB i ob p x) 103) (.n 0 i) (by kernel_rfl)) Z))) (qR [] 1 [16,2] λs6 g6 w6 G=>BV 42 (λg' w' e L=>∃ (ys:S3) (bA:Nat),e=[(0,pt nb 0),(1,iv (j:Int)),(6,pt bA 0),(7,iv (AV (p.br.al j) v))]/\L=[⟨nb,.cells (AB i ob p x) 103,.n 0 i,false⟩,⟨ob,.cells #[S3.v lt,S3.v tl] 80,.n 50 0,false⟩,⟨(s1 0),.cells #[iv v.au,iv v.b.r,iv v.b.n,iv v.w.k,iv v.w.c,iv v.w.s,iv v.w.n,iv v.w.v] 148,.z,false⟩,⟨bA,.cells #[iv (BG (p.br.al j) v).r,iv (BG (p.br.al j) v).n,S3.v ys] 91,.l,false⟩]/\FSv g' w' ys (Bu (p.br.al j) v)/\Cg w.heap.size [] g w g' w') (by kernel_rfl) ?_ ?_)
  .intro J hJ;refine CU 9 13 (by kernel_rfl) ?_ ?_
   .refine Ae λa5=>?_;have b5:=((d.al j Z).ch ((c1.trans F).trans G) (by simp)).s;have b3:=hB.ch ((c1.trans F).trans G) (by simp);have b4:∀ z,w6.heap.size<=z->g6.t z=.z:=λz hz=>(a5.new z hz).1;refine qC 9 (BY (p.br.al j).p _ (p.br.al j).vs v w6 b5 (b3.tn hT)) ?_;rintro e' e3 ⟨f3,rfl,a0,c5,I⟩;refine⟨_,rfl,I,?_⟩;have a7:=Cg.bu (B:=w.heap.size) (T:=[]) (g:=g6) I;obtain⟨a3,rfl,b6,D⟩:=D6 a0 b4 (by omega);refine qR [] 7 [20,22,24,27,1,0,29,3,0,30] λb8 d0 e4 N=>qB [true,true,true,true] λz K0 K=>hJ _ _ _ z _ ⟨a3,(b8 0),rfl,rfl,(D.ch N),((((c1.trans F).trans G).trans a7).trans N)⟩ K
   .refine qR [] 1 [1,0] λb9 Q a2 C=>Ae λH=>?_;have Y:=((d.al j Z).ch (((c1.trans F).trans G).trans C) (by simp)).s;have S:=hB.ch (((c1.trans F).trans G).trans C) (by simp);have U:∀ z,a2.heap.size<=z->Q.t z=.z:=λz hz=>(H.new z hz).1;refine qC 9 (BY (p.br.al j).p _ (p.br.al j).vs v a2 Y (S.tn hT)) ?_;rintro e' e5 ⟨f4,rfl,a1,c7,M⟩;refine⟨_,rfl,M,?_⟩;have a8:=Cg.bu (B:=w.heap.size) (T:=[]) (g:=Q) M;obtain⟨a4,rfl,b7,E⟩:=D6 a1 U (by omega);refine qR [] 6 [20,22,24,29,3,0,30] λd7 d1 e6 O=>qB [true,true,true,true] λz K0 K=>hJ _ _ _ z _ ⟨a4,(b9 0),rfl,rfl,(E.ch O),(((((c1.trans F).trans G).trans C).trans a8).trans O)⟩ K
  .rintro g7 w7 _ z7 _ ⟨ys,bA,rfl,rfl,hys,hc⟩;refine qR [] 6 [] λd8 d2 e7 m=>?_;by_cases h2:AV (p.br.al j) v≠0
   .refine qI (((AV (p.br.al j) v) != 0)) true (by simpa using h2) (qE (.tuple #[]) λK=>?_);rw[show p.count j v=p from by unfold Nod.count;rw[if_neg R,if_pos h2]];exact⟨_,rfl,(nsC d hO (hc.n m) K),((hc.nil (TN i)).n m)⟩
   .refine qI (((AV (p.br.al j) v) != 0)) false (by simpa using h2) (qR [] 10 [8,0,2,4,3,6,8,10,12] λd9 b1 c0 q=>BV 42 (λg' w' e L=>e=[(0,pt nb 0)]/\L=[⟨nb,.cells (AB i ob ({ p with br:={ p.br with al:=upN p.br.al j ⟨BG (p.br.al j) v,Bu (p.br.al j) v⟩ } }) ({ x with hv:=upN x.hv j ys })) 103,.n 0 i,false⟩,⟨ob,.cells #[S3.v lt,S3.v tl] 80,.n 50 0,false⟩,⟨(s1 0),.cells #[iv v.au,iv v.b.r,iv v.b.n,iv v.w.k,iv v.w.c,iv v.w.s,iv v.w.n,iv v.w.v] 148,.z,false⟩,⟨bA,.cells #[iv (BG (p.br.al j) v).r,iv (BG (p.br.al j) v).n,S3.v ys] 91,.l,false⟩]/\True/\Cg w.heap.size ([.n 0 i]:List Tg) b1 c0 g' w') (by kernel_rfl) ?_ ?_)
    .intro J hJ;rcases nT Z with rfl|rfl|rfl|rfl|rfl <;>
     (refine qR [.n 0 i] 3 [14,17,0,1] λe0 d4 e9 a9=>?_;exact qB [true,true,true,true] λz K0 K=>hJ _ _ _ z _ ⟨rfl,rfl,trivial,a9⟩ K)
    rintro d3 e8 _ f5 _ ⟨rfl,rfl,_,u⟩;refine qR [] 2 [] λe1 b2 c3 A=>?_;rw[show p.count j v=Nod.nU { p with br:={ p.br with al:=upN p.br.al j ⟨BG (p.br.al j) v,Bu (p.br.al j) v⟩ } }from by unfold Nod.count;rw[if_neg R,if_neg h2]];refine Ae λK=>?_;have a:=((((hc.nil ([.n 0 i]:List Tg)).n m).n q).trans (u)).n A;have o:Tg.z∉([.n 0 i]:List Tg):=by simp
    have a6:NS i nb ob b2 c3 ({ p with br:={ p.br with al:=upN p.br.al j ⟨BG (p.br.al j) v,Bu (p.br.al j) v⟩ } }) ls ts:=⟨{ x with hv:=upN x.hv j ys },lt,tl,K.nd 0 (d.tape.ch a o) (d.ln.ch a o) (λk hk=>(by show FSv _ _ (upN x.hv j ys k) (upN p.br.al j ⟨BG (p.br.al j) v,Bu (p.br.al j) v⟩ k).vs;unfold upN;split;exact((((hys.ch m).ch q).ch u).ch A);exact(d.al k hk).ch a o)) (BP d.bn a o (by simp)) (d.dW.ch a) (d.ae.ch a) (d.an.ch a) (d.bw.ch a) d.oO,hO.ch a o (by simp<;>omega),K.new⟩;refine qS0 1 [false,false,true,true] (Fw a6 (hB.ch (((((hc.nil (TN i)).n m).n q).trans (u.mono (by simp[TN]))).n A) (Bg i)) hT hb) λd5 f0 f2 c8 c9 V X b0=>qR [] 1 [] λe2 d6 f1 P=>qF V X P (((((((hc.nil (TN i)).n m).n q).trans (u.mono (by simp[TN]))).n A).trans (b0)).n P)
theorem OC(h:NS i nb ob g w p ls ts){m:World}(s:Base m g w)(t:Tabs m)(d:Nat)(l:Let)(y:Cx g w d l)(C:l.src<5)(u:p.ae.length<=40) :
  Calls prog 51 #[pt nb 0,pt d 0] w (NP i nb ob g w (.tuple #[]) (p.count l.src l.bN) ls ts):=by
 obtain⟨x,lt,M,j,k,v⟩:=h;refine gI (fn:=f51) (TN i) g func51 v (qN j (qO k ?_));obtain⟨F,G,a,A,B⟩:=y;refine BU ⟨d,.cells (EX l F G) 150,.z,false⟩ (λ_=>⟨a.r,a.z,λh=>(by cases h),λh=>absurd rfl h⟩) (by kernel_rfl) ?_;refine qR [] 10 [9,0,2,4,6,8,2,10,12,14,16,2] λK H N c1=>qS 9 [false,false,true] j k c1 (λo=>MR o (s.ch (c1.nil (TN i)) (Bg i)) t l.src C l.bN u) λI O Q D E b c q=>qR [] 1 [] λL J P e=>qF b c e (((c1.nil (TN i)).trans (q)).n e)
theorem Gk(q:List Cmd)(c:Cmd)(l:List Cmd):Mp q (c::l)=Mp (if q.length<40/\c∉q then q++[c]else q) l:=rfl
theorem Ds{l:List Cmd}{c:Cmd}(h:l[j]?=some c):l.drop j=c::l.drop (j+1):=by
 obtain⟨a,b⟩:=U'.1 h;rw[<- b];exact kz a
theorem ZX(q l:List Cmd)(h:q.length<=40):(Mp q l).length<=40:=by
 induction l generalizing q with
 | nil=>exact h
 | cons c l ih =>
  rw[Gk];refine ih _ ?_;split
  .rw[M'];show _+1<=_;omega
  .exact h
theorem Jn(h:NS i nb ob g w p ls ts)(a:List Cmd)(I:S3)(hw:Rc g w I a)(hb:a.length<100000000)(hq:p.br.dW.length<=40) :
  Calls prog 97 #[pt nb 0,I.v] w (NP i nb ob g w (.tuple #[]) (p.eo a) ls ts):=by
 have c2:=h;obtain⟨x,lt,tl,hN,hO,hg⟩:=h;have d0:=hw.len;refine gI (fn:=f97) (TN i) g func97 hg (qN hN (qO hO (qR [] 4 [] λs1 g1 w1 c1=>Ae λK=>?_)));have N3:NS i nb ob g1 w1 p ls ts:=(nsC hN hO c1 K);refine qC 1 (Nf N3) ?_;rintro e' w4 ⟨rfl,b4⟩;refine⟨_,rfl,b4,?_⟩;have c4:=Cg.bu (B:=w.heap.size) (T:=[]) (g:=g1) b4;refine qR [] 2 [] λs5 g5 w5 c5=>?_;by_cases h1:p.leads=true
 .refine qI ((!p.leads)) false (by simpa using h1) ?_;rw[show p.eo a={ p with br:={ p.br with dW:=Mp p.br.dW a } }from if_pos h1];refine qR [] 8 [] λs6 g6 w6 c6=>BL 49 [(0,pt nb 0),(9,S3.v I),(10,iv (I.n:Int)),(11,iv 0)] [false,false] [] (λk g' w' e L=>∃ (j:Nat) (q:List Cmd),k=a.length-j/\j<=a.length/\e=[(0,pt nb 0),(9,S3.v I),(10,iv (I.n:Int)),(11,iv (j:Int))]/\L=[]/\NS i nb ob g' w' { p with br:={ p.br with dW:=q } } ls ts/\Mp q (a.drop j)=Mp p.br.dW a/\q.length<=40/\Cg w.heap.size (TN i) g w g' w') (by kernel_rfl) (by kernel_rfl) (by kernel_rfl) (by kernel_rfl) a.length (λK=>?_) ?_
  .have C7:=((c1.n c4).n c5).n c6;exact⟨0,p.br.dW,rfl,by omega,rfl,rfl,(nsC hN hO C7 K),rfl,hq,((((c1.nil (TN i)).n c4).n c5).n c6)⟩
  .rintro k gr wr _ zr _ ⟨j,q,rfl,hj,rfl,rfl,hM,hI,hq1,hC⟩ J hJ;obtain⟨xr,a5,a6,b,F,c3⟩:=hM;refine qN b (qO F ?_);have c7:xr.dW.n=q.length:=b.dW.num;refine qR [] 5 [] λs8 g8 w8 E=>?_;by_cases h2:j<a.length
   .refine qI ((decide ((j:Int)<(I.n:Int)))) true (I' (by omega)) ?_;obtain⟨c,H⟩:∃ c,a[j]?=some c:=⟨_,E' h2⟩;have a3:=hw.ch hC (Bg i);obtain⟨bx,ox,Z⟩:=hw.addr h2;refine qR [] 5 [] λs9 g9 w9 G=>qV 0 (pt bx (ox+5*j)) (Np Z j (by omega)) ?_;have a4:=a3.ch (E.trans G);refine qV 1 (.agg #[iv c.k,iv c.c,iv c.s,iv c.n,iv c.v]) (Vc c λq_ u hu=>a4.cellAt Z H hu) (qR [] 12 [0,0,2,0,19,0,2,4,6,8,10,0,12] λd2 a9 e2 o=>?_);by_cases h3:(xr.dW.n:Int)<40
    .refine qT 7 (.bool true) (λ_=>(rLt (t:=3) (x:=(.tmp 21)) (y:=(.const (iv 40))) (I' h3))) (qR [] 8 [16,18,20,22,24,26,28,0,30,2] λd3 a2 e3 r=>qC 16 (ES (l:=q) (b.dW.ch (((E.trans G).trans o).trans r) (by simp) (by simp)).rd (by omega) c) ?_);rintro e' e4 ⟨rfl,Q⟩;refine⟨_,rfl,Q,?_⟩;have C:=Cg.bu (B:=w.heap.size) (T:=[]) (g:=a2) Q;refine qR [] 3 [34,36] λd4 b0 e5 D=>?_;by_cases h4:c∈q
     .refine qI ((!(decide (c∈q)))) false (by simpa using h4) (qR [] 3 [] λd5 b1 e6 R=>qV 0 (iv ((j:Int)+1)) (AR 11 (j:Int) underlying3 (by omega)) (qR [] 2 [] λd6 b2 e7 S=>qB [false,false,false] λz P K=>hJ (a.length-(j+1)) _ _ _ z _ (by omega) ⟨j+1,q,rfl,by omega,rfl,rfl,?_,?_,by omega,((((((((hC.n E).n G).n o).n r).n C).n D).n R).n S)⟩ K))
      .exact(nsC b F (((((((E.n G).n o).n r).n C).n D).n R).n S) P)
      .rw[<- hI,Ds H,Gk,if_neg (λh=>h.2 h4)]
     .refine qI ((!(decide (c∈q)))) true (by simpa using h4) (qR [] 10 [14,0,2,4,6,8,10,12,0,14,2,17,0,0] λa0 b3 e8 M=>JL 9 (x:=xr.dW) 34 34 47 5 40 (.agg #[iv 0,iv 0,iv 0,iv 0,iv 0]) ⟨(a0 0),0,none⟩ 1 1 [iv c.k,iv c.c,iv c.s,iv c.n,iv c.v] (b.dW.ch ((((((E.trans G).trans o).trans r).trans C).trans D).trans M) (by simp) (by simp)) (by kernel_rfl) (by kernel_rfl) (by kernel_rfl) underlying34 (by kernel_rfl) (by kernel_rfl) (by decide) (by decide) rfl (by simp[Value.oneCell']) (λK=>Cw K 3 (a0 0) [iv c.k,iv c.c,iv c.s,iv c.n,iv c.v] 47 .z true (by kernel_rfl)) (by unfold maxLen;omega) (by omega) ?_);intro a7 b5 e9 a1 d1 Y a8;have U:=Y w.heap.size [.n 2 i] (G'.2 rfl);refine qR [.n 0 i] 8 [20,22,24,26,29,0,1] λd7 b6 f0 N=>qV 0 (iv ((j:Int)+1)) (AR 11 (j:Int) underlying3 (by omega)) (qR [] 2 [] λd8 b7 f1 O=>qB [false,false,false,false] λz P K=>hJ (a.length-(j+1)) _ _ _ z _ (by omega) ⟨j+1,(q++[c]),rfl,by omega,rfl,rfl,?_,?_,by simp;omega,((((((((((hC.n E).n G).n o).n r).n C).n D).n M).trans (U.mono (by simp[TN]))).trans (N.mono (by simp[TN]))).n O)⟩ K);have d:=(((((((((E.nil ([.n 2 i,.n 0 i]:List Tg)).n G).n o).n r).n C).n D).n M).m U).m N).n O;have A:Tg.z∉([.n 2 i,.n 0 i]:List Tg):=by simp
      .exact⟨{ xr with dW:=a7 },a5,a6,P.nd 0 (b.tape.ch d A) (b.ln.ch d A) (Bl b.al d A) (BP b.bn d A (by simp)) (by rw[BZ];exact((a1.ch N).ch O)) (b.ae.ch d) (b.an.ch d) (b.bw.ch d) b.oO,F.ch d A (by simp<;>omega),P.new⟩
      .rw[<- hI,Ds H,Gk,if_pos ⟨by omega,h4⟩]
    .refine qT 7 (.bool false) (λ_=>(rLt (t:=3) (x:=(.tmp 21)) (y:=(.const (iv 40))) (D' h3))) (qR [] 16 [16,18,20,22,24,26,28,30,32,34,36] λd9 b8 f2 V=>qV 0 (iv ((j:Int)+1)) (AR 11 (j:Int) underlying3 (by omega)) (qR [] 2 [] λe0 b9 f3 W=>qB [false,false,false] λz P K=>hJ (a.length-(j+1)) _ _ _ z _ (by omega) ⟨j+1,q,rfl,by omega,rfl,rfl,?_,?_,by omega,(((((hC.n E).n G).n o).n V).n W)⟩ K))
     .exact(nsC b F ((((E.n G).n o).n V).n W) P)
     .rw[<- hI,Ds H,Gk,if_neg (by omega)]
   .refine qI ((decide ((j:Int)<(I.n:Int)))) false (D' (by omega)) (qR [] 1 [] λe1 c0 f4 X=>?_);obtain rfl:j=a.length:=by omega
    rw[lH]at hI
    refine qE (.tuple #[]) λK=>?_;rw[<- hI];exact⟨_,rfl,(nsC b F (E.n X) K),((hC.n E).n X)⟩
 .refine qI ((!p.leads)) true (by simpa using h1) (qE (.tuple #[]) λK=>?_);rw[show p.eo a=p from if_neg h1];exact⟨_,rfl,(nsC hN hO ((c1.n c4).n c5) K),(((c1.nil (TN i)).n c4).n c5)⟩
theorem EB(h:NS i nb ob g w p ls ts){b:Bool}(a:p.leads=b) :
  Calls prog 91 #[pt nb 0] w λe w'=>e=.returned (.bool b)/\Bw w w':=by subst a;exact Nf h
theorem WH(p:Nod)(l:List Cmd):(p.eo l).bn=p.bn:=by unfold Nod.eo;split<;>rfl
theorem LQ(h:NS i nb ob g w p ls ts)(j:Nat)(l:Let)(E:Cx g w j l)(D:l.kind=6)(N:p.bn.length<100000000)(u:l.ed.length<100000000)(Q:p.br.dW.length<=40) :
  Calls prog 53 #[pt nb 0,pt j 0] w (NP i nb ob g w (.tuple #[]) (p.take l) ls ts):=by
 obtain⟨x,lt,tl,B,C,O⟩:=h;refine gI (fn:=f53) (TN i) g func53 O (qN B (qO C ?_));have q:=E;obtain⟨W,F,e,P,v⟩:=E;refine BU ⟨j,.cells (EX l W F) 150,.z,false⟩ (λ_=>⟨e.r,e.z,λh=>(by cases h),λh=>absurd rfl h⟩) (by kernel_rfl) ?_;refine qR [] 12 [0,0,0,0,5,0,3,2,4,4,6,8,2] λk g1 w1 c1=>qS 5 [false,false,true,true,true] B C c1 (λH=>Jn H l.ed F (v.ch (c1.nil (TN i)) (Bg i)) u Q) λg2 w2 G R U a d m=>?_;have hn:=a.ae.num;refine qR [] 15 [11,0,2,2,4,6,0,8,1,10,12,14,16,3,18,20] λs4 g4 w4 c=>?_;by_cases A:l.au<(p.eo l.ed).ae.length
 .refine qI ((decide ((l.au:Int)<(G.ae.n:Int)))) true (I' (by omega)) (qR [] 3 [1] λs5 M Y o=>?_);rw[show p.take l=(p.eo l.ed).wait (.tell l.src l.au)from by unfold Nod.take;rw[D];exact if_pos A];refine Ae λK=>?_;obtain⟨Z,z2⟩:=K.oG 1 (k 0) (.cells #[pt nb 0] 83) false (by kernel_rfl);obtain⟨z3,z4⟩:=K.oG 2 (k 1) (.cells #[pt j 0] 151) false (by kernel_rfl);have I:NS i nb ob M Y (p.eo l.ed) ls ts:=(nsC a d (c.n o) K);refine qS0 2 [true,true,true,false,false] (AK I (by rw[WH];exact N) _ _ (.tell l.src l.au) ⟨(k 0),(k 1),j,l,rfl,⟨Z,z2⟩,⟨z3,z4⟩,q.ch ((((c1.nil (TN i)).trans (m)).n c).n o) (Bg i),rfl,rfl⟩) λg6 w6 x6 S V s t J=>qR [] 1 [] λs8 g8 w8 y=>qF s t y ((((((c1.nil (TN i)).trans (m)).n c).n o).trans (J)).n y)
 .refine qI ((decide ((l.au:Int)<(G.ae.n:Int)))) false (D' (by omega)) (qR [] 1 [] λT L X b=>qE (.tuple #[]) λK=>?_);rw[show p.take l=(p.eo l.ed)from by unfold Nod.take;rw[D];exact if_neg A];exact⟨_,rfl,(nsC a d (c.n b) K),((((c1.nil (TN i)).trans (m)).n c).n b)⟩
theorem Ka(h:NS i nb ob g w p ls ts){w0:World}(hB:Base w0 g w)(hT:Tabs w0)(I:Nat)(l:Let)(hl:Cx g w I l)(Y:l.kind=1)(hs:l.src<5)(hb:(p.gC 0 l.ed).ae.length<=40)(b1:l.ed.length<=40)(X:(p.br.al l.src).vs.length<100000000) :
  Calls prog 48 #[pt nb 0,pt I 0] w (NP i nb ob g w (.tuple #[]) (p.take l) ls ts):=by
 obtain⟨H,src,q,b,bN,a,c,ed⟩:=l;simp only at Y hs hb b1 X;obtain⟨x,lt,tl,hN,hO,hg⟩:=h;refine gI (fn:=f48) (TN i) g func48 hg (qN hN (qO hO ?_));obtain⟨vs,wh,Z,b2,a0⟩:=hl;obtain⟨wa,wn,wc⟩:=wh;obtain rfl:wn=ed.length:=a0.len;have d7:p.ae.length<=40:=jG (by unfold Nod.gC;rw[M'];omega) hb;refine BU ⟨I,.cells (EX (Let.mk H src q b bN a c ed) vs (S3.mk wa ed.length wc)) 150,.z,false⟩ (λ_=>⟨Z.r,Z.z,λh=>(by cases h),λh=>absurd rfl h⟩) (by kernel_rfl) ?_;refine qR [] 7 [2] λs1 g1 w1 c1=>qS 5 [false,false,true] hN hO c1 (λN2=>Ng N2 0 ed (S3.mk wa ed.length wc) (a0.ch (c1.nil (TN i)) (Bg i)) (by omega) (by omega) (by omega)) λg2 w2 x2 b3 b4 s t D=>?_;by_cases h1:(p.gC 0 ed).leads=false
 .refine qR [] 5 [29,0] λs4 g4 w4 c4=>Ae λK=>?_;have N6:NS i nb ob g4 w4 (p.gC 0 ed) ls ts:=(nsC s t c4 K);refine qC 1 (EB N6 h1) ?_;rintro e' w7 ⟨rfl,b7⟩;refine⟨_,rfl,b7,?_⟩;have c7:=Cg.bu (B:=w.heap.size) (T:=[]) (g:=g4) b7;refine qR [] 29 [4,6,8,10,12,14,16,18,20,22,24,26,28,30,32,34,36,38,40,42,44,46,48,50,52,54,56] λs8 g8 w8 c8=>qE (.tuple #[]) λK=>?_;rw[show p.take (Let.mk H src q b bN a c ed)=(p.gC 0 ed)from by unfold Nod.take;rw[Y];exact if_pos (.inl h1)];exact⟨_,rfl,(nsC s t ((c4.n c7).n c8) K),(((((c1.nil (TN i)).trans (D)).n c4).n c7).n c8)⟩
 .have h10:(p.gC 0 ed).leads=true:=by simpa using h1
  refine qR [] 5 [29,0] λd8 R b5 d=>Ae λK=>?_;have a2:NS i nb ob R b5 (p.gC 0 ed) ls ts:=(nsC s t d K);refine qC 1 (EB a2 h10) ?_;rintro e' e8 ⟨rfl,N⟩;refine⟨_,rfl,N,?_⟩;have j:=Cg.bu (B:=w.heap.size) (T:=[]) (g:=R) N;refine qR [] 12 [4,6,8,10,12,14,0,16,18,20,22,24,26,1] λd9 c5 e9 k=>?_;by_cases h2:b≠(p.gC 0 ed).br.fv
  .refine qT 14 (.bool true) (λ_=>(Ik (x:=(.tmp 17)) (y:=(.tmp 23)) b (p.gC 0 ed).br.fv h2)) (qR [] 16 [30,32,34,36,38,40,42,44,46,48,50,52,54,56] λe0 c6 f0 O=>qE (.tuple #[]) λK=>?_);rw[show p.take (Let.mk H src q b bN a c ed)=(p.gC 0 ed)from by unfold Nod.take;rw[Y];exact if_pos (.inr (.inl h2))];exact⟨_,rfl,(nsC s t (((d.n j).n k).n O) K),((((((c1.nil (TN i)).trans (D)).n d).n j).n k).n O)⟩
  .have h20:b=(p.gC 0 ed).br.fv:=by simpa using h2
   refine qT 14 (.bool false) (λ_=>(Ij (x:=(.tmp 17)) (y:=(.tmp 23)) b (p.gC 0 ed).br.fv h20)) (qR [] 11 [30,32,34,36,38,40,42,0,44,46,48,50] λe1 a8 b6 m=>BV 69 (λg' w' e L=>e=[(0,pt nb 0),(1,pt I 0),(38,.bool ((p.gC 0 ed).br.nX src))]/\L=[⟨I,.cells (EX (Let.mk H src q b bN a c ed) vs (S3.mk wa ed.length wc)) 150,.z,false⟩,⟨nb,.cells (AB i ob (p.gC 0 ed) x2) 103,.n 0 i,false⟩,⟨ob,.cells #[S3.v b3,S3.v b4] 80,.n 50 0,false⟩]/\True/\Cg w.heap.size ([]:List Tg) a8 b6 g' w') (by kernel_rfl) ?_ ?_)
   .intro J hJ;rcases nT hs with rfl|rfl|rfl|rfl|rfl <;>
    (refine qR [] 4 [52,54,1,56] λe2 d0 f2 a5=>?_;exact qB [true,true,true] λz K0 K=>hJ _ _ _ z _ ⟨rfl,rfl,trivial,(a5.nil ([]:List Tg))⟩ K)
   rintro c9 f1 _ g0 _ ⟨rfl,rfl,_,o⟩;by_cases h3:(p.gC 0 ed).br.nX src=true
   .refine qI (((p.gC 0 ed).br.nX src)) true h3 (qE (.tuple #[]) λK=>?_);rw[show p.take (Let.mk H src q b bN a c ed)=(p.gC 0 ed)from by unfold Nod.take;rw[Y];exact if_pos (.inr (.inr h3))];exact⟨_,rfl,(nsC s t ((((d.n j).n k).n m).n o) K),(((((((c1.nil (TN i)).trans (D)).n d).n j).n k).n m).n o)⟩
   .refine qI (((p.gC 0 ed).br.nX src)) false (by simpa using h3) (qR [] 15 [12,0,2,4,6,8,10,12,14,0,16,18,20,22,0] λe3 d1 f3 u=>qS 12 [true,false,false] s t (((((d.n j).n k).n m).n o).n u) (λa3=>P0 a3 (hB.ch ((((((((c1.nil (TN i)).trans (D)).n d).n j).n k).n m).n o).n u) (Bg i)) hT src hs a vs (b2.ch ((((((((c1.nil (TN i)).trans (D)).n d).n j).n k).n m).n o).n u) (Bg i)) X) λd2 f4 a1 A C S V P=>qR [] 17 [15,0,2,4,6,8,0,10,12,14,16,0,18,20,22,24,26] λe4 a9 b8 E=>BV 69 (λg' w' e L=>e=[(0,pt nb 0)]/\L=[⟨I,.cells (EX (Let.mk H src q b bN a c ed) vs (S3.mk wa ed.length wc)) 150,.z,false⟩,⟨nb,.cells (AB i ob ({ (p.gC 0 ed)with br:={ (p.gC 0 ed).br.og src a with cl:=upN (p.gC 0 ed).br.cl src ed.length } }) a1) 103,.n 0 i,false⟩,⟨ob,.cells #[S3.v A,S3.v C] 80,.n 50 0,false⟩]/\True/\Cg w.heap.size ([.n 0 i]:List Tg) a9 b8 g' w') (by kernel_rfl) ?_ ?_)
    .intro J hJ;rcases nT hs with rfl|rfl|rfl|rfl|rfl <;>
     (refine qR [.n 0 i] 3 [28,31,1,1] λe5 d4 f6 a6=>?_;exact qB [true,true,true] λz K0 K=>hJ _ _ _ z _ ⟨rfl,rfl,trivial,a6⟩ K)
    rintro d3 f5 _ g3 _ ⟨rfl,rfl,_,F⟩;refine qR [] 2 [] λe6 b0 b9 G=>?_;rw[show p.take (Let.mk H src q b bN a c ed)=Nod.nU { (p.gC 0 ed)with br:={ (p.gC 0 ed).br.og src a with cl:=upN (p.gC 0 ed).br.cl src ed.length } }from by unfold Nod.take;rw[Y];exact if_neg (by rintro(h|h|h);exact h1 h;exact h2 h;exact h3 h)];refine Ae λK=>?_;have M:=((E.nil ([.n 0 i]:List Tg)).trans (F)).n G;have a4:NS i nb ob b0 b9 ({ (p.gC 0 ed)with br:={ (p.gC 0 ed).br.og src a with cl:=upN (p.gC 0 ed).br.cl src ed.length } }) ls ts:=⟨a1,A,C,K.pA 1 S M,V.ch M (hn:=by simp<;>omega),K.new⟩;refine qS0 1 [true,false,false] (Fw a4 (hB.ch ((((((((((((c1.nil (TN i)).trans (D)).n d).n j).n k).n m).n o).n u).trans (P)).n E).trans (F.mono (by simp[TN]))).n G) (Bg i)) hT hb) λd5 f7 f9 c0 c3 U W a7=>qR [] 1 [] λe7 d6 f8 Q=>qF U W Q ((((((((((((((c1.nil (TN i)).trans (D)).n d).n j).n k).n m).n o).n u).trans (P)).n E).trans (F.mono (by simp[TN]))).n G).trans (a7)).n Q)
def tkG:Nat->FuncId
 | 0=>47
 | 1=>48
 | 2=>49
 | 3=>50
 | 4=>51
 | 5=>52
 | _=>53
def tkV(k:Nat):Value:=.func (.func (tkG k)) #[] #[]
def tkL(j:Nat):List MapEntry:=(List.range j).map λ(k:Nat)=>{ key:=iv (k:Int),val:=tkV k,born:=k }
structure TkAt(g:Gh)(w:World)(b j:Nat):Prop where
 t:g.t b=.n 70 0
 k:g.k b=0
 row:w.heap[b]?=some (.map (tkL j).toArray j)
theorem TkAt.ch{B:Nat}{T:List Tg}{d:Gh}{e:World}(h:TkAt g w b j)(c:Cg B T g w d e)(hn:Tg.n 70 0∉T:=by simp):TkAt d e b j :=
 have a:=c.rc h.row h.t hn
 ⟨a.2.1,a.2.2.trans h.k,a.1⟩
theorem Y5(h:k<7):k=0\/k=1\/k=2\/k=3\/k=4\/k=5\/k=6:=by omega
theorem Qw(a:Bool)(k:Nat)(w:World):(Instr.checkKey a 10000 134 (iv (k:Int))).run prog w=.ok () w:=by kernel_rfl
theorem cQ(h:j<7)(w:World):(Instr.findKey 134 (iv (j:Int)) (tkL j)).run prog w=.ok none w:=by
 rcases Y5 h with rfl|rfl|rfl|rfl|rfl|rfl|rfl<;>kernel_rfl
theorem cP(h:j<7)(w:World):(Instr.findKey 134 (iv (j:Int)) (tkL 7)).run prog w=.ok (some (j,tkV j)) w:=by
 rcases Y5 h with rfl|rfl|rfl|rfl|rfl|rfl|rfl<;>kernel_rfl
theorem gj(h:TkAt g w b j)(e:j<7):∃ w',(Instr.mapUpdate 81 (.map (some b)) (iv (j:Int)) (tkV j)).run prog w=.ok () w'/\TkAt g w' b (j+1)/\(∀ B T,Tg.n 70 0∈T->Cg B T g w g w')/\w'.heap.size=w.heap.size:=by
 have d:(getObj b).run prog w=.ok (.map (tkL j).toArray j) w:=by simp[getObj,Sem.run,h.row]
 have f:=MapKept.run_setObj_map (P:=prog) (w:=w) (.map (tkL (j+1)).toArray (j+1)) h.row;have c:((tkL j).toArray.push { key:=iv (j:Int),val:=tkV j,born:=j })=(tkL (j+1)).toArray:=by simp[tkL,List.range_succ]
 refine⟨_,?_,⟨h.t,h.k,ChangeMaps.heap_setBlock_same h.row (.map (tkL (j+1)).toArray (j+1))⟩,λB T a=>Cg.block h.row h.t h.k a _,by simp[ChangeMaps.setBlock]⟩;rw[Instr.mapUpdate];simp only[Sem.run_bind,run_underlying underlying81,Result.andThen_ok,d,Qw,cQ e,c,f];rfl
theorem rTk(a:w.heap[b]?=some (.map (tkL 7).toArray 7))(d:k<7):(Instr.lookup 81 (.map (some b)) (iv (k:Int)) false).run prog w=.ok (tkV k) w:=by
 have c:(getObj b).run prog w=.ok (.map (tkL 7).toArray 7) w:=by simp[getObj,Sem.run,a]
 simp[Instr.lookup,run_underlying underlying81,c,Qw,cP d]
end
section
variable{fn:Func}{R:Ending->World->Prop}{B:Nat}{T:List Tg}{g:Gh}{w:World}
theorem ij{s:Xs}(d:Nat)(c:Dd s d=some (Instr.makeMap 81 none>>=λv=>pure (.value v)))
  (e:(nxt s d undef s.L).o.map Ob.l'=(nxt s d undef s.L).o.map Ob.r')
  (p:∀ b g' w',w.heap.size<=b->TkAt g' w' b 0->(∀ B T,Cg B T g w g' w')->(∀ b,w'.heap.size<=b->g'.t b=.z/\g'.k b=0)->GG prog fn R B T (nxt s d (.map (some b)) s.L).s g' w'):GG prog fn R B T s g w:=by
 refine JM d s.L e (BE c) λl r j o f=>?_;have q:(Instr.makeMap 81 none).run prog w=.ok (.map (some w.heap.size)) (w.alloc (.map #[] 0)):=by
  simp[Instr.makeMap,go_sem]
 have h:∀ B T,Cg B T g w (Og g w (.n 70 0) 0) (w.alloc (.map #[] 0)):=λB T =>
  ⟨rfl,rfl,rfl,by simp,λb a=>.inl (if_neg (by omega)),λb a=>by show _<=(if b=w.heap.size then _ else g.k b);rw[if_neg (by omega)];exact A' _,λb a _ _=>if_neg (by omega),λb a _ _=>heap_alloc_old w _ a,λb a j u=>World.cell?_of_block (w:=w) (heap_alloc_old w _ a)⟩
 have i:∀ b,(w.alloc (.map #[] 0)).heap.size<=b->(Og g w (.n 70 0) 0).t b=.z/\(Og g w (.n 70 0) 0).k b=0:=λb a=>by
  have m:w.heap.size+1<=b:=by simpa using a
  show(if b=w.heap.size then _ else g.t b)=.z/\(if b=w.heap.size then _ else g.k b)=0;rw[if_neg (by omega),if_neg (by omega)];exact l.new b (by omega)
 refine⟨.map (some w.heap.size),_,Og g w (.n 70 0) 0,.inl ?_,l.ch (h _ []) i (by simp),p _ _ _ (A' _) ⟨if_pos rfl,if_pos rfl,heap_alloc_new _ _⟩ h i⟩;rw[CY c f,Sem.run_bind,q,Result.andThen_ok];rfl
theorem GQ{s:Xs}(c:Nat){b j:Nat}(h:TkAt g w b j)(u:j<7)(a:Dd s c=some (Instr.mapUpdate 81 (.map (some b)) (iv (j:Int)) (tkV j)>>=λ_=>pure .skip))
  (d:(nxt s c undef s.L).o.map Ob.l'=(nxt s c undef s.L).o.map Ob.r')(r:s.L.all (λy=>[Tg.n 70 0].all λt=>y.t.ne t)=true)
  (v:∀ w',TkAt g w' b (j+1)->(∀ B T,Tg.n 70 0∈T->Cg B T g w g w')->GG prog fn R B T (nxt s c undef s.L).s g w'):GG prog fn R B T s g w:=by
 refine JM c s.L d (BE a) λk A i o e=>?_;obtain⟨w',x,p,f,q⟩:=gj h u;refine⟨undef,w',g,.inr ⟨?_,rfl⟩,k.ch (f _ [Tg.n 70 0] (G'.2 rfl)) (λb m=>k.new b (by rw[q]at m;exact m)) r,v w' p f⟩;rw[CY a e,Sem.run_bind,x,Result.andThen_ok];rfl
end
def TM:List Tg:=[0,1,2,3,4].flatMap TN
theorem EO:Tg.z∉TM:=by simp[TM,TN]
theorem gA{i:Nat}(a:i<5):∀ t∈TN i,t∈TM:=λt b=>mp.2 ⟨i,by rcases nT a with rfl|rfl|rfl|rfl|rfl<;>simp,b⟩
theorem gB{i j r:Nat}(h:j≠i)(a:r<6):Tg.n r j∉TN i:=by simp[TN];omega
def mtA(nb:Nat->Nat)(ob tb:Nat):Array Value:=#[pt (nb 0) 0,pt (nb 1) 0,pt (nb 2) 0,pt (nb 3) 0,pt (nb 4) 0,pt ob 0,.map (some tb)]
structure MS(mb tb ob:Nat)(nb:Nat->Nat)(g:Gh)(w:World)(M:Meet):Prop where
 box:Box g w mb (mtA nb ob tb) 86
 tk:TkAt g w tb 7
 af:∀ i,i<5->∃ x,NodeAt g w i (nb i) ob x (M.af i)
 out:∃ lt tl,OutAt g w ob lt tl M.bt M.cF
 new:I4 g w
def MP(mb tb ob:Nat)(nb:Nat->Nat)(g:Gh)(w:World)(v:Value)(M:Meet):Ending->World->Prop:=λe w'=>∃ g',e=.returned v/\MS mb tb ob nb g' w' M/\Cg w.heap.size TM g w g' w'
section
variable{mb tb ob i:Nat}{nb:Nat->Nat}{g g':Gh}{w w':World}{M:Meet}
theorem MS.ns(h:MS mb tb ob nb g w M)(a:i<5):NS i (nb i) ob g w (M.af i) M.bt M.cF :=
 let ⟨x,hx⟩:=h.af i a
 let ⟨lt,tl,ho⟩:=h.out
 ⟨x,lt,tl,hx,ho,h.new⟩
theorem MS.nW{B:Nat}(h:MS mb tb ob nb g w M)(c:Cg B [] g w g' w')(b:I4 g' w'):MS mb tb ob nb g' w' M :=
 ⟨h.box.ch c,h.tk.ch c,λi a=>let ⟨x,hx⟩:=h.af i a;⟨x,hx.ch c⟩,let ⟨lt,tl,ho⟩:=h.out;⟨lt,tl,ho.ch c⟩,b⟩
theorem MS.of{B:Nat}(h:MS mb tb ob nb g w M)(q:i<5){p:Nod}{a:List Let}{b:List Tol}(m:NS i (nb i) ob g' w' p a b)(c:Cg B (TN i) g w g' w'):MS mb tb ob nb g' w' ⟨upN M.af i p,a,b⟩:=by
 obtain⟨x,lt,o,d,f,k⟩:=m;refine⟨h.box.ch c (Bg i),h.tk.ch c (by simp[TN]),λj l=>?_,⟨lt,o,f⟩,k⟩;by_cases e:j=i
 .subst e;exact⟨x,by show NodeAt g' w' j (nb j) ob x (upN M.af j p j);rw[Ey];exact d⟩
 .obtain⟨y,hy⟩:=h.af j l;exact⟨y,by show NodeAt g' w' j (nb j) ob y (upN M.af i p j);rw[FY _ _ e];exact hy.ch c (Bg i) λr n=>gB e n⟩
theorem MS.call(h:MS mb tb ob nb g w M)(b:i<5){f:FuncId}{a:Array Value}{v:Value}{p:Nod}{d:List Let}{j:List Tol}(l:Calls prog f a w (NP i (nb i) ob g w v p d j)):Calls prog f a w (MP mb tb ob nb g w v ⟨upN M.af i p,d,j⟩) :=
 l.mono λe o ⟨k,m,n,c⟩=>⟨k,m,h.of b n c,c.mono (gA b)⟩
theorem Tn{W:World}(b:W.heap[mb]?=some (.cells (mtA nb ob tb) 86)){j:Nat}(a:j<5):W.cell? ⟨mb,j,none⟩=some (pt (nb j) 0):=by
 rcases nT a with rfl|rfl|rfl|rfl|rfl<;>(rw[cell_of_row _ _ _ _ _ _ b];rfl)
end
end Go.Proofs.YthohlalejhgbmaaGreatDoor
