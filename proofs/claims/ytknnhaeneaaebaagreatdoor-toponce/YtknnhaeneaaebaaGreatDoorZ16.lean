/- Part 16 of the walk. -/
import Derived.Deep.Slices
import Derived.Test.YtknnhaeneaaebaaGreatDoorZ15
set_option maxRecDepth 100000
set_option maxHeartbeats 4000000
open Go.Proofs.Tryz
set_option linter.unusedVariables false
namespace Go.Proofs.YtknnhaeneaaebaaGreatDoor
section
open Go.RowKit Go.ChangeShapes Go.WideShapes Go.ChangeAt
section
variable{H:Type}{W:World}{f0 f1 f2 f3 f4:Field}{fuel:Nat}{p:List MemPlace}{t:TypeId}
theorem PG{P:Program}{c:TypeId × Value->H}{w:World}{b:Nat}{a:Nat->Bool}{held:Bool}{d:List Value}{x:DataW H × List MemPlace}(i:P.underlying t=some (.struct #[f0,f1,f2,f3,f4]))(h:DataW.trod c P w b a held fuel t d=some x) :
  ∃ y0 y1 y2 y3 y4 n,x=(.agg [y0.1,y1.1,y2.1,y3.1,y4.1],y0.2++(y1.2++(y2.2++(y3.2++y4.2))))/\d.length=P.cellsOf t/\DataW.trod c P w b a held n f0.type ((d.drop f0.offset).take (P.cellsOf f0.type))=some y0 /\
   DataW.trod c P w b a held n f1.type ((d.drop f1.offset).take (P.cellsOf f1.type))=some y1/\DataW.trod c P w b a held n f2.type ((d.drop f2.offset).take (P.cellsOf f2.type))=some y2 /\
   DataW.trod c P w b a held n f3.type ((d.drop f3.offset).take (P.cellsOf f3.type))=some y3/\DataW.trod c P w b a held n f4.type ((d.drop f4.offset).take (P.cellsOf f4.type))=some y4:=by
 obtain⟨j,n,_,rfl,g,f,e⟩:=DataW.trod_struct i h
 match j,f with
 | [y0,y1,y2,y3,y4],_=>exact⟨y0,y1,y2,y3,y4,n,by simp,g,by simpa using e 0 f0 rfl,by simpa using e 1 f1 rfl,by simpa using e 2 f2 rfl,by simpa using e 3 f3 rfl,by simpa using e 4 f4 rfl⟩
theorem cz{α:Type}{a:Array α}(h:a.size=5):∃ c0 c1 c2 c3 c4,a=#[c0,c1,c2,c3,c4]:=by
 obtain⟨l⟩:=a
 match l,h with
 | [c0,c1,c2,c3,c4],_=>exact⟨c0,c1,c2,c3,c4,rfl⟩
theorem Js:prog.cellsOf 3=1:=by kernel_rfl
theorem J0{n:Int}(h:(Lit.int .i64 n).wf=true):I64 n:=by have:=bounds_i64 h;unfold I64;omega
theorem Qs{e:TypeId × Value->H}{b0:Nat}{v:Value}{d:DataW H}(y:prog.underlying t=some (.struct #[f0,f1,f2,f3,f4]))(D:prog.cellsOf t=5)(L:f0.type=3)(M:f1.type=3)(N:f2.type=3)(O:f3.type=3)(P:f4.type=3)(F:f0.offset=0)(G:f1.offset=1)(I:f2.offset=2)(J:f3.offset=3)(K:f4.offset=4)(b:Value.okWide prog W .any b0 t v)(h:DataW.Trod e prog W 0 (λ_=>true) true t v d p) :
  ∃ k c s n x:Int,v=.agg (cmA k c s n x)/\I64 k/\I64 c/\I64 s/\I64 n/\I64 x:=by
 obtain⟨cs,rfl,a⟩:=okWide_struct y b;rw[D]at a
 obtain⟨V,X,Y,Z,c4,rfl⟩:=cz a;obtain⟨m,E⟩:=h;obtain⟨y0,y1,y2,y3,y4,n,_,_,o,q,r,u,w⟩:=PG y E;rw[L,F,Js]at o
 rw[M,G,Js]at q
 rw[N,I,Js]at r
 rw[O,J,Js]at u
 rw[P,K,Js]at w
 obtain⟨a0,f,_,Q⟩:=DataW.trod_int underlying3 o;obtain⟨z,g,_,R⟩:=DataW.trod_int underlying3 q;obtain⟨A,i,_,S⟩:=DataW.trod_int underlying3 r;obtain⟨B,j,_,T⟩:=DataW.trod_int underlying3 u;obtain⟨C,l,_,U⟩:=DataW.trod_int underlying3 w;simp[Value.cells]at f g i j l
 subst f g i j l;exact⟨a0,z,A,B,C,rfl,J0 Q,J0 R,J0 S,J0 T,J0 U⟩
theorem YP{q:TypeId × Value->H}{a:Option Addr}{n c:Nat}{d:DataW H}(y:DataW.trod q prog W 0 (λ_=>true) true fuel 24 [.slice a n c]=some (d,p)):∃ l:List Int,RdV W ⟨a,n,c⟩ 1 (l.map iv)/\∀ x∈l,I64 x:=by
 rcases open_ints underlying24 underlying3 Js y with⟨h1,_⟩|⟨a',len,cap,zs,h1,_,hl,_,hz,_,hcell,hw⟩
 .simp at h1;obtain⟨rfl,rfl,rfl⟩:=h1;exact⟨[],⟨rfl,A' _,λ_=>rfl,.inl rfl⟩,λg z=>by cases z⟩
 .simp at h1;obtain⟨rfl,rfl,rfl⟩:=h1;simp only[if_true]at hz;have m:(zs.take n).length=n:=by rw[j'];omega
  refine⟨zs.take n,⟨by rw[nr,m,r8],hl,(λh=>by cases h),?_⟩,λx A=>J0 (hw x (np A))⟩;by_cases w:n=0
  .exact .inl w
  .right;obtain⟨b,s,spot⟩:=a';have f:=hcell 0 (by omega);have i:spot=none:=by simpa[Addr.add]using World.cell?_spot f
   subst i;have e:∀ o k,(⟨b,o,none⟩:Addr).add k=⟨b,o+k,none⟩:=λo k=>by unfold Addr.add;split<;>simp_all
   rw[e]at f
   refine⟨b,s,rfl,World.block_lt_of_cell? W _ f,λj u v=>?_⟩;have r:j<n:=by
    have:=(V'.1 v).1;rw[nr]at this;omega
   have t:=hcell j (by omega);rw[e]at t
   rw[t,<- v,nP,og,if_pos r,E' (by omega),nu,E' (by omega)];rfl
end
end
section
open Go.ChangeShapes Go.WideShapes Go.ChangeAt Go.RowKit
section
theorem JS(H:Type)(k:TypeId × Value->H)(W:World)(n:Nat)(a:Array Value)(r E:List (DataW H))(c:List MemPlace)(b:∀ (j:Nat) t v,f3.params[j]?=some t->a[j]?=some v->Value.okWide prog W .any n t v)(J:DataW.Whole k prog f3.params.toList Rows.topOnceSpec.vars false W a.toList r E c)(y:(DataW.weightsEach prog (f3.params.toList++Rows.topOnceSpec.plain.varTypes prog) (r++E)).all (·<=reachBytes)=true)(V:laidMetH prog Rows.topOnceRow.laid W) :
  Calls prog 3 a W λe W'=>∃ v,e=.returned v/\Rows.topOnceSpec.post k prog f3 false true false false W a v W':=by
 have s:=J;obtain⟨p,q,o,X,rfl,a0,a3⟩:=J;have I:DataW.TrodAll k prog W 0 (λ_=>true) true f3.params.toList a.toList r p:=o;rw[params3]at I b y
 obtain⟨M,a4,d0,R,p0,q0,u,rfl,rfl,F,r0⟩:=trodAll_cons I;obtain⟨N,a5,d1,S,p1,q1,rfl,rfl,rfl,G,r1⟩:=trodAll_cons r0;obtain⟨O,a6,d2,T,p2,q2,rfl,rfl,rfl,U,r2⟩:=trodAll_cons r1;obtain⟨rfl,rfl,rfl⟩:=trodAll_nil r2;obtain rfl:a=#[M,N,O]:=by cases a;simp_all
 obtain⟨rfl,rfl⟩:=trodVars_none X;have K:=F;have A:∀ x∈p0,x.block<W.heap.size:=by obtain⟨m,w⟩:=K;exact DataW.trod_lt m _ _ _ w
 obtain⟨ka,kb,kc,kd,ke,rfl,ia,ib,ic,z,ie⟩:=Qs underlying23 (by kernel_rfl) rfl rfl rfl rfl rfl rfl rfl rfl rfl rfl (b 0 23 M rfl rfl) F;obtain⟨C,g,d,rfl⟩:=okWide_slice underlying24 (b 1 24 N rfl rfl);have L:=G;have B:∀ x∈p1,x.block<W.heap.size:=by obtain⟨m,w⟩:=L;exact DataW.trod_lt m _ _ _ w
 obtain⟨l1,w1,i1⟩:∃ l:List Int,RdV W ⟨C,g,d⟩ 1 (l.map iv)/\∀ x∈l,I64 x:=by obtain⟨D,Z⟩:=G;exact YP Z
 obtain⟨Q,rfl,rfl,rfl,P⟩:=open_int underlying3 (b 2 3 O rfl rfl) U;have b2:=bounds_i64 P;clear o;refine(PF (ck:=ka) (cc:=kb) (cs:=kc) (cn:=kd) (cv:=ke) (to:=⟨C,g,d⟩) (ld:=Q) ia ib ic z ie w1 i1 ⟨by omega,by omega⟩ (mM V)).mono λe W' ⟨Y,i⟩=>?_;subst Y;exact⟨_,rfl,_,_,_,[],_,[],s,trodAll_mk1 (shut_bool underlying4 _),(trodAll_cons_mk (Below.trod UE (by kernel_rfl) (nJ (by kernel_rfl)) K i A) (trodAll_cons_mk (Below.trod UE (by kernel_rfl) (nJ (by kernel_rfl)) L i B) (trodAll_cons_mk (shut_int underlying3 P) trodAll_mk0))),rfl,i.frame _,λh=>by cases h⟩
variable{W:World}{os:Os}
theorem R8(h:Jo os W):laidMet prog Rows.topOnceRow.laid (W.forCall (λ_ _=>0) ⟨#[],#[.agg zV5,.slice none 0 0,.int .i64 0],[]⟩).memory:=by
 unfold Jo at h;subst h;exact laidMet_of_run' 8 (by kernel_rfl) (by kernel_rfl)
theorem NF(h:Jo os W){H:Type}(a:TypeId × Value->H):∃ places,DataW.whole a prog (W.forCall (λ_ _=>0) ⟨#[],#[.agg zV5,.slice none 0 0,.int .i64 0],[]⟩).memory f3.params.toList Rows.topOnceSpec.vars false (#[.agg zV5,.slice none 0 0,.int .i64 0]:Array Value).toList 8=some ([.agg [.lit (.int .i64 0),.lit (.int .i64 0),.lit (.int .i64 0),.lit (.int .i64 0),.lit (.int .i64 0)],.nil,.lit (.int .i64 0)],[],places):=by
 unfold Jo at h;subst h;exact⟨[],by kernel_rfl⟩
theorem MI(d:Os)(a:d.Started)(H:Type)(enc:TypeId × Value->H)(F:Stop.Interp) :
  ReturnsInHanded {} Tryz.checked d 3 .any ((OpenSpec.ofChange Rows.topOnceSpec).preRow enc prog f3 Rows.topOnceRow.domain false Rows.topOnceRow.laid) (((OpenSpec.ofChange Rows.topOnceSpec).at F).post enc prog f3 false true false false):=by
 obtain⟨i,b⟩:=de d;obtain⟨c,h⟩:=NF b enc;have g:=R8 b;refine returnsInHanded_of_row (C:=Tryz.checked) (s:=OpenSpec.ofChange Rows.topOnceSpec) own a (by kernel_rfl) func3 ?_ ?_
 .unfold Jo at b;subst b;exact witness_row_at (enc:=enc) (C:=Tryz.checked) false _ #[.agg zV5,.slice none 0 0,.int .i64 0] rfl (by kernel_rfl) (by kernel_rfl) (by kernel_rfl)
   (OpenSpec.preRow_of_cond 8 h (by kernel_rfl) (λk e=>by cases e) (by kernel_rfl) g)
 .intro W base args ds gs before hval hW _ _ hsz hL _ _;exact JS H enc W base args ds gs before hval hW hsz hL
theorem PE:Rows.TopOnceSaid :=
 OpenClaim.holds_of_cond 3 f3 rfl rfl rfl rfl rfl rfl rfl ⟨rfl,rfl,rfl,rfl,rfl⟩ rfl rfl rfl rfl rfl (by kernel_rfl) func3 (by kernel_rfl)
  (nJ (by kernel_rfl)) (by unfold Func.isWrapper;first|(rw[if_pos (by decide +kernel)];kernel_rfl)|(rw[if_neg (by decide +kernel)];exact⟨rfl,rfl⟩))
  (λc a H b _ F=>by rw[OpenClaim.pre_eq_preRow];exact MI c a H b F)
theorem NE(f : FuncId)(b : Func)(e : Tryz.pinned.checked.prog.funcNamed "conclave/conclavetop.TopOnce" = some f)(c : Tryz.pinned.checked.prog.funcs[f]? = some b) :
  false=Tryz.pinned.checked.prog.looks []/\∀ (j:Nat) t,b.params[j]?=some t->Tryz.pinned.checked.prog.wantsStandIn t=false:=by
 obtain rfl : f = 3 := Option.some.inj ((show prog.funcNamed "conclave/conclavetop.TopOnce" = some 3 by kernel_rfl).symm.trans e) |>.symm
 obtain rfl:b=f3:=(nO (func3.symm.trans c)).symm;refine⟨by kernel_rfl,λj t d=>?_⟩;rw[params3]at d
 have a:=Array.mem_of_getElem? d;simp only[List.mem_toArray,nf,Q',or_false]at a;rcases a with rfl|rfl|rfl
 .exact(show prog.wantsStandIn 23=false by kernel_rfl)
 .exact(show prog.wantsStandIn 24=false by kernel_rfl)
 .exact(show prog.wantsStandIn 3=false by kernel_rfl)
theorem topOnce_card:Rows.TopOnceCardSaid :=
 Claim7.holds_tied_plain_at .later [] _ _ _ _ PE (λ_ h=>by cases h) (by kernel_rfl) (λ_ h=>by cases h) topOnce_row_tie rfl ⟨rfl,rfl⟩ (by kernel_rfl) rfl NE (by kernel_rfl)
#print axioms topOnce_card
end
end
end Go.Proofs.YtknnhaeneaaebaaGreatDoor
