/- Part 16 of the walk. -/
import Derived.Deep.Slices
import Derived.Test.YthkjeoamjgnpoaaGreatDoorZ15
set_option maxRecDepth 100000
set_option maxHeartbeats 4000000
open Go.Proofs.Tryz
set_option linter.unusedVariables false
namespace Go.Proofs.YthkjeoamjgnpoaaGreatDoor
section
open Go.RowKit Go.ChangeShapes Go.WideShapes Go.ChangeAt
section
variable{H:Type}{f0 f1 f2 f3 f4:Field}{t:TypeId}
theorem PO{P:Program}{c:TypeId × Value->H}{w:World}{b:Nat}{a:Nat->Bool}{held:Bool}{e:Nat}{d:List Value}{x:DataW H × List MemPlace}(j:P.underlying t=some (.struct #[f0,f1,f2,f3,f4]))(h:DataW.trod c P w b a held e t d=some x) :
  ∃ y0 y1 y2 y3 y4 n,x=(.agg [y0.1,y1.1,y2.1,y3.1,y4.1],y0.2++(y1.2++(y2.2++(y3.2++y4.2))))/\d.length=P.cellsOf t/\DataW.trod c P w b a held n f0.type ((d.drop f0.offset).take (P.cellsOf f0.type))=some y0 /\
   DataW.trod c P w b a held n f1.type ((d.drop f1.offset).take (P.cellsOf f1.type))=some y1/\DataW.trod c P w b a held n f2.type ((d.drop f2.offset).take (P.cellsOf f2.type))=some y2 /\
   DataW.trod c P w b a held n f3.type ((d.drop f3.offset).take (P.cellsOf f3.type))=some y3/\DataW.trod c P w b a held n f4.type ((d.drop f4.offset).take (P.cellsOf f4.type))=some y4:=by
 obtain⟨k,n,_,rfl,i,g,f⟩:=DataW.trod_struct j h
 match k,g with
 | [y0,y1,y2,y3,y4],_=>exact⟨y0,y1,y2,y3,y4,n,by simp,i,by simpa using f 0 f0 rfl,by simpa using f 1 f1 rfl,by simpa using f 2 f2 rfl,by simpa using f 3 f3 rfl,by simpa using f 4 f4 rfl⟩
theorem cE{α:Type}{a:Array α}(h:a.size=5):∃ c0 c1 c2 c3 c4,a=#[c0,c1,c2,c3,c4]:=by
 obtain⟨l⟩:=a
 match l,h with
 | [c0,c1,c2,c3,c4],_=>exact⟨c0,c1,c2,c3,c4,rfl⟩
theorem Lv:prog.cellsOf 3=1:=by kernel_rfl
theorem LW{n:Int}(h:(Lit.int .i64 n).wf=true):I64 n:=by have:=bounds_i64 h;unfold I64;omega
theorem Qy{e:TypeId × Value->H}{W:World}{b0:Nat}{v:Value}{d:DataW H}{p:List MemPlace}(y:prog.underlying t=some (.struct #[f0,f1,f2,f3,f4]))(D:prog.cellsOf t=5)(L:f0.type=3)(M:f1.type=3)(N:f2.type=3)(O:f3.type=3)(P:f4.type=3)(F:f0.offset=0)(G:f1.offset=1)(I:f2.offset=2)(J:f3.offset=3)(K:f4.offset=4)(b:Value.okWide prog W .any b0 t v)(h:DataW.Trod e prog W 0 (λ_=>true) true t v d p) :
  ∃ k c s n x:Int,v=.agg (cmA k c s n x)/\I64 k/\I64 c/\I64 s/\I64 n/\I64 x:=by
 obtain⟨cs,rfl,a⟩:=okWide_struct y b;rw[D]at a
 obtain⟨V,X,Y,Z,c4,rfl⟩:=cE a;obtain⟨m,E⟩:=h;obtain⟨y0,y1,y2,y3,y4,n,_,_,o,q,r,u,w⟩:=PO y E;rw[L,F,Lv]at o
 rw[M,G,Lv]at q
 rw[N,I,Lv]at r
 rw[O,J,Lv]at u
 rw[P,K,Lv]at w
 obtain⟨a0,f,_,Q⟩:=DataW.trod_int underlying3 o;obtain⟨z,g,_,R⟩:=DataW.trod_int underlying3 q;obtain⟨A,i,_,S⟩:=DataW.trod_int underlying3 r;obtain⟨B,j,_,T⟩:=DataW.trod_int underlying3 u;obtain⟨C,l,_,U⟩:=DataW.trod_int underlying3 w;simp[Value.cells]at f g i j l
 subst f g i j l;exact⟨a0,z,A,B,C,rfl,LW Q,LW R,LW S,LW T,LW U⟩
end
end
section
open Go.ChangeShapes Go.WideShapes Go.ChangeAt Go.RowKit
section
theorem Ht(H:Type)(d:TypeId × Value->H)(W:World)(g:Nat)(a:Array Value)(l w:List (DataW H))(c:List MemPlace)(b:∀ (j:Nat) t v,f3.params[j]?=some t->a[j]?=some v->Value.okWide prog W .any g t v)(A:DataW.Whole d prog f3.params.toList Rows.topClientsSpec.vars false W a.toList l w c)(r:(DataW.weightsEach prog (f3.params.toList++Rows.topClientsSpec.plain.varTypes prog) (l++w)).all (·<=reachBytes)=true)(hL:laidMetH prog Rows.topClientsRow.laid W) :
  Calls prog 3 a W λe W'=>∃ v,e=.returned v/\Rows.topClientsSpec.post d prog f3 false true false false W a v W':=by
 have n:=A;obtain⟨p,q,k,hV,rfl,a0,a5⟩:=A;have z:DataW.TrodAll d prog W 0 (λ_=>true) true f3.params.toList a.toList l p:=k;rw[params3]at z b r
 obtain⟨C,a6,d0,Q,p0,q0,o,rfl,rfl,y,r0⟩:=trodAll_cons z;obtain⟨D,a7,d1,R,p1,q1,rfl,rfl,rfl,V,r1⟩:=trodAll_cons r0;obtain⟨E,a8,d2,S,p2,q2,rfl,rfl,rfl,X,r2⟩:=trodAll_cons r1;obtain⟨F,a9,d3,T,p3,q3,rfl,rfl,rfl,Y,r3⟩:=trodAll_cons r2;obtain⟨G,b0,d4,U,p4,q4,rfl,rfl,rfl,Z,r4⟩:=trodAll_cons r3;obtain⟨rfl,rfl,rfl⟩:=trodAll_nil r4;obtain rfl:a=#[C,D,E,F,G]:=by cases a;simp_all
 obtain⟨rfl,rfl⟩:=trodVars_none hV;have B:=y;have u:∀ x∈p0,x.block<W.heap.size:=by obtain⟨m,hm⟩:=B;exact DataW.trod_lt m _ _ _ hm
 obtain⟨ka,kb,kc,kd,ke,rfl,ia,ib,ic,s,ie⟩:=Qy underlying23 (by kernel_rfl) rfl rfl rfl rfl rfl rfl rfl rfl rfl rfl (b 0 23 C rfl rfl) y;obtain⟨M,rfl,rfl,rfl,I⟩:=open_int underlying3 (b 1 3 D rfl rfl) V;have b1:=bounds_i64 I;obtain⟨N,rfl,rfl,rfl,J⟩:=open_int underlying3 (b 2 3 E rfl rfl) X;have b2:=bounds_i64 J;obtain⟨O,rfl,rfl,rfl,K⟩:=open_int underlying3 (b 3 3 F rfl rfl) Y;have b3:=bounds_i64 K;obtain⟨P,rfl,rfl,rfl,L⟩:=open_int underlying3 (b 4 3 G rfl rfl) Z;have b4:=bounds_i64 L;clear k;refine(KT (ck:=ka) (cc:=kb) (cs:=kc) (cn:=kd) (cv:=ke) (ot:=M) (a_:=N) (b_:=O) (ld:=P) ia ib ic s ie ⟨by omega,by omega⟩ ⟨by omega,by omega⟩ ⟨by omega,by omega⟩ ⟨by omega,by omega⟩ (mL hL)).mono λe W' ⟨he,i⟩=>?_;subst he;exact⟨_,rfl,_,_,_,[],_,[],n,trodAll_mk1 (shut_bool underlying4 _),(trodAll_cons_mk (Below.trod dS (by kernel_rfl) (nL (by kernel_rfl)) B i u) (trodAll_cons_mk (shut_int underlying3 I) (trodAll_cons_mk (shut_int underlying3 J) (trodAll_cons_mk (shut_int underlying3 K) (trodAll_cons_mk (shut_int underlying3 L) trodAll_mk0))))),rfl,i.frame _,λh=>by cases h⟩
variable{W:World}{os:Os}
theorem MU(h:Js os W):laidMet prog Rows.topClientsRow.laid (W.forCall (λ_ _=>0) ⟨#[],#[.agg zV5,.int .i64 0,.int .i64 0,.int .i64 0,.int .i64 0],[]⟩).memory:=by
 unfold Js at h;subst h;exact laidMet_of_run' 8 (by kernel_rfl) (by kernel_rfl)
theorem JX(h:Js os W){H:Type}(a:TypeId × Value->H):∃ places,DataW.whole a prog (W.forCall (λ_ _=>0) ⟨#[],#[.agg zV5,.int .i64 0,.int .i64 0,.int .i64 0,.int .i64 0],[]⟩).memory f3.params.toList Rows.topClientsSpec.vars false (#[.agg zV5,.int .i64 0,.int .i64 0,.int .i64 0,.int .i64 0]:Array Value).toList 8=some ([.agg [.lit (.int .i64 0),.lit (.int .i64 0),.lit (.int .i64 0),.lit (.int .i64 0),.lit (.int .i64 0)],.lit (.int .i64 0),.lit (.int .i64 0),.lit (.int .i64 0),.lit (.int .i64 0)],[],places):=by
 unfold Js at h;subst h;exact⟨[],by kernel_rfl⟩
theorem Jn(d:Os)(a:d.Started)(H:Type)(enc:TypeId × Value->H)(F:Stop.Interp) :
  ReturnsInHanded {} Tryz.checked d 3 .any ((OpenSpec.ofChange Rows.topClientsSpec).preRow enc prog f3 Rows.topClientsRow.domain false Rows.topClientsRow.laid) (((OpenSpec.ofChange Rows.topClientsSpec).at F).post enc prog f3 false true false false):=by
 obtain⟨i,b⟩:=di d;obtain⟨c,h⟩:=JX b enc;have g:=MU b;refine returnsInHanded_of_row (C:=Tryz.checked) (s:=OpenSpec.ofChange Rows.topClientsSpec) own a (by kernel_rfl) func3 ?_ ?_
 .unfold Js at b;subst b;exact witness_row_at (enc:=enc) (C:=Tryz.checked) false _ #[.agg zV5,.int .i64 0,.int .i64 0,.int .i64 0,.int .i64 0] rfl (by kernel_rfl) (by kernel_rfl) (by kernel_rfl)
   (OpenSpec.preRow_of_cond 8 h (by kernel_rfl) (λk e=>by cases e) (by kernel_rfl) g)
 .intro W base args ds gs before hval hW _ _ hsz hL _ _;exact Ht H enc W base args ds gs before hval hW hsz hL
theorem KS:Rows.TopClientsSaid :=
 OpenClaim.holds_of_cond 3 f3 rfl rfl rfl rfl rfl rfl rfl ⟨rfl,rfl,rfl,rfl,rfl⟩ rfl rfl rfl rfl rfl (by kernel_rfl) func3 (by kernel_rfl)
  (nL (by kernel_rfl)) (by unfold Func.isWrapper;first|(rw[if_pos (by decide +kernel)];kernel_rfl)|(rw[if_neg (by decide +kernel)];exact⟨rfl,rfl⟩))
  (λc a H b _ F=>by rw[OpenClaim.pre_eq_preRow];exact Jn c a H b F)
theorem JW(f : FuncId)(b : Func)(e : Tryz.pinned.checked.prog.funcNamed "conclave/conclavetop.TopClients" = some f)(c : Tryz.pinned.checked.prog.funcs[f]? = some b) :
  false=Tryz.pinned.checked.prog.looks []/\∀ (j:Nat) t,b.params[j]?=some t->Tryz.pinned.checked.prog.wantsStandIn t=false:=by
 obtain rfl : f = 3 := Option.some.inj ((show prog.funcNamed "conclave/conclavetop.TopClients" = some 3 by kernel_rfl).symm.trans e) |>.symm
 obtain rfl:b=f3:=(nP (func3.symm.trans c)).symm;refine⟨by kernel_rfl,λj t d=>?_⟩;rw[params3]at d
 have a:=Array.mem_of_getElem? d;simp only[List.mem_toArray,mZ,Q',or_false]at a;rcases a with rfl|rfl|rfl|rfl|rfl
 .exact(show prog.wantsStandIn 23=false by kernel_rfl)
 .exact(show prog.wantsStandIn 3=false by kernel_rfl)
 .exact(show prog.wantsStandIn 3=false by kernel_rfl)
 .exact(show prog.wantsStandIn 3=false by kernel_rfl)
 .exact(show prog.wantsStandIn 3=false by kernel_rfl)
theorem topClients_card:Rows.TopClientsCardSaid :=
 Claim7.holds_tied_plain_at .later [] _ _ _ _ KS (λ_ h=>by cases h) (by kernel_rfl) (λ_ h=>by cases h) topClients_row_tie rfl ⟨rfl,rfl⟩ (by kernel_rfl) rfl JW (by kernel_rfl)
#print axioms topClients_card
end
end
end Go.Proofs.YthkjeoamjgnpoaaGreatDoor
