/- Part 16 of the walk. -/
import Derived.Deep.Slices
import Derived.Test.YtngmpodijpelnaaGreatDoorZ15
set_option maxRecDepth 100000
set_option maxHeartbeats 4000000
open Go.Proofs.Tryz
set_option linter.unusedVariables false
namespace Go.Proofs.YtngmpodijpelnaaGreatDoor
section
open Go.RowKit Go.ChangeShapes Go.WideShapes Go.ChangeAt
section
variable{H:Type}{f0 f1 f2 f3 f4:Field}{t:TypeId}
theorem PZ{P:Program}{c:TypeId × Value->H}{w:World}{b:Nat}{a:Nat->Bool}{held:Bool}{e:Nat}{d:List Value}{x:DataW H × List MemPlace}(j:P.underlying t=some (.struct #[f0,f1,f2,f3,f4]))(h:DataW.trod c P w b a held e t d=some x) :
  ∃ y0 y1 y2 y3 y4 n,x=(.agg [y0.1,y1.1,y2.1,y3.1,y4.1],y0.2++(y1.2++(y2.2++(y3.2++y4.2))))/\d.length=P.cellsOf t/\DataW.trod c P w b a held n f0.type ((d.drop f0.offset).take (P.cellsOf f0.type))=some y0 /\
   DataW.trod c P w b a held n f1.type ((d.drop f1.offset).take (P.cellsOf f1.type))=some y1/\DataW.trod c P w b a held n f2.type ((d.drop f2.offset).take (P.cellsOf f2.type))=some y2 /\
   DataW.trod c P w b a held n f3.type ((d.drop f3.offset).take (P.cellsOf f3.type))=some y3/\DataW.trod c P w b a held n f4.type ((d.drop f4.offset).take (P.cellsOf f4.type))=some y4:=by
 obtain⟨k,n,_,rfl,i,g,f⟩:=DataW.trod_struct j h
 match k,g with
 | [y0,y1,y2,y3,y4],_=>exact⟨y0,y1,y2,y3,y4,n,by simp,i,by simpa using f 0 f0 rfl,by simpa using f 1 f1 rfl,by simpa using f 2 f2 rfl,by simpa using f 3 f3 rfl,by simpa using f 4 f4 rfl⟩
theorem cM{α:Type}{a:Array α}(h:a.size=5):∃ c0 c1 c2 c3 c4,a=#[c0,c1,c2,c3,c4]:=by
 obtain⟨l⟩:=a
 match l,h with
 | [c0,c1,c2,c3,c4],_=>exact⟨c0,c1,c2,c3,c4,rfl⟩
theorem Lx:prog.cellsOf 3=1:=by kernel_rfl
theorem Ma{n:Int}(h:(Lit.int .i64 n).wf=true):I64 n:=by have:=bounds_i64 h;unfold I64;omega
theorem QD{e:TypeId × Value->H}{W:World}{b0:Nat}{v:Value}{d:DataW H}{p:List MemPlace}(y:prog.underlying t=some (.struct #[f0,f1,f2,f3,f4]))(D:prog.cellsOf t=5)(L:f0.type=3)(M:f1.type=3)(N:f2.type=3)(O:f3.type=3)(P:f4.type=3)(F:f0.offset=0)(G:f1.offset=1)(I:f2.offset=2)(J:f3.offset=3)(K:f4.offset=4)(b:Value.okWide prog W .any b0 t v)(h:DataW.Trod e prog W 0 (λ_=>true) true t v d p) :
  ∃ k c s n x:Int,v=.agg (cmA k c s n x)/\I64 k/\I64 c/\I64 s/\I64 n/\I64 x:=by
 obtain⟨cs,rfl,a⟩:=okWide_struct y b;rw[D]at a
 obtain⟨V,X,Y,Z,c4,rfl⟩:=cM a;obtain⟨m,E⟩:=h;obtain⟨y0,y1,y2,y3,y4,n,_,_,o,q,r,u,w⟩:=PZ y E;rw[L,F,Lx]at o
 rw[M,G,Lx]at q
 rw[N,I,Lx]at r
 rw[O,J,Lx]at u
 rw[P,K,Lx]at w
 obtain⟨a0,f,_,Q⟩:=DataW.trod_int underlying3 o;obtain⟨z,g,_,R⟩:=DataW.trod_int underlying3 q;obtain⟨A,i,_,S⟩:=DataW.trod_int underlying3 r;obtain⟨B,j,_,T⟩:=DataW.trod_int underlying3 u;obtain⟨C,l,_,U⟩:=DataW.trod_int underlying3 w;simp[Value.cells]at f g i j l
 subst f g i j l;exact⟨a0,z,A,B,C,rfl,Ma Q,Ma R,Ma S,Ma T,Ma U⟩
end
end
section
open Go.ChangeShapes Go.WideShapes Go.ChangeAt Go.RowKit
section
theorem Hv(H:Type)(d:TypeId × Value->H)(W:World)(g:Nat)(a:Array Value)(l w:List (DataW H))(c:List MemPlace)(b:∀ (j:Nat) t v,f3.params[j]?=some t->a[j]?=some v->Value.okWide prog W .any g t v)(A:DataW.Whole d prog f3.params.toList Rows.topRevokedSpec.vars false W a.toList l w c)(r:(DataW.weightsEach prog (f3.params.toList++Rows.topRevokedSpec.plain.varTypes prog) (l++w)).all (·<=reachBytes)=true)(P:laidMetH prog Rows.topRevokedRow.laid W) :
  Calls prog 3 a W λe W'=>∃ v,e=.returned v/\Rows.topRevokedSpec.post d prog f3 false true false false W a v W':=by
 have n:=A;obtain⟨p,q,k,Q,rfl,S,U⟩:=A;have z:DataW.TrodAll d prog W 0 (λ_=>true) true f3.params.toList a.toList l p:=k;rw[params3]at z b r
 obtain⟨C,a0,d0,K,p0,q0,o,rfl,rfl,y,r0⟩:=trodAll_cons z;obtain⟨D,a3,d1,L,p1,q1,rfl,rfl,rfl,N,r1⟩:=trodAll_cons r0;obtain⟨E,a4,d2,M,p2,q2,rfl,rfl,rfl,O,r2⟩:=trodAll_cons r1;obtain⟨rfl,rfl,rfl⟩:=trodAll_nil r2;obtain rfl:a=#[C,D,E]:=by cases a;simp_all
 obtain⟨rfl,rfl⟩:=trodVars_none Q;have B:=y;have u:∀ x∈p0,x.block<W.heap.size:=by obtain⟨m,T⟩:=B;exact DataW.trod_lt m _ _ _ T
 obtain⟨ka,kb,kc,kd,ke,rfl,V,X,Y,s,Z⟩:=QD underlying23 (by kernel_rfl) rfl rfl rfl rfl rfl rfl rfl rfl rfl rfl (b 0 23 C rfl rfl) y;obtain⟨I,rfl,rfl,rfl,F⟩:=open_int underlying3 (b 1 3 D rfl rfl) N;have b1:=bounds_i64 F;obtain⟨J,rfl,rfl,rfl,G⟩:=open_int underlying3 (b 2 3 E rfl rfl) O;have b2:=bounds_i64 G;clear k;refine(KY (ck:=ka) (cc:=kb) (cs:=kc) (cn:=kd) (cv:=ke) (at_:=I) (ld:=J) V X Y s Z ⟨by omega,by omega⟩ ⟨by omega,by omega⟩ (mT P)).mono λe W' ⟨R,i⟩=>?_;subst R;exact⟨_,rfl,_,_,_,[],_,[],n,trodAll_mk1 (shut_bool underlying4 _),(trodAll_cons_mk (Below.trod dY (by kernel_rfl) (nT (by kernel_rfl)) B i u) (trodAll_cons_mk (shut_int underlying3 F) (trodAll_cons_mk (shut_int underlying3 G) trodAll_mk0))),rfl,i.frame _,λh=>by cases h⟩
variable{W:World}{os:Os}
theorem Nd(h:Jy os W):laidMet prog Rows.topRevokedRow.laid (W.forCall (λ_ _=>0) ⟨#[],#[.agg zV5,.int .i64 0,.int .i64 0],[]⟩).memory:=by
 unfold Jy at h;subst h;exact laidMet_of_run' 8 (by kernel_rfl) (by kernel_rfl)
theorem Kc(h:Jy os W){H:Type}(a:TypeId × Value->H):∃ places,DataW.whole a prog (W.forCall (λ_ _=>0) ⟨#[],#[.agg zV5,.int .i64 0,.int .i64 0],[]⟩).memory f3.params.toList Rows.topRevokedSpec.vars false (#[.agg zV5,.int .i64 0,.int .i64 0]:Array Value).toList 8=some ([.agg [.lit (.int .i64 0),.lit (.int .i64 0),.lit (.int .i64 0),.lit (.int .i64 0),.lit (.int .i64 0)],.lit (.int .i64 0),.lit (.int .i64 0)],[],places):=by
 unfold Jy at h;subst h;exact⟨[],by kernel_rfl⟩
theorem Js(d:Os)(a:d.Started)(H:Type)(enc:TypeId × Value->H)(F:Stop.Interp) :
  ReturnsInHanded {} Tryz.checked d 3 .any ((OpenSpec.ofChange Rows.topRevokedSpec).preRow enc prog f3 Rows.topRevokedRow.domain false Rows.topRevokedRow.laid) (((OpenSpec.ofChange Rows.topRevokedSpec).at F).post enc prog f3 false true false false):=by
 obtain⟨i,b⟩:=dp d;obtain⟨c,h⟩:=Kc b enc;have g:=Nd b;refine returnsInHanded_of_row (C:=Tryz.checked) (s:=OpenSpec.ofChange Rows.topRevokedSpec) own a (by kernel_rfl) func3 ?_ ?_
 .unfold Jy at b;subst b;exact witness_row_at (enc:=enc) (C:=Tryz.checked) false _ #[.agg zV5,.int .i64 0,.int .i64 0] rfl (by kernel_rfl) (by kernel_rfl) (by kernel_rfl)
   (OpenSpec.preRow_of_cond 8 h (by kernel_rfl) (λk e=>by cases e) (by kernel_rfl) g)
 .intro W base args ds gs before hval hW _ _ hsz hL _ _;exact Hv H enc W base args ds gs before hval hW hsz hL
theorem KX:Rows.TopRevokedSaid :=
 OpenClaim.holds_of_cond 3 f3 rfl rfl rfl rfl rfl rfl rfl ⟨rfl,rfl,rfl,rfl,rfl⟩ rfl rfl rfl rfl rfl (by kernel_rfl) func3 (by kernel_rfl)
  (nT (by kernel_rfl)) (by unfold Func.isWrapper;first|(rw[if_pos (by decide +kernel)];kernel_rfl)|(rw[if_neg (by decide +kernel)];exact⟨rfl,rfl⟩))
  (λc a H b _ F=>by rw[OpenClaim.pre_eq_preRow];exact Js c a H b F)
theorem Kb(f : FuncId)(b : Func)(e : Tryz.pinned.checked.prog.funcNamed "conclave/conclavetop.TopRevoked" = some f)(c : Tryz.pinned.checked.prog.funcs[f]? = some b) :
  false=Tryz.pinned.checked.prog.looks []/\∀ (j:Nat) t,b.params[j]?=some t->Tryz.pinned.checked.prog.wantsStandIn t=false:=by
 obtain rfl : f = 3 := Option.some.inj ((show prog.funcNamed "conclave/conclavetop.TopRevoked" = some 3 by kernel_rfl).symm.trans e) |>.symm
 obtain rfl:b=f3:=(nX (func3.symm.trans c)).symm;refine⟨by kernel_rfl,λj t d=>?_⟩;rw[params3]at d
 have a:=Array.mem_of_getElem? d;simp only[List.mem_toArray,nr,Q',or_false]at a;rcases a with rfl|rfl|rfl
 .exact(show prog.wantsStandIn 23=false by kernel_rfl)
 .exact(show prog.wantsStandIn 3=false by kernel_rfl)
 .exact(show prog.wantsStandIn 3=false by kernel_rfl)
theorem topRevoked_card:Rows.TopRevokedCardSaid :=
 Claim7.holds_tied_plain_at .later [] _ _ _ _ KX (λ_ h=>by cases h) (by kernel_rfl) (λ_ h=>by cases h) topRevoked_row_tie rfl ⟨rfl,rfl⟩ (by kernel_rfl) rfl Kb (by kernel_rfl)
#print axioms topRevoked_card
end
end
end Go.Proofs.YtngmpodijpelnaaGreatDoor
