/- Part 20 of the walk. -/
import Derived.Deep.Slices
import Derived.Test.YtogibonjmbhliaaGreatDoorZ19
set_option maxRecDepth 100000
set_option maxHeartbeats 4000000
open Go.Proofs.Tryz
set_option linter.unusedVariables false
namespace Go.Proofs.YtogibonjmbhliaaGreatDoor
section
open Go.RowKit Go.ChangeShapes Go.WideShapes Go.ChangeAt
section
variable{H:Type}{W:World}{base fuel n:Nat}{cs:List Value}{held:Bool}
theorem PQ{P:Program}{enc:TypeId × Value->H}{w:World}{a:Nat->Bool}{t:TypeId}{b c d e f:Field}{x:DataW H × List MemPlace}(k:P.underlying t=some (.struct #[b,c,d,e,f]))(h:DataW.trod enc P w base a held fuel t cs=some x) :
  ∃ y0 y1 y2 y3 y4 n,x=(.agg [y0.1,y1.1,y2.1,y3.1,y4.1],y0.2++(y1.2++(y2.2++(y3.2++y4.2))))/\cs.length=P.cellsOf t/\DataW.trod enc P w base a held n b.type ((cs.drop b.offset).take (P.cellsOf b.type))=some y0 /\
   DataW.trod enc P w base a held n c.type ((cs.drop c.offset).take (P.cellsOf c.type))=some y1/\DataW.trod enc P w base a held n d.type ((cs.drop d.offset).take (P.cellsOf d.type))=some y2 /\
   DataW.trod enc P w base a held n e.type ((cs.drop e.offset).take (P.cellsOf e.type))=some y3/\DataW.trod enc P w base a held n f.type ((cs.drop f.offset).take (P.cellsOf f.type))=some y4:=by
 obtain⟨l,n,_,rfl,j,i,g⟩:=DataW.trod_struct k h
 match l,i with
 | [y0,y1,y2,y3,y4],_=>exact⟨y0,y1,y2,y3,y4,n,by simp,j,by simpa using g 0 b rfl,by simpa using g 1 c rfl,by simpa using g 2 d rfl,by simpa using g 3 e rfl,by simpa using g 4 f rfl⟩
theorem ic:prog.cellsOf 3=1:=by kernel_rfl
theorem Mc{n:Int}(h:(Lit.int .i64 n).wf=true):I64 n:=by have:=bounds_i64 h;unfold I64;omega
instance:Inhabited Gr:=⟨⟨0,0,0,0,0⟩⟩
theorem i9{enc:TypeId × Value->H}{s:Nat->Bool}{x:DataW H × List MemPlace}(h:DataW.trod enc prog W base s held fuel 44 cs=some x):∃ g,cs=grV g/\GrOk g:=by
 obtain⟨z,A,B,C,D,m,_,n,f,i,j,k,l⟩:=PQ underlying44 h;rw[show prog.cellsOf 44=5 by kernel_rfl]at n
 simp only[ic]at f i j k l
 match cs,n with
 | [c0,c1,c2,c3,c4],_ =>
  obtain⟨a0,a,_,t⟩:=DataW.trod_int underlying3 f;obtain⟨o,b,_,u⟩:=DataW.trod_int underlying3 i;obtain⟨p,c,_,v⟩:=DataW.trod_int underlying3 j;obtain⟨q,d,_,w⟩:=DataW.trod_int underlying3 k;obtain⟨r,e,_,y⟩:=DataW.trod_int underlying3 l;simp at a b c d e;subst a b c d e;exact⟨⟨a0,o,p,q,r⟩,rfl,Mc t,Mc u,Mc v,Mc w,Mc y⟩
theorem i8{f:Nat->Gr}{i j:Nat}{u:Value}(h:(((List.range n).map f).flatMap grV)[j]?=some u)(d:i=j/5):∃ q,j=5*i+q/\i<n/\(grV (f i))[q]?=some u:=by
 subst d;have b:j<(((List.range n).map f).flatMap grV).length:=(V'.1 h).1;rw[Gw (f:=grV) (sz:=5) (λ_=>rfl),mV,oU]at b
 have hin:j/5<n:=by omega
 refine⟨j%5,by omega,hin,?_⟩;obtain⟨v,c⟩:∃ v,(grV (f (j/5)))[j%5]?=some v:=⟨_,G' (by show j%5<5;omega)⟩;have:=Lm (f:=grV) (sz:=5) (λ_=>rfl) ((List.range n).map f) (i:=j/5) (j:=j%5) (a:=f (j/5)) (by simp[hin]) c;rw[show 5*(j/5)+j%5=j by omega,h]at this
 rw[c];exact this.symm
theorem YL{enc:TypeId × Value->H}{a:Option Addr}{c:Nat}{d:DataW H}{p:List MemPlace}(E:DataW.trod enc prog W 0 (λ_=>true) true fuel 22 [.slice a n c]=some (d,p)):∃ G,RdV W ⟨a,n,c⟩ 5 (grL G)/\∀ g∈G,GrOk g:=by
 rcases Deep.open_slice underlying22 E with⟨l,_⟩|⟨a',len,cap,m,k,D,Pl,l,hb,hl,hm,hmm,hx,hel⟩
 .simp at l;obtain⟨rfl,rfl,rfl⟩:=l;exact⟨[],⟨rfl,A' _,λ_=>rfl,.inl rfl⟩,λg w=>by cases w⟩
 .simp at l;obtain⟨rfl,rfl,rfl⟩:=l;simp only[if_true]at hmm;rw[show prog.cellsOf 44=5 by kernel_rfl]at hel
  have hin:∀ i,i<n->∃ g,(∀ j u,(grV g)[j]?=some u->W.cell? ((a'.add (i*5)).add j)=some u)/\GrOk g:=by
   intro i x;obtain⟨A,l,B⟩:=hel i (by omega);obtain⟨g,rfl,w⟩:=i9 B;obtain⟨_,_,C⟩:=World.cells?_some l;refine⟨g,λj u y=>?_,w⟩;have z:j<5:=(V'.1 y).1;rw[C j z,y]
  obtain⟨f,s⟩:=Deep.choose_lt hin;refine⟨(List.range n).map f,⟨by rw[show(grL ((List.range n).map f)).length=_ from Gw (f:=grV) (sz:=5) (λ_=>rfl) _,mV,oU],hl,(λh=>by cases h),?_⟩,λg w=>?_⟩
  .by_cases h0:n=0
   .exact .inl h0
   .right;obtain⟨b,v,spot⟩:=a';have r:=(s 0 (by omega)).1 0 _ rfl;have t:spot=none:=by simpa[Addr.add]using World.cell?_spot r
    subst t;have e:∀ o k,(⟨b,o,none⟩:Addr).add k=⟨b,o+k,none⟩:=λo k=>by unfold Addr.add;split<;>simp_all
    refine⟨b,v,rfl,?_,λj u y=>?_⟩
    .rw[e,e]at r
     exact World.block_lt_of_cell? W _ r
    .obtain⟨q,hq,x,hu⟩:=i8 y rfl;have:=(s (j/5) x).1 q u hu;rw[e,e]at this
     rw[show v+j=v+j/5*5+q by omega];exact this
  .obtain⟨i,x,rfl⟩:=mW.1 w;exact(s i (ou.1 x)).2
end
end
section
open Go.ChangeShapes Go.WideShapes Go.ChangeAt Go.RowKit
section
theorem Hu(H:Type)(enc:TypeId × Value->H)(W:World)(i:Nat)(args:Array Value)(o gs:List (DataW H))(b:List MemPlace)(a:∀ (j:Nat) t v,f3.params[j]?=some t->args[j]?=some v->Value.okWide prog W .any i t v)(B:DataW.Whole enc prog f3.params.toList Rows.topSettledSpec.vars false W args.toList o gs b)(u:(DataW.weightsEach prog (f3.params.toList++Rows.topSettledSpec.plain.varTypes prog) (o++gs)).all (·<=reachBytes)=true)(M:laidMetH prog Rows.topSettledRow.laid W) :
  Calls prog 3 args W λe W'=>∃ v,e=.returned v/\Rows.topSettledSpec.post enc prog f3 false true false false W args v W':=by
 have r:=B;obtain⟨p,q,n,N,rfl,Q,S⟩:=B;have A:DataW.TrodAll enc prog W 0 (λ_=>true) true f3.params.toList args.toList o p:=n;rw[params3]at A a u
 obtain⟨D,Y,d0,J,U,q0,s,rfl,rfl,z,V⟩:=trodAll_cons A;obtain⟨E,Z,d1,K,p1,q1,rfl,rfl,rfl,L,X⟩:=trodAll_cons V;obtain⟨rfl,rfl,rfl⟩:=trodAll_nil X;obtain rfl:args=#[D,E]:=by cases args;simp_all
 obtain⟨rfl,rfl⟩:=trodVars_none N;obtain⟨a0,d,c,rfl⟩:=okWide_slice underlying22 (a 0 22 D rfl rfl);have C:=z;have w:∀ x∈U,x.block<W.heap.size:=by obtain⟨m,R⟩:=C;exact DataW.trod_lt m _ _ _ R
 obtain⟨l0,w0,T⟩:∃ G,RdV W ⟨a0,d,c⟩ 5 (grL G)/\∀ g∈G,GrOk g:=by obtain⟨y,P⟩:=z;exact YL P
 obtain⟨I,rfl,rfl,rfl,F⟩:=open_int underlying3 (a 1 3 E rfl rfl) L;have b1:=bounds_i64 F;clear n;refine(Lg (l:=⟨a0,d,c⟩) (ld:=I) w0 T ⟨by omega,by omega⟩ (m7 M)).mono λe W' ⟨O,k⟩=>?_;subst O;exact⟨_,rfl,_,_,_,[],_,[],r,trodAll_mk1 (shut_bool underlying4 _),(trodAll_cons_mk (Below.trod dX (by kernel_rfl) (ng (by kernel_rfl)) C k w) (trodAll_cons_mk (shut_int underlying3 F) trodAll_mk0)),rfl,k.frame _,λh=>by cases h⟩
variable{W:World}{os:Os}
theorem MW(h:Jy os W):laidMet prog Rows.topSettledRow.laid (W.forCall (λ_ _=>0) ⟨#[],#[.slice none 0 0,.int .i64 0],[]⟩).memory:=by
 unfold Jy at h;subst h;exact laidMet_of_run' 8 (by kernel_rfl) (by kernel_rfl)
theorem Kc(h:Jy os W){H:Type}(enc:TypeId × Value->H):∃ places,DataW.whole enc prog (W.forCall (λ_ _=>0) ⟨#[],#[.slice none 0 0,.int .i64 0],[]⟩).memory f3.params.toList Rows.topSettledSpec.vars false (#[.slice none 0 0,.int .i64 0]:Array Value).toList 8=some ([.nil,.lit (.int .i64 0)],[],places):=by
 unfold Jy at h;subst h;exact⟨[],by kernel_rfl⟩
theorem Js(d:Os)(a:d.Started)(H:Type)(enc:TypeId × Value->H)(F:Stop.Interp) :
  ReturnsInHanded {} Tryz.checked d 3 .any ((OpenSpec.ofChange Rows.topSettledSpec).preRow enc prog f3 Rows.topSettledRow.domain false Rows.topSettledRow.laid) (((OpenSpec.ofChange Rows.topSettledSpec).at F).post enc prog f3 false true false false):=by
 obtain⟨i,b⟩:=dm d;obtain⟨c,h⟩:=Kc b enc;have g:=MW b;refine returnsInHanded_of_row (C:=Tryz.checked) (s:=OpenSpec.ofChange Rows.topSettledSpec) own a (by kernel_rfl) func3 ?_ ?_
 .unfold Jy at b;subst b;exact witness_row_at (enc:=enc) (C:=Tryz.checked) false _ #[.slice none 0 0,.int .i64 0] rfl (by kernel_rfl) (by kernel_rfl) (by kernel_rfl)
   (OpenSpec.preRow_of_cond 8 h (by kernel_rfl) (λk e=>by cases e) (by kernel_rfl) g)
 .intro W base args ds gs before hval hW _ _ hsz hL _ _;exact Hu H enc W base args ds gs before hval hW hsz hL
theorem Lf:Rows.TopSettledSaid :=
 OpenClaim.holds_of_cond 3 f3 rfl rfl rfl rfl rfl rfl rfl ⟨rfl,rfl,rfl,rfl,rfl⟩ rfl rfl rfl rfl rfl (by kernel_rfl) func3 (by kernel_rfl)
  (ng (by kernel_rfl)) (by unfold Func.isWrapper;first|(rw[if_pos (by decide +kernel)];kernel_rfl)|(rw[if_neg (by decide +kernel)];exact⟨rfl,rfl⟩))
  (λc a H b _ F=>by rw[OpenClaim.pre_eq_preRow];exact Js c a H b F)
theorem Kb(f : FuncId)(fn : Func)(d : Tryz.pinned.checked.prog.funcNamed "conclave/conclavetop.TopSettled" = some f)(b : Tryz.pinned.checked.prog.funcs[f]? = some fn) :
  false=Tryz.pinned.checked.prog.looks []/\∀ (j:Nat) t,fn.params[j]?=some t->Tryz.pinned.checked.prog.wantsStandIn t=false:=by
 obtain rfl : f = 3 := Option.some.inj ((show prog.funcNamed "conclave/conclavetop.TopSettled" = some 3 by kernel_rfl).symm.trans d) |>.symm
 obtain rfl:fn=f3:=(nA (func3.symm.trans b)).symm;refine⟨by kernel_rfl,λj t c=>?_⟩;rw[params3]at c
 have a:=Array.mem_of_getElem? c;simp only[List.mem_toArray,mN,P',or_false]at a;rcases a with rfl|rfl
 .exact(show prog.wantsStandIn 22=false by kernel_rfl)
 .exact(show prog.wantsStandIn 3=false by kernel_rfl)
theorem topSettled_card:Rows.TopSettledCardSaid :=
 Claim7.holds_tied_plain_at .later [] _ _ _ _ Lf (λ_ h=>by cases h) (by kernel_rfl) (λ_ h=>by cases h) topSettled_row_tie rfl ⟨rfl,rfl⟩ (by kernel_rfl) rfl Kb (by kernel_rfl)
#print axioms topSettled_card
end
end
end Go.Proofs.YtogibonjmbhliaaGreatDoor
