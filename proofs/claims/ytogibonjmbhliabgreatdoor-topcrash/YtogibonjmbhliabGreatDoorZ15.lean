/- Part 15 of the walk. -/
import Derived.Deep.Slices
import Derived.Test.YtogibonjmbhliabGreatDoorZ14
set_option maxRecDepth 100000
set_option maxHeartbeats 4000000
open Go.Proofs.Tryz
set_option linter.unusedVariables false
namespace Go.Proofs.YtogibonjmbhliabGreatDoor
section
open Go.RowKit Go.ChangeShapes Go.WideShapes Go.ChangeAt
section
variable{H:Type}{W:World}{base fuel n:Nat}{cs:List Value}{held:Bool}
theorem PX{P:Program}{b:TypeId × Value->H}{w:World}{a:Nat->Bool}{t:TypeId}{c d e f g:Field}{x:DataW H × List MemPlace}(l:P.underlying t=some (.struct #[c,d,e,f,g]))(h:DataW.trod b P w base a held fuel t cs=some x) :
  ∃ y0 y1 y2 y3 y4 n,x=(.agg [y0.1,y1.1,y2.1,y3.1,y4.1],y0.2++(y1.2++(y2.2++(y3.2++y4.2))))/\cs.length=P.cellsOf t/\DataW.trod b P w base a held n c.type ((cs.drop c.offset).take (P.cellsOf c.type))=some y0 /\
   DataW.trod b P w base a held n d.type ((cs.drop d.offset).take (P.cellsOf d.type))=some y1/\DataW.trod b P w base a held n e.type ((cs.drop e.offset).take (P.cellsOf e.type))=some y2 /\
   DataW.trod b P w base a held n f.type ((cs.drop f.offset).take (P.cellsOf f.type))=some y3/\DataW.trod b P w base a held n g.type ((cs.drop g.offset).take (P.cellsOf g.type))=some y4:=by
 obtain⟨m,n,_,rfl,k,j,i⟩:=DataW.trod_struct l h
 match m,j with
 | [y0,y1,y2,y3,y4],_=>exact⟨y0,y1,y2,y3,y4,n,by simp,k,by simpa using i 0 c rfl,by simpa using i 1 d rfl,by simpa using i 2 e rfl,by simpa using i 3 f rfl,by simpa using i 4 g rfl⟩
theorem iz:prog.cellsOf 3=1:=by kernel_rfl
theorem Mc{n:Int}(h:(Lit.int .i64 n).wf=true):I64 n:=by have:=bounds_i64 h;unfold I64;omega
instance:Inhabited Gr:=⟨⟨0,0,0,0,0⟩⟩
theorem iQ{a:TypeId × Value->H}{t:Nat->Bool}{x:DataW H × List MemPlace}(h:DataW.trod a prog W base t held fuel 44 cs=some x):∃ g,cs=grV g/\GrOk g:=by
 obtain⟨A,B,C,D,E,m,_,o,i,j,k,l,n⟩:=PX underlying44 h;rw[show prog.cellsOf 44=5 by kernel_rfl]at o
 simp only[iz]at i j k l n
 match cs,o with
 | [c0,c1,c2,c3,c4],_ =>
  obtain⟨a0,b,_,u⟩:=DataW.trod_int underlying3 i;obtain⟨p,c,_,v⟩:=DataW.trod_int underlying3 j;obtain⟨q,d,_,w⟩:=DataW.trod_int underlying3 k;obtain⟨r,e,_,y⟩:=DataW.trod_int underlying3 l;obtain⟨s,f,_,z⟩:=DataW.trod_int underlying3 n;simp at b c d e f;subst b c d e f;exact⟨⟨a0,p,q,r,s⟩,rfl,Mc u,Mc v,Mc w,Mc y,Mc z⟩
theorem iP{f:Nat->Gr}{i j:Nat}{u:Value}(h:(((List.range n).map f).flatMap grV)[j]?=some u)(d:i=j/5):∃ q,j=5*i+q/\i<n/\(grV (f i))[q]?=some u:=by
 subst d;have b:j<(((List.range n).map f).flatMap grV).length:=(V'.1 h).1;rw[Gy (f:=grV) (sz:=5) (λ_=>rfl),nw,pm]at b
 have hin:j/5<n:=by omega
 refine⟨j%5,by omega,hin,?_⟩;obtain⟨v,c⟩:∃ v,(grV (f (j/5)))[j%5]?=some v:=⟨_,E' (by show j%5<5;omega)⟩;have:=Lj (f:=grV) (sz:=5) (λ_=>rfl) ((List.range n).map f) (i:=j/5) (j:=j%5) (a:=f (j/5)) (by simp[hin]) c;rw[show 5*(j/5)+j%5=j by omega,h]at this
 rw[c];exact this.symm
theorem Za{z:TypeId × Value->H}{a:Option Addr}{c:Nat}{d:DataW H}{p:List MemPlace}(F:DataW.trod z prog W 0 (λ_=>true) true fuel 22 [.slice a n c]=some (d,p)):∃ G,RdV W ⟨a,n,c⟩ 5 (grL G)/\∀ g∈G,GrOk g:=by
 rcases Deep.open_slice underlying22 F with⟨l,_⟩|⟨a',len,cap,m,k,D,Pl,l,hb,hl,hm,hmm,hx,hel⟩
 .simp at l;obtain⟨rfl,rfl,rfl⟩:=l;exact⟨[],⟨rfl,A' _,λ_=>rfl,.inl rfl⟩,λg w=>by cases w⟩
 .simp at l;obtain⟨rfl,rfl,rfl⟩:=l;simp only[if_true]at hmm;rw[show prog.cellsOf 44=5 by kernel_rfl]at hel
  have hin:∀ i,i<n->∃ g,(∀ j u,(grV g)[j]?=some u->W.cell? ((a'.add (i*5)).add j)=some u)/\GrOk g:=by
   intro i x;obtain⟨B,l,C⟩:=hel i (by omega);obtain⟨g,rfl,w⟩:=iQ C;obtain⟨_,_,E⟩:=World.cells?_some l;refine⟨g,λj u y=>?_,w⟩;have A:j<5:=(V'.1 y).1;rw[E j A,y]
  obtain⟨f,s⟩:=Deep.choose_lt hin;refine⟨(List.range n).map f,⟨by rw[show(grL ((List.range n).map f)).length=_ from Gy (f:=grV) (sz:=5) (λ_=>rfl) _,nw,pm],hl,(λh=>by cases h),?_⟩,λg w=>?_⟩
  .by_cases h0:n=0
   .exact .inl h0
   .right;obtain⟨b,v,spot⟩:=a';have r:=(s 0 (by omega)).1 0 _ rfl;have t:spot=none:=by simpa[Addr.add]using World.cell?_spot r
    subst t;have e:∀ o k,(⟨b,o,none⟩:Addr).add k=⟨b,o+k,none⟩:=λo k=>by unfold Addr.add;split<;>simp_all
    refine⟨b,v,rfl,?_,λj u y=>?_⟩
    .rw[e,e]at r
     exact World.block_lt_of_cell? W _ r
    .obtain⟨q,hq,x,hu⟩:=iP y rfl;have:=(s (j/5) x).1 q u hu;rw[e,e]at this
     rw[show v+j=v+j/5*5+q by omega];exact this
  .obtain⟨i,x,rfl⟩:=ny.1 w;exact(s i (oK.1 x)).2
end
end
section
open Go.ChangeShapes Go.WideShapes Go.ChangeAt Go.RowKit
section
theorem Jr(H:Type)(k:TypeId × Value->H)(W:World)(n:Nat)(a:Array Value)(s B:List (DataW H))(c:List MemPlace)(b:∀ (j:Nat) t v,f3.params[j]?=some t->a[j]?=some v->Value.okWide prog W .any n t v)(E:DataW.Whole k prog f3.params.toList Rows.topCrashSpec.vars false W a.toList s B c)(y:(DataW.weightsEach prog (f3.params.toList++Rows.topCrashSpec.plain.varTypes prog) (s++B)).all (·<=reachBytes)=true)(U:laidMetH prog Rows.topCrashRow.laid W) :
  Calls prog 3 a W λe W'=>∃ v,e=.returned v/\Rows.topCrashSpec.post k prog f3 false true false false W a v W':=by
 have u:=E;obtain⟨p,q,r,V,rfl,Z,a3⟩:=E;have D:DataW.TrodAll k prog W 0 (λ_=>true) true f3.params.toList a.toList s p:=r;rw[params3]at D b y
 obtain⟨I,a4,d0,P,p0,q0,w,rfl,rfl,C,r0⟩:=trodAll_cons D;obtain⟨J,a5,d1,Q,p1,q1,rfl,rfl,rfl,S,r1⟩:=trodAll_cons r0;obtain⟨K,a6,d2,R,p2,q2,rfl,rfl,rfl,T,r2⟩:=trodAll_cons r1;obtain⟨rfl,rfl,rfl⟩:=trodAll_nil r2;obtain rfl:a=#[I,J,K]:=by cases a;simp_all
 obtain⟨rfl,rfl⟩:=trodVars_none V;obtain⟨a0,i,d,rfl⟩:=okWide_slice underlying22 (b 0 22 I rfl rfl);have F:=C;have z:∀ x∈p0,x.block<W.heap.size:=by obtain⟨m,hm⟩:=F;exact DataW.trod_lt m _ _ _ hm
 obtain⟨l0,w0,i0⟩:∃ G,RdV W ⟨a0,i,d⟩ 5 (grL G)/\∀ g∈G,GrOk g:=by obtain⟨A,Y⟩:=C;exact Za Y
 obtain⟨N,rfl,rfl,rfl,L⟩:=open_int underlying3 (b 1 3 J rfl rfl) S;have b1:=bounds_i64 L;obtain⟨O,rfl,rfl,rfl,M⟩:=open_int underlying3 (b 2 3 K rfl rfl) T;have b2:=bounds_i64 M;clear r;refine(NZ (l:=⟨a0,i,d⟩) (kp:=N) (ld:=O) w0 i0 ⟨by omega,by omega⟩ ⟨by omega,by omega⟩ (mM U)).mono λe W' ⟨X,o⟩=>?_;subst X;exact⟨_,rfl,_,_,_,[],_,[],u,trodAll_mk1 (shut_bool underlying4 _),(trodAll_cons_mk (Below.trod eA (by kernel_rfl) (nG (by kernel_rfl)) F o z) (trodAll_cons_mk (shut_int underlying3 L) (trodAll_cons_mk (shut_int underlying3 M) trodAll_mk0))),rfl,o.frame _,λh=>by cases h⟩
variable{W:World}{os:Os}
theorem PW(h:Jx os W):laidMet prog Rows.topCrashRow.laid (W.forCall (λ_ _=>0) ⟨#[],#[.slice none 0 0,.int .i64 0,.int .i64 0],[]⟩).memory:=by
 unfold Jx at h;subst h;exact laidMet_of_run' 8 (by kernel_rfl) (by kernel_rfl)
theorem Na(h:Jx os W){H:Type}(a:TypeId × Value->H):∃ places,DataW.whole a prog (W.forCall (λ_ _=>0) ⟨#[],#[.slice none 0 0,.int .i64 0,.int .i64 0],[]⟩).memory f3.params.toList Rows.topCrashSpec.vars false (#[.slice none 0 0,.int .i64 0,.int .i64 0]:Array Value).toList 8=some ([.nil,.lit (.int .i64 0),.lit (.int .i64 0)],[],places):=by
 unfold Jx at h;subst h;exact⟨[],by kernel_rfl⟩
theorem Lc(e:Os)(b:e.Started)(H:Type)(a:TypeId × Value->H)(F:Stop.Interp) :
  ReturnsInHanded {} Tryz.checked e 3 .any ((OpenSpec.ofChange Rows.topCrashSpec).preRow a prog f3 Rows.topCrashRow.domain false Rows.topCrashRow.laid) (((OpenSpec.ofChange Rows.topCrashSpec).at F).post a prog f3 false true false false):=by
 obtain⟨j,c⟩:=dH e;obtain⟨d,i⟩:=Na c a;have h:=PW c;refine returnsInHanded_of_row (C:=Tryz.checked) (s:=OpenSpec.ofChange Rows.topCrashSpec) own b (by kernel_rfl) func3 ?_ ?_
 .unfold Jx at c;subst c;exact witness_row_at (enc:=a) (C:=Tryz.checked) false _ #[.slice none 0 0,.int .i64 0,.int .i64 0] rfl (by kernel_rfl) (by kernel_rfl) (by kernel_rfl)
   (OpenSpec.preRow_of_cond 8 i (by kernel_rfl) (λk g=>by cases g) (by kernel_rfl) h)
 .intro W base args ds gs before hval hW _ _ hsz hL _ _;exact Jr H a W base args ds gs before hval hW hsz hL
theorem NY:Rows.TopCrashSaid :=
 OpenClaim.holds_of_cond 3 f3 rfl rfl rfl rfl rfl rfl rfl ⟨rfl,rfl,rfl,rfl,rfl⟩ rfl rfl rfl rfl rfl (by kernel_rfl) func3 (by kernel_rfl)
  (nG (by kernel_rfl)) (by unfold Func.isWrapper;first|(rw[if_pos (by decide +kernel)];kernel_rfl)|(rw[if_neg (by decide +kernel)];exact⟨rfl,rfl⟩))
  (λc a H b _ F=>by rw[OpenClaim.pre_eq_preRow];exact Lc c a H b F)
theorem MZ(f : FuncId)(b : Func)(e : Tryz.pinned.checked.prog.funcNamed "conclave/conclavetop.TopCrash" = some f)(c : Tryz.pinned.checked.prog.funcs[f]? = some b) :
  false=Tryz.pinned.checked.prog.looks []/\∀ (j:Nat) t,b.params[j]?=some t->Tryz.pinned.checked.prog.wantsStandIn t=false:=by
 obtain rfl : f = 3 := Option.some.inj ((show prog.funcNamed "conclave/conclavetop.TopCrash" = some 3 by kernel_rfl).symm.trans e) |>.symm
 obtain rfl:b=f3:=(nQ (func3.symm.trans c)).symm;refine⟨by kernel_rfl,λj t d=>?_⟩;rw[params3]at d
 have a:=Array.mem_of_getElem? d;simp only[List.mem_toArray,nf,P',or_false]at a;rcases a with rfl|rfl|rfl
 .exact(show prog.wantsStandIn 22=false by kernel_rfl)
 .exact(show prog.wantsStandIn 3=false by kernel_rfl)
 .exact(show prog.wantsStandIn 3=false by kernel_rfl)
theorem topCrash_card:Rows.TopCrashCardSaid :=
 Claim7.holds_tied_plain_at .later [] _ _ _ _ NY (λ_ h=>by cases h) (by kernel_rfl) (λ_ h=>by cases h) topCrash_row_tie rfl ⟨rfl,rfl⟩ (by kernel_rfl) rfl MZ (by kernel_rfl)
#print axioms topCrash_card
end
end
end Go.Proofs.YtogibonjmbhliabGreatDoor
