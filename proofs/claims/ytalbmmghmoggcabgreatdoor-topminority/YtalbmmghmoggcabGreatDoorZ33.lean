/- Part 33 of the walk. -/
import Derived.Deep.Slices
import Derived.Test.YtalbmmghmoggcabGreatDoorZ32
set_option maxRecDepth 100000
set_option maxHeartbeats 4000000
open Go.Proofs.Tryz
set_option linter.unusedVariables false
namespace Go.Proofs.YtalbmmghmoggcabGreatDoor
section
open Go.RowKit Go.ChangeShapes Go.WideShapes Go.ChangeAt
section
variable{H:Type}{W:World}{base fuel n:Nat}{cs:List Value}{held:Bool}
theorem MQ{P:Program}{enc:TypeId × Value->H}{w:World}{spare:Nat->Bool}{t:TypeId}{f0 f1 f2 f3 f4:Field}{x:DataW H × List MemPlace}(ht:P.underlying t=some (.struct #[f0,f1,f2,f3,f4]))(h:DataW.trod enc P w base spare held fuel t cs=some x) :
  ∃ y0 y1 y2 y3 y4 n,x=(.agg [y0.1,y1.1,y2.1,y3.1,y4.1],y0.2++(y1.2++(y2.2++(y3.2++y4.2))))/\cs.length=P.cellsOf t/\DataW.trod enc P w base spare held n f0.type ((cs.drop f0.offset).take (P.cellsOf f0.type))=some y0 /\
   DataW.trod enc P w base spare held n f1.type ((cs.drop f1.offset).take (P.cellsOf f1.type))=some y1/\DataW.trod enc P w base spare held n f2.type ((cs.drop f2.offset).take (P.cellsOf f2.type))=some y2 /\
   DataW.trod enc P w base spare held n f3.type ((cs.drop f3.offset).take (P.cellsOf f3.type))=some y3/\DataW.trod enc P w base spare held n f4.type ((cs.drop f4.offset).take (P.cellsOf f4.type))=some y4:=by
 obtain⟨xs,n,_,rfl,hl,hlen,hf⟩:=DataW.trod_struct ht h
 match xs,hlen with
 | [y0,y1,y2,y3,y4],_=>exact⟨y0,y1,y2,y3,y4,n,by simp,hl,by simpa using hf 0 f0 rfl,by simpa using hf 1 f1 rfl,by simpa using hf 2 f2 rfl,by simpa using hf 3 f3 rfl,by simpa using hf 4 f4 rfl⟩
theorem ah:prog.cellsOf 3=1:=by kernel_rfl
theorem JW{n:Int}(h:(Lit.int .i64 n).wf=true):I64 n:=by have:=bounds_i64 h;unfold I64;omega
instance:Inhabited Gr:=⟨⟨0,0,0,0,0⟩⟩
theorem aK{enc:TypeId × Value->H}{sp:Nat->Bool}{x:DataW H × List MemPlace}(h:DataW.trod enc prog W base sp held fuel 42 cs=some x):∃ g,cs=grV g/\GrOk g:=by
 obtain⟨y0,y1,y2,y3,y4,m,_,hl,h0,h1,h2,h3,h4⟩:=MQ underlying42 h;rw[show prog.cellsOf 42=5 by kernel_rfl]at hl
 simp only[ah]at h0 h1 h2 h3 h4
 match cs,hl with
 | [c0,c1,c2,c3,c4],_ =>
  obtain⟨a0,e0,_,w0⟩:=DataW.trod_int underlying3 h0;obtain⟨a1,e1,_,w1⟩:=DataW.trod_int underlying3 h1;obtain⟨a2,e2,_,w2⟩:=DataW.trod_int underlying3 h2;obtain⟨a3,e3,_,w3⟩:=DataW.trod_int underlying3 h3;obtain⟨a4,e4,_,w4⟩:=DataW.trod_int underlying3 h4;simp at e0 e1 e2 e3 e4;subst e0 e1 e2 e3 e4;exact⟨⟨a0,a1,a2,a3,a4⟩,rfl,JW w0,JW w1,JW w2,JW w3,JW w4⟩
theorem aJ{f:Nat->Gr}{i j:Nat}{u:Value}(h:(((List.range n).map f).flatMap grV)[j]?=some u)(hi:i=j/5):∃ q,j=5*i+q/\i<n/\(grV (f i))[q]?=some u:=by
 subst hi;have hlt:j<(((List.range n).map f).flatMap grV).length:=(P'.1 h).1;rw[Eb (f:=grV) (sz:=5) (λ_=>rfl),fM,iA]at hlt
 have hin:j/5<n:=by omega
 refine⟨j%5,by omega,hin,?_⟩;obtain⟨v,hv⟩:∃ v,(grV (f (j/5)))[j%5]?=some v:=⟨_,E' (by show j%5<5;omega)⟩;have:=Js (f:=grV) (sz:=5) (λ_=>rfl) ((List.range n).map f) (i:=j/5) (j:=j%5) (a:=f (j/5)) (by simp[hin]) hv;rw[show 5*(j/5)+j%5=j by omega,h]at this
 rw[hv];exact this.symm
theorem Va{enc:TypeId × Value->H}{a:Option Addr}{c:Nat}{d:DataW H}{p:List MemPlace}(hf:DataW.trod enc prog W 0 (λ_=>true) true fuel 22 [.slice a n c]=some (d,p)):∃ G,RdV W ⟨a,n,c⟩ 5 (grL G)/\∀ g∈G,GrOk g:=by
 rcases Deep.open_slice underlying22 hf with⟨h1,_⟩|⟨a',len,cap,m,k,D,Pl,h1,hb,hl,hm,hmm,hx,hel⟩
 .simp at h1;obtain⟨rfl,rfl,rfl⟩:=h1;exact⟨[],⟨rfl,A' _,λ_=>rfl,.inl rfl⟩,λg hg=>by cases hg⟩
 .simp at h1;obtain⟨rfl,rfl,rfl⟩:=h1;simp only[if_true]at hmm;rw[show prog.cellsOf 42=5 by kernel_rfl]at hel
  have hin:∀ i,i<n->∃ g,(∀ j u,(grV g)[j]?=some u->W.cell? ((a'.add (i*5)).add j)=some u)/\GrOk g:=by
   intro i hi;obtain⟨cs',h1,h2⟩:=hel i (by omega);obtain⟨g,rfl,hg⟩:=aK h2;obtain⟨_,_,h3⟩:=World.cells?_some h1;refine⟨g,λj u hj=>?_,hg⟩;have hj8:j<5:=(P'.1 hj).1;rw[h3 j hj8,hj]
  obtain⟨f,hff⟩:=Deep.choose_lt hin;refine⟨(List.range n).map f,⟨by rw[show(grL ((List.range n).map f)).length=_ from Eb (f:=grV) (sz:=5) (λ_=>rfl) _,fM,iA],hl,(λh=>by cases h),?_⟩,λg hg=>?_⟩
  .by_cases h0:n=0
   .exact .inl h0
   .right;obtain⟨b,off,spot⟩:=a';have hc0:=(hff 0 (by omega)).1 0 _ rfl;have hspot:spot=none:=by simpa[Addr.add]using World.cell?_spot hc0
    subst hspot;have hadd:∀ o k,(⟨b,o,none⟩:Addr).add k=⟨b,o+k,none⟩:=λo k=>by unfold Addr.add;split<;>simp_all
    refine⟨b,off,rfl,?_,λj u hj=>?_⟩
    .rw[hadd,hadd]at hc0
     exact World.block_lt_of_cell? W _ hc0
    .obtain⟨q,hq,hi,hu⟩:=aJ hj rfl;have:=(hff (j/5) hi).1 q u hu;rw[hadd,hadd]at this
     rw[show off+j=off+j/5*5+q by omega];exact this
  .obtain⟨i,hi,rfl⟩:=fS.1 hg;exact(hff i (gV.1 hi)).2
end
end
section
open Go.ChangeShapes Go.WideShapes Go.ChangeAt Go.RowKit
section
theorem Fs(H:Type)(enc:TypeId × Value->H)(W:World)(base:Nat)(args:Array Value)(ds gs:List (DataW H))(before:List MemPlace)(hval:∀ (j:Nat) t v,f3.params[j]?=some t->args[j]?=some v->Value.okWide prog W .any base t v)(hW:DataW.Whole enc prog f3.params.toList Rows.topMinoritySpec.vars false W args.toList ds gs before)(hsz:(DataW.weightsEach prog (f3.params.toList++Rows.topMinoritySpec.plain.varTypes prog) (ds++gs)).all (·<=reachBytes)=true)(hL:laidMetH prog Rows.topMinorityRow.laid W) :
  Calls prog 3 args W λe W'=>∃ v,e=.returned v/\Rows.topMinoritySpec.post enc prog f3 false true false false W args v W':=by
 have hW':=hW;obtain⟨p,q,hA0,hV,rfl,hfz,hnd⟩:=hW;have hA:DataW.TrodAll enc prog W 0 (λ_=>true) true f3.params.toList args.toList ds p:=hA0;rw[params3]at hA hval hsz
 obtain⟨v0,vs0,d0,ds0,p0,q0,hargs,rfl,rfl,h0,r0⟩:=trodAll_cons hA;obtain⟨v1,vs1,d1,ds1,p1,q1,rfl,rfl,rfl,h1,r1⟩:=trodAll_cons r0;obtain⟨v2,vs2,d2,ds2,p2,q2,rfl,rfl,rfl,h2,r2⟩:=trodAll_cons r1;obtain⟨rfl,rfl,rfl⟩:=trodAll_nil r2;obtain rfl:args=#[v0,v1,v2]:=by cases args;simp_all
 obtain⟨rfl,rfl⟩:=trodVars_none hV;obtain⟨a0,len0,cap0,rfl⟩:=okWide_slice underlying22 (hval 0 22 v0 rfl rfl);have k0:=h0;have lt0:∀ x∈p0,x.block<W.heap.size:=by obtain⟨m,hm⟩:=k0;exact DataW.trod_lt m _ _ _ hm
 obtain⟨l0,w0,i0⟩:∃ G,RdV W ⟨a0,len0,cap0⟩ 5 (grL G)/\∀ g∈G,GrOk g:=by obtain⟨fuel,hf⟩:=h0;exact Va hf
 obtain⟨a1,rfl,rfl,rfl,w1⟩:=open_int underlying3 (hval 1 3 v1 rfl rfl) h1;have b1:=bounds_i64 w1;obtain⟨a2,rfl,rfl,rfl,w2⟩:=open_int underlying3 (hval 2 3 v2 rfl rfl) h2;have b2:=bounds_i64 w2;clear hA0;refine(It (l:=⟨a0,len0,cap0⟩) (wa:=a1) (wb:=a2) w0 i0 ⟨by omega,by omega⟩ ⟨by omega,by omega⟩ (fg hL)).mono λe W' ⟨he,bel⟩=>?_;subst he;exact⟨_,rfl,_,_,_,[],_,[],hW',trodAll_mk1 (shut_bool underlying4 _),(trodAll_cons_mk (Below.trod Ya (by kernel_rfl) (gA (by kernel_rfl)) k0 bel lt0) (trodAll_cons_mk (shut_int underlying3 w1) (trodAll_cons_mk (shut_int underlying3 w2) trodAll_mk0))),rfl,bel.frame _,λh=>by cases h⟩
variable{W:World}{os:Os}
theorem Jo(h:Ht os W):laidMet prog Rows.topMinorityRow.laid (W.forCall (λ_ _=>0) ⟨#[],#[.slice none 0 0,.int .i64 0,.int .i64 0],[]⟩).memory:=by
 unfold Ht at h;subst h;exact laidMet_of_run' 8 (by kernel_rfl) (by kernel_rfl)
theorem Hm(h:Ht os W){H:Type}(enc:TypeId × Value->H):∃ places,DataW.whole enc prog (W.forCall (λ_ _=>0) ⟨#[],#[.slice none 0 0,.int .i64 0,.int .i64 0],[]⟩).memory f3.params.toList Rows.topMinoritySpec.vars false (#[.slice none 0 0,.int .i64 0,.int .i64 0]:Array Value).toList 8=some ([.nil,.lit (.int .i64 0),.lit (.int .i64 0)],[],places):=by
 unfold Ht at h;subst h;exact⟨[],by kernel_rfl⟩
theorem Gx(os:Os)(started:os.Started)(H:Type)(enc:TypeId × Value->H)(F:Stop.Interp) :
  ReturnsInHanded {} Tryz.checked os 3 .any ((OpenSpec.ofChange Rows.topMinoritySpec).preRow enc prog f3 Rows.topMinorityRow.domain false Rows.topMinorityRow.laid) (((OpenSpec.ofChange Rows.topMinoritySpec).at F).post enc prog f3 false true false false):=by
 obtain⟨W0,hW0⟩:=XD os;obtain⟨places,hx⟩:=Hm hW0 enc;have hm:=Jo hW0;refine returnsInHanded_of_row (C:=Tryz.checked) (s:=OpenSpec.ofChange Rows.topMinoritySpec) own started (by kernel_rfl) func3 ?_ ?_
 .unfold Ht at hW0;subst hW0;exact witness_row_at (enc:=enc) (C:=Tryz.checked) false _ #[.slice none 0 0,.int .i64 0,.int .i64 0] rfl (by kernel_rfl) (by kernel_rfl) (by kernel_rfl)
   (OpenSpec.preRow_of_cond 8 hx (by kernel_rfl) (λk hk=>by cases hk) (by kernel_rfl) hm)
 .intro W base args ds gs before hval hW _ _ hsz hL _ _;exact Fs H enc W base args ds gs before hval hW hsz hL
theorem Is:Rows.TopMinoritySaid :=
 OpenClaim.holds_of_cond 3 f3 rfl rfl rfl rfl rfl rfl rfl ⟨rfl,rfl,rfl,rfl,rfl⟩ rfl rfl rfl rfl rfl (by kernel_rfl) func3 (by kernel_rfl)
  (gA (by kernel_rfl)) (by unfold Func.isWrapper;first|(rw[if_pos (by decide +kernel)];kernel_rfl)|(rw[if_neg (by decide +kernel)];exact⟨rfl,rfl⟩))
  (λos started H enc _ F=>by rw[OpenClaim.pre_eq_preRow];exact Gx os started H enc F)
theorem Hl(f : FuncId)(fn : Func)(hf : Tryz.pinned.checked.prog.funcNamed "conclave/conclavetop.TopMinority" = some f)(hfn : Tryz.pinned.checked.prog.funcs[f]? = some fn) :
  false=Tryz.pinned.checked.prog.looks []/\∀ (j:Nat) t,fn.params[j]?=some t->Tryz.pinned.checked.prog.wantsStandIn t=false:=by
 obtain rfl : f = 3 := Option.some.inj ((show prog.funcNamed "conclave/conclavetop.TopMinority" = some 3 by kernel_rfl).symm.trans hf) |>.symm
 obtain rfl:fn=f3:=(gu (func3.symm.trans hfn)).symm;refine⟨by kernel_rfl,λj t ht=>?_⟩;rw[params3]at ht
 have hmem:=Array.mem_of_getElem? ht;simp only[List.mem_toArray,fD,H',or_false]at hmem;rcases hmem with rfl|rfl|rfl
 .exact(show prog.wantsStandIn 22=false by kernel_rfl)
 .exact(show prog.wantsStandIn 3=false by kernel_rfl)
 .exact(show prog.wantsStandIn 3=false by kernel_rfl)
theorem topMinority_card:Rows.TopMinorityCardSaid :=
 Claim7.holds_tied_plain_at .later [] _ _ _ _ Is (λ_ h=>by cases h) (by kernel_rfl) (λ_ h=>by cases h) topMinority_row_tie rfl ⟨rfl,rfl⟩ (by kernel_rfl) rfl Hl (by kernel_rfl)
#print axioms topMinority_card
end
end
end Go.Proofs.YtalbmmghmoggcabGreatDoor
