/- Part 35 of the walk. -/
import Derived.Deep.Slices
import Derived.Test.YtalbmmghmoggcadGreatDoorZ34
set_option maxRecDepth 100000
set_option maxHeartbeats 4000000
open Go.Proofs.Tryz
set_option linter.unusedVariables false
namespace Go.Proofs.YtalbmmghmoggcadGreatDoor
section
open Go.RowKit Go.ChangeShapes Go.WideShapes Go.ChangeAt
section
variable{H:Type}{W:World}{f0 f1 f2 f3 f4:Field}{fuel:Nat}{p:List MemPlace}{t:TypeId}
theorem O9{P:Program}{enc:TypeId × Value->H}{w:World}{base:Nat}{spare:Nat->Bool}{held:Bool}{cs:List Value}{x:DataW H × List MemPlace}(ht:P.underlying t=some (.struct #[f0,f1,f2,f3,f4]))(h:DataW.trod enc P w base spare held fuel t cs=some x) :
  ∃ y0 y1 y2 y3 y4 n,x=(.agg [y0.1,y1.1,y2.1,y3.1,y4.1],y0.2++(y1.2++(y2.2++(y3.2++y4.2))))/\cs.length=P.cellsOf t/\DataW.trod enc P w base spare held n f0.type ((cs.drop f0.offset).take (P.cellsOf f0.type))=some y0 /\
   DataW.trod enc P w base spare held n f1.type ((cs.drop f1.offset).take (P.cellsOf f1.type))=some y1/\DataW.trod enc P w base spare held n f2.type ((cs.drop f2.offset).take (P.cellsOf f2.type))=some y2 /\
   DataW.trod enc P w base spare held n f3.type ((cs.drop f3.offset).take (P.cellsOf f3.type))=some y3/\DataW.trod enc P w base spare held n f4.type ((cs.drop f4.offset).take (P.cellsOf f4.type))=some y4:=by
 obtain⟨xs,n,_,rfl,hl,hlen,hf⟩:=DataW.trod_struct ht h
 match xs,hlen with
 | [y0,y1,y2,y3,y4],_=>exact⟨y0,y1,y2,y3,y4,n,by simp,hl,by simpa using hf 0 f0 rfl,by simpa using hf 1 f1 rfl,by simpa using hf 2 f2 rfl,by simpa using hf 3 f3 rfl,by simpa using hf 4 f4 rfl⟩
theorem Zd{α:Type}{cs:Array α}(h:cs.size=5):∃ c0 c1 c2 c3 c4,cs=#[c0,c1,c2,c3,c4]:=by
 obtain⟨l⟩:=cs
 match l,h with
 | [c0,c1,c2,c3,c4],_=>exact⟨c0,c1,c2,c3,c4,rfl⟩
theorem I2:prog.cellsOf 3=1:=by kernel_rfl
theorem IB{n:Int}(h:(Lit.int .i64 n).wf=true):I64 n:=by have:=bounds_i64 h;unfold I64;omega
theorem Pm{enc:TypeId × Value->H}{b0:Nat}{v:Value}{d:DataW H}(hu:prog.underlying t=some (.struct #[f0,f1,f2,f3,f4]))(hc:prog.cellsOf t=5)(t0:f0.type=3)(t1:f1.type=3)(t2:f2.type=3)(t3:f3.type=3)(t4:f4.type=3)(o0:f0.offset=0)(o1:f1.offset=1)(o2:f2.offset=2)(o3:f3.offset=3)(o4:f4.offset=4)(hval:Value.okWide prog W .any b0 t v)(h:DataW.Trod enc prog W 0 (λ_=>true) true t v d p) :
  ∃ k c s n x:Int,v=.agg (cmA k c s n x)/\I64 k/\I64 c/\I64 s/\I64 n/\I64 x:=by
 obtain⟨cs,rfl,hcs⟩:=okWide_struct hu hval;rw[hc]at hcs
 obtain⟨c0,c1,c2,c3,c4,rfl⟩:=Zd hcs;obtain⟨fuel,hf⟩:=h;obtain⟨y0,y1,y2,y3,y4,n,_,_,h0,h1,h2,h3,h4⟩:=O9 hu hf;rw[t0,o0,I2]at h0
 rw[t1,o1,I2]at h1
 rw[t2,o2,I2]at h2
 rw[t3,o3,I2]at h3
 rw[t4,o4,I2]at h4
 obtain⟨a0,e0,_,w0⟩:=DataW.trod_int underlying3 h0;obtain⟨a1,e1,_,w1⟩:=DataW.trod_int underlying3 h1;obtain⟨a2,e2,_,w2⟩:=DataW.trod_int underlying3 h2;obtain⟨a3,e3,_,w3⟩:=DataW.trod_int underlying3 h3;obtain⟨a4,e4,_,w4⟩:=DataW.trod_int underlying3 h4;simp[Value.cells]at e0 e1 e2 e3 e4
 subst e0 e1 e2 e3 e4;exact⟨a0,a1,a2,a3,a4,rfl,IB w0,IB w1,IB w2,IB w3,IB w4⟩
theorem Pz{enc:TypeId × Value->H}{a:Option Addr}{n c:Nat}{d:DataW H}(hf:DataW.trod enc prog W 0 (λ_=>true) true fuel 24 [.slice a n c]=some (d,p)):∃ l:List Int,RdV W ⟨a,n,c⟩ 1 (l.map iv)/\∀ x∈l,I64 x:=by
 rcases open_ints underlying24 underlying3 I2 hf with⟨h1,_⟩|⟨a',len,cap,zs,h1,_,hl,_,hz,_,hcell,hw⟩
 .simp at h1;obtain⟨rfl,rfl,rfl⟩:=h1;exact⟨[],⟨rfl,A' _,λ_=>rfl,.inl rfl⟩,λg hg=>by cases hg⟩
 .simp at h1;obtain⟨rfl,rfl,rfl⟩:=h1;simp only[if_true]at hz;have hlen:(zs.take n).length=n:=by rw[iO];omega
  refine⟨zs.take n,⟨by rw[jc,hlen,mG],hl,(λh=>by cases h),?_⟩,λx hx=>IB (hw x (jb hx))⟩;by_cases h0:n=0
  .exact .inl h0
  .right;obtain⟨b,off,spot⟩:=a';have hc0:=hcell 0 (by omega);have hspot:spot=none:=by simpa[Addr.add]using World.cell?_spot hc0
   subst hspot;have hadd:∀ o k,(⟨b,o,none⟩:Addr).add k=⟨b,o+k,none⟩:=λo k=>by unfold Addr.add;split<;>simp_all
   rw[hadd]at hc0
   refine⟨b,off,rfl,World.block_lt_of_cell? W _ hc0,λj u hj=>?_⟩;have hj2:j<n:=by
    have:=(Q'.1 hj).1;rw[jc]at this;omega
   have h2:=hcell j (by omega);rw[hadd]at h2
   rw[h2,<- hj,jh,jL,if_pos hj2,E' (by omega),jd,E' (by omega)];rfl
end
end
section
open Go.ChangeShapes Go.WideShapes Go.ChangeAt Go.RowKit
section
theorem Iu(H:Type)(enc:TypeId × Value->H)(W:World)(base:Nat)(args:Array Value)(ds gs:List (DataW H))(before:List MemPlace)(hval:∀ (j:Nat) t v,f3.params[j]?=some t->args[j]?=some v->Value.okWide prog W .any base t v)(hW:DataW.Whole enc prog f3.params.toList Rows.topReignSpec.vars false W args.toList ds gs before)(hsz:(DataW.weightsEach prog (f3.params.toList++Rows.topReignSpec.plain.varTypes prog) (ds++gs)).all (·<=reachBytes)=true)(hL:laidMetH prog Rows.topReignRow.laid W) :
  Calls prog 3 args W λe W'=>∃ v,e=.returned v/\Rows.topReignSpec.post enc prog f3 false true false false W args v W':=by
 have hW':=hW;obtain⟨p,q,hA0,hV,rfl,hfz,hnd⟩:=hW;have hA:DataW.TrodAll enc prog W 0 (λ_=>true) true f3.params.toList args.toList ds p:=hA0;rw[params3]at hA hval hsz
 obtain⟨v0,vs0,d0,ds0,p0,q0,hargs,rfl,rfl,h0,r0⟩:=trodAll_cons hA;obtain⟨v1,vs1,d1,ds1,p1,q1,rfl,rfl,rfl,h1,r1⟩:=trodAll_cons r0;obtain⟨v2,vs2,d2,ds2,p2,q2,rfl,rfl,rfl,h2,r2⟩:=trodAll_cons r1;obtain⟨v3,vs3,d3,ds3,p3,q3,rfl,rfl,rfl,h3,r3⟩:=trodAll_cons r2;obtain⟨v4,vs4,d4,ds4,p4,q4,rfl,rfl,rfl,h4,r4⟩:=trodAll_cons r3;obtain⟨rfl,rfl,rfl⟩:=trodAll_nil r4;obtain rfl:args=#[v0,v1,v2,v3,v4]:=by cases args;simp_all
 obtain⟨rfl,rfl⟩:=trodVars_none hV;have k0:=h0;have lt0:∀ x∈p0,x.block<W.heap.size:=by obtain⟨m,hm⟩:=k0;exact DataW.trod_lt m _ _ _ hm
 obtain⟨ka,kb,kc,kd,ke,rfl,ia,ib,ic,id_,ie⟩:=Pm underlying23 (by kernel_rfl) rfl rfl rfl rfl rfl rfl rfl rfl rfl rfl (hval 0 23 v0 rfl rfl) h0;obtain⟨a1,rfl,rfl,rfl,w1⟩:=open_int underlying3 (hval 1 3 v1 rfl rfl) h1;have b1:=bounds_i64 w1;obtain⟨a2,len2,cap2,rfl⟩:=okWide_slice underlying24 (hval 2 24 v2 rfl rfl);have k2:=h2;have lt2:∀ x∈p2,x.block<W.heap.size:=by obtain⟨m,hm⟩:=k2;exact DataW.trod_lt m _ _ _ hm
 obtain⟨l2,w2,i2⟩:∃ l:List Int,RdV W ⟨a2,len2,cap2⟩ 1 (l.map iv)/\∀ x∈l,I64 x:=by obtain⟨fuel,hf⟩:=h2;exact Pz hf
 obtain⟨a3,len3,cap3,rfl⟩:=okWide_slice underlying24 (hval 3 24 v3 rfl rfl);have k3:=h3;have lt3:∀ x∈p3,x.block<W.heap.size:=by obtain⟨m,hm⟩:=k3;exact DataW.trod_lt m _ _ _ hm
 obtain⟨l3,w3,i3⟩:∃ l:List Int,RdV W ⟨a3,len3,cap3⟩ 1 (l.map iv)/\∀ x∈l,I64 x:=by obtain⟨fuel,hf⟩:=h3;exact Pz hf
 obtain⟨a4,rfl,rfl,rfl,w4⟩:=open_int underlying3 (hval 4 3 v4 rfl rfl) h4;have b4:=bounds_i64 w4;clear hA0;refine(M2 (ck:=ka) (cc:=kb) (cs:=kc) (cn:=kd) (cv:=ke) (ot:=a1) (at_:=a4) (wy:=⟨a2,len2,cap2⟩) (st:=⟨a3,len3,cap3⟩) ia ib ic id_ ie ⟨by omega,by omega⟩ ⟨by omega,by omega⟩ w2 i2 w3 i3 (iG hL)).mono λe W' ⟨he,bel⟩=>?_;subst he;exact⟨_,rfl,_,_,_,[],_,[],hW',trodAll_mk1 (shut_bool underlying4 _),(trodAll_cons_mk (Below.trod Od (by kernel_rfl) (jn (by kernel_rfl)) k0 bel lt0) (trodAll_cons_mk (shut_int underlying3 w1) (trodAll_cons_mk (Below.trod Od (by kernel_rfl) (jn (by kernel_rfl)) k2 bel lt2) (trodAll_cons_mk (Below.trod Od (by kernel_rfl) (jn (by kernel_rfl)) k3 bel lt3) (trodAll_cons_mk (shut_int underlying3 w4) trodAll_mk0))))),rfl,bel.frame _,λh=>by cases h⟩
variable{W:World}{os:Os}
theorem O8(h:Iz os W):laidMet prog Rows.topReignRow.laid (W.forCall (λ_ _=>0) ⟨#[],#[.agg zV5,.int .i64 0,.slice none 0 0,.slice none 0 0,.int .i64 0],[]⟩).memory:=by
 unfold Iz at h;subst h;exact laidMet_of_run' 8 (by kernel_rfl) (by kernel_rfl)
theorem LJ(h:Iz os W){H:Type}(enc:TypeId × Value->H):∃ places,DataW.whole enc prog (W.forCall (λ_ _=>0) ⟨#[],#[.agg zV5,.int .i64 0,.slice none 0 0,.slice none 0 0,.int .i64 0],[]⟩).memory f3.params.toList Rows.topReignSpec.vars false (#[.agg zV5,.int .i64 0,.slice none 0 0,.slice none 0 0,.int .i64 0]:Array Value).toList 8=some ([.agg [.lit (.int .i64 0),.lit (.int .i64 0),.lit (.int .i64 0),.lit (.int .i64 0),.lit (.int .i64 0)],.lit (.int .i64 0),.nil,.nil,.lit (.int .i64 0)],[],places):=by
 unfold Iz at h;subst h;exact⟨[],by kernel_rfl⟩
theorem Ka(os:Os)(started:os.Started)(H:Type)(enc:TypeId × Value->H)(F:Stop.Interp) :
  ReturnsInHanded {} Tryz.checked os 3 .any ((OpenSpec.ofChange Rows.topReignSpec).preRow enc prog f3 Rows.topReignRow.domain false Rows.topReignRow.laid) (((OpenSpec.ofChange Rows.topReignSpec).at F).post enc prog f3 false true false false):=by
 obtain⟨W0,hW0⟩:=ZB os;obtain⟨places,hx⟩:=LJ hW0 enc;have hm:=O8 hW0;refine returnsInHanded_of_row (C:=Tryz.checked) (s:=OpenSpec.ofChange Rows.topReignSpec) own started (by kernel_rfl) func3 ?_ ?_
 .unfold Iz at hW0;subst hW0;exact witness_row_at (enc:=enc) (C:=Tryz.checked) false _ #[.agg zV5,.int .i64 0,.slice none 0 0,.slice none 0 0,.int .i64 0] rfl (by kernel_rfl) (by kernel_rfl) (by kernel_rfl)
   (OpenSpec.preRow_of_cond 8 hx (by kernel_rfl) (λk hk=>by cases hk) (by kernel_rfl) hm)
 .intro W base args ds gs before hval hW _ _ hsz hL _ _;exact Iu H enc W base args ds gs before hval hW hsz hL
theorem M1:Rows.TopReignSaid :=
 OpenClaim.holds_of_cond 3 f3 rfl rfl rfl rfl rfl rfl rfl ⟨rfl,rfl,rfl,rfl,rfl⟩ rfl rfl rfl rfl rfl (by kernel_rfl) func3 (by kernel_rfl)
  (jn (by kernel_rfl)) (by unfold Func.isWrapper;first|(rw[if_pos (by decide +kernel)];kernel_rfl)|(rw[if_neg (by decide +kernel)];exact⟨rfl,rfl⟩))
  (λos started H enc _ F=>by rw[OpenClaim.pre_eq_preRow];exact Ka os started H enc F)
theorem LI(f : FuncId)(fn : Func)(hf : Tryz.pinned.checked.prog.funcNamed "conclave/conclavetop.TopReign" = some f)(hfn : Tryz.pinned.checked.prog.funcs[f]? = some fn) :
  false=Tryz.pinned.checked.prog.looks []/\∀ (j:Nat) t,fn.params[j]?=some t->Tryz.pinned.checked.prog.wantsStandIn t=false:=by
 obtain rfl : f = 3 := Option.some.inj ((show prog.funcNamed "conclave/conclavetop.TopReign" = some 3 by kernel_rfl).symm.trans hf) |>.symm
 obtain rfl:fn=f3:=(jJ (func3.symm.trans hfn)).symm;refine⟨by kernel_rfl,λj t ht=>?_⟩;rw[params3]at ht
 have hmem:=Array.mem_of_getElem? ht;simp only[List.mem_toArray,iX,M',or_false]at hmem;rcases hmem with rfl|rfl|rfl|rfl|rfl
 .exact(show prog.wantsStandIn 23=false by kernel_rfl)
 .exact(show prog.wantsStandIn 3=false by kernel_rfl)
 .exact(show prog.wantsStandIn 24=false by kernel_rfl)
 .exact(show prog.wantsStandIn 24=false by kernel_rfl)
 .exact(show prog.wantsStandIn 3=false by kernel_rfl)
theorem topReign_card:Rows.TopReignCardSaid :=
 Claim7.holds_tied_plain_at .later [] _ _ _ _ M1 (λ_ h=>by cases h) (by kernel_rfl) (λ_ h=>by cases h) topReign_row_tie rfl ⟨rfl,rfl⟩ (by kernel_rfl) rfl LI (by kernel_rfl)
#print axioms topReign_card
end
end
end Go.Proofs.YtalbmmghmoggcadGreatDoor
