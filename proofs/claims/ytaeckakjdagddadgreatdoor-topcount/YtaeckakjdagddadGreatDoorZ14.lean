/- Part 14 of the walk. -/
import Derived.Laws.Cover3
import Derived.Test.YtaeckakjdagddadGreatDoorZ11
set_option maxRecDepth 100000
set_option maxHeartbeats 4000000
open Go.Proofs.Tryz
set_option linter.unusedVariables false
namespace Go.Proofs.YtaeckakjdagddadGreatDoor
open Go.RowKit
section
variable{P:Program}{fn:Func}{R:Ending→World→Prop}{B:Nat}{T:List Tg}{g:Gh}{w:World}
def QA:List Kt→Bool|.c (.loop _)::_=>true|_=>false
def eJ:List Kt→Code|.c (.loop b)::_=>b|_=>.skip
def isJ:List Kt→Bool|.j _::_=>true|_=>false
def jK:List Kt→Act→World→Prop|.j J::_=>J|_=>fun _ _=>False
def ZC(s:Xs)(n:Nat)(J:Act→World→Prop)(e:List (Nat × Value))(z:Nat→Value)(L:List Sh):Xs:=⟨.c (eJ s.K)::.j J::s.K.tail,⟨n,e,z⟩,L⟩
theorem Bz{s:Xs}(n:Nat)(e0:List (Nat × Value))(m:List Bool)(L0:List Sh)(Inv:Nat→Gh→World→List (Nat × Value)→List Sh→Prop)(hl:QA s.K=true)(hn:s.f.n=n)(he:e0.map (fun p=>lk s.f.z s.f.e p.1)=e0.map (·.2))(hL:Bj (Ay m s.L)=L0)
  (k:Nat)(h0:Kn B g w s.L→Inv k g w e0 L0)
  (round:∀ k g w e z L,Inv k g w e L→∀ J:Act→World→Prop,(∀ k' g' w' e' z' L',k'<k→Inv k' g' w' e' L'→Kn B g' w' L'→J (⟨n,e',z'⟩:Fm).act w')→GG P fn R B T (ZC s n J e z L) g w):GG P fn R B T s g w:=by
 refine Ae fun hK=>gFm e0 he fun z=>?_;obtain⟨K,f,L⟩:=s;simp only at hn;subst hn;have hL':Bj (Ay m L)=L0:=hL;have hc:GG P fn R B T ⟨K,⟨f.n,e0,z⟩,Bj (Ay m L)⟩ g w→GG P fn R B T ⟨K,⟨f.n,e0,z⟩,L⟩ g w:=fun h=>⟨fun hK=>h.ex (hK.sub (CL m L)).clr⟩;refine hc ?_;rw[hL'];cases K with
 | nil=>cases hl
 | cons t K =>
  cases t with
  | c x =>
   cases x with
   | loop b=>exact eC Inv (fun k g w e z L hI J hJ=>round k g w e z L hI J hJ) (h0 hK)
   | _=>cases hl
  | _=>cases hl
theorem DH{s:Xs}(J:Act→World→Prop)(n:Nat)(e:List (Nat × Value))(m:List Bool)(L':List Sh)(hi:isJ s.K=true)(hJ:jK s.K=J)(hn:s.f.n=n)(he:e.map (fun p=>lk s.f.z s.f.e p.1)=e.map (·.2))(hL:Bj (Ay m s.L)=L')(h:∀ z,Kn B g w s.L→Kn B g w L'→J (⟨n,e,z⟩:Fm).act w):GG P fn R B T s g w:=by
 refine Ae fun hK0=>gFm e he fun z=>⟨fun hK=>?_⟩;obtain⟨K,f,L⟩:=s;simp only at hn hJ hL hi hK0;subst hn;have hK':Kn B g w L':=by rw[← hL];exact(hK.sub (CL m L)).clr
 cases K with
 | nil=>cases hi
 | cons t K =>
  cases t with
  | j J'=>simp only[jK]at hJ;rw[hJ];exact h z hK0 hK'
  | _=>cases hi
def I6(s:Xs)(i:Nat):Xs:=match s.K with|.x ops (u+1) Ld e L0::K=>⟨.y ops u Ld e L0 i::K,s.f,s.L⟩|_=>s
def ZW(s:Xs)(i j:Nat):Bool:=match s.K with|.x ops (_+1) Ld _ _::_=>(match Region.ready .any ops Ld with|[k,l]=>Nat.beq k i&&Nat.beq l j|_=>false)|_=>false
theorem C1{s:Xs}(i j:Nat)(hb:ZW s i j=true)(h1:GG P fn R B T (I6 s i) g w)(h2:GG P fn R B T (I6 s j) g w):GG P fn R B T s g w:=by
 refine⟨fun hK=>?_⟩;obtain⟨K,f,L⟩:=s;have e1:=h1.ex;have e2:=h2.ex;unfold I6 at e1 e2;unfold ZW at hb;cases K with
 | nil=>cases hb
 | cons t K =>
  cases t with
  | x ops u Ld e L0 =>
   cases u with
   | zero=>cases hb
   | succ u =>
    simp only at e1 e2 hb;have hr:Region.ready .any ops Ld=[i,j]:=by
     split at hb
     ·rename_i k l hk
      simp only[Bool.and_eq_true]at hb;rw[hk,Nat.eq_of_beq_eq_true hb.1,Nat.eq_of_beq_eq_true hb.2]
     ·cases hb
    exact gE hr (e1 hK) (e2 hK)
  | _=>cases hb
def Vx(s:Xs)(J:Act→World→Prop):Xs:=match s.K with|t::K=>⟨t::.j J::K,s.f,s.L⟩|[]=>s
theorem Dr(Q:Exit→Act→World→Prop):Exit.then (Q .normal) Q=Q:=by
 funext e a w
 cases e<;>rfl
theorem BI{s:Xs}(n:Nat)(Inv:Gh→World→List (Nat × Value)→List Sh→Prop)(hs:s.K.isEmpty=false)(h1:∀ J:Act→World→Prop,(∀ g' w' e z L,Inv g' w' e L→Kn B g' w' L→J (⟨n,e,z⟩:Fm).act w')→GG P fn R B T (Vx s J) g w)
  (h2:∀ g' w' e z L,Inv g' w' e L→GG P fn R B T ⟨s.K.tail,⟨n,e,z⟩,L⟩ g' w'):GG P fn R B T s g w:=by
 obtain⟨K,f,L⟩:=s;cases K with
 | nil=>cases hs
 | cons t K =>
  have h3:=h1 (Kq P (bodyPost P fn R) K .normal) (fun g' w' e z L hI hK=>(h2 g' w' e z L hI).ex hK);refine⟨fun hK=>?_⟩;have h4:=h3.ex hK;unfold Vx at h4;simp only at h4;cases t with
  | c x=>simp only[Kq,Dr]at h4 ⊢;exact h4
  | b id=>simp only[Kq,Dr]at h4 ⊢;exact h4
  | o ops is=>simp only[Kq,Dr]at h4 ⊢;exact h4
  | x ops m Ld e L0=>simp only[Kq,Dr]at h4 ⊢;exact h4
  | y ops m Ld e L0 i=>simp only[Kq,Dr]at h4 ⊢;exact h4
  | j J=>simp only[Kq,Dr]at h4 ⊢;exact h4
def zL(L:List Sh)(k:Nat):List Sh:=L.set k { L.getD k default with t:=.z,w:=false }
theorem eE{s:Xs}(k:Nat)(b:Nat)(hk:(Bj s.L)[k]?.map (fun x=>(x.g,x.t))=some (b,.l))(h:∀ g',Cg B [] g w g' w→GG P fn R B T ⟨s.K,s.f,zL (Bj s.L) k⟩ g' w):GG P fn R B T s g w:=by
 refine⟨fun hK0=>?_⟩;have hK:=hK0.clr;generalize hL:Bj s.L=L at *;have hwf:∀ x∈L,x.w=false:=fun x hx=>by rw[← hL]at hx;obtain⟨y,_,rfl⟩:=List.mem_map.1 hx;rfl
 have hkl:k<L.length:=by
  cases hx:L[k]? with
  | none=>rw[hx]at hk;cases hk
  | some x=>exact(List.getElem?_eq_some_iff.1 hx).1
 have hg:L.getD k default=L[k]:=by rw[List.getD_eq_getElem?_getD,List.getElem?_eq_getElem hkl];rfl
 rw[List.getElem?_eq_getElem hkl]at hk
 simp only[Option.map_some,Option.some.injEq,Prod.mk.injEq]at hk;obtain⟨hb,ht⟩:=hk;have hrow:=hK.row _ (List.getElem_mem hkl);have hd:∀ n (hn:n<L.length),n≠k→L[n].g≠b:=fun n hn hne he=>by
  have:=hK.two hn hkl hne (by rw[hb];exact he);rw[ht]at this
  cases this.2.1
 let g':Gh:=⟨fun c=>if c=b then .z else g.t c,g.k⟩
 have hgt:g.t b=.l:=by rw[← hb,hrow.2.1];exact ht
 have hBb:B≤b:=by rw[← hb];exact hrow.2.2.1 ht
 refine(h g' ⟨rfl,rfl,rfl,Nat.le_refl _,fun c hc=>?_,fun _ _=>Nat.le_refl _,fun _ _ _ _=>rfl,fun _ _ _ _=>rfl,fun _ _ _ _=>rfl⟩).ex ⟨fun x hx=>?_,?_,fun c hc=>?_,hK.base⟩
 ·show(if c=b then _ else _)=_∨(_∧_∧(if c=b then _ else _)=_);by_cases he:c=b
  ·subst he;right;exact⟨hgt,hBb,if_pos rfl⟩
  ·left;exact if_neg he
 ·unfold zL at hx;simp only at hx;rw[hg]at hx
  obtain⟨n,hn,rfl⟩:=List.getElem_of_mem hx;have hn':n<L.length:=by simpa using hn
  rw[List.getElem_set];split
  ·refine⟨hrow.1,?_,fun h=>(by cases h),fun h=>absurd rfl h⟩;show(if L[k].g=b then _ else _)=_;rw[if_pos hb]
  ·rename_i hne
   have h1:=hK.row _ (List.getElem_mem hn');refine⟨h1.1,?_,h1.2.2⟩;show(if L[n].g=b then _ else _)=_;rw[if_neg (hd n hn' (fun h=>hne h.symm))];exact h1.2.1
 ·show(zL L k).Pairwise _;unfold zL;rw[hg,List.pairwise_iff_getElem];intro i j hi hj hij he;have hi':i<L.length:=by simpa using hi
  have hj':j<L.length:=by simpa using hj
  rw[List.getElem_set,List.getElem_set]at he ⊢
  by_cases h1:k=i
  ·rw[if_pos h1]at he ⊢
   rw[if_neg (by omega)]at he ⊢
   exact absurd he.symm (by show L[j].g≠L[k].g;rw[hb];exact hd j hj' (by omega))
  ·rw[if_neg h1]at he ⊢
   by_cases h2:k=j
   ·rw[if_pos h2]at he ⊢
    exact absurd he (by show L[i].g≠L[k].g;rw[hb];exact hd i hi' (by omega))
   ·rw[if_neg h2]at he ⊢
    exact hK.two hi' hj' (by omega) he
 ·have:=hK.new c hc;show(if c=b then _ else _)=_∧_;refine⟨?_,this.2⟩;split
  ·rfl
  ·exact this.1
end
def gS:Gh:=⟨fun _=>.z,fun _=>0⟩
section
variable{P:Program}{fn:Func}{R:Ending→World→Prop}{B:Nat}{T:List Tg}{g:Gh}{w:World}
def fL(s:Xs)(i j l:Nat):Bool:=match s.K with|.x ops (_+1) Ld _ _::_=>(match Region.ready .any ops Ld with|[a,b,c]=>Nat.beq a i&&(Nat.beq b j&&Nat.beq c l)|_=>false)|_=>false
theorem VN{s:Xs}(i j l:Nat)(hb:fL s i j l=true)(h1:GG P fn R B T (I6 s i) g w)(h2:GG P fn R B T (I6 s j) g w)(h3:GG P fn R B T (I6 s l) g w):GG P fn R B T s g w:=by
 refine⟨fun hK=>?_⟩;obtain⟨K,f,L⟩:=s;have e1:=h1.ex;have e2:=h2.ex;have e3:=h3.ex;unfold I6 at e1 e2 e3;unfold fL at hb;cases K with
 | nil=>cases hb
 | cons t K =>
  cases t with
  | x ops u Ld e L0 =>
   cases u with
   | zero=>cases hb
   | succ u =>
    simp only at e1 e2 e3 hb;have hr:Region.ready .any ops Ld=[i,j,l]:=by
     split at hb
     ·rename_i a b c hk
      simp only[Bool.and_eq_true]at hb;rw[hk,Nat.eq_of_beq_eq_true hb.1,Nat.eq_of_beq_eq_true hb.2.1,Nat.eq_of_beq_eq_true hb.2.2]
     ·cases hb
    refine⟨fun h0=>absurd (hr▸h0) (by simp),hr▸(fun q hq=>?_)⟩;rcases(show q=i∨q=j∨q=l by simpa using hq)with rfl|rfl|rfl
    ·exact e1 hK
    ·exact e2 hK
    ·exact e3 hK
  | _=>cases hb
def S6:List Sh→List Sh
 | [a,b]=>[b,a]
 | a::l=>a::S6 l
 | []=>[]
theorem GA:∀ L:List Sh,(S6 L).Perm L
 | []=>.refl _
 | [a]=>by simp[S6]
 | [a,b]=>.swap _ _ _
 | a::b::c::l=>(GA (b::c::l)).cons a
theorem Ma{s:Xs}(h:GG P fn R B T ⟨s.K,s.f,S6 s.L⟩ g w):GG P fn R B T s g w:=by
 refine⟨fun hK=>h.ex ⟨fun x hx=>hK.row x ((GA s.L).mem_iff.1 hx),?_,hK.new,hK.base⟩⟩;refine(GA s.L).symm.pairwise hK.nod ?_;intro x y hxy e;have:=hxy e.symm;exact⟨this.2,this.1⟩
theorem ge{s:Xs}{r i:Nat}{e:TypeId}{sz:Nat}{x:S3}{xs:List Value}(hO:OwnS g w (.n r i) false e sz x xs)(hT:s.L.all (fun y=>y.t.ne (.n r i))=true)(h:∀ g',Cg B [.n r i] g w g' w→OwnS g' w (.n r i) true e sz x xs→GG P fn R B T s g' w):GG P fn R B T s g w:=by
 refine⟨fun hK=>?_⟩;rcases hO.ex with h1|⟨b,cur,h1,h2,h3,h4,h5,h6,h7,h8⟩
 ·exact(h g (Cg.refl _ _ _ _) ⟨hO.len,.inl h1⟩).ex hK
 ·have h80:g.k b=0:=h8;have hlt:b<w.heap.size:=(Array.getElem?_eq_some_iff.1 h2).1;refine(h (eB g b xs.length) ⟨rfl,rfl,rfl,Nat.le_refl _,fun _ _=>.inl rfl,fun d hd=>?_,fun d hd hd1 _=>if_neg (fun e=>hd1 (by rw[e,h7];exact List.mem_singleton.2 rfl)),fun _ _ _ _=>rfl,fun _ _ _ _=>rfl⟩ ⟨hO.len,.inr ⟨b,cur,h1,h2,h3,h4,h5,h6,h7,if_pos rfl⟩⟩).ex ⟨fun y hy=>?_,hK.nod,fun d hd=>?_,hK.base⟩
  ·show g.k d≤(if d=b then _ else g.k d);split
   ·rename_i e;rw[e,h80];exact Nat.zero_le _
   ·exact Nat.le_refl _
  ·obtain⟨k1,k2,k3,k4⟩:=hK.row y hy;refine⟨k1,k2,k3,fun hz=>?_⟩;show(if y.g=b then _ else g.k y.g)=0;rw[if_neg (fun e=>Tg.ne_ne (List.all_eq_true.1 hT y hy) (by rw[← k2,e,h7]))];exact k4 hz
  ·have:=hK.new d hd;refine⟨this.1,?_⟩;show(if d=b then _ else g.k d)=0;rw[if_neg (by omega)];exact this.2
end
theorem Vf{P:Program}{s:Xs}{i':Nat}{S:Sem Value}{v:Value}{W:World}(h:CP s i'=some (S>>=fun v=>pure (.value v)))(hr:S.run P W=.ok v W):Cz P s i' W=some (.ok (.value v) W):=by
 unfold Cz;unfold CP at h;cases hx:opN s i' with
 | none=>rw[hx]at h;cases h
 | some x =>
  rw[hx]at h
  simp only[Option.map_some,Option.some.injEq]at h ⊢;rw[h,Sem.run_bind,hr,Result.andThen_ok];rfl
section
variable{P:Program}{W:World}
theorem fd(ts:Array TypeId)(t:TypeId)(a b:Int):(Builtin.max_ ts t #[iv a,iv b]).run P W=.ok (iv (max a b)) W:=by
 rw[run_max_int2]
 congr 2
 rw[Int.max_def];by_cases h:a<b
 ·rw[if_pos h,if_pos (by omega)]
 ·rw[if_neg h];by_cases h2:a≤b
  ·rw[if_pos h2];omega
  ·rw[if_neg h2]
theorem dg(ts:Array TypeId)(t:TypeId)(a b:Int):(Builtin.min_ ts t #[iv a,iv b]).run P W=.ok (iv (min a b)) W:=by
 rw[run_min_int2]
 congr 2
 rw[Int.min_def];by_cases h:b<a
 ·rw[if_pos h,if_neg (by omega)]
 ·rw[if_neg h,if_pos (by omega)]
theorem AB{x y:Operand}{t:TypeId}(a b:Int)(hk:P.underlying t=some (.int .i64))(h:-9223372036854775808≤a+b∧a+b≤9223372036854775807):(do Go.eqGuard .add t x y (iv a) (iv b);Go.binOp .add t (iv a) (iv b):Sem Value).run P W=.ok (iv (a+b)) W:=by
 have hw:IntKind.i64.wrap (a+b)=a+b:=by rw[IntKind.wrap_i64];omega
 simp[Go.eqGuard,Go.binOp,go_sem,hw]
theorem fw{x y:Operand}{t:TypeId}(a b:Int)(hk:P.underlying t=some (.int .i64))(h:-9223372036854775808≤a-b∧a-b≤9223372036854775807):(do Go.eqGuard .sub t x y (iv a) (iv b);Go.binOp .sub t (iv a) (iv b):Sem Value).run P W=.ok (iv (a-b)) W:=by
 have hw:IntKind.i64.wrap (a-b)=a-b:=by rw[IntKind.wrap_i64];omega
 simp[Go.eqGuard,Go.binOp,go_sem,hw]
end
theorem RL(a b:Bal):decide (a.r=b.r∧a.n=b.n)=decide (a=b):=decide_eq_decide.2 (Bal.eq_iff a b)
theorem gh{W:World}{x y:Operand}(a b:Bal):(do Go.eqGuard .eql 92 x y (.agg #[iv a.r,iv a.n]) (.agg #[iv b.r,iv b.n]);Go.binOp .eql 92 (.agg #[iv a.r,iv a.n]) (.agg #[iv b.r,iv b.n]):Sem Value).run prog W=.ok (.bool (decide (a=b))) W:=by
 have h1:=Y5 a.r a.n b.r b.n W;rw[RL]at h1
 have hg:(Go.eqGuard .eql 92 x y (.agg #[iv a.r,iv a.n]) (.agg #[iv b.r,iv b.n])).run prog W=.ok () W:=by kernel_rfl
 rw[Sem.run_bind,hg,Result.andThen_ok];exact h1
theorem cR(a b a' b':Int):∀ w,(binOp .neq 92 (.agg #[.int .i64 a,.int .i64 b]) (.agg #[.int .i64 a',.int .i64 b'])).run prog w=.ok (.bool (!decide (a=a'∧b=b'))) w:=by
 intro w;rw[run_neq_struct,run_equalIn_agg w 9999 _ _ _ (by kernel_rfl) (by kernel_rfl)];unfold Program.fieldsOf;rw[underlying92];have h3:=underlying3;simp[Op.eqFields,go_sem,h3]
 repeat' split
 all_goals simp_all
theorem fe{W:World}{x y:Operand}(a b:Bal):(do Go.eqGuard .neq 92 x y (.agg #[iv a.r,iv a.n]) (.agg #[iv b.r,iv b.n]);Go.binOp .neq 92 (.agg #[iv a.r,iv a.n]) (.agg #[iv b.r,iv b.n]):Sem Value).run prog W=.ok (.bool (!decide (a=b))) W:=by
 have h1:=cR a.r a.n b.r b.n W;rw[RL]at h1
 have hg:(Go.eqGuard .neq 92 x y (.agg #[iv a.r,iv a.n]) (.agg #[iv b.r,iv b.n])).run prog W=.ok () W:=by kernel_rfl
 rw[Sem.run_bind,hg,Result.andThen_ok];exact h1
theorem RQ(a b:Cmd):decide (a.k=b.k∧a.c=b.c∧a.s=b.s∧a.n=b.n∧a.v=b.v)=decide (a=b):=decide_eq_decide.2 (Cmd.eq_iff a b)
theorem gi{W:World}{x y:Operand}(a b:Cmd):(do Go.eqGuard .eql 44 x y (.agg #[iv a.k,iv a.c,iv a.s,iv a.n,iv a.v]) (.agg #[iv b.k,iv b.c,iv b.s,iv b.n,iv b.v]);Go.binOp .eql 44 (.agg #[iv a.k,iv a.c,iv a.s,iv a.n,iv a.v]) (.agg #[iv b.k,iv b.c,iv b.s,iv b.n,iv b.v]):Sem Value).run prog W=.ok (.bool (decide (a=b))) W:=by
 have h1:=RV a.k a.c a.s a.n a.v b.k b.c b.s b.n b.v W;rw[RQ]at h1
 have hg:(Go.eqGuard .eql 44 x y (.agg #[iv a.k,iv a.c,iv a.s,iv a.n,iv a.v]) (.agg #[iv b.k,iv b.c,iv b.s,iv b.n,iv b.v])).run prog W=.ok () W:=by kernel_rfl
 rw[Sem.run_bind,hg,Result.andThen_ok];exact h1
theorem Mw{W:World}{x y:Operand}(a b:Bal)(h:a≠b):(do Go.eqGuard .neq 92 x y (.agg #[iv a.r,iv a.n]) (.agg #[iv b.r,iv b.n]);Go.binOp .neq 92 (.agg #[iv a.r,iv a.n]) (.agg #[iv b.r,iv b.n]):Sem Value).run prog W=.ok (.bool true) W:=by rw[fe,decide_eq_false h];rfl
theorem Mv{W:World}{x y:Operand}(a b:Bal)(h:a=b):(do Go.eqGuard .neq 92 x y (.agg #[iv a.r,iv a.n]) (.agg #[iv b.r,iv b.n]);Go.binOp .neq 92 (.agg #[iv a.r,iv a.n]) (.agg #[iv b.r,iv b.n]):Sem Value).run prog W=.ok (.bool false) W:=by rw[fe,decide_eq_true h];rfl
theorem five{j:Nat}(h:j<5):j=0∨j=1∨j=2∨j=3∨j=4:=by omega
theorem F1:∀ ts:List Tol,(ts.flatMap Dk).length=ts.length*5
 | []=>rfl
 | t::r=>by rw[List.flatMap_cons,List.length_append,F1 r,List.length_cons];show 5+_=_;omega
section
variable{P:Program}{fn:Func}{R:Ending→World→Prop}{B:Nat}{T:List Tg}{g:Gh}{w:World}
theorem qR{s:Xs}(T':List Tg)(m:Nat)(h:List Nat)(hk:∀ gs g' w',Cg B T' g w g' w'→GG P fn R B T (rn0 P T' gs m s h).s g' w')(hob:∀ gs,(rn0 P T' gs m s h).o.map Ob.l'=(rn0 P T' gs m s h).o.map Ob.r':=by intro _;kernel_rfl):GG P fn R B T s g w:=YD T' m h hob hk
theorem qV{s:Xs}(i:Nat)(v:Value){S:Sem Value}(hr:S.run P w=.ok v w)(hk:GG P fn R B T (nxt s i v s.L).s g w)(hs:CP s i=some (S>>=fun v=>pure (.value v)):=by kernel_rfl)(hob:(nxt s i undef s.L).o.map Ob.l'=(nxt s i undef s.L).o.map Ob.r':=by kernel_rfl):GG P fn R B T s g w:=YE i v (fun _=>Vf hs hr) hob hk
theorem qT{s:Xs}(i:Nat)(v:Value){S:Sem Value}(hr:∀ W,S.run P W=.ok v W)(hk:GG P fn R B T (tkN s i v false).s g w)(hs:CP s i=some (S>>=fun v=>pure (.value v)):=by kernel_rfl)(hob:(tkN s i undef false).o.map Ob.l'=(tkN s i undef false).o.map Ob.r':=by kernel_rfl):GG P fn R B T s g w:=O9 i v false (fun W _=>Vf hs (hr W)) hob hk
theorem qU{s:Xs}(i:Nat)(v:Value){S:Sem Value}(hr:∀ W,(true=true→AK (Xm s) W)→S.run P W=.ok v W)(hk:GG P fn R B T (tkN s i v true).s g w)(hs:CP s i=some (S>>=fun v=>pure (.value v)):=by kernel_rfl)(hob:(tkN s i undef true).o.map Ob.l'=(tkN s i undef true).o.map Ob.r':=by kernel_rfl):GG P fn R B T s g w:=O9 i v true (fun W h=>Vf hs (hr W h)) hob hk
theorem qI{s:Xs}(b t:Bool)(hb:b=t)(h:GG P fn R B T (JY s t) g w)(hc:Ot s=.bool b:=by kernel_rfl):GG P fn R B T s g w:=gIf b t hb hc h
theorem qC{s:Xs}(i:Nat){f:FuncId}{av:Array Value}{C:Ending→World→Prop}(hc:Calls P f av w C)(hk:∀ e w',C e w'→∃ v,e=.returned v∧Bw w w'∧GG P fn R B T (nxt s i v s.L).s g w')(hr:∀ W,Cz P s i W=some (.ok (.enter f av) W):=by intro _;kernel_rfl)(hd:Kc s i=true:=by kernel_rfl)(hob:(nxt s i undef s.L).o.map Ob.l'=(nxt s i undef s.L).o.map Ob.r':=by kernel_rfl):GG P fn R B T s g w:=cC i f av hr hd hob hc hk
theorem qG{s:Xs}(i:Nat)(T':List Tg)(m:List Bool){f:FuncId}{av:Array Value}{C:Ending→World→Prop}(hc:Calls P f av w C)(hk:∀ e w',C e w'→∃ v g',e=.returned v∧Cg w.heap.size T' g w g' w'∧(∀ b,w'.heap.size≤b→g'.t b=.z∧g'.k b=0)∧GG P fn R B T (nxt s i v (Ay m s.L)).s g' w')(hr:∀ W,Cz P s i W=some (.ok (.enter f av) W):=by intro _;kernel_rfl)(hd:Kc s i=true:=by kernel_rfl)(hob:(nxt s i undef (Ay m s.L)).o.map Ob.l'=(nxt s i undef (Ay m s.L)).o.map Ob.r':=by kernel_rfl)(hT:(Ay m s.L).all (fun x=>T'.all fun t=>x.t.ne t)=true:=by kernel_rfl):GG P fn R B T s g w:=Qx i f av T' m hr hd hob hT hc hk
theorem qE{s:Xs}(v:Value)(h:Kn B g w s.L→R (.returned v) w)(hr:Kn B g w s.L→(results fn s.f.act.tmps).run P w=.ok v w:=by intro _;kernel_rfl)(hs:Lu s.K=true:=by kernel_rfl):GG P fn R B T s g w:=Tz v hs hr h
theorem qB{s:Xs}{J:Act→World→Prop}{n:Nat}{e:List (Nat × Value)}(m:List Bool){L':List Sh}(h:∀ z,Kn B g w s.L→Kn B g w L'→J (⟨n,e,z⟩:Fm).act w)(hi:isJ s.K=true:=by kernel_rfl)(hJ:jK s.K=J:=by kernel_rfl)(hn:s.f.n=n:=by kernel_rfl)(he:e.map (fun p=>lk s.f.z s.f.e p.1)=e.map (·.2):=by kernel_rfl)(hL:Bj (Ay m s.L)=L':=by kernel_rfl):GG P fn R B T s g w:=DH J n e m L' hi hJ hn he hL h
theorem Kn.cel{L:List Sh}(h:Kn B g w L){i b:Nat}{cs:Array Value}(hx:(L[i]?).map (fun x=>(x.g,Cj x.o,D4 x.o))=some (b,cs,true)):∃ e,w.heap[b]?=some (.cells cs e (0,0)):=by
 cases hi:L[i]? with
 | none=>rw[hi]at hx;cases hx
 | some x =>
  rw[hi]at hx
  have h1:=(h.row x (List.mem_of_getElem? hi)).1;obtain⟨xg,xo,xt,xw⟩:=x;simp only[Option.map_some,Option.some.injEq,Prod.mk.injEq]at hx h1;obtain⟨rfl,rfl,hp⟩:=hx;rw[h1];unfold D4 at hp;split at hp
  ·exact⟨_,rfl⟩
  ·cases hp
theorem G7{ty:TypeId}(h:Fx P ty=true):∃ d,P.underlying ty=some d∧d.isRow=true:=by
 unfold Fx at h;split at h
 ·rename_i d hd
  exact⟨d,hd,h⟩
 ·cases h
theorem qE1{s:Xs}(p:Tmp)(ty:TypeId)(i b:Nat)(cs:Array Value)(h:Kn B g w s.L→R (.returned (.agg cs)) w)(hx:(s.L[i]?).map (fun x=>(x.g,Cj x.o,D4 x.o))=some (b,cs,true):=by kernel_rfl)(hf:fn.results=#[.cell p ty]:=by kernel_rfl)(hp:s.f.act.tmps.getD p undef=pt b 0:=by kernel_rfl)(hu:Fx P ty=true:=by kernel_rfl)(hi:(P.info? ty).map (·.size)=some cs.size:=by kernel_rfl)(hs:Lu s.K=true:=by kernel_rfl):GG P fn R B T s g w :=
 Tz _ hs (fun K=>let ⟨e,he⟩:=K.cel hx;let ⟨d,h1,h2⟩:=G7 hu;XC hf _ _ b e cs (0,0) d hp he h1 (by cases d<;>first|rfl|cases h2) hi) h
theorem qE2{s:Xs}(p u:Tmp)(ty:TypeId)(i b:Nat)(cs:Array Value)(v:Value)(h:Kn B g w s.L→R (.returned (.tuple #[.agg cs,v])) w)(hx:(s.L[i]?).map (fun x=>(x.g,Cj x.o,D4 x.o))=some (b,cs,true):=by kernel_rfl)(hf:fn.results=#[.cell p ty,.tmp u]:=by kernel_rfl)(hp:s.f.act.tmps.getD p undef=pt b 0:=by kernel_rfl)(hv:s.f.act.tmps.getD u undef=v:=by kernel_rfl)(hu:Fx P ty=true:=by kernel_rfl)(hi:(P.info? ty).map (·.size)=some cs.size:=by kernel_rfl)(hs:Lu s.K=true:=by kernel_rfl):GG P fn R B T s g w :=
 Tz _ hs (fun K=>let ⟨e,he⟩:=K.cel hx;let ⟨d,h1,h2⟩:=G7 hu;by rw[← hv];exact S7 hf _ _ b e cs (0,0) d hp he h1 (by cases d<;>first|rfl|cases h2) hi) h
theorem qE3{s:Xs}(p u u':Tmp)(ty:TypeId)(i b:Nat)(cs:Array Value)(v v':Value)(h:Kn B g w s.L→R (.returned (.tuple #[.agg cs,v,v'])) w)(hx:(s.L[i]?).map (fun x=>(x.g,Cj x.o,D4 x.o))=some (b,cs,true):=by kernel_rfl)(hf:fn.results=#[.cell p ty,.tmp u,.tmp u']:=by kernel_rfl)(hp:s.f.act.tmps.getD p undef=pt b 0:=by kernel_rfl)(hv:s.f.act.tmps.getD u undef=v:=by kernel_rfl)(hv':s.f.act.tmps.getD u' undef=v':=by kernel_rfl)(hu:Fx P ty=true:=by kernel_rfl)(hi:(P.info? ty).map (·.size)=some cs.size:=by kernel_rfl)(hs:Lu s.K=true:=by kernel_rfl):GG P fn R B T s g w :=
 Tz _ hs (fun K=>let ⟨e,he⟩:=K.cel hx;let ⟨d,h1,h2⟩:=G7 hu;by rw[← hv,← hv'];exact IS hf _ _ b e cs (0,0) d hp he h1 (by cases d<;>first|rfl|cases h2) hi) h
theorem qE4{s:Xs}(p p':Tmp)(ty ty':TypeId)(i b j b':Nat)(cs cs':Array Value)(h:Kn B g w s.L→R (.returned (.tuple #[.agg cs,.agg cs'])) w)(hx:(s.L[i]?).map (fun x=>(x.g,Cj x.o,D4 x.o))=some (b,cs,true):=by kernel_rfl)(hx':(s.L[j]?).map (fun x=>(x.g,Cj x.o,D4 x.o))=some (b',cs',true):=by kernel_rfl)(hf:fn.results=#[.cell p ty,.cell p' ty']:=by kernel_rfl)(hp:s.f.act.tmps.getD p undef=pt b 0:=by kernel_rfl)(hp':s.f.act.tmps.getD p' undef=pt b' 0:=by kernel_rfl)(hu:Fx P ty=true:=by kernel_rfl)(hu':Fx P ty'=true:=by kernel_rfl)(hi:(P.info? ty).map (·.size)=some cs.size:=by kernel_rfl)(hi':(P.info? ty').map (·.size)=some cs'.size:=by kernel_rfl)(hs:Lu s.K=true:=by kernel_rfl):GG P fn R B T s g w :=
 Tz _ hs (fun K=>let ⟨e,he⟩:=K.cel hx;let ⟨e',he'⟩:=K.cel hx';let ⟨d,h1,h2⟩:=G7 hu;let ⟨d',h3,h4⟩:=G7 hu';ep hf _ _ b b' e e' cs cs' (0,0) (0,0) d d' hp he h1 (by cases d<;>first|rfl|cases h2) hi hp' he' h3 (by cases d'<;>first|rfl|cases h4) hi') h
theorem qE5{s:Xs}(p p' u:Tmp)(ty ty':TypeId)(i b j b':Nat)(cs cs':Array Value)(v:Value)(h:Kn B g w s.L→R (.returned (.tuple #[.agg cs,.agg cs',v])) w)(hx:(s.L[i]?).map (fun x=>(x.g,Cj x.o,D4 x.o))=some (b,cs,true):=by kernel_rfl)(hx':(s.L[j]?).map (fun x=>(x.g,Cj x.o,D4 x.o))=some (b',cs',true):=by kernel_rfl)(hf:fn.results=#[.cell p ty,.cell p' ty',.tmp u]:=by kernel_rfl)(hp:s.f.act.tmps.getD p undef=pt b 0:=by kernel_rfl)(hp':s.f.act.tmps.getD p' undef=pt b' 0:=by kernel_rfl)(hv:s.f.act.tmps.getD u undef=v:=by kernel_rfl)(hu:Fx P ty=true:=by kernel_rfl)(hu':Fx P ty'=true:=by kernel_rfl)(hi:(P.info? ty).map (·.size)=some cs.size:=by kernel_rfl)(hi':(P.info? ty').map (·.size)=some cs'.size:=by kernel_rfl)(hs:Lu s.K=true:=by kernel_rfl):GG P fn R B T s g w :=
 Tz _ hs (fun K=>let ⟨e,he⟩:=K.cel hx;let ⟨e',he'⟩:=K.cel hx';let ⟨d,h1,h2⟩:=G7 hu;let ⟨d',h3,h4⟩:=G7 hu';by rw[← hv];exact eq hf _ _ b b' e e' cs cs' (0,0) (0,0) d d' hp he h1 (by cases d<;>first|rfl|cases h2) hi hp' he' h3 (by cases d'<;>first|rfl|cases h4) hi') h
theorem qN{s:Xs}{i nb ob:Nat}{x:NX}{p:Nod}(h:NodeAt g w i nb ob x p)(hk:GG P fn R B T ⟨s.K,s.f,Bj s.L++[⟨nb,.cells (Ax i ob p x) 113,.n 0 i,false⟩]⟩ g w)(hT:s.L.all (fun y=>(Tg.n 0 i).ne y.t)=true:=by kernel_rfl):GG P fn R B T s g w:=GR nb _ 0 i h.row h.tag h.kap hT hk
theorem qO{s:Xs}{ob:Nat}{lt tl:S3}{ls:List Let}{ts:List Tol}(h:OutAt g w ob lt tl ls ts)(hk:GG P fn R B T ⟨s.K,s.f,Bj s.L++[⟨ob,.cells #[lt.v,tl.v] 84,.n 50 0,false⟩]⟩ g w)(hT:s.L.all (fun y=>(Tg.n 50 0).ne y.t)=true:=by kernel_rfl):GG P fn R B T s g w:=GR ob _ 50 0 h.row h.tag h.kap hT hk
theorem qS0{s:Xs}(n:Nat)(m:List Bool){f:FuncId}{av:Array Value}{i nb ob:Nat}{v:Value}{p:Nod}{ls:List Let}{ts:List Tol}(hc:Calls P f av w (NP i nb ob g w v p ls ts))(hk:∀ g' w' x lt tl,NodeAt g' w' i nb ob x p→OutAt g' w' ob lt tl ls ts→Cg B (TN i) g w g' w'→GG P fn R B T ⟨(nxt s n v (Ay m s.L)).s.K,(nxt s n v (Ay m s.L)).s.f,Bj (Bj (nxt s n v (Ay m s.L)).s.L++[⟨nb,.cells (Ax i ob p x) 113,.n 0 i,false⟩])++[⟨ob,.cells #[lt.v,tl.v] 84,.n 50 0,false⟩]⟩ g' w')(hr:∀ W,Cz P s n W=some (.ok (.enter f av) W):=by intro _;kernel_rfl)(hd:Kc s n=true:=by kernel_rfl)(hob:(nxt s n undef (Ay m s.L)).o.map Ob.l'=(nxt s n undef (Ay m s.L)).o.map Ob.r':=by kernel_rfl)(hT:(Ay m s.L).all (fun x=>(TN i).all fun t=>x.t.ne t)=true:=by kernel_rfl)(hT1:(nxt s n v (Ay m s.L)).s.L.all (fun y=>(Tg.n 0 i).ne y.t)=true:=by kernel_rfl)(hT2:∀ x:NX,(Bj (nxt s n v (Ay m s.L)).s.L++[(⟨nb,.cells (Ax i ob p x) 113,.n 0 i,false⟩:Sh)]).all (fun y=>(Tg.n 50 0).ne y.t)=true:=by intro _;kernel_rfl):GG P fn R B T s g w :=
 qG n (TN i) m hc (fun _ w' ⟨g',e,M,c⟩=>⟨v,g',e,c,M.new,let ⟨x,lt,tl,hN,hO,_⟩:=M;qN hN (qO hO (hk g' w' x lt tl hN hO c.ret) (hT2 x)) hT1⟩) hr hd hob hT
theorem qS{s:Xs}(n:Nat)(m:List Bool){f:FuncId}{av:Array Value}{i nb ob B':Nat}{T':List Tg}{g0:Gh}{w0:World}{x0:NX}{lt0 tl0:S3}{v:Value}{p0 p:Nod}{ls0 ls:List Let}{ts0 ts:List Tol}(hN:NodeAt g0 w0 i nb ob x0 p0)(hO:OutAt g0 w0 ob lt0 tl0 ls0 ts0)(C:Cg B' T' g0 w0 g w)(hc:NS i nb ob g w p0 ls0 ts0→Calls P f av w (NP i nb ob g w v p ls ts))(hk:∀ g' w' x lt tl,NodeAt g' w' i nb ob x p→OutAt g' w' ob lt tl ls ts→Cg B (TN i) g w g' w'→GG P fn R B T ⟨(nxt s n v (Ay m s.L)).s.K,(nxt s n v (Ay m s.L)).s.f,Bj (Bj (nxt s n v (Ay m s.L)).s.L++[⟨nb,.cells (Ax i ob p x) 113,.n 0 i,false⟩])++[⟨ob,.cells #[lt.v,tl.v] 84,.n 50 0,false⟩]⟩ g' w')(hz:Tg.z∉T':=by simp)(hn:∀ r,r<6→Tg.n r i∉T':=by simp)(ho:∀ r,50≤r→Tg.n r 0∉T':=by simp)(hr:∀ W,Cz P s n W=some (.ok (.enter f av) W):=by intro _;kernel_rfl)(hd:Kc s n=true:=by kernel_rfl)(hob:(nxt s n undef (Ay m s.L)).o.map Ob.l'=(nxt s n undef (Ay m s.L)).o.map Ob.r':=by kernel_rfl)(hT:(Ay m s.L).all (fun x=>(TN i).all fun t=>x.t.ne t)=true:=by kernel_rfl)(hT1:(nxt s n v (Ay m s.L)).s.L.all (fun y=>(Tg.n 0 i).ne y.t)=true:=by kernel_rfl)(hT2:∀ x:NX,(Bj (nxt s n v (Ay m s.L)).s.L++[(⟨nb,.cells (Ax i ob p x) 113,.n 0 i,false⟩:Sh)]).all (fun y=>(Tg.n 50 0).ne y.t)=true:=by intro _;kernel_rfl):GG P fn R B T s g w :=
 Ae fun K=>qS0 n m (hc (nsC hN hO C K hz hn ho)) hk hr hd hob hT hT1 hT2
theorem qF{s:Xs}{i nb ob B':Nat}{T':List Tg}{g0 g1:Gh}{w0 w1:World}{x:NX}{lt tl:S3}{v:Value}{p:Nod}{ls:List Let}{ts:List Tol}(hN:NodeAt g1 w1 i nb ob x p)(hO:OutAt g1 w1 ob lt tl ls ts)(c:Cg B' T' g1 w1 g w)(C:Cg w0.heap.size (TN i) g0 w0 g w)(hz:Tg.z∉T':=by simp)(hn:∀ r,r<6→Tg.n r i∉T':=by simp)(ho:∀ r,50≤r→Tg.n r 0∉T':=by simp)(hr:Kn w0.heap.size g w s.L→(results fn s.f.act.tmps).run P w=.ok v w:=by intro _;kernel_rfl)(hs:Lu s.K=true:=by kernel_rfl):GG P fn (NP i nb ob g0 w0 v p ls ts) w0.heap.size T s g w :=
 qE v (fun K=>⟨_,rfl,nsC hN hO c K hz hn ho,C⟩) hr hs
theorem Kn.nd{L:List Sh}{i nb ob:Nat}{x:NX}{p:Nod}(h:Kn B g w L)(k:Nat)(f1:FSl g w x.tape p.d)(f2:FSv g w x.votes p.vo.vs)(f3:∀ j,j<5→FSv g w (x.hv j) (p.rnd.heard j).vs)(f4:∃ vs,OwnS g w (.n 1 i) true 1 1 x.synced vs∧Pends g w nb vs p.pend)(f5:OwnS g w (.n 2 i) false 44 5 x.queue (cmL p.rnd.queue))(f6:OwnS g w (.n 3 i) true 44 5 x.agreed (cmL p.agreed))(f7:OwnS g w (.n 4 i) false 44 5 x.wants (cmL p.wants))(f8:UN g w i p.asked x.asked)(f9:p.up=true→∃ b,x.asked=some b)(hx:L[k]?=some ⟨nb,.cells (Ax i ob p x) 113,.n 0 i,false⟩:=by kernel_rfl):NodeAt g w i nb ob x p :=
 have q:=h.isN k nb _ 0 i hx
 ⟨q.1,q.2.1,q.2.2,f1,f2,f3,f4,f5,f6,f7,f8,f9⟩
theorem Kn.ndu{L:List Sh}{i nb ob:Nat}{x x0:NX}{p p0:Nod}{g0:Gh}{w0:World}{C:Nat}{T0:List Tg}(h:Kn B g w L)(k:Nat)(hN:NodeAt g0 w0 i nb ob x0 p0)(c:Cg C T0 g0 w0 g w)(hx:L[k]?=some ⟨nb,.cells (Ax i ob p x) 113,.n 0 i,false⟩:=by kernel_rfl)(hz:Tg.z∉T0:=by simp)(hr:∀ r,1≤r→r<6→Tg.n r i∉T0:=by simp;try omega)(e1:x=x0:=by rfl)(e2:p.d=p0.d:=by rfl)(e3:p.vo.vs=p0.vo.vs:=by rfl)(e4:p.rnd.heard=p0.rnd.heard:=by rfl)(e5:p.pend=p0.pend:=by rfl)(e6:p.rnd.queue=p0.rnd.queue:=by rfl)(e7:p.agreed=p0.agreed:=by rfl)(e8:p.wants=p0.wants:=by rfl)(e9:p.asked=p0.asked:=by rfl)(e10:p.up=p0.up:=by rfl):NodeAt g w i nb ob x p:=by
 have q:=h.isN k nb _ 0 i hx;subst e1;obtain⟨vs,h2,h3⟩:=hN.pend;exact⟨q.1,q.2.1,q.2.2,by rw[e2];exact hN.tape.ch c hz,by rw[e3];exact hN.votes.ch c hz,by rw[e4];exact fun j hj=>(hN.heard j hj).ch c hz,by rw[e5];exact⟨vs,h2.ch c (hr 1 (by omega) (by omega)) (by simp),h3.ch c hz⟩,by rw[e6];exact hN.queue.ch c (hr 2 (by omega) (by omega)) (by simp),by rw[e7];exact hN.agreed.ch c (hr 3 (by omega) (by omega)) (by simp),by rw[e8];exact hN.wants.ch c (hr 4 (by omega) (by omega)) (by simp),by rw[e9];exact hN.asked.ch c (hr 5 (by omega) (by omega)),by rw[e10];exact hN.upm⟩
theorem Kn.od{L:List Sh}{ob:Nat}{lt tl:S3}{ls:List Let}{ts:List Tol}(h:Kn B g w L)(k:Nat)(f1:∃ bs:List Nat,OwnS g w (.n 51 0) false 165 1 lt (bs.map (pt · 0))∧Lets g w bs ls)(f2:OwnS g w (.n 52 0) false 39 5 tl (ts.flatMap Dk))(hx:L[k]?=some ⟨ob,.cells #[lt.v,tl.v] 84,.n 50 0,false⟩:=by kernel_rfl):OutAt g w ob lt tl ls ts :=
 have q:=h.isN k ob _ 50 0 hx
 ⟨q.1,q.2.1,q.2.2,f1,f2⟩
end
structure RdC(w:World)(x:S3)(l:List Cmd):Prop where
 len:x.n=l.length
 cap:x.n≤x.c
 nul:x.a=none→x.c=0
 ex:l=[]∨∃ b off,x.a=some ⟨b,off,none⟩∧b<w.heap.size∧∀ j u,(cmL l)[j]?=some u→w.cell? ⟨b,off+j,none⟩=some u
theorem OwnS.rd{g:Gh}{w:World}{τ:Tg}{kp:Bool}{e:TypeId}{x:S3}{l:List Cmd}(h:OwnS g w τ kp e 5 x (cmL l)):RdC w x l:=by
 have hn:=h.num;rcases h.ex with⟨h1,h2,h3⟩|⟨b,cur,h1,h2,h3,h4,h5,h6,h7,h8⟩
 ·exact⟨hn,by omega,fun _=>h3,.inl (List.eq_nil_of_length_eq_zero (by omega))⟩
 ·refine⟨hn,h3,fun h=>(by rw[h1]at h;cases h),.inr ⟨b,0,h1,rl h2,fun j u hj=>?_⟩⟩;obtain⟨b',hb',_,hc⟩:=h.cell hj;rw[h1]at hb'
  simp only[Option.some.injEq,Addr.mk.injEq,and_true]at hb';subst hb';rw[Nat.zero_add];exact hc
theorem RdC.below{w w':World}{x:S3}{l:List Cmd}(h:RdC w x l)(b:Bw w w'):RdC w' x l :=
 ⟨h.len,h.cap,h.nul,h.ex.imp id fun⟨k,off,h1,h2,h3⟩=>⟨k,off,h1,Nat.lt_of_lt_of_le h2 b.size,fun j u hj=>(b.cell (p:=⟨k,off+j,none⟩) h2).trans (h3 j u hj)⟩⟩
def S3.cut(x:S3)(l h:Nat):S3:=⟨if x.c=l then x.a else x.a.map (·.add (l*5)),h-l,x.c-l⟩
theorem Rc.drop{g:Gh}{w:World}{x:S3}{l:List Cmd}(h:Rc g w x l){k:Nat}(hk:k≤l.length):Rc g w (x.cut k x.n) (l.drop k):=by
 have hl:=h.len;have hc:=h.cap;refine⟨by simp[S3.cut,hl],by simp only[S3.cut];omega,fun hn=>?_,?_⟩
 ·simp only[S3.cut]at hn ⊢;split at hn
  ·omega
  ·cases ha:x.a with
   | none=>have:=h.nul ha;omega
   | some a=>rw[ha]at hn;cases hn
 ·rcases h.ex with rfl|⟨b,off,h1,h2,h3,h4⟩
  ·exact .inl (by simp)
  ·by_cases he:k=l.length
   ·exact .inl (by rw[he];simp)
   ·refine .inr ⟨b,off+k*5,?_,h2,fun j u hj=>?_,?_⟩
    ·simp only[S3.cut];rw[if_neg (by omega),h1];simp only[Option.map_some,Option.some.injEq];unfold Addr.add;split
     ·rename_i h0;rw[show k=0 by omega];simp
     ·simp
    ·rw[← JV,List.getElem?_drop]at hj
     have:=h3 _ u hj;rw[show off+k*5+j=off+(5*k+j)by omega];exact this
    ·rcases h4 with h4|h4
     ·exact .inl h4
     ·right;rw[List.length_drop];omega
theorem Rc.addr{g:Gh}{w:World}{x:S3}{l:List Cmd}(h:Rc g w x l){k:Nat}(hk:k<l.length):∃ b off,x.a=some ⟨b,off,none⟩:=by
 rcases h.ex with rfl|⟨b,off,h2,_⟩
 ·simp at hk
 ·exact⟨b,off,h2⟩
theorem Rc.cellAt{g:Gh}{w:World}{x:S3}{l:List Cmd}(h:Rc g w x l){b off j q:Nat}{c:Cmd}{u:Value}(ha:x.a=some ⟨b,off,none⟩)(hc:l[j]?=some c)(hu:(cmV c)[q]?=some u):w.cell? ⟨b,off+5*j+q,none⟩=some u:=by
 rcases h.ex with rfl|⟨b',off',h1,h2,h3,_⟩
 ·cases hc
 ·rw[ha]at h1
  simp only[Option.some.injEq,Addr.mk.injEq,and_true]at h1;obtain⟨rfl,rfl⟩:=h1;rw[Nat.add_assoc];exact h3 _ u (MT hc hu)
theorem RdC.cellAt{w:World}{x:S3}{l:List Cmd}(h:RdC w x l){b off j q:Nat}{c:Cmd}{u:Value}(ha:x.a=some ⟨b,off,none⟩)(hc:l[j]?=some c)(hu:(cmV c)[q]?=some u):w.cell? ⟨b,off+5*j+q,none⟩=some u:=by
 rcases h.ex with rfl|⟨b',off',h1,h2,h3⟩
 ·cases hc
 ·rw[ha]at h1
  simp only[Option.some.injEq,Addr.mk.injEq,and_true]at h1;obtain⟨rfl,rfl⟩:=h1;rw[Nat.add_assoc];exact h3 _ u (MT hc hu)
theorem RdC.addr{w:World}{x:S3}{l:List Cmd}(h:RdC w x l){k:Nat}(hk:k<l.length):∃ b off,x.a=some ⟨b,off,none⟩:=by
 rcases h.ex with rfl|⟨b,off,h2,_⟩
 ·simp at hk
 ·exact⟨b,off,h2⟩
theorem Vp(l:List Cmd)(k:Nat){j:Nat}{u:Value}(h:(cmL (l.take k))[j]?=some u):(cmL l)[j]?=some u:=by
 have h1:cmL l=cmL (l.take k)++cmL (l.drop k):=by rw[← BM,List.take_append_drop]
 rw[h1,List.getElem?_append_left (List.getElem?_eq_some_iff.1 h).1];exact h
theorem RdC.take{w:World}{x:S3}{l:List Cmd}(h:RdC w x l){k:Nat}(hk:k≤l.length):RdC w (x.cut 0 k) (l.take k):=by
 have hl:=h.len;have hc:=h.cap;have ha:(x.cut 0 k).a=x.a:=by
  simp only[S3.cut];split
  ·rfl
  ·cases x.a with
   | none=>rfl
   | some a=>simp[Addr.add]
 refine⟨by simp[S3.cut];omega,by simp only[S3.cut];omega,fun hn=>?_,?_⟩
 ·rw[ha]at hn
  have:=h.nul hn;simp only[S3.cut];omega
 ·rcases h.ex with rfl|⟨b,off,h1,h2,h3⟩
  ·exact .inl (by simp)
  ·exact .inr ⟨b,off,by rw[ha];exact h1,h2,fun j u hj=>h3 j u (Vp l k hj)⟩
section
variable{W:World}
theorem sz5:(Go.sizeOf (prog.elem 98)).run prog W=.ok 5 W:=by kernel_rfl
theorem unC:prog.underlying 98=some (.slice (prog.elem 98)):=by kernel_rfl
theorem di(x:S3)(k:Nat)(hk:k≤x.n):(Instr.sliceAt 98 x.v (some (iv (k:Int))) none none).run prog W=.ok (S3.v (x.cut k x.n)) W:=by
 rw[run_sliceAt_slice _ _ _ _ _ _ unC,run_slice_l (P:=prog) (w:=W) _ _ _ _ unC .i64 k (by omega) (by omega),sz5];simp[Result.andThen,sliced,S3.cut]
theorem fu(x:S3)(k:Nat)(hk:k≤x.c):(Instr.sliceAt 98 x.v none (some (iv (k:Int))) none).run prog W=.ok (S3.v (x.cut 0 k)) W:=by
 rw[run_sliceAt_slice _ _ _ _ _ _ unC,run_slice_h (P:=prog) (w:=W) _ _ _ _ unC .i64 k (by omega) (by omega),sz5];simp[Result.andThen,sliced,S3.cut]
theorem fo{x:S3}{b off:Nat}(ha:x.a=some ⟨b,off,none⟩)(k:Nat)(hk:k<x.n)(hc:x.n≤x.c):(Instr.sliceAt 98 x.v (some (iv (k:Int))) none none).run prog W=.ok (.slice (some ⟨b,off+5*k,none⟩) (x.n-k) (x.c-k)) W:=by
 rw[di x k (by omega)];unfold S3.v S3.cut;simp only;rw[if_neg (by omega),ha];simp only[Option.map_some,Addr.add];split
 ·rename_i h0;rw[show k=0 by omega];rfl
 ·simp only[Nat.mul_comm]
theorem fx{P:Program}{x y:Operand}(a b:Nat)(hk:P.underlying 3=some (.int .i64))(h:b≤a)(ha:a<4611686018427387904):(do Go.eqGuard .sub 3 x y (iv (a:Int)) (iv (b:Int));Go.binOp .sub 3 (iv (a:Int)) (iv (b:Int)):Sem Value).run P W=.ok (iv ((a-b:Nat):Int)) W:=by
 rw[fw _ _ hk (by omega)]
 congr 3
 omega
theorem eN{g:Gh}{x:S3}{l:List Cmd}{b off:Nat}(ha:x.a=some ⟨b,off,none⟩)(h:Rc g W x l)(k:Nat)(hl:k<l.length):∀ j u,(cmL (l.drop k))[j]?=some u→W.cell? ((⟨b,off+5*k,none⟩:Addr).add j)=some u:=by
 intro j u hj;rcases h.ex with rfl|⟨b',off',h1,h2,h3,h4⟩
 ·simp at hl
 ·rw[ha]at h1
  simp only[Option.some.injEq,Addr.mk.injEq,and_true]at h1;obtain⟨rfl,rfl⟩:=h1;rw[← JV,List.getElem?_drop]at hj
  have:=h3 _ u hj;have hadd:(⟨b,off+5*k,none⟩:Addr).add j=⟨b,off+5*k+j,none⟩:=by unfold Addr.add;split<;>simp_all
  rw[hadd,show off+5*k+j=off+(5*k+j)by omega];exact this
theorem Po{x:S3}{b off:Nat}(ha:x.a=some ⟨b,off,none⟩)(j:Nat)(hj:j<x.n):(Instr.indexAt 98 x.v (iv (j:Int))).run prog W=.ok (pt b (off+5*j)) W:=by
 unfold S3.v;rw[ha];exact Pn (P:=prog) (e:=44) (z:=5) underlying98 (by kernel_rfl) (by kernel_rfl) hj _ rfl
theorem Xb{b k:Nat}(c:Cmd)(h:∀ j u,(cmV c)[j]?=some u→W.cell? ⟨b,k+j,none⟩=some u):(Instr.loadAt 44 (pt b k)).run prog W=.ok (.agg #[iv c.k,iv c.c,iv c.s,iv c.n,iv c.v]) W:=by
 have h1:=run_loadVar_mid (P:=prog) W b k 44 (cmV c) _ (fun j u hj=>h j u hj) underlying44 rfl (by kernel_rfl);simp only[Instr.loadAt,Instr.sureAddr,Sem.run_bind,Sem.run_pure,Result.andThen_ok];exact h1
theorem aV{x:S3}{b off:Nat}(ha:x.a=some ⟨b,off,none⟩)(j:Nat)(hj:j<x.n):(Instr.indexAt 93 x.v (iv (j:Int))).run prog W=.ok (pt b (off+8*j)) W:=by
 unfold S3.v;rw[ha];exact Pn (P:=prog) (e:=162) (z:=8) underlying93 (by kernel_rfl) (by kernel_rfl) hj _ rfl
theorem fc{b k:Nat}(v:Vt)(h:W.rangeAt b k (vtC v)):(Instr.loadAt 162 (pt b k)).run prog W=.ok (.agg #[iv v.slot,iv v.b.r,iv v.b.n,iv v.w.k,iv v.w.c,iv v.w.s,iv v.w.n,iv v.w.v]) W:=by
 have h1:=run_loadVar_mid (P:=prog) W b k 162 (vtC v) _ h underlying162 rfl (by kernel_rfl);simp only[Instr.loadAt,Instr.sureAddr,Sem.run_bind,Sem.run_pure,Result.andThen_ok];exact h1
theorem dU(u v:Vt):decide (u.slot=v.slot∧u.b.r=v.b.r∧u.b.n=v.b.n∧u.w.k=v.w.k∧u.w.c=v.w.c∧u.w.s=v.w.s∧u.w.n=v.w.n∧u.w.v=v.w.v)=decide (u=v):=by
 apply decide_eq_decide.2;constructor
 ·rintro⟨a1,a2,a3,a4,a5,a6,a7,a8⟩;exact(Vt.eq_iff u v).1 ⟨a1,(Bal.eq_iff _ _).1 ⟨a2,a3⟩,(Cmd.eq_iff _ _).1 ⟨a4,a5,a6,a7,a8⟩⟩
 ·rintro rfl;exact⟨rfl,rfl,rfl,rfl,rfl,rfl,rfl,rfl⟩
theorem eV{x y:Operand}(a b:Vt):(do Go.eqGuard .eql 162 x y (.agg #[iv a.slot,iv a.b.r,iv a.b.n,iv a.w.k,iv a.w.c,iv a.w.s,iv a.w.n,iv a.w.v]) (.agg #[iv b.slot,iv b.b.r,iv b.b.n,iv b.w.k,iv b.w.c,iv b.w.s,iv b.w.n,iv b.w.v]);Go.binOp .eql 162 (.agg #[iv a.slot,iv a.b.r,iv a.b.n,iv a.w.k,iv a.w.c,iv a.w.s,iv a.w.n,iv a.w.v]) (.agg #[iv b.slot,iv b.b.r,iv b.b.n,iv b.w.k,iv b.w.c,iv b.w.s,iv b.w.n,iv b.w.v]):Sem Value).run prog W=.ok (.bool (decide (a=b))) W:=by
 have h1:=VE a.slot a.b.r a.b.n a.w.k a.w.c a.w.s a.w.n a.w.v b.slot b.b.r b.b.n b.w.k b.w.c b.w.s b.w.n b.w.v W;rw[dU]at h1
 have hg:(Go.eqGuard .eql 162 x y (.agg #[iv a.slot,iv a.b.r,iv a.b.n,iv a.w.k,iv a.w.c,iv a.w.s,iv a.w.n,iv a.w.v]) (.agg #[iv b.slot,iv b.b.r,iv b.b.n,iv b.w.k,iv b.w.c,iv b.w.s,iv b.w.n,iv b.w.v])).run prog W=.ok () W:=by kernel_rfl
 rw[Sem.run_bind,hg,Result.andThen_ok];exact h1
end
theorem Kn.isNw{B:Nat}{g:Gh}{w:World}{L:List Sh}(h:Kn B g w L)(k b:Nat)(o:Obj)(r i:Nat)(v:Bool)(hx:L[k]?=some ⟨b,o,.n r i,v⟩):w.heap[b]?=some o∧g.t b=.n r i∧g.k b=0 :=
 have h1:=h.row _ (List.mem_of_getElem? hx)
 ⟨h1.1,h1.2.1,h1.2.2.2 (by simp)⟩
structure RdV(w:World)(x:S3)(sz:Nat)(vs:List Value):Prop where
 len:vs.length=x.n*sz
 cap:x.n≤x.c
 nul:x.a=none→x.c=0
 ex:x.n=0∨∃ b off,x.a=some ⟨b,off,none⟩∧b<w.heap.size∧∀ j u,vs[j]?=some u→w.cell? ⟨b,off+j,none⟩=some u
theorem RdC.rv{w:World}{x:S3}{l:List Cmd}(h:RdC w x l):RdV w x 5 (cmL l) :=
 ⟨by rw[Bi,h.len],h.cap,h.nul,h.ex.imp (fun e=>by rw[h.len,e];rfl) id⟩
theorem RdV.rc{w:World}{x:S3}{l:List Cmd}(h:RdV w x 5 (cmL l)):RdC w x l :=
 have hn:x.n=l.length:=by have:=h.len;rw[Bi]at this;omega
 ⟨hn,h.cap,h.nul,h.ex.imp (fun e=>List.eq_nil_of_length_eq_zero (by omega)) id⟩
theorem RdV.below{w w':World}{x:S3}{sz:Nat}{vs:List Value}(h:RdV w x sz vs)(b:Bw w w'):RdV w' x sz vs :=
 ⟨h.len,h.cap,h.nul,h.ex.imp id fun⟨k,off,h1,h2,h3⟩=>⟨k,off,h1,Nat.lt_of_lt_of_le h2 b.size,fun j u hj=>(b.cell (p:=⟨k,off+j,none⟩) h2).trans (h3 j u hj)⟩⟩
theorem OwnS.rv{g:Gh}{w:World}{τ:Tg}{kp:Bool}{e:TypeId}{sz:Nat}{x:S3}{vs:List Value}(h:OwnS g w τ kp e sz x vs):RdV w x sz vs:=by
 rcases h.ex with⟨h1,h2,h3⟩|⟨b,cur,h1,h2,h3,h4,h5,h6,h7,h8⟩
 ·exact⟨h.len,by omega,fun _=>h3,.inl h2⟩
 ·refine⟨h.len,h3,fun h=>(by rw[h1]at h;cases h),.inr ⟨b,0,h1,rl h2,fun j u hj=>?_⟩⟩;obtain⟨b',hb',_,hc⟩:=h.cell hj;rw[h1]at hb'
  simp only[Option.some.injEq,Addr.mk.injEq,and_true]at hb';subst hb';rw[Nat.zero_add];exact hc
theorem Zw{P:Program}{W:World}{t e:TypeId}{x y:Operand}{z:S3}{b:Bool}(hb:z.a.isNone=b)(ht:P.underlying t=some (.slice e))(hg:(Go.eqGuard .eql t x y z.v (.slice none 0 0)).run P W=.ok () W):(do Go.eqGuard .eql t x y z.v (.slice none 0 0);Go.binOp .eql t z.v (.slice none 0 0):Sem Value).run P W=.ok (.bool b) W:=by
 subst hb;rw[Sem.run_bind,hg,Result.andThen_ok];have h1:=run_equal_slice_nil (P:=P) (w:=W) t e z.a z.n z.c ht;simp only[S3.v,binOp,Sem.run_bind,h1,Result.andThen_ok];rfl
theorem aR{P:Program}{W:World}(t ty e:TypeId)(i:TypeInfo)(ht:P.underlying t=some (.slice e))(hi:P.info? e=some i)(b:Nat)(a:Addr)(c:Nat):(Builtin.append_ #[t,t] ty #[.slice (some ⟨b,0,none⟩) 0 0,.slice (some a) 0 c]).run P W=.ok (.slice (some ⟨b,0,none⟩) 0 0) W:=by
 have hf:=run_firstCells_some (P:=P) W i.size 0 a 0 c [] (by simp) (by simp);simp[Builtin.append_,run_underlying ht,sizeOf,typeInfo,hi,Builtin.lenOf,hf,storeCells]
structure FzV(g:Gh)(w:World)(x:S3)(sz:Nat)(vs:List Value):Prop where
 rd:RdV w x sz vs
 z:vs≠[]→Frz g x
theorem FzV.ch{B:Nat}{T:List Tg}{g g':Gh}{w w':World}{x:S3}{sz:Nat}{vs:List Value}(h:FzV g w x sz vs)(c:Cg B T g w g' w')(hz:Tg.z∉T:=by simp):FzV g' w' x sz vs:=by
 obtain⟨⟨h1,h2,h3,h4⟩,h5⟩:=h;by_cases hv:vs=[]
 ·subst hv;exact⟨⟨h1,h2,h3,h4.imp id fun⟨b,off,e1,e2,_⟩=>⟨b,off,e1,Nat.lt_of_lt_of_le e2 c.size,fun j u hj=>(by cases hj)⟩⟩,fun h=>absurd rfl h⟩
 ·rcases h4 with h4|⟨b,off,e1,e2,e3⟩
  ·exact absurd (List.eq_nil_of_length_eq_zero (by rw[h1,h4,Nat.zero_mul])) hv
  ·have hb:g.t b=.z:=h5 hv _ e1;refine⟨⟨h1,h2,h3,.inr ⟨b,off,e1,Nat.lt_of_lt_of_le e2 c.size,fun j u hj=>?_⟩⟩,fun _ a ha=>?_⟩
   ·rw[World.cell?_of_block (w:=w) (c.zc hz e2 hb)];exact e3 j u hj
   ·rw[e1]at ha;simp only[Option.some.injEq]at ha;subst ha
    rw[c.tag e2 (by rw[hb];intro h;cases h)];exact hb
structure Fa where
 ro:Option Nat
 p:Gh→World→Prop
 st:∀ {B:Nat} {T:List Tg} {g g':Gh} {w w':World},Tg.z∉T→(∀ r,ro=some r→Tg.n 60 r∉T)→Cg B T g w g' w'→p g w→p g' w'
@[reducible] def AllF (g:Gh) (w:World):List Fa→Prop
 | []=>True
 | f::l=>f.p g w∧AllF g w l
theorem AllF.ch{B:Nat}{T:List Tg}{g g':Gh}{w w':World}{Φ:List Fa}(h:AllF g w Φ)(c:Cg B T g w g' w')(hz:Tg.z∉T:=by simp)(hr:∀ f∈Φ,∀ r,f.ro=some r→Tg.n 60 r∉T):AllF g' w' Φ:=by
 induction Φ with
 | nil=>trivial
 | cons f l ih=>exact⟨f.st hz (hr f List.mem_cons_self) c h.1,ih h.2 fun f hf=>hr f (List.mem_cons_of_mem _ hf)⟩
theorem AllF.ch0{B:Nat}{g g':Gh}{w w':World}{Φ:List Fa}(h:AllF g w Φ)(c:Cg B [] g w g' w'):AllF g' w' Φ:=h.ch c List.not_mem_nil fun _ _ _ _=>List.not_mem_nil
def Fa.zv(x:S3)(sz:Nat)(vs:List Value):Fa:=⟨none,fun g w=>FzV g w x sz vs,fun hz _ c h=>h.ch c hz⟩
def Fa.sl(x:S3)(l:List Int):Fa:=⟨none,fun g w=>FSl g w x l,fun hz _ c h=>h.ch c hz⟩
def Fa.ow(r:Nat)(e:TypeId)(sz:Nat)(x:S3)(vs:List Value):Fa:=⟨some r,fun g w=>OwnS g w (.n 60 r) true e sz x vs,fun _ hr c h=>h.ch c (hr r rfl) (by simp)⟩
def TQ:List Tg:=[.n 60 0,.n 60 1,.n 60 2,.n 60 3]
theorem fW:Tg.z∉TQ:=by simp[TQ]
section
variable{P:Program}{fn:Func}{R:Ending→World→Prop}{w0:World}{Φ:List Fa}{g:Gh}{w:World}
structure GT(P:Program)(fn:Func)(R:Ending→World→Prop)(w0:World)(Φ:List Fa)(s:Xs)(g:Gh)(w:World):Prop where
 ex:AllF g w Φ→Cg w0.heap.size TQ gS w0 g w→GG P fn R w0.heap.size TQ s g w
theorem CgQ.below(c:Cg w0.heap.size TQ gS w0 g w):Bw w0 w:=Cg.below c fun _ _=>fW
theorem tIn{f:FuncId}{args:Array Value}(Φ:List Fa)(hf:P.funcs[f]?=some fn)(hΦ:AllF gS w0 Φ)(h:GT P fn R w0 Φ ⟨[.c (NW fn)],⟨fn.ntmps,MM 0 args.toList,fun _=>undef⟩,[]⟩ gS w0)(hb:fn.body.isSome=true:=by kernel_rfl)(hn:Nat.ble args.size fn.ntmps=true:=by kernel_rfl):Calls P f args w0 R :=
 gIn TQ gS hf hb hn (fun _ _=>⟨rfl,rfl⟩) (h.ex hΦ (Cg.refl _ _ _ _))
theorem tX{s:Xs}(h:AllF g w Φ→Cg w0.heap.size TQ gS w0 g w→GG P fn R w0.heap.size TQ s g w):GT P fn R w0 Φ s g w:=⟨h⟩
theorem tF{s:Xs}(h:AllF g w Φ→Cg w0.heap.size TQ gS w0 g w→GT P fn R w0 Φ s g w):GT P fn R w0 Φ s g w:=⟨fun F C=>(h F C).ex F C⟩
theorem tCv{s:Xs}(Ψ:List Fa)(hΨ:AllF g w Φ→AllF g w Ψ)(h:GT P fn R w0 Ψ s g w):GT P fn R w0 Φ s g w:=⟨fun F C=>h.ex (hΨ F) C⟩
theorem tR{s:Xs}(m:Nat)(h:List Nat)(hk:∀ gs g' w',GT P fn R w0 Φ (rn0 P [] gs m s h).s g' w')(hob:∀ gs,(rn0 P [] gs m s h).o.map Ob.l'=(rn0 P [] gs m s h).o.map Ob.r':=by intro _;kernel_rfl):GT P fn R w0 Φ s g w :=
 ⟨fun F C=>YD [] m h hob fun gs g' w' c=>(hk gs g' w').ex (F.ch0 c) (C.n c)⟩
theorem tV{s:Xs}(i:Nat)(v:Value){S:Sem Value}(hr:AllF g w Φ→Cg w0.heap.size TQ gS w0 g w→S.run P w=.ok v w)(hk:GT P fn R w0 Φ (nxt s i v s.L).s g w)(hs:CP s i=some (S>>=fun v=>pure (.value v)):=by kernel_rfl)(hob:(nxt s i undef s.L).o.map Ob.l'=(nxt s i undef s.L).o.map Ob.r':=by kernel_rfl):GT P fn R w0 Φ s g w:=⟨fun F C=>qV i v (hr F C) (hk.ex F C) hs hob⟩
theorem tT{s:Xs}(i:Nat)(v:Value){S:Sem Value}(hr:∀ W,S.run P W=.ok v W)(hk:GT P fn R w0 Φ (tkN s i v false).s g w)(hs:CP s i=some (S>>=fun v=>pure (.value v)):=by kernel_rfl)(hob:(tkN s i undef false).o.map Ob.l'=(tkN s i undef false).o.map Ob.r':=by kernel_rfl):GT P fn R w0 Φ s g w:=⟨fun F C=>qT i v hr (hk.ex F C) hs hob⟩
theorem tI{s:Xs}(b t:Bool)(hb:b=t)(h:GT P fn R w0 Φ (JY s t) g w)(hc:Ot s=.bool b:=by kernel_rfl):GT P fn R w0 Φ s g w:=⟨fun F C=>qI b t hb (h.ex F C) hc⟩
theorem tC{s:Xs}(i:Nat){f:FuncId}{av:Array Value}{K:Ending→World→Prop}(hc:AllF g w Φ→Cg w0.heap.size TQ gS w0 g w→Calls P f av w K)(hk:(∀ b,w.heap.size≤b→g.t b=.z)→∀ e w',K e w'→∃ v Ψ,e=.returned v∧Bw w w'∧(AllF g w' Φ→AllF g w' Ψ)∧GT P fn R w0 Ψ (nxt s i v s.L).s g w')(hr:∀ W,Cz P s i W=some (.ok (.enter f av) W):=by intro _;kernel_rfl)(hd:Kc s i=true:=by kernel_rfl)(hob:(nxt s i undef s.L).o.map Ob.l'=(nxt s i undef s.L).o.map Ob.r':=by kernel_rfl):GT P fn R w0 Φ s g w :=
 ⟨fun F C=>Ae fun hK=>qC i (hc F C) (fun e w' h=>let ⟨v,Ψ,h1,h2,h3,h4⟩:=hk (fun b hb=>(hK.new b hb).1) e w' h;⟨v,h1,h2,h4.ex (h3 (F.ch0 (Cg.ofBelow (B:=w0.heap.size) h2))) (C.trans (Cg.ofBelow h2))⟩) hr hd hob⟩
theorem tE{s:Xs}(v:Value)(h:AllF g w Φ→Bw w0 w→R (.returned v) w)(hr:Kn w0.heap.size g w s.L→(results fn s.f.act.tmps).run P w=.ok v w:=by intro _;kernel_rfl)(hs:Lu s.K=true:=by kernel_rfl):GT P fn R w0 Φ s g w:=⟨fun F C=>qE v (fun _=>h F (CgQ.below C)) hr hs⟩
def JT(P:Program)(w0:World)(n:Nat)(Inv:Nat→List (Nat × Value)→List Sh→List Fa→Prop)(k:Nat)(J:Act→World→Prop):Prop:=∀ k' e' L' Φ' g' w' z',k'<k→Inv k' e' L' Φ'→AllF g' w' Φ'→Cg w0.heap.size TQ gS w0 g' w'→Kn w0.heap.size g' w' L'→J (⟨n,e',z'⟩:Fm).act w'
theorem ES{s:Xs}(n:Nat)(e0:List (Nat × Value))(m:List Bool)(L0:List Sh)(Φ0:List Fa)(Inv:Nat→List (Nat × Value)→List Sh→List Fa→Prop)(k0:Nat)(h0:Inv k0 e0 L0 Φ0)(hΦ:AllF g w Φ→AllF g w Φ0)(round:∀ k e L Φ,Inv k e L Φ→∀ z g w J,JT P w0 n Inv k J→GT P fn R w0 Φ (ZC s n J e z L) g w)(hl:QA s.K=true:=by kernel_rfl)(hn:s.f.n=n:=by kernel_rfl)(he:e0.map (fun p=>lk s.f.z s.f.e p.1)=e0.map (·.2):=by kernel_rfl)(hL:Bj (Ay m s.L)=L0:=by kernel_rfl):GT P fn R w0 Φ s g w :=
 ⟨fun F C=>Bz n e0 m L0 (fun k g' w' e L=>∃ Ψ,Inv k e L Ψ∧AllF g' w' Ψ∧Cg w0.heap.size TQ gS w0 g' w') hl hn he hL k0 (fun _=>⟨Φ0,h0,hΦ F,C⟩) fun k g' w' e z L ⟨Ψ,hI,F',C'⟩ J hJ=>(round k e L Ψ hI z g' w' J fun k' e' L' Φ' g'' w'' z' hk hI' F'' C'' K=>hJ k' g'' w'' e' z' L' hk ⟨Φ',hI',F'',C''⟩ K).ex F' C'⟩
theorem tB{s:Xs}{J:Act→World→Prop}{n k:Nat}{Inv:Nat→List (Nat × Value)→List Sh→List Fa→Prop}(hJ:JT P w0 n Inv k J)(k':Nat)(hk:k'<k){e:List (Nat × Value)}(m:List Bool){L':List Sh}{Φ':List Fa}(hI:Inv k' e L' Φ')(hΦ:AllF g w Φ→AllF g w Φ')(hi:isJ s.K=true:=by kernel_rfl)(hj:jK s.K=J:=by kernel_rfl)(hn:s.f.n=n:=by kernel_rfl)(he:e.map (fun p=>lk s.f.z s.f.e p.1)=e.map (·.2):=by kernel_rfl)(hL:Bj (Ay m s.L)=L':=by kernel_rfl):GT P fn R w0 Φ s g w :=
 ⟨fun F C=>qB m (fun z _ K=>hJ k' e L' Φ' g w z hk hI (hΦ F) C K) hi hj hn he hL⟩
def JC(P:Program)(w0:World)(n:Nat)(Inv:List (Nat × Value)→List Sh→List Fa→Prop)(J:Act→World→Prop):Prop:=∀ e' L' Φ' g' w' z',Inv e' L' Φ'→AllF g' w' Φ'→Cg w0.heap.size TQ gS w0 g' w'→Kn w0.heap.size g' w' L'→J (⟨n,e',z'⟩:Fm).act w'
theorem LG{s:Xs}(n:Nat)(Inv:List (Nat × Value)→List Sh→List Fa→Prop)(h1:∀ J,JC P w0 n Inv J→GT P fn R w0 Φ (Vx s J) g w)(h2:∀ e L Φ,Inv e L Φ→∀ z g w,GT P fn R w0 Φ ⟨s.K.tail,⟨n,e,z⟩,L⟩ g w)(hs:s.K.isEmpty=false:=by kernel_rfl):GT P fn R w0 Φ s g w :=
 ⟨fun F C=>BI n (fun g' w' e L=>∃ Ψ,Inv e L Ψ∧AllF g' w' Ψ∧Cg w0.heap.size TQ gS w0 g' w') hs (fun J hJ=>(h1 J fun e' L' Φ' g' w' z' hI F' C' K=>hJ g' w' e' z' L' ⟨Φ',hI,F',C'⟩ K).ex F C) fun g' w' e z L ⟨Ψ,hI,F',C'⟩=>(h2 e L Ψ hI z g' w').ex F' C'⟩
theorem tD{s:Xs}{J:Act→World→Prop}{n:Nat}{Inv:List (Nat × Value)→List Sh→List Fa→Prop}(hJ:JC P w0 n Inv J){e:List (Nat × Value)}(m:List Bool){L':List Sh}{Φ':List Fa}(hI:Inv e L' Φ')(hΦ:AllF g w Φ→AllF g w Φ')(hi:isJ s.K=true:=by kernel_rfl)(hj:jK s.K=J:=by kernel_rfl)(hn:s.f.n=n:=by kernel_rfl)(he:e.map (fun p=>lk s.f.z s.f.e p.1)=e.map (·.2):=by kernel_rfl)(hL:Bj (Ay m s.L)=L':=by kernel_rfl):GT P fn R w0 Φ s g w :=
 ⟨fun F C=>qB m (fun z _ K=>hJ e L' Φ' g w z hI (hΦ F) C K) hi hj hn he hL⟩
theorem Ux{s:Xs}(i j:Nat)(h1:GT P fn R w0 Φ (I6 s i) g w)(h2:GT P fn R w0 Φ (I6 s j) g w)(hb:ZW s i j=true:=by kernel_rfl):GT P fn R w0 Φ s g w:=⟨fun F C=>C1 i j hb (h1.ex F C) (h2.ex F C)⟩
theorem NC{s:Xs}(i:Nat)(r:Nat){x:S3}{xs:List Value}(t ty e:TypeId)(sz bytes:Nat)(z:Value)(a:Addr)(m c:Nat)(news:List Value)(hx:AllF g w Φ→OwnS g w (.n 60 r) true e sz x xs)(Ψ:List Fa)(hΨ:AllF g w Φ→AllF g w Ψ)(hro:Ψ.all (fun f=>f.ro != some r)=true)(hrT:Tg.n 60 r∈TQ)
  (hl:news.length=m*sz)(h1:∀ u∈news,u.oneCell'=true)(hnews:AllF g w Φ→Kn w0.heap.size g w s.L→∀ j u,news[j]?=some u→w.cell? (a.add j)=some u)(h63:x.n+m≤maxLen)(hbytes:(x.n+m)*bytes≤140737488355328)
  (hk:∀ x' g' w',x'.n=x.n+m→GT P fn R w0 (Fa.ow r e sz x' (xs++news)::Ψ) (nxt s i (S3.v x') s.L).s g' w')(hm:0<m:=by decide)(hsz:0<sz:=by decide)
  (ht:P.underlying t=some (.slice e):=by kernel_rfl)(hinfo:(P.info? e).map (fun i=>(i.zero,i.size,i.bytes))=some (some z,sz,bytes):=by kernel_rfl)(hzs:Nat.beq z.cells.size sz=true:=by kernel_rfl)
  (hsem:CP s i=some (Builtin.append_ #[t,t] ty #[x.v,.slice (some a) m c]>>=fun v=>pure (.value v)):=by kernel_rfl)(hob:(nxt s i undef s.L).o.map Ob.l'=(nxt s i undef s.L).o.map Ob.r':=by kernel_rfl)(hT:s.L.all (fun y=>[Tg.n 60 r].all fun t=>y.t.ne t)=true:=by kernel_rfl):GT P fn R w0 Φ s g w:=by
 refine⟨fun F C=>Jn i t ty e sz bytes z a m c news (hx F) hsem hob hT ht hinfo hzs hsz hm hl h1 (hnews F) h63 hbytes fun x' g' w' hO hn hc hG=>?_⟩;refine(hk x' g' w' hn).ex ⟨hO,(hΨ F).ch (hc w0.heap.size [.n 60 r] (List.mem_singleton.2 rfl)) (by simp) fun f hf q hq hm=>?_⟩ (C.trans (hc _ _ hrT));have h2:=List.all_eq_true.1 hro f hf;rw[hq]at h2
 have h3:q=r:=by simpa using hm
 rw[h3]at h2
 simp at h2
end
end Go.Proofs.YtaeckakjdagddadGreatDoor
