/- Part 11 of the walk. -/
import Derived.Laws.Cover3
import Derived.Test.YtalbmmghmoggcabGreatDoorZ8
set_option maxRecDepth 100000
set_option maxHeartbeats 4000000
open Go.Proofs.Tryz
set_option linter.unusedVariables false
namespace Go.Proofs.YtalbmmghmoggcabGreatDoor
open Go.RowKit
section
variable{P:Program}{fn:Func}{R:Ending->World->Prop}{B:Nat}{T:List Tg}{g:Gh}{w:World}
section
def PT:List Kt->Bool|.c (.loop _)::_=>true|_=>false
def dz:List Kt->Code|.c (.loop b)::_=>b|_=>.skip
def isJ:List Kt->Bool|.j _::_=>true|_=>false
def jK:List Kt->Act->World->Prop|.j J::_=>J|_=>λ_ _=>False
def YA(s:Xs)(n:Nat)(J:Act->World->Prop)(e:List (Nat × Value))(z:Nat->Value)(L:List Sh):Xs:=⟨.c (dz s.K)::.j J::s.K.tail,⟨n,e,z⟩,L⟩
variable{s:Xs}
theorem Br(n:Nat)(e0:List (Nat × Value))(m:List Bool)(L0:List Sh)(Inv:Nat->Gh->World->List (Nat × Value)->List Sh->Prop)(hl:PT s.K=true)(hn:s.f.n=n)(he:e0.map (λp=>lk s.f.z s.f.e p.1)=e0.map (·.2))(hL:Bj (AB m s.L)=L0)(k:Nat)(h0:Kn B g w s.L->Inv k g w e0 L0)(round:∀ k g w e z L,Inv k g w e L->∀ J:Act->World->Prop,(∀ k' g' w' e' z' L',k'<k->Inv k' g' w' e' L'->Kn B g' w' L'->J (⟨n,e',z'⟩:Fm).act w')->GG P fn R B T (YA s n J e z L) g w):GG P fn R B T s g w:=by
 refine Ae λhK=>gFm e0 he λz=>?_;obtain⟨K,f,L⟩:=s;simp only at hn;subst hn;have hL':Bj (AB m L)=L0:=hL;have hc:GG P fn R B T ⟨K,⟨f.n,e0,z⟩,Bj (AB m L)⟩ g w->GG P fn R B T ⟨K,⟨f.n,e0,z⟩,L⟩ g w:=λh=>⟨λhK=>h.ex (hK.sub (CF m L)).clr⟩;refine hc ?_;rw[hL'];cases K with
 | nil=>cases hl
 | cons t K =>
  cases t with
  | c x =>
   cases x with
   | loop b=>exact dl Inv (λk g w e z L hI J hJ=>round k g w e z L hI J hJ) (h0 hK)
   | _=>cases hl
  | _=>cases hl
theorem DA(J:Act->World->Prop)(n:Nat)(e:List (Nat × Value))(m:List Bool)(L':List Sh)(hi:isJ s.K=true)(hJ:jK s.K=J)(hn:s.f.n=n)(he:e.map (λp=>lk s.f.z s.f.e p.1)=e.map (·.2))(hL:Bj (AB m s.L)=L')(h:∀ z,Kn B g w s.L->Kn B g w L'->J (⟨n,e,z⟩:Fm).act w):GG P fn R B T s g w:=by
 refine Ae λhK0=>gFm e he λz=>⟨λhK=>?_⟩;obtain⟨K,f,L⟩:=s;simp only at hn hJ hL hi hK0;subst hn;have hK':Kn B g w L':=by rw[<- hL];exact(hK.sub (CF m L)).clr
 cases K with
 | nil=>cases hi
 | cons t K =>
  cases t with
  | j J'=>simp only[jK]at hJ;rw[hJ];exact h z hK0 hK'
  | _=>cases hi
def Iu(s:Xs)(i:Nat):Xs:=match s.K with|.x ops (u+1) Ld e L0::K=>⟨.y ops u Ld e L0 i::K,s.f,s.L⟩|_=>s
def YV(s:Xs)(i j:Nat):Bool:=match s.K with|.x ops (_+1) Ld _ _::_=>(match Region.ready .any ops Ld with|[k,l]=>Nat.beq k i&&Nat.beq l j|_=>false)|_=>false
theorem Cu(i j:Nat)(hb:YV s i j=true)(h1:GG P fn R B T (Iu s i) g w)(h2:GG P fn R B T (Iu s j) g w):GG P fn R B T s g w:=by
 refine⟨λhK=>?_⟩;obtain⟨K,f,L⟩:=s;have e1:=h1.ex;have e2:=h2.ex;unfold Iu at e1 e2;unfold YV at hb;cases K with
 | nil=>cases hb
 | cons t K =>
  cases t with
  | x ops u Ld e L0 =>
   cases u with
   | zero=>cases hb
   | succ u =>
    simp only at e1 e2 hb;have hr:Region.ready .any ops Ld=[i,j]:=by
     split at hb
     .rename_i k l hk
      simp only[fE]at hb;rw[hk,fH hb.1,fH hb.2]
     .cases hb
    exact fs hr (e1 hK) (e2 hK)
  | _=>cases hb
def U8(s:Xs)(J:Act->World->Prop):Xs:=match s.K with|t::K=>⟨t::.j J::K,s.f,s.L⟩|[]=>s
theorem Dl(Q:Exit->Act->World->Prop):Exit.then (Q .normal) Q=Q:=by
 funext e a w
 cases e<;>rfl
theorem BG(n:Nat)(Inv:Gh->World->List (Nat × Value)->List Sh->Prop)(hs:s.K.isEmpty=false)(h1:∀ J:Act->World->Prop,(∀ g' w' e z L,Inv g' w' e L->Kn B g' w' L->J (⟨n,e,z⟩:Fm).act w')->GG P fn R B T (U8 s J) g w)(h2:∀ g' w' e z L,Inv g' w' e L->GG P fn R B T ⟨s.K.tail,⟨n,e,z⟩,L⟩ g' w'):GG P fn R B T s g w:=by
 obtain⟨K,f,L⟩:=s;cases K with
 | nil=>cases hs
 | cons t K =>
  have h3:=h1 (Kq P (bodyPost P fn R) K .normal) (λg' w' e z L hI hK=>(h2 g' w' e z L hI).ex hK);refine⟨λhK=>?_⟩;have h4:=h3.ex hK;unfold U8 at h4;simp only at h4;cases t with
  | c x=>simp only[Kq,Dl]at h4 ⊢;exact h4
  | b id=>simp only[Kq,Dl]at h4 ⊢;exact h4
  | o ops is=>simp only[Kq,Dl]at h4 ⊢;exact h4
  | x ops m Ld e L0=>simp only[Kq,Dl]at h4 ⊢;exact h4
  | y ops m Ld e L0 i=>simp only[Kq,Dl]at h4 ⊢;exact h4
  | j J=>simp only[Kq,Dl]at h4 ⊢;exact h4
def zL(L:List Sh)(k:Nat):List Sh:=L.set k { L.getD k default with t:=.z,w:=false }
theorem dp(k:Nat)(b:Nat)(hk:(Bj s.L)[k]?.map (λx=>(x.g,x.t))=some (b,.l))(h:∀ g',Cg B [] g w g' w->GG P fn R B T ⟨s.K,s.f,zL (Bj s.L) k⟩ g' w):GG P fn R B T s g w:=by
 refine⟨λhK0=>?_⟩;have hK:=hK0.clr;generalize hL:Bj s.L=L at *;have hwf:∀ x∈L,x.w=false:=λx hx=>by rw[<- hL]at hx;obtain⟨y,_,rfl⟩:=fS.1 hx;rfl
 have hkl:k<L.length:=by
  cases hx:L[k]? with
  | none=>rw[hx]at hk;cases hk
  | some x=>exact(P'.1 hx).1
 have hg:L.getD k default=L[k]:=by rw[fY,E' hkl];rfl
 rw[E' hkl]at hk
 simp only[gb,U',gc]at hk;obtain⟨hb,ht⟩:=hk;have hrow:=hK.row _ (fU hkl);have hd:∀ n (hn:n<L.length),n≠k->L[n].g≠b:=λn hn hne he=>by
  have:=hK.two hn hkl hne (by rw[hb];exact he);rw[ht]at this
  cases this.2.1
 let g':Gh:=⟨λc=>if c=b then .z else g.t c,g.k⟩
 have hgt:g.t b=.l:=by rw[<- hb,hrow.2.1];exact ht
 have hBb:B<=b:=by rw[<- hb];exact hrow.2.2.1 ht
 refine(h g' ⟨rfl,rfl,rfl,A' _,λc hc=>?_,λ_ _=>A' _,λ_ _ _ _=>rfl,λ_ _ _ _=>rfl,λ_ _ _ _=>rfl⟩).ex ⟨λx hx=>?_,?_,λc hc=>?_,hK.base⟩
 .show(if c=b then _ else _)=_\/(_/\_/\(if c=b then _ else _)=_);by_cases he:c=b
  .subst he;right;exact⟨hgt,hBb,if_pos rfl⟩
  .left;exact if_neg he
 .unfold zL at hx;simp only at hx;rw[hg]at hx
  obtain⟨n,hn,rfl⟩:=ij hx;have hn':n<L.length:=by simpa using hn
  rw[gQ];split
  .refine⟨hrow.1,?_,λh=>(by cases h),λh=>absurd rfl h⟩;show(if L[k].g=b then _ else _)=_;rw[if_pos hb]
  .rename_i hne
   have h1:=hK.row _ (fU hn');refine⟨h1.1,?_,h1.2.2⟩;show(if L[n].g=b then _ else _)=_;rw[if_neg (hd n hn' (λh=>hne h.symm))];exact h1.2.1
 .show(zL L k).Pairwise _;unfold zL;rw[hg,gJ];intro i j hi hj hij he;have hi':i<L.length:=by simpa using hi
  have hj':j<L.length:=by simpa using hj
  rw[gQ,gQ]at he ⊢
  by_cases h1:k=i
  .rw[if_pos h1]at he ⊢
   rw[if_neg (by omega)]at he ⊢
   exact absurd he.symm (by show L[j].g≠L[k].g;rw[hb];exact hd j hj' (by omega))
  .rw[if_neg h1]at he ⊢
   by_cases h2:k=j
   .rw[if_pos h2]at he ⊢
    exact absurd he (by show L[i].g≠L[k].g;rw[hb];exact hd i hi' (by omega))
   .rw[if_neg h2]at he ⊢
    exact hK.two hi' hj' (by omega) he
 .have:=hK.new c hc;show(if c=b then _ else _)=_/\_;refine⟨?_,this.2⟩;split
  .rfl
  .exact this.1
end
end
def gS:Gh:=⟨λ_=>.z,λ_=>0⟩
section
variable{P:Program}{fn:Func}{R:Ending->World->Prop}{B:Nat}{T:List Tg}{g:Gh}{w:World}
def eu(s:Xs)(i j l:Nat):Bool:=match s.K with|.x ops (_+1) Ld _ _::_=>(match Region.ready .any ops Ld with|[a,b,c]=>Nat.beq a i&&(Nat.beq b j&&Nat.beq c l)|_=>false)|_=>false
theorem UX{s:Xs}(i j l:Nat)(hb:eu s i j l=true)(h1:GG P fn R B T (Iu s i) g w)(h2:GG P fn R B T (Iu s j) g w)(h3:GG P fn R B T (Iu s l) g w):GG P fn R B T s g w:=by
 refine⟨λhK=>?_⟩;obtain⟨K,f,L⟩:=s;have e1:=h1.ex;have e2:=h2.ex;have e3:=h3.ex;unfold Iu at e1 e2 e3;unfold eu at hb;cases K with
 | nil=>cases hb
 | cons t K =>
  cases t with
  | x ops u Ld e L0 =>
   cases u with
   | zero=>cases hb
   | succ u =>
    simp only at e1 e2 e3 hb;have hr:Region.ready .any ops Ld=[i,j,l]:=by
     split at hb
     .rename_i a b c hk
      simp only[fE]at hb;rw[hk,fH hb.1,fH hb.2.1,fH hb.2.2]
     .cases hb
    refine⟨λh0=>absurd (hr▸h0) (by simp),hr▸(λq hq=>?_)⟩;rcases(show q=i\/q=j\/q=l by simpa using hq)with rfl|rfl|rfl
    .exact e1 hK
    .exact e2 hK
    .exact e3 hK
  | _=>cases hb
def RH:List Sh->List Sh
 | [a,b]=>[b,a]
 | a::l=>a::RH l
 | []=>[]
theorem Gv:∀ L:List Sh,(RH L).Perm L
 | []=>.refl _
 | [a]=>by simp[RH]
 | [a,b]=>.swap _ _ _
 | a::b::c::l=>(Gv (b::c::l)).cons a
theorem Lz{s:Xs}(h:GG P fn R B T ⟨s.K,s.f,RH s.L⟩ g w):GG P fn R B T s g w:=by
 refine⟨λhK=>h.ex ⟨λx hx=>hK.row x ((Gv s.L).mem_iff.1 hx),?_,hK.new,hK.base⟩⟩;refine(Gv s.L).symm.pairwise hK.nod ?_;intro x y hxy e;have:=hxy e.symm;exact⟨this.2,this.1⟩
theorem eN{s:Xs}{r i:Nat}{e:TypeId}{sz:Nat}{x:S3}{xs:List Value}(hO:OwnS g w (.n r i) false e sz x xs)(hT:s.L.all (λy=>y.t.ne (.n r i))=true)(h:∀ g',Cg B [.n r i] g w g' w->OwnS g' w (.n r i) true e sz x xs->GG P fn R B T s g' w):GG P fn R B T s g w:=by
 refine⟨λhK=>?_⟩;rcases hO.ex with h1|⟨b,cur,h1,h2,h3,h4,h5,h6,h7,h8⟩
 .exact(h g (Cg.refl _ _ _ _) ⟨hO.len,.inl h1⟩).ex hK
 .have h80:g.k b=0:=h8;have hlt:b<w.heap.size:=(G'.1 h2).1;refine(h (dk g b xs.length) ⟨rfl,rfl,rfl,A' _,λ_ _=>.inl rfl,λd hd=>?_,λd hd hd1 _=>if_neg (λe=>hd1 (by rw[e,h7];exact O'.2 rfl)),λ_ _ _ _=>rfl,λ_ _ _ _=>rfl⟩ ⟨hO.len,.inr ⟨b,cur,h1,h2,h3,h4,h5,h6,h7,if_pos rfl⟩⟩).ex ⟨λy hy=>?_,hK.nod,λd hd=>?_,hK.base⟩
  .show g.k d<=(if d=b then _ else g.k d);split
   .rename_i e;rw[e,h80];exact fP _
   .exact A' _
  .obtain⟨k1,k2,k3,k4⟩:=hK.row y hy;refine⟨k1,k2,k3,λhz=>?_⟩;show(if y.g=b then _ else g.k y.g)=0;rw[if_neg (λe=>Tg.ne_ne (gn.1 hT y hy) (by rw[<- k2,e,h7]))];exact k4 hz
  .have:=hK.new d hd;refine⟨this.1,?_⟩;show(if d=b then _ else g.k d)=0;rw[if_neg (by omega)];exact this.2
end
theorem Uo{P:Program}{s:Xs}{i':Nat}{S:Sem Value}{v:Value}{W:World}(h:CK s i'=some (S>>=λv=>pure (.value v)))(hr:S.run P W=.ok v W):CA P s i' W=some (.ok (.value v) W):=by
 unfold CA;unfold CK at h;cases hx:opN s i' with
 | none=>rw[hx]at h;cases h
 | some x =>
  rw[hx]at h
  simp only[gb,U']at h ⊢;rw[h,Sem.run_bind,hr,Result.andThen_ok];rfl
section
variable{P:Program}{W:World}
section
theorem dN(ts:Array TypeId)(t:TypeId)(a b:Int):(Builtin.max_ ts t #[iv a,iv b]).run P W=.ok (iv (max a b)) W:=by
 rw[run_max_int2]
 congr 2
 rw[Int.max_def];by_cases h:a<b
 .rw[if_pos h,if_pos (by omega)]
 .rw[if_neg h];by_cases h2:a<=b
  .rw[if_pos h2];omega
  .rw[if_neg h2]
theorem bI(ts:Array TypeId)(t:TypeId)(a b:Int):(Builtin.min_ ts t #[iv a,iv b]).run P W=.ok (iv (min a b)) W:=by
 rw[run_min_int2]
 congr 2
 rw[Int.min_def];by_cases h:b<a
 .rw[if_pos h,if_neg (by omega)]
 .rw[if_neg h,if_pos (by omega)]
variable{t:TypeId}{x y:Operand}
theorem AK(a b:Int)(hk:P.underlying t=some (.int .i64))(h:-9223372036854775808<=a+b/\a+b<=9223372036854775807):(do Go.eqGuard .add t x y (iv a) (iv b);Go.binOp .add t (iv a) (iv b):Sem Value).run P W=.ok (iv (a+b)) W:=by
 have hw:IntKind.i64.wrap (a+b)=a+b:=by rw[IntKind.wrap_i64];omega
 simp[Go.eqGuard,Go.binOp,go_sem,hw]
theorem ea(a b:Int)(hk:P.underlying t=some (.int .i64))(h:-9223372036854775808<=a-b/\a-b<=9223372036854775807):(do Go.eqGuard .sub t x y (iv a) (iv b);Go.binOp .sub t (iv a) (iv b):Sem Value).run P W=.ok (iv (a-b)) W:=by
 have hw:IntKind.i64.wrap (a-b)=a-b:=by rw[IntKind.wrap_i64];omega
 simp[Go.eqGuard,Go.binOp,go_sem,hw]
end
end
section
theorem Ra(a b:Bal):decide (a.r=b.r/\a.n=b.n)=decide (a=b):=gE.2 (Bal.eq_iff a b)
variable{W:World}{x y:Operand}
theorem eS(a b:Bal):(do Go.eqGuard .eql 73 x y (.agg #[iv a.r,iv a.n]) (.agg #[iv b.r,iv b.n]);Go.binOp .eql 73 (.agg #[iv a.r,iv a.n]) (.agg #[iv b.r,iv b.n]):Sem Value).run prog W=.ok (.bool (decide (a=b))) W:=by
 have h1:=XC a.r a.n b.r b.n W;rw[Ra]at h1
 have hg:(Go.eqGuard .eql 73 x y (.agg #[iv a.r,iv a.n]) (.agg #[iv b.r,iv b.n])).run prog W=.ok () W:=by kernel_rfl
 rw[Sem.run_bind,hg,Result.andThen_ok];exact h1
theorem aY(a b a' b':Int):∀ w,(binOp .neq 73 (.agg #[.int .i64 a,.int .i64 b]) (.agg #[.int .i64 a',.int .i64 b'])).run prog w=.ok (.bool (!decide (a=a'/\b=b'))) w:=by
 intro w;rw[run_neq_struct,run_equalIn_agg w 9999 _ _ _ (by kernel_rfl) (by kernel_rfl)];unfold Program.fieldsOf;rw[underlying73];have h3:=underlying3;simp[Op.eqFields,go_sem,h3]
 repeat' split
 all_goals simp_all
theorem dO(a b:Bal):(do Go.eqGuard .neq 73 x y (.agg #[iv a.r,iv a.n]) (.agg #[iv b.r,iv b.n]);Go.binOp .neq 73 (.agg #[iv a.r,iv a.n]) (.agg #[iv b.r,iv b.n]):Sem Value).run prog W=.ok (.bool (!decide (a=b))) W:=by
 have h1:=aY a.r a.n b.r b.n W;rw[Ra]at h1
 have hg:(Go.eqGuard .neq 73 x y (.agg #[iv a.r,iv a.n]) (.agg #[iv b.r,iv b.n])).run prog W=.ok () W:=by kernel_rfl
 rw[Sem.run_bind,hg,Result.andThen_ok];exact h1
theorem Rg(a b:Cmd):decide (a.k=b.k/\a.c=b.c/\a.s=b.s/\a.n=b.n/\a.v=b.v)=decide (a=b):=gE.2 (Cmd.eq_iff a b)
theorem eT(a b:Cmd):(do Go.eqGuard .eql 53 x y (.agg #[iv a.k,iv a.c,iv a.s,iv a.n,iv a.v]) (.agg #[iv b.k,iv b.c,iv b.s,iv b.n,iv b.v]);Go.binOp .eql 53 (.agg #[iv a.k,iv a.c,iv a.s,iv a.n,iv a.v]) (.agg #[iv b.k,iv b.c,iv b.s,iv b.n,iv b.v]):Sem Value).run prog W=.ok (.bool (decide (a=b))) W:=by
 have h1:=Rl a.k a.c a.s a.n a.v b.k b.c b.s b.n b.v W;rw[Rg]at h1
 have hg:(Go.eqGuard .eql 53 x y (.agg #[iv a.k,iv a.c,iv a.s,iv a.n,iv a.v]) (.agg #[iv b.k,iv b.c,iv b.s,iv b.n,iv b.v])).run prog W=.ok () W:=by kernel_rfl
 rw[Sem.run_bind,hg,Result.andThen_ok];exact h1
theorem LR(a b:Bal)(h:a≠b):(do Go.eqGuard .neq 73 x y (.agg #[iv a.r,iv a.n]) (.agg #[iv b.r,iv b.n]);Go.binOp .neq 73 (.agg #[iv a.r,iv a.n]) (.agg #[iv b.r,iv b.n]):Sem Value).run prog W=.ok (.bool true) W:=by rw[dO,D' h];rfl
theorem LQ(a b:Bal)(h:a=b):(do Go.eqGuard .neq 73 x y (.agg #[iv a.r,iv a.n]) (.agg #[iv b.r,iv b.n]);Go.binOp .neq 73 (.agg #[iv a.r,iv a.n]) (.agg #[iv b.r,iv b.n]):Sem Value).run prog W=.ok (.bool false) W:=by rw[dO,I' h];rfl
theorem five{j:Nat}(h:j<5):j=0\/j=1\/j=2\/j=3\/j=4:=by omega
theorem Fr:∀ ts:List Tol,(ts.flatMap EE).length=ts.length*5
 | []=>rfl
 | t::r=>by rw[hY,N',Fr r,fR];show 5+_=_;omega
end
section
variable{P:Program}{fn:Func}{R:Ending->World->Prop}{B:Nat}{T:List Tg}{g:Gh}{w:World}
section
variable{B' i nb ob:Nat}{C:Ending->World->Prop}{L:List Sh}{S:Sem Value}{T':List Tg}{av:Array Value}{f:FuncId}{g0:Gh}{ls:List Let}{lt tl:S3}{p p0:Nod}{s:Xs}{ts:List Tol}{v:Value}{w0:World}{x x0:NX}
theorem qR(T':List Tg)(m:Nat)(h:List Nat)(hk:∀ gs g' w',Cg B T' g w g' w'->GG P fn R B T (rn0 P T' gs m s h).s g' w')(hob:∀ gs,(rn0 P T' gs m s h).o.map Ob.l'=(rn0 P T' gs m s h).o.map Ob.r':=by intro _;kernel_rfl):GG P fn R B T s g w:=XL T' m h hob hk
theorem qV(i:Nat)(v:Value)(hr:S.run P w=.ok v w)(hk:GG P fn R B T (nxt s i v s.L).s g w)(hs:CK s i=some (S>>=λv=>pure (.value v)):=by kernel_rfl)(hob:(nxt s i undef s.L).o.map Ob.l'=(nxt s i undef s.L).o.map Ob.r':=by kernel_rfl):GG P fn R B T s g w:=XM i v (λ_=>Uo hs hr) hob hk
theorem qT(i:Nat)(v:Value)(hr:∀ W,S.run P W=.ok v W)(hk:GG P fn R B T (tkN s i v false).s g w)(hs:CK s i=some (S>>=λv=>pure (.value v)):=by kernel_rfl)(hob:(tkN s i undef false).o.map Ob.l'=(tkN s i undef false).o.map Ob.r':=by kernel_rfl):GG P fn R B T s g w:=NJ i v false (λW _=>Uo hs (hr W)) hob hk
theorem qU(i:Nat)(v:Value)(hr:∀ W,(true=true->AJ (Wk s) W)->S.run P W=.ok v W)(hk:GG P fn R B T (tkN s i v true).s g w)(hs:CK s i=some (S>>=λv=>pure (.value v)):=by kernel_rfl)(hob:(tkN s i undef true).o.map Ob.l'=(tkN s i undef true).o.map Ob.r':=by kernel_rfl):GG P fn R B T s g w:=NJ i v true (λW h=>Uo hs (hr W h)) hob hk
theorem qI(b t:Bool)(hb:b=t)(h:GG P fn R B T (JG s t) g w)(hc:Nt s=.bool b:=by kernel_rfl):GG P fn R B T s g w:=gIf b t hb hc h
theorem qC(i:Nat)(hc:Calls P f av w C)(hk:∀ e w',C e w'->∃ v,e=.returned v/\Bw w w'/\GG P fn R B T (nxt s i v s.L).s g w')(hr:∀ W,CA P s i W=some (.ok (.enter f av) W):=by intro _;kernel_rfl)(hd:KT s i=true:=by kernel_rfl)(hob:(nxt s i undef s.L).o.map Ob.l'=(nxt s i undef s.L).o.map Ob.r':=by kernel_rfl):GG P fn R B T s g w:=aH i f av hr hd hob hc hk
theorem qG(i:Nat)(T':List Tg)(m:List Bool)(hc:Calls P f av w C)(hk:∀ e w',C e w'->∃ v g',e=.returned v/\Cg w.heap.size T' g w g' w'/\(∀ b,w'.heap.size<=b->g'.t b=.z/\g'.k b=0)/\GG P fn R B T (nxt s i v (AB m s.L)).s g' w')(hr:∀ W,CA P s i W=some (.ok (.enter f av) W):=by intro _;kernel_rfl)(hd:KT s i=true:=by kernel_rfl)(hob:(nxt s i undef (AB m s.L)).o.map Ob.l'=(nxt s i undef (AB m s.L)).o.map Ob.r':=by kernel_rfl)(hT:(AB m s.L).all (λx=>T'.all λt=>x.t.ne t)=true:=by kernel_rfl):GG P fn R B T s g w:=PI i f av T' m hr hd hob hT hc hk
theorem qE(v:Value)(h:Kn B g w s.L->R (.returned v) w)(hr:Kn B g w s.L->(results fn s.f.act.tmps).run P w=.ok v w:=by intro _;kernel_rfl)(hs:KU s.K=true:=by kernel_rfl):GG P fn R B T s g w:=S6 v hs hr h
theorem qB{J:Act->World->Prop}{n:Nat}{e:List (Nat × Value)}(m:List Bool){L':List Sh}(h:∀ z,Kn B g w s.L->Kn B g w L'->J (⟨n,e,z⟩:Fm).act w)(hi:isJ s.K=true:=by kernel_rfl)(hJ:jK s.K=J:=by kernel_rfl)(hn:s.f.n=n:=by kernel_rfl)(he:e.map (λp=>lk s.f.z s.f.e p.1)=e.map (·.2):=by kernel_rfl)(hL:Bj (AB m s.L)=L':=by kernel_rfl):GG P fn R B T s g w:=DA J n e m L' hi hJ hn he hL h
theorem Kn.cel(h:Kn B g w L){b:Nat}{cs:Array Value}(hx:(L[i]?).map (λx=>(x.g,Ch x.o,Dx x.o))=some (b,cs,true)):∃ e,w.heap[b]?=some (.cells cs e (0,0)):=by
 cases hi:L[i]? with
 | none=>rw[hi]at hx;cases hx
 | some x =>
  rw[hi]at hx
  have h1:=(h.row x (fQ hi)).1;obtain⟨xg,xo,xt,xw⟩:=x;simp only[gb,U',gc]at hx h1;obtain⟨rfl,rfl,hp⟩:=hx;rw[h1];unfold Dx at hp;split at hp
  .exact⟨_,rfl⟩
  .cases hp
theorem Gs{ty:TypeId}(h:Fl P ty=true):∃ d,P.underlying ty=some d/\d.isRow=true:=by
 unfold Fl at h;split at h
 .rename_i d hd
  exact⟨d,hd,h⟩
 .cases h
theorem qE1(p:Tmp)(ty:TypeId)(i b:Nat)(cs:Array Value)(h:Kn B g w s.L->R (.returned (.agg cs)) w)(hx:(s.L[i]?).map (λx=>(x.g,Ch x.o,Dx x.o))=some (b,cs,true):=by kernel_rfl)(hf:fn.results=#[.cell p ty]:=by kernel_rfl)(hp:s.f.act.tmps.getD p undef=pt b 0:=by kernel_rfl)(hu:Fl P ty=true:=by kernel_rfl)(hi:(P.info? ty).map (·.size)=some cs.size:=by kernel_rfl)(hs:KU s.K=true:=by kernel_rfl):GG P fn R B T s g w :=
 S6 _ hs (λK=>let ⟨e,he⟩:=K.cel hx;let ⟨d,h1,h2⟩:=Gs hu;WG hf _ _ b e cs (0,0) d hp he h1 (by cases d<;>first|rfl|cases h2) hi) h
theorem qE2(p u:Tmp)(ty:TypeId)(i b:Nat)(cs:Array Value)(v:Value)(h:Kn B g w s.L->R (.returned (.tuple #[.agg cs,v])) w)(hx:(s.L[i]?).map (λx=>(x.g,Ch x.o,Dx x.o))=some (b,cs,true):=by kernel_rfl)(hf:fn.results=#[.cell p ty,.tmp u]:=by kernel_rfl)(hp:s.f.act.tmps.getD p undef=pt b 0:=by kernel_rfl)(hv:s.f.act.tmps.getD u undef=v:=by kernel_rfl)(hu:Fl P ty=true:=by kernel_rfl)(hi:(P.info? ty).map (·.size)=some cs.size:=by kernel_rfl)(hs:KU s.K=true:=by kernel_rfl):GG P fn R B T s g w :=
 S6 _ hs (λK=>let ⟨e,he⟩:=K.cel hx;let ⟨d,h1,h2⟩:=Gs hu;by rw[<- hv];exact RI hf _ _ b e cs (0,0) d hp he h1 (by cases d<;>first|rfl|cases h2) hi) h
theorem qE3(p u u':Tmp)(ty:TypeId)(i b:Nat)(cs:Array Value)(v v':Value)(h:Kn B g w s.L->R (.returned (.tuple #[.agg cs,v,v'])) w)(hx:(s.L[i]?).map (λx=>(x.g,Ch x.o,Dx x.o))=some (b,cs,true):=by kernel_rfl)(hf:fn.results=#[.cell p ty,.tmp u,.tmp u']:=by kernel_rfl)(hp:s.f.act.tmps.getD p undef=pt b 0:=by kernel_rfl)(hv:s.f.act.tmps.getD u undef=v:=by kernel_rfl)(hv':s.f.act.tmps.getD u' undef=v':=by kernel_rfl)(hu:Fl P ty=true:=by kernel_rfl)(hi:(P.info? ty).map (·.size)=some cs.size:=by kernel_rfl)(hs:KU s.K=true:=by kernel_rfl):GG P fn R B T s g w :=
 S6 _ hs (λK=>let ⟨e,he⟩:=K.cel hx;let ⟨d,h1,h2⟩:=Gs hu;by rw[<- hv,<- hv'];exact ID hf _ _ b e cs (0,0) d hp he h1 (by cases d<;>first|rfl|cases h2) hi) h
theorem qE4(p p':Tmp)(ty ty':TypeId)(i b j b':Nat)(cs cs':Array Value)(h:Kn B g w s.L->R (.returned (.tuple #[.agg cs,.agg cs'])) w)(hx:(s.L[i]?).map (λx=>(x.g,Ch x.o,Dx x.o))=some (b,cs,true):=by kernel_rfl)(hx':(s.L[j]?).map (λx=>(x.g,Ch x.o,Dx x.o))=some (b',cs',true):=by kernel_rfl)(hf:fn.results=#[.cell p ty,.cell p' ty']:=by kernel_rfl)(hp:s.f.act.tmps.getD p undef=pt b 0:=by kernel_rfl)(hp':s.f.act.tmps.getD p' undef=pt b' 0:=by kernel_rfl)(hu:Fl P ty=true:=by kernel_rfl)(hu':Fl P ty'=true:=by kernel_rfl)(hi:(P.info? ty).map (·.size)=some cs.size:=by kernel_rfl)(hi':(P.info? ty').map (·.size)=some cs'.size:=by kernel_rfl)(hs:KU s.K=true:=by kernel_rfl):GG P fn R B T s g w :=
 S6 _ hs (λK=>let ⟨e,he⟩:=K.cel hx;let ⟨e',he'⟩:=K.cel hx';let ⟨d,h1,h2⟩:=Gs hu;let ⟨d',h3,h4⟩:=Gs hu';db hf _ _ b b' e e' cs cs' (0,0) (0,0) d d' hp he h1 (by cases d<;>first|rfl|cases h2) hi hp' he' h3 (by cases d'<;>first|rfl|cases h4) hi') h
theorem qE5(p p' u:Tmp)(ty ty':TypeId)(i b j b':Nat)(cs cs':Array Value)(v:Value)(h:Kn B g w s.L->R (.returned (.tuple #[.agg cs,.agg cs',v])) w)(hx:(s.L[i]?).map (λx=>(x.g,Ch x.o,Dx x.o))=some (b,cs,true):=by kernel_rfl)(hx':(s.L[j]?).map (λx=>(x.g,Ch x.o,Dx x.o))=some (b',cs',true):=by kernel_rfl)(hf:fn.results=#[.cell p ty,.cell p' ty',.tmp u]:=by kernel_rfl)(hp:s.f.act.tmps.getD p undef=pt b 0:=by kernel_rfl)(hp':s.f.act.tmps.getD p' undef=pt b' 0:=by kernel_rfl)(hv:s.f.act.tmps.getD u undef=v:=by kernel_rfl)(hu:Fl P ty=true:=by kernel_rfl)(hu':Fl P ty'=true:=by kernel_rfl)(hi:(P.info? ty).map (·.size)=some cs.size:=by kernel_rfl)(hi':(P.info? ty').map (·.size)=some cs'.size:=by kernel_rfl)(hs:KU s.K=true:=by kernel_rfl):GG P fn R B T s g w :=
 S6 _ hs (λK=>let ⟨e,he⟩:=K.cel hx;let ⟨e',he'⟩:=K.cel hx';let ⟨d,h1,h2⟩:=Gs hu;let ⟨d',h3,h4⟩:=Gs hu';by rw[<- hv];exact dc hf _ _ b b' e e' cs cs' (0,0) (0,0) d d' hp he h1 (by cases d<;>first|rfl|cases h2) hi hp' he' h3 (by cases d'<;>first|rfl|cases h4) hi') h
theorem qN(h:NodeAt g w i nb ob x p)(hk:GG P fn R B T ⟨s.K,s.f,Bj s.L++[⟨nb,.cells (Ax i ob p x) 95,.n 0 i,false⟩]⟩ g w)(hT:s.L.all (λy=>(Tg.n 0 i).ne y.t)=true:=by kernel_rfl):GG P fn R B T s g w:=GD nb _ 0 i h.row h.tag h.kap hT hk
theorem qO(h:OutAt g w ob lt tl ls ts)(hk:GG P fn R B T ⟨s.K,s.f,Bj s.L++[⟨ob,.cells #[lt.v,tl.v] 65,.n 50 0,false⟩]⟩ g w)(hT:s.L.all (λy=>(Tg.n 50 0).ne y.t)=true:=by kernel_rfl):GG P fn R B T s g w:=GD ob _ 50 0 h.row h.tag h.kap hT hk
theorem qS0(n:Nat)(m:List Bool)(hc:Calls P f av w (NP i nb ob g w v p ls ts))(hk:∀ g' w' x lt tl,NodeAt g' w' i nb ob x p->OutAt g' w' ob lt tl ls ts->Cg B (TN i) g w g' w'->GG P fn R B T ⟨(nxt s n v (AB m s.L)).s.K,(nxt s n v (AB m s.L)).s.f,Bj (Bj (nxt s n v (AB m s.L)).s.L++[⟨nb,.cells (Ax i ob p x) 95,.n 0 i,false⟩])++[⟨ob,.cells #[lt.v,tl.v] 65,.n 50 0,false⟩]⟩ g' w')(hr:∀ W,CA P s n W=some (.ok (.enter f av) W):=by intro _;kernel_rfl)(hd:KT s n=true:=by kernel_rfl)(hob:(nxt s n undef (AB m s.L)).o.map Ob.l'=(nxt s n undef (AB m s.L)).o.map Ob.r':=by kernel_rfl)(hT:(AB m s.L).all (λx=>(TN i).all λt=>x.t.ne t)=true:=by kernel_rfl)(hT1:(nxt s n v (AB m s.L)).s.L.all (λy=>(Tg.n 0 i).ne y.t)=true:=by kernel_rfl)(hT2:∀ x:NX,(Bj (nxt s n v (AB m s.L)).s.L++[(⟨nb,.cells (Ax i ob p x) 95,.n 0 i,false⟩:Sh)]).all (λy=>(Tg.n 50 0).ne y.t)=true:=by intro _;kernel_rfl):GG P fn R B T s g w :=
 qG n (TN i) m hc (λ_ w' ⟨g',e,M,c⟩=>⟨v,g',e,c,M.new,let ⟨x,lt,tl,hN,hO,_⟩:=M;qN hN (qO hO (hk g' w' x lt tl hN hO c.ret) (hT2 x)) hT1⟩) hr hd hob hT
theorem qS(n:Nat)(m:List Bool){lt0 tl0:S3}{ls0:List Let}{ts0:List Tol}(hN:NodeAt g0 w0 i nb ob x0 p0)(hO:OutAt g0 w0 ob lt0 tl0 ls0 ts0)(C:Cg B' T' g0 w0 g w)(hc:NS i nb ob g w p0 ls0 ts0->Calls P f av w (NP i nb ob g w v p ls ts))(hk:∀ g' w' x lt tl,NodeAt g' w' i nb ob x p->OutAt g' w' ob lt tl ls ts->Cg B (TN i) g w g' w'->GG P fn R B T ⟨(nxt s n v (AB m s.L)).s.K,(nxt s n v (AB m s.L)).s.f,Bj (Bj (nxt s n v (AB m s.L)).s.L++[⟨nb,.cells (Ax i ob p x) 95,.n 0 i,false⟩])++[⟨ob,.cells #[lt.v,tl.v] 65,.n 50 0,false⟩]⟩ g' w')(hz:Tg.z∉T':=by simp)(hn:∀ r,r<6->Tg.n r i∉T':=by simp)(ho:∀ r,50<=r->Tg.n r 0∉T':=by simp)(hr:∀ W,CA P s n W=some (.ok (.enter f av) W):=by intro _;kernel_rfl)(hd:KT s n=true:=by kernel_rfl)(hob:(nxt s n undef (AB m s.L)).o.map Ob.l'=(nxt s n undef (AB m s.L)).o.map Ob.r':=by kernel_rfl)(hT:(AB m s.L).all (λx=>(TN i).all λt=>x.t.ne t)=true:=by kernel_rfl)(hT1:(nxt s n v (AB m s.L)).s.L.all (λy=>(Tg.n 0 i).ne y.t)=true:=by kernel_rfl)(hT2:∀ x:NX,(Bj (nxt s n v (AB m s.L)).s.L++[(⟨nb,.cells (Ax i ob p x) 95,.n 0 i,false⟩:Sh)]).all (λy=>(Tg.n 50 0).ne y.t)=true:=by intro _;kernel_rfl):GG P fn R B T s g w :=
 Ae λK=>qS0 n m (hc (nsC hN hO C K hz hn ho)) hk hr hd hob hT hT1 hT2
theorem qF{g1:Gh}{w1:World}(hN:NodeAt g1 w1 i nb ob x p)(hO:OutAt g1 w1 ob lt tl ls ts)(c:Cg B' T' g1 w1 g w)(C:Cg w0.heap.size (TN i) g0 w0 g w)(hz:Tg.z∉T':=by simp)(hn:∀ r,r<6->Tg.n r i∉T':=by simp)(ho:∀ r,50<=r->Tg.n r 0∉T':=by simp)(hr:Kn w0.heap.size g w s.L->(results fn s.f.act.tmps).run P w=.ok v w:=by intro _;kernel_rfl)(hs:KU s.K=true:=by kernel_rfl):GG P fn (NP i nb ob g0 w0 v p ls ts) w0.heap.size T s g w :=
 qE v (λK=>⟨_,rfl,nsC hN hO c K hz hn ho,C⟩) hr hs
theorem Kn.nd(h:Kn B g w L)(k:Nat)(f1:FSl g w x.tape p.d)(f2:FSv g w x.votes p.vo.vs)(f3:∀ j,j<5->FSv g w (x.hv j) (p.rnd.heard j).vs)(f4:∃ vs,OwnS g w (.n 1 i) true 1 1 x.synced vs/\Pends g w nb vs p.pend)(f5:OwnS g w (.n 2 i) false 53 5 x.queue (cmL p.rnd.queue))(f6:OwnS g w (.n 3 i) true 53 5 x.agreed (cmL p.agreed))(f7:OwnS g w (.n 4 i) false 53 5 x.wants (cmL p.wants))(f8:TV g w i p.asked x.asked)(f9:p.up=true->∃ b,x.asked=some b)(hx:L[k]?=some ⟨nb,.cells (Ax i ob p x) 95,.n 0 i,false⟩:=by kernel_rfl):NodeAt g w i nb ob x p :=
 have q:=h.isN k nb _ 0 i hx
 ⟨q.1,q.2.1,q.2.2,f1,f2,f3,f4,f5,f6,f7,f8,f9⟩
theorem Kn.ndu{C:Nat}{T0:List Tg}(h:Kn B g w L)(k:Nat)(hN:NodeAt g0 w0 i nb ob x0 p0)(c:Cg C T0 g0 w0 g w)(hx:L[k]?=some ⟨nb,.cells (Ax i ob p x) 95,.n 0 i,false⟩:=by kernel_rfl)(hz:Tg.z∉T0:=by simp)(hr:∀ r,1<=r->r<6->Tg.n r i∉T0:=by simp;try omega)(e1:x=x0:=by rfl)(e2:p.d=p0.d:=by rfl)(e3:p.vo.vs=p0.vo.vs:=by rfl)(e4:p.rnd.heard=p0.rnd.heard:=by rfl)(e5:p.pend=p0.pend:=by rfl)(e6:p.rnd.queue=p0.rnd.queue:=by rfl)(e7:p.agreed=p0.agreed:=by rfl)(e8:p.wants=p0.wants:=by rfl)(e9:p.asked=p0.asked:=by rfl)(e10:p.up=p0.up:=by rfl):NodeAt g w i nb ob x p:=by
 have q:=h.isN k nb _ 0 i hx;subst e1;obtain⟨vs,h2,h3⟩:=hN.pend;exact⟨q.1,q.2.1,q.2.2,by rw[e2];exact hN.tape.ch c hz,by rw[e3];exact hN.votes.ch c hz,by rw[e4];exact λj hj=>(hN.heard j hj).ch c hz,by rw[e5];exact⟨vs,h2.ch c (hr 1 (by omega) (by omega)) (by simp),h3.ch c hz⟩,by rw[e6];exact hN.queue.ch c (hr 2 (by omega) (by omega)) (by simp),by rw[e7];exact hN.agreed.ch c (hr 3 (by omega) (by omega)) (by simp),by rw[e8];exact hN.wants.ch c (hr 4 (by omega) (by omega)) (by simp),by rw[e9];exact hN.asked.ch c (hr 5 (by omega) (by omega)),by rw[e10];exact hN.upm⟩
theorem Kn.od(h:Kn B g w L)(k:Nat)(f1:∃ bs:List Nat,OwnS g w (.n 51 0) false 141 1 lt (bs.map (pt · 0))/\Lets g w bs ls)(f2:OwnS g w (.n 52 0) false 101 5 tl (ts.flatMap EE))(hx:L[k]?=some ⟨ob,.cells #[lt.v,tl.v] 65,.n 50 0,false⟩:=by kernel_rfl):OutAt g w ob lt tl ls ts :=
 have q:=h.isN k ob _ 50 0 hx
 ⟨q.1,q.2.1,q.2.2,f1,f2⟩
end
end
section
structure RdC(w:World)(x:S3)(l:List Cmd):Prop where
 len:x.n=l.length
 cap:x.n<=x.c
 nul:x.a=none->x.c=0
 ex:l=[]\/∃ b off,x.a=some ⟨b,off,none⟩/\b<w.heap.size/\∀ j u,(cmL l)[j]?=some u->w.cell? ⟨b,off+j,none⟩=some u
variable{b j k off q:Nat}{c:Cmd}{g:Gh}{l:List Cmd}{u:Value}{w:World}{x:S3}
theorem OwnS.rd{τ:Tg}{kp:Bool}{e:TypeId}(h:OwnS g w τ kp e 5 x (cmL l)):RdC w x l:=by
 have hn:=h.num;rcases h.ex with⟨h1,h2,h3⟩|⟨b,cur,h1,h2,h3,h4,h5,h6,h7,h8⟩
 .exact⟨hn,by omega,λ_=>h3,.inl (fw (by omega))⟩
 .refine⟨hn,h3,λh=>(by rw[h1]at h;cases h),.inr ⟨b,0,h1,rl h2,λj u hj=>?_⟩⟩;obtain⟨b',hb',_,hc⟩:=h.cell hj;rw[h1]at hb'
  simp only[U',Addr.mk.injEq,and_true]at hb';subst hb';rw[fV];exact hc
theorem RdC.below{w':World}(h:RdC w x l)(b:Bw w w'):RdC w' x l :=
 ⟨h.len,h.cap,h.nul,h.ex.imp id λ⟨k,off,h1,h2,h3⟩=>⟨k,off,h1,Z' h2 b.size,λj u hj=>(b.cell (p:=⟨k,off+j,none⟩) h2).trans (h3 j u hj)⟩⟩
def S3.cut(x:S3)(l h:Nat):S3:=⟨if x.c=l then x.a else x.a.map (·.add (l*5)),h-l,x.c-l⟩
theorem Rc.drop(h:Rc g w x l)(hk:k<=l.length):Rc g w (x.cut k x.n) (l.drop k):=by
 have hl:=h.len;have hc:=h.cap;refine⟨by simp[S3.cut,hl],by simp only[S3.cut];omega,λhn=>?_,?_⟩
 .simp only[S3.cut]at hn ⊢;split at hn
  .omega
  .cases ha:x.a with
   | none=>have:=h.nul ha;omega
   | some a=>rw[ha]at hn;cases hn
 .rcases h.ex with rfl|⟨b,off,h1,h2,h3,h4⟩
  .exact .inl (by simp)
  .by_cases he:k=l.length
   .exact .inl (by rw[he];simp)
   .refine .inr ⟨b,off+k*5,?_,h2,λj u hj=>?_,?_⟩
    .simp only[S3.cut];rw[if_neg (by omega),h1];simp only[gb,U'];unfold Addr.add;split
     .rename_i h0;rw[show k=0 by omega];simp
     .simp
    .rw[<- JE,gh]at hj
     have:=h3 _ u hj;rw[show off+k*5+j=off+(5*k+j)by omega];exact this
    .rcases h4 with h4|h4
     .exact .inl h4
     .right;rw[fA];omega
theorem Rc.addr(h:Rc g w x l)(hk:k<l.length):∃ b off,x.a=some ⟨b,off,none⟩:=by
 rcases h.ex with rfl|⟨b,off,h2,_⟩
 .simp at hk
 .exact⟨b,off,h2⟩
theorem Rc.cellAt(h:Rc g w x l)(ha:x.a=some ⟨b,off,none⟩)(hc:l[j]?=some c)(hu:(cmV c)[q]?=some u):w.cell? ⟨b,off+5*j+q,none⟩=some u:=by
 rcases h.ex with rfl|⟨b',off',h1,h2,h3,_⟩
 .cases hc
 .rw[ha]at h1
  simp only[U',Addr.mk.injEq,and_true]at h1;obtain⟨rfl,rfl⟩:=h1;rw[go];exact h3 _ u (Mm hc hu)
theorem RdC.cellAt(h:RdC w x l)(ha:x.a=some ⟨b,off,none⟩)(hc:l[j]?=some c)(hu:(cmV c)[q]?=some u):w.cell? ⟨b,off+5*j+q,none⟩=some u:=by
 rcases h.ex with rfl|⟨b',off',h1,h2,h3⟩
 .cases hc
 .rw[ha]at h1
  simp only[U',Addr.mk.injEq,and_true]at h1;obtain⟨rfl,rfl⟩:=h1;rw[go];exact h3 _ u (Mm hc hu)
theorem RdC.addr(h:RdC w x l)(hk:k<l.length):∃ b off,x.a=some ⟨b,off,none⟩:=by
 rcases h.ex with rfl|⟨b,off,h2,_⟩
 .simp at hk
 .exact⟨b,off,h2⟩
theorem Uz(l:List Cmd)(k:Nat)(h:(cmL (l.take k))[j]?=some u):(cmL l)[j]?=some u:=by
 have h1:cmL l=cmL (l.take k)++cmL (l.drop k):=by rw[<- BK,gB]
 rw[h1,fC (P'.1 h).1];exact h
theorem RdC.take(h:RdC w x l)(hk:k<=l.length):RdC w (x.cut 0 k) (l.take k):=by
 have hl:=h.len;have hc:=h.cap;have ha:(x.cut 0 k).a=x.a:=by
  simp only[S3.cut];split
  .rfl
  .cases x.a with
   | none=>rfl
   | some a=>simp[Addr.add]
 refine⟨by simp[S3.cut];omega,by simp only[S3.cut];omega,λhn=>?_,?_⟩
 .rw[ha]at hn
  have:=h.nul hn;simp only[S3.cut];omega
 .rcases h.ex with rfl|⟨b,off,h1,h2,h3⟩
  .exact .inl (by simp)
  .exact .inr ⟨b,off,by rw[ha];exact h1,h2,λj u hj=>h3 j u (Uz l k hj)⟩
end
section
variable{W:World}
section
theorem sz5:(Go.sizeOf (prog.elem 37)).run prog W=.ok 5 W:=by kernel_rfl
theorem unC:prog.underlying 37=some (.slice (prog.elem 37)):=by kernel_rfl
theorem bK(x:S3)(k:Nat)(hk:k<=x.n):(Instr.sliceAt 37 x.v (some (iv (k:Int))) none none).run prog W=.ok (S3.v (x.cut k x.n)) W:=by
 rw[run_sliceAt_slice _ _ _ _ _ _ unC,run_slice_l (P:=prog) (w:=W) _ _ _ _ unC .i64 k (by omega) (by omega),sz5];simp[Result.andThen,sliced,S3.cut]
theorem dZ(x:S3)(k:Nat)(hk:k<=x.c):(Instr.sliceAt 37 x.v none (some (iv (k:Int))) none).run prog W=.ok (S3.v (x.cut 0 k)) W:=by
 rw[run_sliceAt_slice _ _ _ _ _ _ unC,run_slice_h (P:=prog) (w:=W) _ _ _ _ unC .i64 k (by omega) (by omega),sz5];simp[Result.andThen,sliced,S3.cut]
variable{b k off:Nat}{x:S3}{y:Operand}
theorem dV(ha:x.a=some ⟨b,off,none⟩)(k:Nat)(hk:k<x.n)(hc:x.n<=x.c):(Instr.sliceAt 37 x.v (some (iv (k:Int))) none none).run prog W=.ok (.slice (some ⟨b,off+5*k,none⟩) (x.n-k) (x.c-k)) W:=by
 rw[bK x k (by omega)];unfold S3.v S3.cut;simp only;rw[if_neg (by omega),ha];simp only[gb,Addr.add];split
 .rename_i h0;rw[show k=0 by omega];rfl
 .simp only[iI]
theorem eb{P:Program}{x:Operand}(a b:Nat)(hk:P.underlying 3=some (.int .i64))(h:b<=a)(ha:a<4611686018427387904):(do Go.eqGuard .sub 3 x y (iv (a:Int)) (iv (b:Int));Go.binOp .sub 3 (iv (a:Int)) (iv (b:Int)):Sem Value).run P W=.ok (iv ((a-b:Nat):Int)) W:=by
 rw[ea _ _ hk (by omega)]
 congr 3
 omega
theorem dC{g:Gh}{l:List Cmd}(ha:x.a=some ⟨b,off,none⟩)(h:Rc g W x l)(k:Nat)(hl:k<l.length):∀ j u,(cmL (l.drop k))[j]?=some u->W.cell? ((⟨b,off+5*k,none⟩:Addr).add j)=some u:=by
 intro j u hj;rcases h.ex with rfl|⟨b',off',h1,h2,h3,h4⟩
 .simp at hl
 .rw[ha]at h1
  simp only[U',Addr.mk.injEq,and_true]at h1;obtain⟨rfl,rfl⟩:=h1;rw[<- JE,gh]at hj
  have:=h3 _ u hj;have hadd:(⟨b,off+5*k,none⟩:Addr).add j=⟨b,off+5*k+j,none⟩:=by unfold Addr.add;split<;>simp_all
  rw[hadd,show off+5*k+j=off+(5*k+j)by omega];exact this
theorem O7(ha:x.a=some ⟨b,off,none⟩)(j:Nat)(hj:j<x.n):(Instr.indexAt 37 x.v (iv (j:Int))).run prog W=.ok (pt b (off+5*j)) W:=by
 unfold S3.v;rw[ha];exact O6 (P:=prog) (e:=53) (z:=5) underlying37 (by kernel_rfl) (by kernel_rfl) hj _ rfl
theorem Wa(c:Cmd)(h:∀ j u,(cmV c)[j]?=some u->W.cell? ⟨b,k+j,none⟩=some u):(Instr.loadAt 53 (pt b k)).run prog W=.ok (.agg #[iv c.k,iv c.c,iv c.s,iv c.n,iv c.v]) W:=by
 have h1:=run_loadVar_mid (P:=prog) W b k 53 (cmV c) _ (λj u hj=>h j u hj) underlying53 rfl (by kernel_rfl);simp only[Instr.loadAt,Instr.sureAddr,Sem.run_bind,Sem.run_pure,Result.andThen_ok];exact h1
theorem ZD(ha:x.a=some ⟨b,off,none⟩)(j:Nat)(hj:j<x.n):(Instr.indexAt 74 x.v (iv (j:Int))).run prog W=.ok (pt b (off+8*j)) W:=by
 unfold S3.v;rw[ha];exact O6 (P:=prog) (e:=138) (z:=8) underlying74 (by kernel_rfl) (by kernel_rfl) hj _ rfl
theorem dM(v:Vt)(h:W.rangeAt b k (vtC v)):(Instr.loadAt 138 (pt b k)).run prog W=.ok (.agg #[iv v.slot,iv v.b.r,iv v.b.n,iv v.w.k,iv v.w.c,iv v.w.s,iv v.w.n,iv v.w.v]) W:=by
 have h1:=run_loadVar_mid (P:=prog) W b k 138 (vtC v) _ h underlying138 rfl (by kernel_rfl);simp only[Instr.loadAt,Instr.sureAddr,Sem.run_bind,Sem.run_pure,Result.andThen_ok];exact h1
theorem cL(u v:Vt):decide (u.slot=v.slot/\u.b.r=v.b.r/\u.b.n=v.b.n/\u.w.k=v.w.k/\u.w.c=v.w.c/\u.w.s=v.w.s/\u.w.n=v.w.n/\u.w.v=v.w.v)=decide (u=v):=by
 apply gE.2;constructor
 .rintro⟨a1,a2,a3,a4,a5,a6,a7,a8⟩;exact(Vt.eq_iff u v).1 ⟨a1,(Bal.eq_iff _ _).1 ⟨a2,a3⟩,(Cmd.eq_iff _ _).1 ⟨a4,a5,a6,a7,a8⟩⟩
 .rintro rfl;exact⟨rfl,rfl,rfl,rfl,rfl,rfl,rfl,rfl⟩
theorem dI{x:Operand}(a b:Vt):(do Go.eqGuard .eql 138 x y (.agg #[iv a.slot,iv a.b.r,iv a.b.n,iv a.w.k,iv a.w.c,iv a.w.s,iv a.w.n,iv a.w.v]) (.agg #[iv b.slot,iv b.b.r,iv b.b.n,iv b.w.k,iv b.w.c,iv b.w.s,iv b.w.n,iv b.w.v]);Go.binOp .eql 138 (.agg #[iv a.slot,iv a.b.r,iv a.b.n,iv a.w.k,iv a.w.c,iv a.w.s,iv a.w.n,iv a.w.v]) (.agg #[iv b.slot,iv b.b.r,iv b.b.n,iv b.w.k,iv b.w.c,iv b.w.s,iv b.w.n,iv b.w.v]):Sem Value).run prog W=.ok (.bool (decide (a=b))) W:=by
 have h1:=UP a.slot a.b.r a.b.n a.w.k a.w.c a.w.s a.w.n a.w.v b.slot b.b.r b.b.n b.w.k b.w.c b.w.s b.w.n b.w.v W;rw[cL]at h1
 have hg:(Go.eqGuard .eql 138 x y (.agg #[iv a.slot,iv a.b.r,iv a.b.n,iv a.w.k,iv a.w.c,iv a.w.s,iv a.w.n,iv a.w.v]) (.agg #[iv b.slot,iv b.b.r,iv b.b.n,iv b.w.k,iv b.w.c,iv b.w.s,iv b.w.n,iv b.w.v])).run prog W=.ok () W:=by kernel_rfl
 rw[Sem.run_bind,hg,Result.andThen_ok];exact h1
end
end
section
variable{B sz:Nat}{P:Program}{T:List Tg}{W w w':World}{e:TypeId}{g g':Gh}{l:List Cmd}{vs:List Value}{x:S3}
theorem Kn.isNw{L:List Sh}(h:Kn B g w L)(k b:Nat)(o:Obj)(r i:Nat)(v:Bool)(hx:L[k]?=some ⟨b,o,.n r i,v⟩):w.heap[b]?=some o/\g.t b=.n r i/\g.k b=0 :=
 have h1:=h.row _ (fQ hx)
 ⟨h1.1,h1.2.1,h1.2.2.2 (by simp)⟩
structure RdV(w:World)(x:S3)(sz:Nat)(vs:List Value):Prop where
 len:vs.length=x.n*sz
 cap:x.n<=x.c
 nul:x.a=none->x.c=0
 ex:x.n=0\/∃ b off,x.a=some ⟨b,off,none⟩/\b<w.heap.size/\∀ j u,vs[j]?=some u->w.cell? ⟨b,off+j,none⟩=some u
theorem RdC.rv(h:RdC w x l):RdV w x 5 (cmL l) :=
 ⟨by rw[Bi,h.len],h.cap,h.nul,h.ex.imp (λe=>by rw[h.len,e];rfl) id⟩
theorem RdV.rc(h:RdV w x 5 (cmL l)):RdC w x l :=
 have hn:x.n=l.length:=by have:=h.len;rw[Bi]at this;omega
 ⟨hn,h.cap,h.nul,h.ex.imp (λe=>fw (by omega)) id⟩
theorem RdV.below(h:RdV w x sz vs)(b:Bw w w'):RdV w' x sz vs :=
 ⟨h.len,h.cap,h.nul,h.ex.imp id λ⟨k,off,h1,h2,h3⟩=>⟨k,off,h1,Z' h2 b.size,λj u hj=>(b.cell (p:=⟨k,off+j,none⟩) h2).trans (h3 j u hj)⟩⟩
theorem OwnS.rv{τ:Tg}{kp:Bool}(h:OwnS g w τ kp e sz x vs):RdV w x sz vs:=by
 rcases h.ex with⟨h1,h2,h3⟩|⟨b,cur,h1,h2,h3,h4,h5,h6,h7,h8⟩
 .exact⟨h.len,by omega,λ_=>h3,.inl h2⟩
 .refine⟨h.len,h3,λh=>(by rw[h1]at h;cases h),.inr ⟨b,0,h1,rl h2,λj u hj=>?_⟩⟩;obtain⟨b',hb',_,hc⟩:=h.cell hj;rw[h1]at hb'
  simp only[U',Addr.mk.injEq,and_true]at hb';subst hb';rw[fV];exact hc
theorem Y2{t:TypeId}{x y:Operand}{z:S3}{b:Bool}(hb:z.a.isNone=b)(ht:P.underlying t=some (.slice e))(hg:(Go.eqGuard .eql t x y z.v (.slice none 0 0)).run P W=.ok () W):(do Go.eqGuard .eql t x y z.v (.slice none 0 0);Go.binOp .eql t z.v (.slice none 0 0):Sem Value).run P W=.ok (.bool b) W:=by
 subst hb;rw[Sem.run_bind,hg,Result.andThen_ok];have h1:=run_equal_slice_nil (P:=P) (w:=W) t e z.a z.n z.c ht;simp only[S3.v,binOp,Sem.run_bind,h1,Result.andThen_ok];rfl
theorem Zy(t ty e:TypeId)(i:TypeInfo)(ht:P.underlying t=some (.slice e))(hi:P.info? e=some i)(b:Nat)(a:Addr)(c:Nat):(Builtin.append_ #[t,t] ty #[.slice (some ⟨b,0,none⟩) 0 0,.slice (some a) 0 c]).run P W=.ok (.slice (some ⟨b,0,none⟩) 0 0) W:=by
 have hf:=run_firstCells_some (P:=P) W i.size 0 a 0 c [] (by simp) (by simp);simp[Builtin.append_,run_underlying ht,sizeOf,typeInfo,hi,Builtin.lenOf,hf,storeCells]
structure FzV(g:Gh)(w:World)(x:S3)(sz:Nat)(vs:List Value):Prop where
 rd:RdV w x sz vs
 z:vs≠[]->Frz g x
theorem FzV.ch(h:FzV g w x sz vs)(c:Cg B T g w g' w')(hz:Tg.z∉T:=by simp):FzV g' w' x sz vs:=by
 obtain⟨⟨h1,h2,h3,h4⟩,h5⟩:=h;by_cases hv:vs=[]
 .subst hv;exact⟨⟨h1,h2,h3,h4.imp id λ⟨b,off,e1,e2,_⟩=>⟨b,off,e1,Z' e2 c.size,λj u hj=>(by cases hj)⟩⟩,λh=>absurd rfl h⟩
 .rcases h4 with h4|⟨b,off,e1,e2,e3⟩
  .exact absurd (fw (by rw[h1,h4,Nat.zero_mul])) hv
  .have hb:g.t b=.z:=h5 hv _ e1;refine⟨⟨h1,h2,h3,.inr ⟨b,off,e1,Z' e2 c.size,λj u hj=>?_⟩⟩,λ_ a ha=>?_⟩
   .rw[World.cell?_of_block (w:=w) (c.zc hz e2 hb)];exact e3 j u hj
   .rw[e1]at ha;simp only[U']at ha;subst ha
    rw[c.tag e2 (by rw[hb];intro h;cases h)];exact hb
structure Fa where
 ro:Option Nat
 p:Gh->World->Prop
 st:∀ {B:Nat} {T:List Tg} {g g':Gh} {w w':World},Tg.z∉T->(∀ r,ro=some r->Tg.n 60 r∉T)->Cg B T g w g' w'->p g w->p g' w'
@[reducible] def AllF (g:Gh) (w:World):List Fa->Prop
 | []=>True
 | f::l=>f.p g w/\AllF g w l
variable{Φ:List Fa}
theorem AllF.ch(h:AllF g w Φ)(c:Cg B T g w g' w')(hz:Tg.z∉T:=by simp)(hr:∀ f∈Φ,∀ r,f.ro=some r->Tg.n 60 r∉T):AllF g' w' Φ:=by
 induction Φ with
 | nil=>trivial
 | cons f l ih=>exact⟨f.st hz (hr f V') c h.1,ih h.2 λf hf=>hr f (Q' _ hf)⟩
theorem AllF.ch0(h:AllF g w Φ)(c:Cg B [] g w g' w'):AllF g' w' Φ:=h.ch c H' λ_ _ _ _=>H'
def Fa.zv(x:S3)(sz:Nat)(vs:List Value):Fa:=⟨none,λg w=>FzV g w x sz vs,λhz _ c h=>h.ch c hz⟩
def Fa.sl(x:S3)(l:List Int):Fa:=⟨none,λg w=>FSl g w x l,λhz _ c h=>h.ch c hz⟩
def Fa.ow(r:Nat)(e:TypeId)(sz:Nat)(x:S3)(vs:List Value):Fa:=⟨some r,λg w=>OwnS g w (.n 60 r) true e sz x vs,λ_ hr c h=>h.ch c (hr r rfl) (by simp)⟩
def TQ:List Tg:=[.n 60 0,.n 60 1,.n 60 2,.n 60 3]
theorem eH:Tg.z∉TQ:=by simp[TQ]
end
section
variable{P:Program}{fn:Func}{R:Ending->World->Prop}{w0:World}{Φ:List Fa}{g:Gh}{w:World}
section
structure GT(P:Program)(fn:Func)(R:Ending->World->Prop)(w0:World)(Φ:List Fa)(s:Xs)(g:Gh)(w:World):Prop where
 ex:AllF g w Φ->Cg w0.heap.size TQ gS w0 g w->GG P fn R w0.heap.size TQ s g w
theorem CgQ.below(c:Cg w0.heap.size TQ gS w0 g w):Bw w0 w:=Cg.below c λ_ _=>eH
variable{J:Act->World->Prop}{L':List Sh}{S:Sem Value}{e:List (Nat × Value)}{f:FuncId}{n:Nat}{s:Xs}{Φ':List Fa}
theorem tIn{args:Array Value}(Φ:List Fa)(hf:P.funcs[f]?=some fn)(hΦ:AllF gS w0 Φ)(h:GT P fn R w0 Φ ⟨[.c (Nd fn)],⟨fn.ntmps,Mh 0 args.toList,λ_=>undef⟩,[]⟩ gS w0)(hb:fn.body.isSome=true:=by kernel_rfl)(hn:Nat.ble args.size fn.ntmps=true:=by kernel_rfl):Calls P f args w0 R :=
 gIn TQ gS hf hb hn (λ_ _=>⟨rfl,rfl⟩) (h.ex hΦ (Cg.refl _ _ _ _))
theorem tX(h:AllF g w Φ->Cg w0.heap.size TQ gS w0 g w->GG P fn R w0.heap.size TQ s g w):GT P fn R w0 Φ s g w:=⟨h⟩
theorem tF(h:AllF g w Φ->Cg w0.heap.size TQ gS w0 g w->GT P fn R w0 Φ s g w):GT P fn R w0 Φ s g w:=⟨λF C=>(h F C).ex F C⟩
theorem tCv(Ψ:List Fa)(hΨ:AllF g w Φ->AllF g w Ψ)(h:GT P fn R w0 Ψ s g w):GT P fn R w0 Φ s g w:=⟨λF C=>h.ex (hΨ F) C⟩
theorem tR(m:Nat)(h:List Nat)(hk:∀ gs g' w',GT P fn R w0 Φ (rn0 P [] gs m s h).s g' w')(hob:∀ gs,(rn0 P [] gs m s h).o.map Ob.l'=(rn0 P [] gs m s h).o.map Ob.r':=by intro _;kernel_rfl):GT P fn R w0 Φ s g w :=
 ⟨λF C=>XL [] m h hob λgs g' w' c=>(hk gs g' w').ex (F.ch0 c) (C.n c)⟩
theorem tV(i:Nat)(v:Value)(hr:AllF g w Φ->Cg w0.heap.size TQ gS w0 g w->S.run P w=.ok v w)(hk:GT P fn R w0 Φ (nxt s i v s.L).s g w)(hs:CK s i=some (S>>=λv=>pure (.value v)):=by kernel_rfl)(hob:(nxt s i undef s.L).o.map Ob.l'=(nxt s i undef s.L).o.map Ob.r':=by kernel_rfl):GT P fn R w0 Φ s g w:=⟨λF C=>qV i v (hr F C) (hk.ex F C) hs hob⟩
theorem tT(i:Nat)(v:Value)(hr:∀ W,S.run P W=.ok v W)(hk:GT P fn R w0 Φ (tkN s i v false).s g w)(hs:CK s i=some (S>>=λv=>pure (.value v)):=by kernel_rfl)(hob:(tkN s i undef false).o.map Ob.l'=(tkN s i undef false).o.map Ob.r':=by kernel_rfl):GT P fn R w0 Φ s g w:=⟨λF C=>qT i v hr (hk.ex F C) hs hob⟩
theorem tI(b t:Bool)(hb:b=t)(h:GT P fn R w0 Φ (JG s t) g w)(hc:Nt s=.bool b:=by kernel_rfl):GT P fn R w0 Φ s g w:=⟨λF C=>qI b t hb (h.ex F C) hc⟩
theorem tC(i:Nat){av:Array Value}{K:Ending->World->Prop}(hc:AllF g w Φ->Cg w0.heap.size TQ gS w0 g w->Calls P f av w K)(hk:(∀ b,w.heap.size<=b->g.t b=.z)->∀ e w',K e w'->∃ v Ψ,e=.returned v/\Bw w w'/\(AllF g w' Φ->AllF g w' Ψ)/\GT P fn R w0 Ψ (nxt s i v s.L).s g w')(hr:∀ W,CA P s i W=some (.ok (.enter f av) W):=by intro _;kernel_rfl)(hd:KT s i=true:=by kernel_rfl)(hob:(nxt s i undef s.L).o.map Ob.l'=(nxt s i undef s.L).o.map Ob.r':=by kernel_rfl):GT P fn R w0 Φ s g w :=
 ⟨λF C=>Ae λhK=>qC i (hc F C) (λe w' h=>let ⟨v,Ψ,h1,h2,h3,h4⟩:=hk (λb hb=>(hK.new b hb).1) e w' h;⟨v,h1,h2,h4.ex (h3 (F.ch0 (Cg.ofBelow (B:=w0.heap.size) h2))) (C.trans (Cg.ofBelow h2))⟩) hr hd hob⟩
theorem tE(v:Value)(h:AllF g w Φ->Bw w0 w->R (.returned v) w)(hr:Kn w0.heap.size g w s.L->(results fn s.f.act.tmps).run P w=.ok v w:=by intro _;kernel_rfl)(hs:KU s.K=true:=by kernel_rfl):GT P fn R w0 Φ s g w:=⟨λF C=>qE v (λ_=>h F (CgQ.below C)) hr hs⟩
def JT(P:Program)(w0:World)(n:Nat)(Inv:Nat->List (Nat × Value)->List Sh->List Fa->Prop)(k:Nat)(J:Act->World->Prop):Prop:=∀ k' e' L' Φ' g' w' z',k'<k->Inv k' e' L' Φ'->AllF g' w' Φ'->Cg w0.heap.size TQ gS w0 g' w'->Kn w0.heap.size g' w' L'->J (⟨n,e',z'⟩:Fm).act w'
theorem IN(n:Nat)(e0:List (Nat × Value))(m:List Bool)(L0:List Sh)(Φ0:List Fa)(Inv:Nat->List (Nat × Value)->List Sh->List Fa->Prop)(k0:Nat)(h0:Inv k0 e0 L0 Φ0)(hΦ:AllF g w Φ->AllF g w Φ0)(round:∀ k e L Φ,Inv k e L Φ->∀ z g w J,JT P w0 n Inv k J->GT P fn R w0 Φ (YA s n J e z L) g w)(hl:PT s.K=true:=by kernel_rfl)(hn:s.f.n=n:=by kernel_rfl)(he:e0.map (λp=>lk s.f.z s.f.e p.1)=e0.map (·.2):=by kernel_rfl)(hL:Bj (AB m s.L)=L0:=by kernel_rfl):GT P fn R w0 Φ s g w :=
 ⟨λF C=>Br n e0 m L0 (λk g' w' e L=>∃ Ψ,Inv k e L Ψ/\AllF g' w' Ψ/\Cg w0.heap.size TQ gS w0 g' w') hl hn he hL k0 (λ_=>⟨Φ0,h0,hΦ F,C⟩) λk g' w' e z L ⟨Ψ,hI,F',C'⟩ J hJ=>(round k e L Ψ hI z g' w' J λk' e' L' Φ' g'' w'' z' hk hI' F'' C'' K=>hJ k' g'' w'' e' z' L' hk ⟨Φ',hI',F'',C''⟩ K).ex F' C'⟩
theorem tB{k:Nat}{Inv:Nat->List (Nat × Value)->List Sh->List Fa->Prop}(hJ:JT P w0 n Inv k J)(k':Nat)(hk:k'<k)(m:List Bool)(hI:Inv k' e L' Φ')(hΦ:AllF g w Φ->AllF g w Φ')(hi:isJ s.K=true:=by kernel_rfl)(hj:jK s.K=J:=by kernel_rfl)(hn:s.f.n=n:=by kernel_rfl)(he:e.map (λp=>lk s.f.z s.f.e p.1)=e.map (·.2):=by kernel_rfl)(hL:Bj (AB m s.L)=L':=by kernel_rfl):GT P fn R w0 Φ s g w :=
 ⟨λF C=>qB m (λz _ K=>hJ k' e L' Φ' g w z hk hI (hΦ F) C K) hi hj hn he hL⟩
def JC(P:Program)(w0:World)(n:Nat)(Inv:List (Nat × Value)->List Sh->List Fa->Prop)(J:Act->World->Prop):Prop:=∀ e' L' Φ' g' w' z',Inv e' L' Φ'->AllF g' w' Φ'->Cg w0.heap.size TQ gS w0 g' w'->Kn w0.heap.size g' w' L'->J (⟨n,e',z'⟩:Fm).act w'
theorem T3(n:Nat)(Inv:List (Nat × Value)->List Sh->List Fa->Prop)(h1:∀ J,JC P w0 n Inv J->GT P fn R w0 Φ (U8 s J) g w)(h2:∀ e L Φ,Inv e L Φ->∀ z g w,GT P fn R w0 Φ ⟨s.K.tail,⟨n,e,z⟩,L⟩ g w)(hs:s.K.isEmpty=false:=by kernel_rfl):GT P fn R w0 Φ s g w :=
 ⟨λF C=>BG n (λg' w' e L=>∃ Ψ,Inv e L Ψ/\AllF g' w' Ψ/\Cg w0.heap.size TQ gS w0 g' w') hs (λJ hJ=>(h1 J λe' L' Φ' g' w' z' hI F' C' K=>hJ g' w' e' z' L' ⟨Φ',hI,F',C'⟩ K).ex F C) λg' w' e z L ⟨Ψ,hI,F',C'⟩=>(h2 e L Ψ hI z g' w').ex F' C'⟩
theorem tD{Inv:List (Nat × Value)->List Sh->List Fa->Prop}(hJ:JC P w0 n Inv J)(m:List Bool)(hI:Inv e L' Φ')(hΦ:AllF g w Φ->AllF g w Φ')(hi:isJ s.K=true:=by kernel_rfl)(hj:jK s.K=J:=by kernel_rfl)(hn:s.f.n=n:=by kernel_rfl)(he:e.map (λp=>lk s.f.z s.f.e p.1)=e.map (·.2):=by kernel_rfl)(hL:Bj (AB m s.L)=L':=by kernel_rfl):GT P fn R w0 Φ s g w :=
 ⟨λF C=>qB m (λz _ K=>hJ e L' Φ' g w z hI (hΦ F) C K) hi hj hn he hL⟩
theorem T5(i j:Nat)(h1:GT P fn R w0 Φ (Iu s i) g w)(h2:GT P fn R w0 Φ (Iu s j) g w)(hb:YV s i j=true:=by kernel_rfl):GT P fn R w0 Φ s g w:=⟨λF C=>Cu i j hb (h1.ex F C) (h2.ex F C)⟩
theorem OQ(i:Nat)(r:Nat){x:S3}{xs:List Value}(t ty e:TypeId)(sz bytes:Nat)(z:Value)(a:Addr)(m c:Nat)(news:List Value)(hx:AllF g w Φ->OwnS g w (.n 60 r) true e sz x xs)(Ψ:List Fa)(hΨ:AllF g w Φ->AllF g w Ψ)(hro:Ψ.all (λf=>f.ro != some r)=true)(hrT:Tg.n 60 r∈TQ)(hl:news.length=m*sz)(h1:∀ u∈news,u.oneCell'=true)(hnews:AllF g w Φ->Kn w0.heap.size g w s.L->∀ j u,news[j]?=some u->w.cell? (a.add j)=some u)(h63:x.n+m<=maxLen)(hbytes:(x.n+m)*bytes<=140737488355328)(hk:∀ x' g' w',x'.n=x.n+m->GT P fn R w0 (Fa.ow r e sz x' (xs++news)::Ψ) (nxt s i (S3.v x') s.L).s g' w')(hm:0<m:=by decide)(hsz:0<sz:=by decide)(ht:P.underlying t=some (.slice e):=by kernel_rfl)(hinfo:(P.info? e).map (λi=>(i.zero,i.size,i.bytes))=some (some z,sz,bytes):=by kernel_rfl)(hzs:Nat.beq z.cells.size sz=true:=by kernel_rfl)(hsem:CK s i=some (Builtin.append_ #[t,t] ty #[x.v,.slice (some a) m c]>>=λv=>pure (.value v)):=by kernel_rfl)(hob:(nxt s i undef s.L).o.map Ob.l'=(nxt s i undef s.L).o.map Ob.r':=by kernel_rfl)(hT:s.L.all (λy=>[Tg.n 60 r].all λt=>y.t.ne t)=true:=by kernel_rfl):GT P fn R w0 Φ s g w:=by
 refine⟨λF C=>IX i t ty e sz bytes z a m c news (hx F) hsem hob hT ht hinfo hzs hsz hm hl h1 (hnews F) h63 hbytes λx' g' w' hO hn hc hG=>?_⟩;refine(hk x' g' w' hn).ex ⟨hO,(hΨ F).ch (hc w0.heap.size [.n 60 r] (O'.2 rfl)) (by simp) λf hf q hq hm=>?_⟩ (C.trans (hc _ _ hrT));have h2:=gn.1 hro f hf;rw[hq]at h2
 have h3:q=r:=by simpa using hm
 rw[h3]at h2
 simp at h2
end
end
section
def cmG(c:Cmd):Value:=.agg #[iv c.k,iv c.c,iv c.s,iv c.n,iv c.v]
theorem R2(x:Cmd × Bal × Nat):(mkA x).key=cmG x.1:=rfl
theorem UQ(u v:Cmd)(w:World):(Op.equal 53 (cmG u) (cmG v)).run prog w=.ok (decide (u=v)) w:=by
 have h1:=Rl u.k u.c u.s u.n u.v v.k v.c v.s v.n v.v w;rw[Rg]at h1
 rw[run_eql_struct]at h1
 show(Op.equalIn 10000 _ _ _).run _ _=_;simp only[cmG];cases hr:(Op.equalIn 10000 53 (.agg #[iv u.k,iv u.c,iv u.s,iv u.n,iv u.v]) (.agg #[iv v.k,iv v.c,iv v.s,iv v.n,iv v.v])).run prog w with
 | ok b w'=>simp only[hr]at h1;simp[Result.andThen]at h1;rw[h1.1,h1.2]
 | _=>simp only[hr]at h1;simp[Result.andThen]at h1
abbrev Ask:=Cmd × Bal × Nat
def JL(v:Cmd):List Ask->Nat->Option (Nat × Value)
 | [],_=>none
 | x::c,i=>if v=x.1 then some (i,(mkA x).val)else JL v c (i+1)
theorem Lo(v:Cmd)(w:World):∀ (c:List Ask) (i:Nat),(Instr.findAsking 53 (cmG v) (c.map mkA) i).run prog w=.ok (JL v c i) w
 | [],i=>by simp[Instr.findAsking,JL]
 | x::c,i=>by
  have h:=UQ v x.1 w;rw[fN,Instr.findAsking,Sem.run_bind];rw[R2,h,Result.andThen_ok,JL];by_cases e:v=x.1
  .rw[I' e,if_pos e];rfl
  .rw[D' e,if_neg e];simpa using Lo v w c (i+1)
theorem F8(v:Cmd)(w:World)(c:List Ask):(Instr.findKey 53 (cmG v) (c.map mkA)).run prog w=.ok (JL v c 0) w:=by
 rw[Instr.findKey,Sem.run_bind,run_underlying underlying53 w,Result.andThen_ok];cases c with
 | nil=>simp[Instr.findNow,JL]
 | cons x c =>
  show Sem.run _ (match(none:Option (Option (Nat × Value)))with|some r=>pure r|none=>Instr.findAsking 53 (cmG v) ((x::c).map mkA)) w=_;exact Lo v w (x::c) 0
theorem DY(em:Bool)(v:Cmd)(w:World):(Instr.checkKey em 10000 53 (cmG v)).run prog w=.ok () w:=by
 obtain⟨k,c,q,m,x⟩:=v;kernel_rfl
theorem YE(v:Cmd)(n:Nat):Instr.sameBits (n+1) (cmG v) (cmG v)=true:=by simp[Instr.sameBits,cmG]
theorem Wy(v:Cmd)(w:World):(Instr.keyThatStays (cmG v) (cmG v)).run prog w=.ok (cmG v) w:=by
 rw[Instr.keyThatStays,if_pos (YE v 9999)];rfl
def EM(c:List Ask)(v:Cmd):Option Bal:=(c.find? λx=>decide (v=x.1)).map (·.2.1)
theorem Jt(v:Cmd):∀ (c:List Ask) (i:Nat),(JL v c i=none/\EM c v=none/\∀ x∈c,v≠x.1)\/∃ a x b,c=a++x::b/\x.1=v/\(∀ y∈a,v≠y.1)/\JL v c i=some (i+a.length,(mkA x).val)/\EM c v=some x.2.1
 | [],i=>.inl ⟨rfl,rfl,λx hx=>by cases hx⟩
 | x::c,i=>by
  by_cases e:v=x.1
  .refine .inr ⟨[],x,c,rfl,e.symm,λy hy=>(H' hy).elim,?_,?_⟩
   .rw[JL,if_pos e];rfl
   .simp[EM,e]
  .rcases Jt v c (i+1)with⟨h1,h2,h3⟩|⟨a,y,b,rfl,hy,h3,h4,h5⟩
   .refine .inl ⟨by rw[JL,if_neg e,h1],?_,λy hy=>?_⟩
    .rw[<- h2];simp[EM,e]
    .rcases fD.1 hy with rfl|hy
     .exact e
     .exact h3 y hy
   .refine .inr ⟨x::a,y,b,rfl,hy,λz hz=>?_,?_,?_⟩
    .rcases fD.1 hz with rfl|hz
     .exact e
     .exact h3 z hz
    .rw[JL,if_neg e,h4];simp;omega
    .rw[<- h5];simp[EM,e]
def IV(b:Bal):Value:=.agg #[iv b.r,iv b.n]
variable{b:Nat}{f:Cmd->Option Bal}{g:Gh}{w:World}{τ:Tg}
theorem ZE(h:AskAt g w τ b f)(v:Cmd)(ok:Bool):(Instr.lookup 88 (.map (some b)) (cmG v) ok).run prog w=.ok (if ok then .tuple #[IV ((f v).getD Cr),.bool (f v).isSome]else IV ((f v).getD Cr)) w:=by
 obtain⟨_,_,c,k,hb,_,_,_,hf⟩:=h;have hf2:f v=EM c v:=hf v;have hg:(getObj b).run prog w=.ok (.map (c.map mkA).toArray k) w:=by simp[getObj,Sem.run,hb]
 rcases Jt v c 0 with⟨h1,h2,_⟩|⟨a,x,d,_,_,_,h1,h2⟩
 .rw[h2]at hf2
  cases ok<;>simp[Instr.lookup,run_underlying underlying88,hg,DY,F8,h1,hf2,IV,Cr]
 .rw[h2]at hf2
  cases ok<;>simp[Instr.lookup,run_underlying underlying88,hg,DY,F8,h1,hf2,mkA,IV]
theorem Cg.block{B:Nat}{T:List Tg}{es:Array MapEntry}{k:Nat}(hb:w.heap[b]?=some (.map es k))(ht:g.t b=τ)(hk:g.k b=0)(hτ:τ∈T)(o:Obj):Cg B T g w g (ChangeMaps.setBlock w b o) :=
 have hne:∀ b',g.t b'∉T->b'≠b:=λb' h e=>h (by rw[e,ht];exact hτ)
 ⟨rfl,rfl,rfl,by simp[ChangeMaps.setBlock],λ_ _=>.inl rfl,λ_ _=>A' _,λ_ _ _ _=>rfl,λb' _ h _=>ChangeMaps.heap_setBlock_other hb o (hne b' h),
  λb' _ j hj=>World.cell?_of_block (w:=w) (ChangeMaps.heap_setBlock_other hb o (λe=>by have e':b'=b:=e;rw[e',hk]at hj;omega))⟩
theorem S5(c:List Ask)(v u:Cmd)(x:Bal)(k:Nat)(h:∀ y∈c,v≠y.1):EM (c++[(v,x,k)]) u=if u=v then some x else EM c u:=by
 unfold EM;rw[gH];by_cases e:u=v
 .subst e;have hn:c.find? (λy=>decide (u=y.1))=none:=by
   rw[gN];intro y hy;simp[h y hy]
  simp[hn]
 .rw[if_neg e];simp[e]
theorem US(a d:List Ask)(v u:Cmd)(x y:Bal)(k:Nat)(h:∀ y∈a,v≠y.1):EM (a++(v,y,k)::d) u=if u=v then some y else EM (a++(v,x,k)::d) u:=by
 unfold EM;rw[gH,gH,ix,ix];by_cases e:u=v
 .subst e;have hn:a.find? (λy=>decide (u=y.1))=none:=by
   rw[gN];intro y hy;simp[h y hy]
  simp[hn]
 .rw[if_neg e];simp[e]
theorem UT(a d:List Ask)(v u:Cmd)(x:Bal)(k:Nat)(h:∀ y∈a,v≠y.1)(h2:∀ y∈d,v≠y.1):EM (a++d) u=if u=v then none else EM (a++(v,x,k)::d) u:=by
 unfold EM;rw[gH,gH,ix];by_cases e:u=v
 .subst e;have hn:a.find? (λy=>decide (u=y.1))=none:=by
   rw[gN];intro y hy;simp[h y hy]
  have hn2:d.find? (λy=>decide (u=y.1))=none:=by
   rw[gN];intro y hy;simp[h2 y hy]
  simp[hn,hn2]
 .rw[if_neg e];simp[e]
theorem Xo(h:AskAt g w τ b f)(v:Cmd)(x:Bal):∃ w',(Instr.mapUpdate 88 (.map (some b)) (cmG v) (IV x)).run prog w=.ok () w'/\AskAt g w' τ b (DU f v (some x))/\(∀ B T,τ∈T->Cg B T g w g w')/\w'.heap.size=w.heap.size:=by
 obtain⟨ht,hkp,c,k,hb,hk,hn1,hn2,hf⟩:=h;have hg:(getObj b).run prog w=.ok (.map (c.map mkA).toArray k) w:=by simp[getObj,Sem.run,hb]
 rcases Jt v c 0 with⟨h1,h2,h3⟩|⟨a,y,d,rfl,hy,h3,h1,h2⟩
 .have hs:=MapKept.run_setObj_map (P:=prog) (w:=w) (.map ((c++[(v,x,k)]).map mkA).toArray (k+1)) hb;refine⟨_,?_,⟨ht,hkp,c++[(v,x,k)],k+1,ChangeMaps.heap_setBlock_same hb (.map ((c++[(v,x,k)]).map mkA).toArray (k+1)),?_,?_,?_,?_⟩,λB T hT=>Cg.block hb ht hkp hT _,by simp[ChangeMaps.setBlock]⟩
  .have he:((c.map mkA).toArray.push { key:=cmG v,val:=IV x,born:=k })=((c++[(v,x,k)]).map mkA).toArray:=by simp[mkA,cmG,IV,cmV]
   rw[Instr.mapUpdate];simp only[Sem.run_bind,run_underlying underlying88,Result.andThen_ok,hg,DY,F8,h1,he,hs];rfl
  .intro y hy;rcases Y'.1 hy with hy|hy
   .have:=hk y hy;omega
   .obtain rfl:y=(v,x,k):=by simpa using hy
    show k<k+1;omega
  .rw[fG,jl];refine⟨hn1,by simp,?_⟩;intro p hp q hq;obtain⟨y,hy,rfl⟩:=fS.1 hp;obtain rfl:q=k:=by simpa using hq
   have:=hk y hy;omega
  .rw[fG,jl];refine⟨hn2,by simp,?_⟩;intro p hp q hq;obtain⟨y,hy,rfl⟩:=fS.1 hp;obtain rfl:q=v:=by simpa using hq
   exact λe=>h3 y hy e.symm
  .intro u;rw[show(List.find? (λx=>decide (u=x.1)) (c++[(v,x,k)])).map (·.2.1)=EM (c++[(v,x,k)]) u from rfl,S5 c v u x k h3];unfold DU;split
   .rfl
   .exact hf u
 .obtain⟨yv,yb,yk⟩:=y;simp only at hy;subst hy;have hs:=MapKept.run_setObj_map (P:=prog) (w:=w) (.map ((a++(yv,x,yk)::d).map mkA).toArray k) hb;refine⟨_,?_,⟨ht,hkp,a++(yv,x,yk)::d,k,ChangeMaps.heap_setBlock_same hb (.map ((a++(yv,x,yk)::d).map mkA).toArray k),?_,?_,?_,?_⟩,λB T hT=>Cg.block hb ht hkp hT _,by simp[ChangeMaps.setBlock]⟩
  .have hx:((a++(yv,yb,yk)::d).map mkA).toArray[a.length]?=some (mkA (yv,yb,yk)):=by simp
   have he:(((a++(yv,yb,yk)::d).map mkA).toArray.modify a.length λe=>{ e with key:=cmG yv,val:=IV x })=((a++(yv,x,yk)::d).map mkA).toArray:=by
    apply ip;intro i;rw[i6];split
    .rename_i hi
     subst hi;simp[mkA,cmG,IV,cmV]
    .rename_i hi
     simp only[gd,fG,fN];rcases gj i a.length with g|g
     .rw[fC (by simpa using g),fC (by simpa using g)]
     .rw[fI (by simpa using g),fI (by simpa using g)];obtain⟨q,hq⟩:∃ q,i-(a.map mkA).length=q+1:=⟨i-a.length-1,by simp;omega⟩;rw[hq];rfl
   have hst:=Wy yv w;rw[Instr.mapUpdate];simp only[Sem.run_bind,run_underlying underlying88,Result.andThen_ok,hg,DY,F8,h1,fV,hx,gb,jp];rw[R2,hst,Result.andThen_ok,he,hs];rfl
  .intro y hy;rcases Y'.1 hy with hy|hy
   .exact hk y (gg _ hy)
   .rcases fD.1 hy with rfl|hy
    .exact hk (yv,yb,yk) (by simp)
    .exact hk y (gm _ (Q' _ hy))
  .simpa using hn1
  .simpa using hn2
  .intro u;rw[show(List.find? (λx=>decide (u=x.1)) (a++(yv,x,yk)::d)).map (·.2.1)=EM (a++(yv,x,yk)::d) u from rfl,US a d yv u yb x yk h3];unfold DU;split
   .rfl
   .exact hf u
theorem Xn(h:AskAt g w τ b f)(v:Cmd)(ty:TypeId):∃ w',(Builtin.delete_ #[88,53] ty #[.map (some b),cmG v]).run prog w=.ok (.tuple #[]) w'/\AskAt g w' τ b (DU f v none)/\(∀ B T,τ∈T->Cg B T g w g w')/\w'.heap.size=w.heap.size:=by
 obtain⟨ht,hkp,c,k,hb,hk,hn1,hn2,hf⟩:=h;have hg:(getObj b).run prog w=.ok (.map (c.map mkA).toArray k) w:=by simp[getObj,Sem.run,hb]
 rcases Jt v c 0 with⟨h1,h2,h3⟩|⟨a,y,d,rfl,hy,h3,h1,h2⟩
 .have hs:=MapKept.run_setObj_map (P:=prog) (w:=w) (.map (c.map mkA).toArray k) hb;refine⟨_,?_,⟨ht,hkp,c,k,ChangeMaps.heap_setBlock_same hb (.map (c.map mkA).toArray k),hk,hn1,hn2,?_⟩,λB T hT=>Cg.block hb ht hkp hT _,by simp[ChangeMaps.setBlock]⟩
  .simp[Builtin.delete_,run_underlying underlying88,hg,DY,F8,h1,hs];rfl
  .intro u;unfold DU;split
   .rename_i e;rw[e];exact h2.symm
   .exact hf u
 .obtain⟨yv,yb,yk⟩:=y;simp only at hy;subst hy;have hs:=MapKept.run_setObj_map (P:=prog) (w:=w) (.map ((a++d).map mkA).toArray k) hb;have h4:∀ y∈d,yv≠y.1:=by
   intro y hy e;rw[fG,fN,jl]at hn2
   exact(List.nodup_cons.1 hn2.2.1).1 (fS.2 ⟨y,hy,e.symm⟩)
  refine⟨_,?_,⟨ht,hkp,a++d,k,ChangeMaps.heap_setBlock_same hb (.map ((a++d).map mkA).toArray k),?_,?_,?_,?_⟩,λB T hT=>Cg.block hb ht hkp hT _,by simp[ChangeMaps.setBlock]⟩
  .have he:(((a++(yv,yb,yk)::d).map mkA).toArray.eraseIdxIfInBounds a.length)=((a++d).map mkA).toArray:=by
    rw[Array.eraseIdxIfInBounds,dif_pos (by simp)];simp[List.eraseIdx_append_of_length_le]
   have hF:=F8 yv w (a++(yv,yb,yk)::d);rw[h1,fV]at hF
   simp only[Builtin.delete_,gd,gp,iN,Sem.run_bind,run_underlying underlying88,Result.andThen_ok,hg,DY,hF,he,hs];rfl
  .intro y hy;rcases Y'.1 hy with hy|hy
   .exact hk y (gg _ hy)
   .exact hk y (gm _ (Q' _ hy))
  .rw[fG,fN]at hn1
   rw[fG];exact hn1.sublist (List.Sublist.append_left (List.sublist_cons_self _ _) _)
  .rw[fG,fN]at hn2
   rw[fG];exact hn2.sublist (List.Sublist.append_left (List.sublist_cons_self _ _) _)
  .intro u;rw[show(List.find? (λx=>decide (u=x.1)) (a++d)).map (·.2.1)=EM (a++d) u from rfl,UT a d yv u yb yk h3 h4];unfold DU;split
   .rfl
   .exact hf u
end
section
variable{fn:Func}{R:Ending->World->Prop}{B:Nat}{T:List Tg}{g:Gh}{w:World}
section
variable{b:Nat}{f:Cmd->Option Bal}{g:Gh}{s:Xs}{w:World}{τ:Tg}
theorem Wb(h:AskAt g w τ b f)(v:Cmd):(Instr.lookup 88 (.map (some b)) (cmG v) true).run prog w=.ok (.tuple #[IV ((f v).getD Cr),.bool (f v).isSome]) w:=ZE h v true
theorem bH(h:AskAt g w τ b f)(v:Cmd):(Instr.lookup 88 (.map (some b)) (cmG v) false).run prog w=.ok (IV ((f v).getD Cr)) w:=ZE h v false
theorem Rp(i':Nat)(v:Cmd)(x:Bal)(h:AskAt g w τ b f)(hsem:CK s i'=some (Instr.mapUpdate 88 (.map (some b)) (cmG v) (IV x)>>=λ_=>pure .skip))(hob:(nxt s i' undef s.L).o.map Ob.l'=(nxt s i' undef s.L).o.map Ob.r')(hT:s.L.all (λy=>[τ].all λt=>y.t.ne t)=true)(hk:∀ w',AskAt g w' τ b (DU f v (some x))->(∀ B T,τ∈T->Cg B T g w g w')->GG prog fn R B T (nxt s i' undef s.L).s g w'):GG prog fn R B T s g w:=by
 refine JQ i' s.L hob (BC hsem) λhK ops i o hop=>?_;obtain⟨w',hr,h2,h3,h4⟩:=Xo h v x;refine⟨undef,w',g,.inr ⟨?_,rfl⟩,hK.ch (h3 _ [τ] (O'.2 rfl)) (λb hb=>hK.new b (by rw[h4]at hb;exact hb)) hT,hk w' h2 h3⟩;rw[CP hsem hop,Sem.run_bind,hr,Result.andThen_ok];rfl
theorem XJ(i':Nat)(v:Cmd)(ty:TypeId)(h:AskAt g w τ b f)(hsem:CK s i'=some (Builtin.delete_ #[88,53] ty #[.map (some b),cmG v]>>=λv=>pure (.value v)))(hob:(nxt s i' undef s.L).o.map Ob.l'=(nxt s i' undef s.L).o.map Ob.r')(hT:s.L.all (λy=>[τ].all λt=>y.t.ne t)=true)(hk:∀ w',AskAt g w' τ b (DU f v none)->(∀ B T,τ∈T->Cg B T g w g w')->GG prog fn R B T (nxt s i' (.tuple #[]) s.L).s g w'):GG prog fn R B T s g w:=by
 refine JQ i' s.L hob (BC hsem) λhK ops i o hop=>?_;obtain⟨w',hr,h2,h3,h4⟩:=Xn h v ty;refine⟨.tuple #[],w',g,.inl ?_,hK.ch (h3 _ [τ] (O'.2 rfl)) (λb hb=>hK.new b (by rw[h4]at hb;exact hb)) hT,hk w' h2 h3⟩;rw[CP hsem hop,Sem.run_bind,hr,Result.andThen_ok];rfl
end
end
section
def TO:List Tg:=[.n 50 0,.n 51 0,.n 52 0]
variable{c:Cmd}{g:Gh}{i k nb ob:Nat}{l:List Cmd}{ls:List Let}{p:Nod}{ts:List Tol}{w:World}{x:S3}
theorem Wp{x:NX}{lt tl:S3}(hN:NodeAt g w i nb ob x p)(hO:OutAt g w ob lt tl ls ts)(hg:Hs g w)(hb:ls.length<100000000)(l:Let)(vs wh:S3)(hv:FSv g w vs l.votes)(hw:Rc g w wh l.what)(to:Nat) :
  Calls prog 81 #[pt nb 0,iv (to:Int),.agg (Ev l vs wh)] w λe w'=>∃ g' lt',e=.returned (.tuple #[])/\OutAt g' w' ob lt' tl (ls++[{ l with src:=i,dst:=to }]) ts/\Cg w.heap.size TO g w g' w'/\Hs g' w':=by
 obtain⟨bs,hL,hLs⟩:=hO.lets;have hln:lt.n=ls.length:=by have:=hL.len;have:=hLs.len;simp at *;omega
 refine gI (fn:=f81) TO g func81 hg ?_;refine qN hN ?_;refine qO hO ?_;refine qR [] 29 [0,0,0,2,0,2,0,15,0,2,4,6,0,8,10,12,14,0,16,18,20,1,23,0,0] λs1 g1 w1 c1=>?_;refine IX 12 (x:=lt) 63 63 141 1 8 (.pointer none) ⟨(s1 1),0,none⟩ 1 1 [pt (s1 0) 0] (hL.ch c1) (by kernel_rfl) (by kernel_rfl) (by kernel_rfl) underlying63 (by kernel_rfl) (by kernel_rfl) (by decide) (by decide) rfl (by simp[Value.oneCell']) (λK=>BL K 3 (s1 1) [pt (s1 0) 0] 141 .z true (by kernel_rfl)) (by rw[hln];unfold maxLen;omega) (by rw[hln];omega) ?_;intro y2 g2 w2 a2 n2 cc2 G2;have c2:=cc2 w.heap.size [.n 51 0] (O'.2 rfl);refine qR [.n 50 0] 4 [26,28,31,1,1] λs3 g3 w3 c3=>?_;refine qE (.tuple #[]) λK=>?_;obtain⟨q1,q2,q3⟩:=K.isN 1 ob (.cells #[S3.v y2,S3.v tl] 65) 50 0 (by kernel_rfl);obtain⟨q4,q5⟩:=K.isZ 2 (s1 0) (.cells (Ev { l with src:=i,dst:=to } vs wh) 140) false (by kernel_rfl);have hz:∀ r,Tg.z∉[Tg.n r 0]:=λr=>by simp
 refine⟨_,y2,rfl,⟨q1,q2,q3,⟨bs++[(s1 0)],?_,?_⟩,(((hO.told.ch c1).ch c2).ch c3)⟩,(((c1.nil TO).trans (c2.mono (by simp[TO]))).trans (c3.mono (by simp[TO]))),K.new⟩
 .rw[fG];exact a2.ch c3
 .refine(((hLs.ch c1).ch c2 (hz _)).ch c3 (hz _)).snoc ⟨vs,wh,⟨q4,q5⟩,(((hv.ch c1).ch c2 (hz _)).ch c3 (hz _)),(((hw.ch c1).ch c2 (hz _)).ch c3 (hz _))⟩
theorem AG(h:NS i nb ob g w p ls ts)(hb:p.pend.length<100000000)(fv:Fn)(cv:Array Value)(q:Pend)(hv:J0 g w nb (.func fv #[] cv) q) :
  Calls prog 54 #[pt nb 0,.func fv #[] cv] w (NP i nb ob g w (.tuple #[]) (p.wait q) ls ts):=by
 obtain⟨x,lt,tl,hN,hO,hg⟩:=h;obtain⟨vs,hP,hPs⟩:=hN.pend;have hn:x.synced.n=p.pend.length:=by have:=hP.len;have:=hPs.len;simp at *;omega
 refine gI (fn:=f54) (TN i) g func54 hg ?_;refine qN hN ?_;refine qO hO ?_;refine qR [] 9 [0,0,0] λs1 g1 w1 c1=>?_;refine IX 8 (x:=x.synced) 77 77 1 1 8 (.nilFunc) ⟨(s1 0),0,none⟩ 1 1 [.func fv #[] cv] (hP.ch c1) (by kernel_rfl) (by kernel_rfl) (by kernel_rfl) underlying77 (by kernel_rfl) (by kernel_rfl) (by decide) (by decide) rfl (by simp[Value.oneCell']) (λK=>BL K 2 (s1 0) [.func fv #[] cv] 1 .z true (by kernel_rfl)) (by rw[hn];unfold maxLen;omega) (by rw[hn];omega) ?_;intro y2 g2 w2 a2 n2 cc2 G2;have c2:=cc2 w.heap.size [.n 1 i] (O'.2 rfl);refine qR [.n 0 i] 5 [0,1] λs3 g3 w3 c3=>?_;refine qE (.tuple #[]) λK=>?_;have C4:=((c1.nil ([.n 1 i,.n 0 i]:List Tg)).m c2).m c3;have Z4:Tg.z∉([.n 1 i,.n 0 i]:List Tg):=by simp
 exact⟨_,rfl,⟨{ x with synced:=y2 },lt,tl,K.nd 0 (hN.tape.ch C4 Z4) (hN.votes.ch C4 Z4) (Ba hN.heard C4 Z4) ⟨vs++[.func fv #[] cv],a2.ch c3,(hPs.ch C4 Z4).snoc (hv.ch C4 Z4)⟩ (hN.queue.ch C4) (hN.agreed.ch C4) (hN.wants.ch C4) (hN.asked.ch C4) hN.upm,hO.ch C4 Z4 (by simp<;>omega),K.new⟩,(((c1.nil (TN i)).trans (c2.mono (by simp[TN]))).trans (c3.mono (by simp[TN])))⟩
theorem OX(h:NS i nb ob g w p ls ts)(hb:ts.length<100000000)(c:Cmd)(ae aa:Int) :
  Calls prog 51 #[pt nb 0,.agg (cmC c),.agg #[iv ae,iv aa]] w (NP i nb ob g w (.tuple #[]) p ls (ts++[⟨i,c.c,c.s,ae,aa⟩])):=by
 obtain⟨x,lt,tl,hN,hO,hg⟩:=h;have hn:tl.n=ts.length:=by have h1:=hO.told.len;rw[Fr]at h1;omega
 refine gI (fn:=f51) (TN i) g func51 hg ?_;refine qN hN ?_;refine qO hO ?_;refine qR [] 28 [0,0,0,0,25,0,2,4,6,0,8,10,12,14,0,16,18,20,1,22,24,26,28,0,30,32,2,34,36,2,38,3,40,43,0,0] λs1 g1 w1 c1=>?_;refine IX 22 (x:=tl) 32 32 101 5 40 (.agg #[iv 0,iv 0,iv 0,iv 0,iv 0]) ⟨(s1 2),0,none⟩ 1 1 [iv (i:Int),iv c.c,iv c.s,iv ae,iv aa] (hO.told.ch c1) (by kernel_rfl) (by kernel_rfl) (by kernel_rfl) underlying32 (by kernel_rfl) (by kernel_rfl) (by decide) (by decide) rfl (by simp[Value.oneCell']) (λK=>BL K 4 (s1 2) [iv (i:Int),iv c.c,iv c.s,iv ae,iv aa] 101 .z true (by kernel_rfl)) (by rw[hn];unfold maxLen;omega) (by rw[hn];omega) ?_;intro y2 g2 w2 a2 n2 cc2 G2;have c2:=cc2 w.heap.size [.n 52 0] (O'.2 rfl);refine qR [.n 50 0] 4 [46,48,51,1,1] λs3 g3 w3 c3=>?_;refine qE (.tuple #[]) λK=>?_;have C4:=((c1.nil ([.n 52 0,.n 50 0]:List Tg)).m c2).m c3;have Z4:Tg.z∉([.n 52 0,.n 50 0]:List Tg):=by simp
 exact⟨_,rfl,⟨x,lt,y2,K.ndu 0 hN C4,K.od 1 (Dd hO.lets C4 Z4 (by simp)) (by rw[List.flatMap_append];exact a2.ch c3),K.new⟩,(((c1.nil (TN i)).trans (c2.mono (by simp[TN]))).trans (c3.mono (by simp[TN])))⟩
theorem Jk(h:NS i nb ob g w p ls ts)(lb:Nat)(l:Let)(hl:BW g w lb l) :
  Calls prog 43 #[pt nb 0,pt lb 0] w (NP i nb ob g w (.tuple #[]) { p with rounds:=max p.rounds l.bal.r } ls ts):=by
 obtain⟨x,lt,tl,hN,hO,hg⟩:=h;refine gI (fn:=f43) (TN i) g func43 hg ?_;refine qN hN ?_;refine qO hO ?_;obtain⟨vs,wh,hl1,hl2,hl3⟩:=hl;refine BF ⟨lb,_,.z,false⟩ (λ_=>⟨hl1.r,hl1.z,λh=>(by cases h),λh=>absurd rfl h⟩) (by kernel_rfl) ?_;refine qR [] 12 [15,0,2,4,6,8,10,0,12,14,16,18,20,2] λs1 g1 w1 c1=>?_;refine qT 11 (iv (max p.rounds l.bal.r)) (λ_=>(dN #[3,3] 3 p.rounds l.bal.r)) ?_;refine qR [.n 0 i] 5 [24,26,28,31,0,1] λs2 g2 w2 c2=>?_;refine qE (.tuple #[]) λK=>?_;have C3:=(c1.nil ([.n 0 i]:List Tg)).trans (c2);exact⟨_,rfl,⟨x,lt,tl,K.ndu 0 hN C3,hO.ch C3 (hn:=by simp<;>omega),K.new⟩,((c1.nil (TN i)).trans (c2.mono (by simp[TN])))⟩
theorem EA(h:NS i nb ob g w p ls ts)(hb:ls.length<100000000)(l:Let)(vs wh:S3)(hv:FSv g w vs l.votes)(hw:Rc g w wh l.what)(to:Nat) :
  Calls prog 81 #[pt nb 0,iv (to:Int),.agg (Ev l vs wh)] w (NP i nb ob g w (.tuple #[]) p (ls++[{ l with src:=i,dst:=to }]) ts):=by
 obtain⟨x,lt,tl,hN,hO,hg⟩:=h;refine(Wp hN hO hg hb l vs wh hv hw to).mono ?_;rintro e w' ⟨g',lt',rfl,h1,h2,h3⟩;exact⟨g',rfl,⟨x,lt',tl,hN.ch h2 (by simp[TO]) (λr hr=>by simp[TO];omega),h1,h3⟩,h2.mono (by simp[TO,TN])⟩
def BI(i:Nat)(l:Let)(k:Nat):List Let:=((List.range k).filter λj=>decide (j≠i)).map λto=>{ l with src:=i,dst:=to }
theorem Wt{l:Let}(h:k≠i):BI i l (k+1)=BI i l k++[{ l with src:=i,dst:=k }]:=by unfold BI;rw[ia,iq,fG];simp[h]
theorem Wr{l:Let}(h:k=i):BI i l (k+1)=BI i l k:=by unfold BI;rw[ia,iq,fG];simp[h]
theorem Ws(i:Nat)(l:Let)(k:Nat):(BI i l k).length<=k:=by unfold BI;rw[fM];exact fy (i7 _ _) (by simp)
theorem Dz(h:NS i nb ob g w p ls ts)(hb:ls.length<90000000)(l:Let)(vs wh:S3)(hv:FSv g w vs l.votes)(hw:Rc g w wh l.what) :
  Calls prog 57 #[pt nb 0,.agg (Ev l vs wh)] w (NP i nb ob g w (.tuple #[]) p (ls++BI i l 5) ts):=by
 obtain⟨x,lt,tl,hN,hO,hg⟩:=h;refine gI (fn:=f57) (TN i) g func57 hg ?_;refine qN hN ?_;refine qO hO ?_;refine qR [] 9 [0,0] λs1 g1 w1 c1=>?_;refine Br 19 [(0,pt nb 0),(3,pt (s1 0) 0),(5,iv 0)] [false,false,true] [⟨(s1 0),.cells #[iv (l.kind:Int),iv (l.src:Int),iv (l.dst:Int),iv l.bal.r,iv l.bal.n,iv l.vote.slot,iv l.vote.b.r,iv l.vote.b.n,iv l.vote.w.k,iv l.vote.w.c,iv l.vote.w.s,iv l.vote.w.n,iv l.vote.w.v,S3.v vs,iv (l.slot:Int),S3.v wh] 140,.z,false⟩] (λk g' w' e L=>∃ j:Nat,k=5-j/\j<=5/\e=[(0,pt nb 0),(3,pt (s1 0) 0),(5,iv (j:Int))]/\L=[⟨(s1 0),.cells #[iv (l.kind:Int),iv (l.src:Int),iv (l.dst:Int),iv l.bal.r,iv l.bal.n,iv l.vote.slot,iv l.vote.b.r,iv l.vote.b.n,iv l.vote.w.k,iv l.vote.w.c,iv l.vote.w.s,iv l.vote.w.n,iv l.vote.w.v,S3.v vs,iv (l.slot:Int),S3.v wh] 140,.z,false⟩]/\NS i nb ob g' w' p (ls++BI i l j) ts/\Cg w.heap.size (TN i) g w g' w') (by kernel_rfl) (by kernel_rfl) (by kernel_rfl) (by kernel_rfl) 5 (λK=>?_) ?_
 .have C2:=c1;refine⟨0,rfl,by omega,rfl,rfl,?_,c1.nil _⟩;rw[show BI i l 0=[]from rfl,fZ];exact(nsC hN hO C2 K)
 .rintro k gr wr _ zr _ ⟨j,rfl,hj,rfl,rfl,hM,hC⟩ J hJ;have hs:=Ws i l j;obtain⟨xr,ltr,tlr,hNr,hOr,hgr⟩:=hM;refine qN hNr ?_;refine qO hOr ?_;refine qR [] 5 [] λs3 g3 w3 c3=>?_;by_cases h1:j<5
  .refine qI (decide ((j:Int)<5)) true (I' (by omega)) ?_;refine qR [] 17 [1] λs4 g4 w4 c4=>?_;by_cases h2:(j:Int)≠(i:Int)
   .refine qI (((j:Int) != (i:Int))) true (by simpa using h2) ?_;refine qR [] 4 [0] λs5 g5 w5 c5=>?_;have C0:=(((hC.n c3).n c4).n c5);refine Ae λK=>?_;have N6:NS i nb ob g5 w5 p (ls++BI i l j) ts:=(nsC hNr hOr ((c3.n c4).n c5) K);refine qG 3 (TN i) [true,false,false] (EA N6 (by simp;omega) l vs wh (hv.ch C0 (AW i)) (hw.ch C0 (AW i)) j) ?_;rintro e' w6 ⟨g6,rfl,M6,c6⟩;refine⟨_,g6,rfl,c6,M6.new,?_⟩;replace c6:=c6.ret (B:=w.heap.size);rw[fF,<- Wt (by omega)]at M6
    obtain⟨x6,lt6,tl6,hN6,hO6,hg6⟩:=M6;refine qN hN6 ?_;refine qO hO6 ?_;refine qR [] 3 [] λs8 g8 w8 c8=>?_;refine qV 0 (iv ((j:Int)+1)) (AK (x:=(.tmp 5)) (y:=(.const (iv 1))) (j:Int) 1 underlying3 (by omega)) ?_;refine qR [] 2 [] λs9 g9 w9 c9=>?_;refine qB [true,false,false] λz K0 K=>hJ (5-(j+1)) _ _ _ z _ (by omega) ⟨j+1,rfl,by omega,rfl,rfl,?_,((((((hC.n c3).n c4).n c5).trans c6).n c8).n c9)⟩ K;have hst:NS i nb ob g9 w9 p (ls++BI i l (j+1)) ts:=(nsC hN6 hO6 (c8.n c9) K0);exact hst
   .refine qI (((j:Int) != (i:Int))) false (by simpa using h2) ?_;refine qR [] 3 [] λs11 g11 w11 c11=>?_;refine qV 0 (iv ((j:Int)+1)) (AK (x:=(.tmp 5)) (y:=(.const (iv 1))) (j:Int) 1 underlying3 (by omega)) ?_;refine qR [] 2 [] λs12 g12 w12 c12=>?_;refine qB [true,false,false] λz K0 K=>hJ (5-(j+1)) _ _ _ z _ (by omega) ⟨j+1,rfl,by omega,rfl,rfl,?_,((((hC.n c3).n c4).n c11).n c12)⟩ K;have hst:NS i nb ob g12 w12 p (ls++BI i l j) ts:=(nsC hNr hOr (((c3.n c4).n c11).n c12) K0);exact(by simpa[Wr (show j=i by omega)]using hst)
  .refine qI (decide ((j:Int)<5)) false (D' (by omega)) ?_;refine qR [] 1 [] λs14 g14 w14 c14=>?_;obtain rfl:j=5:=by omega
   exact qF hNr hOr (c3.n c14) ((hC.n c3).n c14)
theorem LB(h:NS i nb ob g w p ls ts) :
  Calls prog 83 #[pt nb 0] w λe w'=>e=.returned (.bool p.leads)/\Bw w w':=by
 obtain⟨x,lt,tl,hN,hO,hg⟩:=h;refine gI (fn:=f83) (TN i) g func83 hg ?_;refine qN hN ?_;refine qO hO ?_;refine qR [] 13 [24,0,2,4,6,8,10,0,12] λs1 g1 w1 c1=>?_;by_cases h1:p.rnd.bal=Cr
 .refine qT 7 (.bool false) (λ_=>(LQ (x:=(.tmp 8)) (y:=(.tmp 9)) p.rnd.bal Cr h1)) ?_;refine qR [] 17 [16,18,20,22,24,26,28,30,32,34,36,38,40,42,44,46] λs2 g2 w2 c2=>?_;exact qE (.bool false) λK=>⟨(by rw[show p.leads=false from D' (λh=>h.1 h1)]),Cg.below (c1.trans c2) (λ_ _=>H')⟩
 .refine qT 7 (.bool true) (λ_=>(LR (x:=(.tmp 8)) (y:=(.tmp 9)) p.rnd.bal Cr h1)) ?_;refine qR [] 13 [16,18,20,22,24,26,28,0,30,32,34,36,38,40,0] λs4 g4 w4 c4=>?_;refine qT 21 (.bool (decide (p.rnd.bal=p.vo.p))) (λ_=>(eS (x:=(.tmp 17)) (y:=(.tmp 23)) p.rnd.bal p.vo.p)) ?_;refine qR [] 3 [44,46] λs5 g5 w5 c5=>?_;exact qE (.bool (decide (p.rnd.bal=p.vo.p))) λK=>⟨(by rw[show p.leads=decide (p.rnd.bal=p.vo.p)from gE.2 ⟨λh=>h.2,λh=>⟨h1,h⟩⟩]),Cg.below ((c1.trans c4).trans c5) (λ_ _=>H')⟩
theorem Kw(h:NS i nb ob g w p ls ts)(hb:p.pend.length<100000000)(to:Nat)(e:Int) :
  Calls prog 79 #[pt nb 0,iv (to:Int),iv e] w (NP i nb ob g w (.tuple #[]) (p.refuse to e) ls ts):=by
 obtain⟨x,lt,tl,hN,hO,hg⟩:=h;refine gI (fn:=f79) (TN i) g func79 hg ?_;refine qN hN ?_;refine qO hO ?_;refine qR [] 11 [0,0,0,0] λs1 g1 w1 c1=>?_;by_cases h1:e=7
 .refine qI (e != 7) false (by simpa using h1) ?_;refine qR [] 15 [2,0,0,0,4,0,2] λs2 g2 w2 c2=>?_;refine Ae λK=>?_;obtain⟨z1,z2⟩:=K.isZ 2 (s1 0) (.cells #[pt nb 0] 68) false (by kernel_rfl);obtain⟨z3,z4⟩:=K.isZ 3 (s1 1) (.cells #[iv (to:Int)] 3) false (by kernel_rfl);obtain⟨z5,z6⟩:=K.isZ 4 (s2 0) (.cells #[iv p.vo.p.r,iv p.vo.p.n] 73) true (by kernel_rfl);have N3:NS i nb ob g2 w2 p ls ts:=(nsC hN hO (c1.n c2) K);refine qS0 2 [false,false,true,true,true] (AG N3 hb _ _ (.refuse to p.vo.p) ⟨(s1 0),(s1 1),(s2 0),rfl,⟨z1,z2⟩,⟨z3,z4⟩,⟨z5,z6⟩⟩) λg3 w3 x3 lt3 tl3 hN3 hO3 c3=>?_;refine qR [] 1 [] λs5 g5 w5 c5=>?_;refine qE (.tuple #[]) λK=>?_;rw[show p.refuse to e=p.wait (.refuse to p.vo.p)from if_pos h1];exact⟨_,rfl,(nsC hN3 hO3 c5 K),((((c1.nil (TN i)).n c2).trans (c3)).n c5)⟩
 .refine qI (e != 7) true (by simpa using h1) ?_;refine qE (.tuple #[]) λK=>?_;rw[show p.refuse to e=p from if_neg h1];exact⟨_,rfl,(nsC hN hO c1 K),(c1.nil (TN i))⟩
def gh0:Gh:=⟨λ_=>.z,λ_=>0⟩
def NR(l:List Cmd)(c:Cmd):Int:=if c∈l then(l.idxOf c:Int)else -1
theorem NT:∀ {l:List Cmd} {j:Nat},l[j]?=some c->l.idxOf c<=j
 | [],j,h=>by cases h
 | d::l,0,h=>by simp only[gp,U']at h;subst h;simp
 | d::l,j+1,h=>by
  have:=NT (l:=l) (j:=j) (by simpa using h);rw[List.idxOf_cons];cases d==c<;>simp<;>omega
theorem XS(l:List Cmd)(c:Cmd):decide (0<=NR l c)=decide (c∈l):=by
 unfold NR;by_cases hm:c∈l
 .rw[if_pos hm,I' hm];exact I' (by omega)
 .rw[if_neg hm,D' hm];rfl
theorem Vg{j:Nat}(h:l[j]?=some c)(hb:∀ i,i<j->l[i]?≠some c):NR l c=(j:Int):=by
 have hm:c∈l:=fQ h;have hj:j<l.length:=(P'.1 h).1;unfold NR;rw[if_pos hm]
 congr 1
 have h1:l.idxOf c<l.length:=List.idxOf_lt_length_iff.2 hm;have h2:l[l.idxOf c]?=some c:=by rw[E' h1,List.getElem_idxOf h1]
 rcases iU (l.idxOf c) j with h3|h3|h3
 .exact absurd h2 (hb _ h3)
 .exact h3
 .have:=NT h;omega
theorem L5(h:RdC w x l)(hb:l.length<100000000)(c:Cmd) :
  Calls prog 94 #[x.v,.agg #[iv c.k,iv c.c,iv c.s,iv c.n,iv c.v]] w λe w'=>e=.returned (iv (NR l c))/\Bw w w':=by
 have hn:=h.len;refine gI (fn:=f94) [] gh0 func94 (λ_ _=>⟨rfl,rfl⟩) ?_;refine qR [] 13 [0,0] λs1 g1 w1 c1=>?_;refine Br 19 [(0,S3.v x),(3,pt (s1 0) 0),(7,iv (x.n:Int)),(8,iv 0)] [true] [⟨(s1 0),.cells #[iv c.k,iv c.c,iv c.s,iv c.n,iv c.v] 53,.z,false⟩] (λk g' w' e L=>∃ j:Nat,k=l.length-j/\j<=l.length/\e=[(0,S3.v x),(3,pt (s1 0) 0),(7,iv (x.n:Int)),(8,iv (j:Int))]/\L=[⟨(s1 0),.cells #[iv c.k,iv c.c,iv c.s,iv c.n,iv c.v] 53,.z,false⟩]/\(∀ i,i<j->l[i]?≠some c)/\Cg w.heap.size [] gh0 w g' w') (by kernel_rfl) (by kernel_rfl) (by kernel_rfl) (by kernel_rfl) l.length (λK=>?_) ?_
 .exact⟨0,rfl,by omega,rfl,rfl,λi hi=>absurd hi (by omega),c1⟩
 .rintro k gr wr _ zr _ ⟨j,rfl,hj,rfl,rfl,hI,hC⟩ J hJ;refine qR [] 5 [] λs2 g2 w2 c2=>?_;by_cases h1:j<l.length
  .refine qI ((decide ((j:Int)<(x.n:Int)))) true (I' (by omega)) ?_;obtain⟨cj,hcj⟩:∃ cj,l[j]?=some cj:=⟨_,E' h1⟩;rcases h.ex with h2|⟨bx,ox,hxa,hbx,hcell⟩
   .exact absurd h1 (by rw[h2];simp)
   refine qR [] 13 [6,0,0,2,4] λs3 g3 w3 c3=>?_;refine qT 3 (pt bx (ox+5*j)) (λ_=>(O7 hxa j (by omega))) ?_;have hW:=Cg.below (hC.trans (c2.trans c3)) (λ_ _=>H');refine qV 4 (.agg #[iv cj.k,iv cj.c,iv cj.s,iv cj.n,iv cj.v]) (Wa cj λi u hu=>(hW.cell (p:=⟨bx,ox+5*j+i,none⟩) hbx).trans (by rw[go];exact hcell _ u (Mm hcj hu))) ?_;refine qT 5 (.bool (decide (c=cj))) (λ_=>(eT (x:=(.tmp 11)) (y:=(.tmp 15)) c cj)) ?_;refine qR [] 1 [] λs6 g6 w6 c6=>?_;by_cases h3:c=cj
   .refine qI (decide (c=cj)) true (I' h3) ?_;refine qR [] 5 [] λs7 g7 w7 c7=>?_;exact qE (iv (j:Int)) λK=>⟨by rw[Vg (by rw[h3];exact hcj) hI],Cg.below (hC.trans (((c2.trans c3).trans c6).trans c7)) (λ_ _=>H')⟩
   .refine qI (decide (c=cj)) false (D' h3) ?_;refine qR [] 3 [] λs8 g8 w8 c8=>?_;refine qV 0 (iv ((j:Int)+1)) (AK (x:=(.tmp 8)) (y:=(.const (iv 1))) (j:Int) 1 underlying3 (by omega)) ?_;refine qR [] 2 [] λs9 g9 w9 c9=>?_;refine qB [true] λz K0 K=>hJ (l.length-(j+1)) _ _ _ z _ (by omega) ⟨j+1,rfl,by omega,rfl,rfl,λi hi=>?_,hC.trans ((((c2.trans c3).trans c6).trans c8).trans c9)⟩ K;rcases gj i j with h4|h4
    .exact hI i h4
    .rw[show i=j by omega,hcj];intro h5;exact h3 (by simpa using h5.symm)
  .refine qI ((decide ((j:Int)<(x.n:Int)))) false (D' (by omega)) ?_;refine qR [] 5 [] λs10 g10 w10 c10=>?_;have hne:c∉l:=λhm=>by obtain⟨i,hi⟩:=ge.1 hm;exact hI i (by have:=(P'.1 hi).1;omega) hi
   exact qE (iv (-1)) λK=>⟨by unfold NR;rw[if_neg hne],Cg.below (hC.trans (c2.trans c10)) (λ_ _=>H')⟩
theorem Er(h:RdC w x l)(hb:l.length<100000000)(c:Cmd) :
  Calls prog 49 #[x.v,.agg #[iv c.k,iv c.c,iv c.s,iv c.n,iv c.v]] w λe w'=>e=.returned (.bool (decide (c∈l)))/\Bw w w':=by
 refine gI (fn:=f49) [] gh0 func49 (λ_ _=>⟨rfl,rfl⟩) ?_;refine qR [] 9 [0,0,0] λs1 g1 w1 c1=>?_;have hB1:=Cg.below c1 (λ_ _=>H');refine qC 2 (L5 (h.below hB1) hb c) ?_;rintro e' w2 ⟨rfl,b2⟩;refine⟨_,rfl,b2,?_⟩;have c2:=Cg.ofBelow (B:=w.heap.size) (T:=[]) (g:=g1) b2;refine qR [] 3 [] λs3 g3 w3 c3=>?_;exact qE (.bool (decide (0<=NR l c))) λK=>⟨by rw[XS],Cg.below ((c1.trans c2).trans c3) (λ_ _=>H')⟩
theorem Rx(h:NS i nb ob g w p ls ts)(hd:p.done<=p.agreed.length) :
  Calls prog 32 #[pt nb 0] w λe w'=>∃ y:S3,e=.returned y.v/\RdC w' y (p.agreed.take p.done)/\Bw w w':=by
 obtain⟨x,lt,tl,hN,hO,hg⟩:=h;have hn:=hN.agreed.num;have hr:=hN.agreed.rd;refine gI (fn:=f32) (TN i) g func32 hg ?_;refine qN hN ?_;refine qO hO ?_;refine qR [] 16 [12,0,2,4,6,8,0,10,12,14,16,18,0] λs1 g1 w1 c1=>?_;refine qT 10 (S3.v (x.agreed.cut 0 p.done)) (λ_=>(dZ x.agreed p.done (by have:=hr.cap;omega))) ?_;refine qR [] 2 [22] λs2 g2 w2 c2=>?_;have hB:=Cg.below (c1.trans c2) (λ_ _=>H');exact qE (S3.v (x.agreed.cut 0 p.done)) λK=>⟨_,rfl,(hr.below hB).take hd,hB⟩
theorem Hi(h:NS i nb ob g w p ls ts)(hb:ls.length<100000000)(to slot:Nat)(hs:slot<=p.agreed.length) :
  Calls prog 91 #[pt nb 0,iv (to:Int),iv (slot:Int)] w (NP i nb ob g w (.tuple #[]) p (ls++[{ Ca 5 with src:=i,dst:=to,slot:=slot,what:=p.agreed.drop slot }]) ts):=by
 obtain⟨x,lt,tl,hN,hO,hg⟩:=h;have hn:=hN.agreed.num;refine gI (fn:=f91) (TN i) g func91 hg ?_;refine qN hN ?_;refine qO hO ?_;refine qR [] 10 [0] λs1 g1 w1 c1=>?_;refine qV 9 (S3.v (x.agreed.cut slot x.agreed.n)) (bK x.agreed slot (by omega)) ?_;refine qR [] 1 [] λs2 g2 w2 c2=>?_;refine Ae λK=>?_;have C4:=c1.n c2;have N3:NS i nb ob g2 w2 p ls ts:=(nsC hN hO C4 K);refine qS0 11 [false,false] (EA N3 hb { Ca 5 with slot:=slot,what:=p.agreed.drop slot } s30 (x.agreed.cut slot x.agreed.n) ⟨Sv.nil _,λh=>absurd rfl h⟩ ((hN.agreed.rc.drop hs).ch C4) to) λg3 w3 x3 lt3 tl3 hN3 hO3 c3=>?_;refine qR [] 1 [] λs5 g5 w5 c5=>?_;exact qF hN3 hO3 c5 ((((c1.nil (TN i)).n c2).trans (c3)).n c5)
end
end Go.Proofs.YtalbmmghmoggcabGreatDoor
