/- Part 11 of the walk. -/
import Derived.Laws.Cover3
import Derived.Test.YtalbmmghmoggcadGreatDoorZ8
set_option maxRecDepth 100000
set_option maxHeartbeats 4000000
open Go.Proofs.Tryz
set_option linter.unusedVariables false
namespace Go.Proofs.YtalbmmghmoggcadGreatDoor
open Go.RowKit
section
variable{P:Program}{fn:Func}{R:Ending->World->Prop}{B:Nat}{T:List Tg}{g:Gh}{w:World}
section
def Ry:List Kt->Bool|.c (.loop _)::_=>true|_=>false
def fZ:List Kt->Code|.c (.loop b)::_=>b|_=>.skip
def isJ:List Kt->Bool|.j _::_=>true|_=>false
def jK:List Kt->Act->World->Prop|.j J::_=>J|_=>λ_ _=>False
def be(s:Xs)(n:Nat)(J:Act->World->Prop)(e:List (Nat × Value))(z:Nat->Value)(L:List Sh):Xs:=⟨.c (fZ s.K)::.j J::s.K.tail,⟨n,e,z⟩,L⟩
variable{s:Xs}
theorem BI(n:Nat)(e0:List (Nat × Value))(m:List Bool)(L0:List Sh)(Inv:Nat->Gh->World->List (Nat × Value)->List Sh->Prop)(hl:Ry s.K=true)(hn:s.f.n=n)(he:e0.map (λp=>lk s.f.z s.f.e p.1)=e0.map (·.2))(hL:B0 (AF m s.L)=L0)(k:Nat)(h0:Kn B g w s.L->Inv k g w e0 L0)(round:∀ k g w e z L,Inv k g w e L->∀ J:Act->World->Prop,(∀ k' g' w' e' z' L',k'<k->Inv k' g' w' e' L'->Kn B g' w' L'->J (⟨n,e',z'⟩:Fm).act w')->GG P fn R B T (be s n J e z L) g w):GG P fn R B T s g w:=by
 refine Ag λhK=>gFm e0 he λz=>?_;obtain⟨K,f,L⟩:=s;simp only at hn;subst hn;have hL':B0 (AF m L)=L0:=hL;have hc:GG P fn R B T ⟨K,⟨f.n,e0,z⟩,B0 (AF m L)⟩ g w->GG P fn R B T ⟨K,⟨f.n,e0,z⟩,L⟩ g w:=λh=>⟨λhK=>h.ex (hK.sub (Db m L)).clr⟩;refine hc ?_;rw[hL'];cases K with
 | nil=>cases hl
 | cons t K =>
  cases t with
  | c x =>
   cases x with
   | loop b=>exact fS Inv (λk g w e z L hI J hJ=>round k g w e z L hI J hJ) (h0 hK)
   | _=>cases hl
  | _=>cases hl
theorem DX(J:Act->World->Prop)(n:Nat)(e:List (Nat × Value))(m:List Bool)(L':List Sh)(hi:isJ s.K=true)(hJ:jK s.K=J)(hn:s.f.n=n)(he:e.map (λp=>lk s.f.z s.f.e p.1)=e.map (·.2))(hL:B0 (AF m s.L)=L')(h:∀ z,Kn B g w s.L->Kn B g w L'->J (⟨n,e,z⟩:Fm).act w):GG P fn R B T s g w:=by
 refine Ag λhK0=>gFm e he λz=>⟨λhK=>?_⟩;obtain⟨K,f,L⟩:=s;simp only at hn hJ hL hi hK0;subst hn;have hK':Kn B g w L':=by rw[<- hL];exact(hK.sub (Db m L)).clr
 cases K with
 | nil=>cases hi
 | cons t K =>
  cases t with
  | j J'=>simp only[jK]at hJ;rw[hJ];exact h z hK0 hK'
  | _=>cases hi
def IX(s:Xs)(i:Nat):Xs:=match s.K with|.x ops (u+1) Ld e L0::K=>⟨.y ops u Ld e L0 i::K,s.f,s.L⟩|_=>s
def bO(s:Xs)(i j:Nat):Bool:=match s.K with|.x ops (_+1) Ld _ _::_=>(match Region.ready .any ops Ld with|[k,l]=>Nat.beq k i&&Nat.beq l j|_=>false)|_=>false
theorem CN(i j:Nat)(hb:bO s i j=true)(h1:GG P fn R B T (IX s i) g w)(h2:GG P fn R B T (IX s j) g w):GG P fn R B T s g w:=by
 refine⟨λhK=>?_⟩;obtain⟨K,f,L⟩:=s;have e1:=h1.ex;have e2:=h2.ex;unfold IX at e1 e2;unfold bO at hb;cases K with
 | nil=>cases hb
 | cons t K =>
  cases t with
  | x ops u Ld e L0 =>
   cases u with
   | zero=>cases hb
   | succ u =>
    simp only at e1 e2 hb;have hr:Region.ready .any ops Ld=[i,j]:=by
     split at hb
     .rename_i k l hk
      simp only[iZ]at hb;rw[hk,ja hb.1,ja hb.2]
     .cases hb
    exact iL hr (e1 hK) (e2 hK)
  | _=>cases hb
def Wi(s:Xs)(J:Act->World->Prop):Xs:=match s.K with|t::K=>⟨t::.j J::K,s.f,s.L⟩|[]=>s
theorem D9(Q:Exit->Act->World->Prop):Exit.then (Q .normal) Q=Q:=by
 funext e a w
 cases e<;>rfl
theorem BX(n:Nat)(Inv:Gh->World->List (Nat × Value)->List Sh->Prop)(hs:s.K.isEmpty=false)(h1:∀ J:Act->World->Prop,(∀ g' w' e z L,Inv g' w' e L->Kn B g' w' L->J (⟨n,e,z⟩:Fm).act w')->GG P fn R B T (Wi s J) g w)(h2:∀ g' w' e z L,Inv g' w' e L->GG P fn R B T ⟨s.K.tail,⟨n,e,z⟩,L⟩ g' w'):GG P fn R B T s g w:=by
 obtain⟨K,f,L⟩:=s;cases K with
 | nil=>cases hs
 | cons t K =>
  have h3:=h1 (Kq P (bodyPost P fn R) K .normal) (λg' w' e z L hI hK=>(h2 g' w' e z L hI).ex hK);refine⟨λhK=>?_⟩;have h4:=h3.ex hK;unfold Wi at h4;simp only at h4;cases t with
  | c x=>simp only[Kq,D9]at h4 ⊢;exact h4
  | b id=>simp only[Kq,D9]at h4 ⊢;exact h4
  | o ops is=>simp only[Kq,D9]at h4 ⊢;exact h4
  | x ops m Ld e L0=>simp only[Kq,D9]at h4 ⊢;exact h4
  | y ops m Ld e L0 i=>simp only[Kq,D9]at h4 ⊢;exact h4
  | j J=>simp only[Kq,D9]at h4 ⊢;exact h4
def zL(L:List Sh)(k:Nat):List Sh:=L.set k { L.getD k default with t:=.z,w:=false }
theorem fV(k:Nat)(b:Nat)(hk:(B0 s.L)[k]?.map (λx=>(x.g,x.t))=some (b,.l))(h:∀ g',Cg B [] g w g' w->GG P fn R B T ⟨s.K,s.f,zL (B0 s.L) k⟩ g' w):GG P fn R B T s g w:=by
 refine⟨λhK0=>?_⟩;have hK:=hK0.clr;generalize hL:B0 s.L=L at *;have hwf:∀ x∈L,x.w=false:=λx hx=>by rw[<- hL]at hx;obtain⟨y,_,rfl⟩:=ju.1 hx;rfl
 have hkl:k<L.length:=by
  cases hx:L[k]? with
  | none=>rw[hx]at hk;cases hk
  | some x=>exact(Q'.1 hx).1
 have hg:L.getD k default=L[k]:=by rw[jd,E' hkl];rfl
 rw[E' hkl]at hk
 simp only[jC,X',jE]at hk;obtain⟨hb,ht⟩:=hk;have hrow:=hK.row _ (jr hkl);have hd:∀ n (hn:n<L.length),n≠k->L[n].g≠b:=λn hn hne he=>by
  have:=hK.two hn hkl hne (by rw[hb];exact he);rw[ht]at this
  cases this.2.1
 let g':Gh:=⟨λc=>if c=b then .z else g.t c,g.k⟩
 have hgt:g.t b=.l:=by rw[<- hb,hrow.2.1];exact ht
 have hBb:B<=b:=by rw[<- hb];exact hrow.2.2.1 ht
 refine(h g' ⟨rfl,rfl,rfl,A' _,λc hc=>?_,λ_ _=>A' _,λ_ _ _ _=>rfl,λ_ _ _ _=>rfl,λ_ _ _ _=>rfl⟩).ex ⟨λx hx=>?_,?_,λc hc=>?_,hK.base⟩
 .show(if c=b then _ else _)=_\/(_/\_/\(if c=b then _ else _)=_);by_cases he:c=b
  .subst he;right;exact⟨hgt,hBb,if_pos rfl⟩
  .left;exact if_neg he
 .unfold zL at hx;simp only at hx;rw[hg]at hx
  obtain⟨n,hn,rfl⟩:=kw hx;have hn':n<L.length:=by simpa using hn
  rw[j9];split
  .refine⟨hrow.1,?_,λh=>(by cases h),λh=>absurd rfl h⟩;show(if L[k].g=b then _ else _)=_;rw[if_pos hb]
  .rename_i hne
   have h1:=hK.row _ (jr hn');refine⟨h1.1,?_,h1.2.2⟩;show(if L[n].g=b then _ else _)=_;rw[if_neg (hd n hn' (λh=>hne h.symm))];exact h1.2.1
 .show(zL L k).Pairwise _;unfold zL;rw[hg,jN];intro i j hi hj hij he;have hi':i<L.length:=by simpa using hi
  have hj':j<L.length:=by simpa using hj
  rw[j9,j9]at he ⊢
  by_cases h1:k=i
  .rw[if_pos h1]at he ⊢
   rw[if_neg (by omega)]at he ⊢
   exact absurd he.symm (by show L[j].g≠L[k].g;rw[hb];exact hd j hj' (by omega))
  .rw[if_neg h1]at he ⊢
   by_cases h2:k=j
   .rw[if_pos h2]at he ⊢
    exact absurd he (by show L[i].g≠L[k].g;rw[hb];exact hd i hi' (by omega))
   .rw[if_neg h2]at he ⊢
    exact hK.two hi' hj' (by omega) he
 .have:=hK.new c hc;show(if c=b then _ else _)=_/\_;refine⟨?_,this.2⟩;split
  .rfl
  .exact this.1
end
end
def gS:Gh:=⟨λ_=>.z,λ_=>0⟩
section
variable{P:Program}{fn:Func}{R:Ending->World->Prop}{B:Nat}{T:List Tg}{g:Gh}{w:World}
def gV(s:Xs)(i j l:Nat):Bool:=match s.K with|.x ops (_+1) Ld _ _::_=>(match Region.ready .any ops Ld with|[a,b,c]=>Nat.beq a i&&(Nat.beq b j&&Nat.beq c l)|_=>false)|_=>false
theorem WK{s:Xs}(i j l:Nat)(hb:gV s i j l=true)(h1:GG P fn R B T (IX s i) g w)(h2:GG P fn R B T (IX s j) g w)(h3:GG P fn R B T (IX s l) g w):GG P fn R B T s g w:=by
 refine⟨λhK=>?_⟩;obtain⟨K,f,L⟩:=s;have e1:=h1.ex;have e2:=h2.ex;have e3:=h3.ex;unfold IX at e1 e2 e3;unfold gV at hb;cases K with
 | nil=>cases hb
 | cons t K =>
  cases t with
  | x ops u Ld e L0 =>
   cases u with
   | zero=>cases hb
   | succ u =>
    simp only at e1 e2 e3 hb;have hr:Region.ready .any ops Ld=[i,j,l]:=by
     split at hb
     .rename_i a b c hk
      simp only[iZ]at hb;rw[hk,ja hb.1,ja hb.2.1,ja hb.2.2]
     .cases hb
    refine⟨λh0=>absurd (hr▸h0) (by simp),hr▸(λq hq=>?_)⟩;rcases(show q=i\/q=j\/q=l by simpa using hq)with rfl|rfl|rfl
    .exact e1 hK
    .exact e2 hK
    .exact e3 hK
  | _=>cases hb
def Tt:List Sh->List Sh
 | [a,b]=>[b,a]
 | a::l=>a::Tt l
 | []=>[]
theorem Hc:∀ L:List Sh,(Tt L).Perm L
 | []=>.refl _
 | [a]=>by simp[Tt]
 | [a,b]=>.swap _ _ _
 | a::b::c::l=>(Hc (b::c::l)).cons a
theorem MR{s:Xs}(h:GG P fn R B T ⟨s.K,s.f,Tt s.L⟩ g w):GG P fn R B T s g w:=by
 refine⟨λhK=>h.ex ⟨λx hx=>hK.row x ((Hc s.L).mem_iff.1 hx),?_,hK.new,hK.base⟩⟩;refine(Hc s.L).symm.pairwise hK.nod ?_;intro x y hxy e;have:=hxy e.symm;exact⟨this.2,this.1⟩
theorem ix{s:Xs}{r i:Nat}{e:TypeId}{sz:Nat}{x:S3}{xs:List Value}(hO:OwnS g w (.n r i) false e sz x xs)(hT:s.L.all (λy=>y.t.ne (.n r i))=true)(h:∀ g',Cg B [.n r i] g w g' w->OwnS g' w (.n r i) true e sz x xs->GG P fn R B T s g' w):GG P fn R B T s g w:=by
 refine⟨λhK=>?_⟩;rcases hO.ex with h1|⟨b,cur,h1,h2,h3,h4,h5,h6,h7,h8⟩
 .exact(h g (Cg.refl _ _ _ _) ⟨hO.len,.inl h1⟩).ex hK
 .have h80:g.k b=0:=h8;have hlt:b<w.heap.size:=(H'.1 h2).1;refine(h (fR g b xs.length) ⟨rfl,rfl,rfl,A' _,λ_ _=>.inl rfl,λd hd=>?_,λd hd hd1 _=>if_neg (λe=>hd1 (by rw[e,h7];exact O'.2 rfl)),λ_ _ _ _=>rfl,λ_ _ _ _=>rfl⟩ ⟨hO.len,.inr ⟨b,cur,h1,h2,h3,h4,h5,h6,h7,if_pos rfl⟩⟩).ex ⟨λy hy=>?_,hK.nod,λd hd=>?_,hK.base⟩
  .show g.k d<=(if d=b then _ else g.k d);split
   .rename_i e;rw[e,h80];exact jf _
   .exact A' _
  .obtain⟨k1,k2,k3,k4⟩:=hK.row y hy;refine⟨k1,k2,k3,λhz=>?_⟩;show(if y.g=b then _ else g.k y.g)=0;rw[if_neg (λe=>Tg.ne_ne (jS.1 hT y hy) (by rw[<- k2,e,h7]))];exact k4 hz
  .have:=hK.new d hd;refine⟨this.1,?_⟩;show(if d=b then _ else g.k d)=0;rw[if_neg (by omega)];exact this.2
end
theorem VR{P:Program}{s:Xs}{i':Nat}{S:Sem Value}{v:Value}{W:World}(h:De s i'=some (S>>=λv=>pure (.value v)))(hr:S.run P W=.ok v W):CW P s i' W=some (.ok (.value v) W):=by
 unfold CW;unfold De at h;cases hx:opN s i' with
 | none=>rw[hx]at h;cases h
 | some x =>
  rw[hx]at h
  simp only[jC,X']at h ⊢;rw[h,Sem.run_bind,hr,Result.andThen_ok];rfl
section
variable{P:Program}{W:World}
section
theorem go(ts:Array TypeId)(t:TypeId)(a b:Int):(Builtin.max_ ts t #[iv a,iv b]).run P W=.ok (iv (max a b)) W:=by
 rw[run_max_int2]
 congr 2
 rw[Int.max_def];by_cases h:a<b
 .rw[if_pos h,if_pos (by omega)]
 .rw[if_neg h];by_cases h2:a<=b
  .rw[if_pos h2];omega
  .rw[if_neg h2]
theorem aS(ts:Array TypeId)(t:TypeId)(a b:Int):(Builtin.min_ ts t #[iv a,iv b]).run P W=.ok (iv (min a b)) W:=by
 rw[run_min_int2]
 congr 2
 rw[Int.min_def];by_cases h:b<a
 .rw[if_pos h,if_neg (by omega)]
 .rw[if_neg h,if_pos (by omega)]
variable{t:TypeId}{x y:Operand}
theorem AD(a b:Int)(hk:P.underlying t=some (.int .i64))(h:-9223372036854775808<=a+b/\a+b<=9223372036854775807):(do Go.eqGuard .add t x y (iv a) (iv b);Go.binOp .add t (iv a) (iv b):Sem Value).run P W=.ok (iv (a+b)) W:=by
 have hw:IntKind.i64.wrap (a+b)=a+b:=by rw[IntKind.wrap_i64];omega
 simp[Go.eqGuard,Go.binOp,go_sem,hw]
theorem eB(a b:Int)(hk:P.underlying t=some (.int .i64))(h:-9223372036854775808<=a-b/\a-b<=9223372036854775807):(do Go.eqGuard .sub t x y (iv a) (iv b);Go.binOp .sub t (iv a) (iv b):Sem Value).run P W=.ok (iv (a-b)) W:=by
 have hw:IntKind.i64.wrap (a-b)=a-b:=by rw[IntKind.wrap_i64];omega
 simp[Go.eqGuard,Go.binOp,go_sem,hw]
end
end
section
theorem SF(a b:Bal):decide (a.r=b.r/\a.n=b.n)=decide (a=b):=jZ.2 (Bal.eq_iff a b)
variable{W:World}{x y:Operand}
theorem i6(a b:Bal):(do Go.eqGuard .eql 102 x y (.agg #[iv a.r,iv a.n]) (.agg #[iv b.r,iv b.n]);Go.binOp .eql 102 (.agg #[iv a.r,iv a.n]) (.agg #[iv b.r,iv b.n]):Sem Value).run prog W=.ok (.bool (decide (a=b))) W:=by
 have h1:=ZA a.r a.n b.r b.n W;rw[SF]at h1
 have hg:(Go.eqGuard .eql 102 x y (.agg #[iv a.r,iv a.n]) (.agg #[iv b.r,iv b.n])).run prog W=.ok () W:=by kernel_rfl
 rw[Sem.run_bind,hg,Result.andThen_ok];exact h1
theorem ec(a b a' b':Int):∀ w,(binOp .neq 102 (.agg #[.int .i64 a,.int .i64 b]) (.agg #[.int .i64 a',.int .i64 b'])).run prog w=.ok (.bool (!decide (a=a'/\b=b'))) w:=by
 intro w;rw[run_neq_struct,run_equalIn_agg w 9999 _ _ _ (by kernel_rfl) (by kernel_rfl)];unfold Program.fieldsOf;rw[underlying102];have h3:=underlying3;simp[Op.eqFields,go_sem,h3]
 repeat' split
 all_goals simp_all
theorem gt(a b:Bal):(do Go.eqGuard .neq 102 x y (.agg #[iv a.r,iv a.n]) (.agg #[iv b.r,iv b.n]);Go.binOp .neq 102 (.agg #[iv a.r,iv a.n]) (.agg #[iv b.r,iv b.n]):Sem Value).run prog W=.ok (.bool (!decide (a=b))) W:=by
 have h1:=ec a.r a.n b.r b.n W;rw[SF]at h1
 have hg:(Go.eqGuard .neq 102 x y (.agg #[iv a.r,iv a.n]) (.agg #[iv b.r,iv b.n])).run prog W=.ok () W:=by kernel_rfl
 rw[Sem.run_bind,hg,Result.andThen_ok];exact h1
theorem NR(a b:Cmd):decide (a.k=b.k/\a.c=b.c/\a.s=b.s/\a.n=b.n/\a.v=b.v)=decide (a=b):=jZ.2 (Cmd.eq_iff a b)
theorem i7(a b:Cmd):(do Go.eqGuard .eql 25 x y (.agg #[iv a.k,iv a.c,iv a.s,iv a.n,iv a.v]) (.agg #[iv b.k,iv b.c,iv b.s,iv b.n,iv b.v]);Go.binOp .eql 25 (.agg #[iv a.k,iv a.c,iv a.s,iv a.n,iv a.v]) (.agg #[iv b.k,iv b.c,iv b.s,iv b.n,iv b.v]):Sem Value).run prog W=.ok (.bool (decide (a=b))) W:=by
 have h1:=SP a.k a.c a.s a.n a.v b.k b.c b.s b.n b.v W;rw[NR]at h1
 have hg:(Go.eqGuard .eql 25 x y (.agg #[iv a.k,iv a.c,iv a.s,iv a.n,iv a.v]) (.agg #[iv b.k,iv b.c,iv b.s,iv b.n,iv b.v])).run prog W=.ok () W:=by kernel_rfl
 rw[Sem.run_bind,hg,Result.andThen_ok];exact h1
theorem Nm(a b:Bal)(h:a≠b):(do Go.eqGuard .neq 102 x y (.agg #[iv a.r,iv a.n]) (.agg #[iv b.r,iv b.n]);Go.binOp .neq 102 (.agg #[iv a.r,iv a.n]) (.agg #[iv b.r,iv b.n]):Sem Value).run prog W=.ok (.bool true) W:=by rw[gt,D' h];rfl
theorem Nl(a b:Bal)(h:a=b):(do Go.eqGuard .neq 102 x y (.agg #[iv a.r,iv a.n]) (.agg #[iv b.r,iv b.n]);Go.binOp .neq 102 (.agg #[iv a.r,iv a.n]) (.agg #[iv b.r,iv b.n]):Sem Value).run prog W=.ok (.bool false) W:=by rw[gt,I' h];rfl
theorem five{j:Nat}(h:j<5):j=0\/j=1\/j=2\/j=3\/j=4:=by omega
theorem FR:∀ ts:List Tol,(ts.flatMap FQ).length=ts.length*5
 | []=>rfl
 | t::r=>by rw[kq,G',FR r,jo];show 5+_=_;omega
end
section
variable{P:Program}{fn:Func}{R:Ending->World->Prop}{B:Nat}{T:List Tg}{g:Gh}{w:World}
section
variable{B' i nb ob:Nat}{C:Ending->World->Prop}{L:List Sh}{S:Sem Value}{T':List Tg}{av:Array Value}{f:FuncId}{g0:Gh}{ls:List Let}{lt tl:S3}{p p0:Nod}{s:Xs}{ts:List Tol}{v:Value}{w0:World}{x x0:NX}
theorem qR(T':List Tg)(m:Nat)(h:List Nat)(hk:∀ gs g' w',Cg B T' g w g' w'->GG P fn R B T (rn0 P T' gs m s h).s g' w')(hob:∀ gs,(rn0 P T' gs m s h).o.map Ob.l'=(rn0 P T' gs m s h).o.map Ob.r':=by intro _;kernel_rfl):GG P fn R B T s g w:=ZK T' m h hob hk
theorem qV(i:Nat)(v:Value)(hr:S.run P w=.ok v w)(hk:GG P fn R B T (nxt s i v s.L).s g w)(hs:De s i=some (S>>=λv=>pure (.value v)):=by kernel_rfl)(hob:(nxt s i undef s.L).o.map Ob.l'=(nxt s i undef s.L).o.map Ob.r':=by kernel_rfl):GG P fn R B T s g w:=ZL i v (λ_=>VR hs hr) hob hk
theorem qT(i:Nat)(v:Value)(hr:∀ W,S.run P W=.ok v W)(hk:GG P fn R B T (tkN s i v false).s g w)(hs:De s i=some (S>>=λv=>pure (.value v)):=by kernel_rfl)(hob:(tkN s i undef false).o.map Ob.l'=(tkN s i undef false).o.map Ob.r':=by kernel_rfl):GG P fn R B T s g w:=Pq i v false (λW _=>VR hs (hr W)) hob hk
theorem qU(i:Nat)(v:Value)(hr:∀ W,(true=true->AP (Yj s) W)->S.run P W=.ok v W)(hk:GG P fn R B T (tkN s i v true).s g w)(hs:De s i=some (S>>=λv=>pure (.value v)):=by kernel_rfl)(hob:(tkN s i undef true).o.map Ob.l'=(tkN s i undef true).o.map Ob.r':=by kernel_rfl):GG P fn R B T s g w:=Pq i v true (λW h=>VR hs (hr W h)) hob hk
theorem qI(b t:Bool)(hb:b=t)(h:GG P fn R B T (K9 s t) g w)(hc:OZ s=.bool b:=by kernel_rfl):GG P fn R B T s g w:=gIf b t hb hc h
theorem qC(i:Nat)(hc:Calls P f av w C)(hk:∀ e w',C e w'->∃ v,e=.returned v/\Bw w w'/\GG P fn R B T (nxt s i v s.L).s g w')(hr:∀ W,CW P s i W=some (.ok (.enter f av) W):=by intro _;kernel_rfl)(hd:Mf s i=true:=by kernel_rfl)(hob:(nxt s i undef s.L).o.map Ob.l'=(nxt s i undef s.L).o.map Ob.r':=by kernel_rfl):GG P fn R B T s g w:=dM i f av hr hd hob hc hk
theorem qG(i:Nat)(T':List Tg)(m:List Bool)(hc:Calls P f av w C)(hk:∀ e w',C e w'->∃ v g',e=.returned v/\Cg w.heap.size T' g w g' w'/\(∀ b,w'.heap.size<=b->g'.t b=.z/\g'.k b=0)/\GG P fn R B T (nxt s i v (AF m s.L)).s g' w')(hr:∀ W,CW P s i W=some (.ok (.enter f av) W):=by intro _;kernel_rfl)(hd:Mf s i=true:=by kernel_rfl)(hob:(nxt s i undef (AF m s.L)).o.map Ob.l'=(nxt s i undef (AF m s.L)).o.map Ob.r':=by kernel_rfl)(hT:(AF m s.L).all (λx=>T'.all λt=>x.t.ne t)=true:=by kernel_rfl):GG P fn R B T s g w:=Rm i f av T' m hr hd hob hT hc hk
theorem qE(v:Value)(h:Kn B g w s.L->R (.returned v) w)(hr:Kn B g w s.L->(results fn s.f.act.tmps).run P w=.ok v w:=by intro _;kernel_rfl)(hs:Mg s.K=true:=by kernel_rfl):GG P fn R B T s g w:=Ul v hs hr h
theorem qB{J:Act->World->Prop}{n:Nat}{e:List (Nat × Value)}(m:List Bool){L':List Sh}(h:∀ z,Kn B g w s.L->Kn B g w L'->J (⟨n,e,z⟩:Fm).act w)(hi:isJ s.K=true:=by kernel_rfl)(hJ:jK s.K=J:=by kernel_rfl)(hn:s.f.n=n:=by kernel_rfl)(he:e.map (λp=>lk s.f.z s.f.e p.1)=e.map (·.2):=by kernel_rfl)(hL:B0 (AF m s.L)=L':=by kernel_rfl):GG P fn R B T s g w:=DX J n e m L' hi hJ hn he hL h
theorem Kn.cel(h:Kn B g w L){b:Nat}{cs:Array Value}(hx:(L[i]?).map (λx=>(x.g,CD x.o,DL x.o))=some (b,cs,true)):∃ e,w.heap[b]?=some (.cells cs e (0,0)):=by
 cases hi:L[i]? with
 | none=>rw[hi]at hx;cases hx
 | some x =>
  rw[hi]at hx
  have h1:=(h.row x (jg hi)).1;obtain⟨xg,xo,xt,xw⟩:=x;simp only[jC,X',jE]at hx h1;obtain⟨rfl,rfl,hp⟩:=hx;rw[h1];unfold DL at hp;split at hp
  .exact⟨_,rfl⟩
  .cases hp
theorem Ha{ty:TypeId}(h:FM P ty=true):∃ d,P.underlying ty=some d/\d.isRow=true:=by
 unfold FM at h;split at h
 .rename_i d hd
  exact⟨d,hd,h⟩
 .cases h
theorem qE1(p:Tmp)(ty:TypeId)(i b:Nat)(cs:Array Value)(h:Kn B g w s.L->R (.returned (.agg cs)) w)(hx:(s.L[i]?).map (λx=>(x.g,CD x.o,DL x.o))=some (b,cs,true):=by kernel_rfl)(hf:fn.results=#[.cell p ty]:=by kernel_rfl)(hp:s.f.act.tmps.getD p undef=pt b 0:=by kernel_rfl)(hu:FM P ty=true:=by kernel_rfl)(hi:(P.info? ty).map (·.size)=some cs.size:=by kernel_rfl)(hs:Mg s.K=true:=by kernel_rfl):GG P fn R B T s g w :=
 Ul _ hs (λK=>let ⟨e,he⟩:=K.cel hx;let ⟨d,h1,h2⟩:=Ha hu;Y4 hf _ _ b e cs (0,0) d hp he h1 (by cases d<;>first|rfl|cases h2) hi) h
theorem qE2(p u:Tmp)(ty:TypeId)(i b:Nat)(cs:Array Value)(v:Value)(h:Kn B g w s.L->R (.returned (.tuple #[.agg cs,v])) w)(hx:(s.L[i]?).map (λx=>(x.g,CD x.o,DL x.o))=some (b,cs,true):=by kernel_rfl)(hf:fn.results=#[.cell p ty,.tmp u]:=by kernel_rfl)(hp:s.f.act.tmps.getD p undef=pt b 0:=by kernel_rfl)(hv:s.f.act.tmps.getD u undef=v:=by kernel_rfl)(hu:FM P ty=true:=by kernel_rfl)(hi:(P.info? ty).map (·.size)=some cs.size:=by kernel_rfl)(hs:Mg s.K=true:=by kernel_rfl):GG P fn R B T s g w :=
 Ul _ hs (λK=>let ⟨e,he⟩:=K.cel hx;let ⟨d,h1,h2⟩:=Ha hu;by rw[<- hv];exact Tu hf _ _ b e cs (0,0) d hp he h1 (by cases d<;>first|rfl|cases h2) hi) h
theorem qE3(p u u':Tmp)(ty:TypeId)(i b:Nat)(cs:Array Value)(v v':Value)(h:Kn B g w s.L->R (.returned (.tuple #[.agg cs,v,v'])) w)(hx:(s.L[i]?).map (λx=>(x.g,CD x.o,DL x.o))=some (b,cs,true):=by kernel_rfl)(hf:fn.results=#[.cell p ty,.tmp u,.tmp u']:=by kernel_rfl)(hp:s.f.act.tmps.getD p undef=pt b 0:=by kernel_rfl)(hv:s.f.act.tmps.getD u undef=v:=by kernel_rfl)(hv':s.f.act.tmps.getD u' undef=v':=by kernel_rfl)(hu:FM P ty=true:=by kernel_rfl)(hi:(P.info? ty).map (·.size)=some cs.size:=by kernel_rfl)(hs:Mg s.K=true:=by kernel_rfl):GG P fn R B T s g w :=
 Ul _ hs (λK=>let ⟨e,he⟩:=K.cel hx;let ⟨d,h1,h2⟩:=Ha hu;by rw[<- hv,<- hv'];exact Jv hf _ _ b e cs (0,0) d hp he h1 (by cases d<;>first|rfl|cases h2) hi) h
theorem qE4(p p':Tmp)(ty ty':TypeId)(i b j b':Nat)(cs cs':Array Value)(h:Kn B g w s.L->R (.returned (.tuple #[.agg cs,.agg cs'])) w)(hx:(s.L[i]?).map (λx=>(x.g,CD x.o,DL x.o))=some (b,cs,true):=by kernel_rfl)(hx':(s.L[j]?).map (λx=>(x.g,CD x.o,DL x.o))=some (b',cs',true):=by kernel_rfl)(hf:fn.results=#[.cell p ty,.cell p' ty']:=by kernel_rfl)(hp:s.f.act.tmps.getD p undef=pt b 0:=by kernel_rfl)(hp':s.f.act.tmps.getD p' undef=pt b' 0:=by kernel_rfl)(hu:FM P ty=true:=by kernel_rfl)(hu':FM P ty'=true:=by kernel_rfl)(hi:(P.info? ty).map (·.size)=some cs.size:=by kernel_rfl)(hi':(P.info? ty').map (·.size)=some cs'.size:=by kernel_rfl)(hs:Mg s.K=true:=by kernel_rfl):GG P fn R B T s g w :=
 Ul _ hs (λK=>let ⟨e,he⟩:=K.cel hx;let ⟨e',he'⟩:=K.cel hx';let ⟨d,h1,h2⟩:=Ha hu;let ⟨d',h3,h4⟩:=Ha hu';fI hf _ _ b b' e e' cs cs' (0,0) (0,0) d d' hp he h1 (by cases d<;>first|rfl|cases h2) hi hp' he' h3 (by cases d'<;>first|rfl|cases h4) hi') h
theorem qE5(p p' u:Tmp)(ty ty':TypeId)(i b j b':Nat)(cs cs':Array Value)(v:Value)(h:Kn B g w s.L->R (.returned (.tuple #[.agg cs,.agg cs',v])) w)(hx:(s.L[i]?).map (λx=>(x.g,CD x.o,DL x.o))=some (b,cs,true):=by kernel_rfl)(hx':(s.L[j]?).map (λx=>(x.g,CD x.o,DL x.o))=some (b',cs',true):=by kernel_rfl)(hf:fn.results=#[.cell p ty,.cell p' ty',.tmp u]:=by kernel_rfl)(hp:s.f.act.tmps.getD p undef=pt b 0:=by kernel_rfl)(hp':s.f.act.tmps.getD p' undef=pt b' 0:=by kernel_rfl)(hv:s.f.act.tmps.getD u undef=v:=by kernel_rfl)(hu:FM P ty=true:=by kernel_rfl)(hu':FM P ty'=true:=by kernel_rfl)(hi:(P.info? ty).map (·.size)=some cs.size:=by kernel_rfl)(hi':(P.info? ty').map (·.size)=some cs'.size:=by kernel_rfl)(hs:Mg s.K=true:=by kernel_rfl):GG P fn R B T s g w :=
 Ul _ hs (λK=>let ⟨e,he⟩:=K.cel hx;let ⟨e',he'⟩:=K.cel hx';let ⟨d,h1,h2⟩:=Ha hu;let ⟨d',h3,h4⟩:=Ha hu';by rw[<- hv];exact fJ hf _ _ b b' e e' cs cs' (0,0) (0,0) d d' hp he h1 (by cases d<;>first|rfl|cases h2) hi hp' he' h3 (by cases d'<;>first|rfl|cases h4) hi') h
theorem qN(h:NodeAt g w i nb ob x p)(hk:GG P fn R B T ⟨s.K,s.f,B0 s.L++[⟨nb,.cells (AB i ob p x) 123,.n 0 i,false⟩]⟩ g w)(hT:s.L.all (λy=>(Tg.n 0 i).ne y.t)=true:=by kernel_rfl):GG P fn R B T s g w:=Hr nb _ 0 i h.row h.tag h.kap hT hk
theorem qO(h:OutAt g w ob lt tl ls ts)(hk:GG P fn R B T ⟨s.K,s.f,B0 s.L++[⟨ob,.cells #[lt.v,tl.v] 94,.n 50 0,false⟩]⟩ g w)(hT:s.L.all (λy=>(Tg.n 50 0).ne y.t)=true:=by kernel_rfl):GG P fn R B T s g w:=Hr ob _ 50 0 h.row h.tag h.kap hT hk
theorem qS0(n:Nat)(m:List Bool)(hc:Calls P f av w (NP i nb ob g w v p ls ts))(hk:∀ g' w' x lt tl,NodeAt g' w' i nb ob x p->OutAt g' w' ob lt tl ls ts->Cg B (TN i) g w g' w'->GG P fn R B T ⟨(nxt s n v (AF m s.L)).s.K,(nxt s n v (AF m s.L)).s.f,B0 (B0 (nxt s n v (AF m s.L)).s.L++[⟨nb,.cells (AB i ob p x) 123,.n 0 i,false⟩])++[⟨ob,.cells #[lt.v,tl.v] 94,.n 50 0,false⟩]⟩ g' w')(hr:∀ W,CW P s n W=some (.ok (.enter f av) W):=by intro _;kernel_rfl)(hd:Mf s n=true:=by kernel_rfl)(hob:(nxt s n undef (AF m s.L)).o.map Ob.l'=(nxt s n undef (AF m s.L)).o.map Ob.r':=by kernel_rfl)(hT:(AF m s.L).all (λx=>(TN i).all λt=>x.t.ne t)=true:=by kernel_rfl)(hT1:(nxt s n v (AF m s.L)).s.L.all (λy=>(Tg.n 0 i).ne y.t)=true:=by kernel_rfl)(hT2:∀ x:NX,(B0 (nxt s n v (AF m s.L)).s.L++[(⟨nb,.cells (AB i ob p x) 123,.n 0 i,false⟩:Sh)]).all (λy=>(Tg.n 50 0).ne y.t)=true:=by intro _;kernel_rfl):GG P fn R B T s g w :=
 qG n (TN i) m hc (λ_ w' ⟨g',e,M,c⟩=>⟨v,g',e,c,M.new,let ⟨x,lt,tl,hN,hO,_⟩:=M;qN hN (qO hO (hk g' w' x lt tl hN hO c.ret) (hT2 x)) hT1⟩) hr hd hob hT
theorem qS(n:Nat)(m:List Bool){lt0 tl0:S3}{ls0:List Let}{ts0:List Tol}(hN:NodeAt g0 w0 i nb ob x0 p0)(hO:OutAt g0 w0 ob lt0 tl0 ls0 ts0)(C:Cg B' T' g0 w0 g w)(hc:NS i nb ob g w p0 ls0 ts0->Calls P f av w (NP i nb ob g w v p ls ts))(hk:∀ g' w' x lt tl,NodeAt g' w' i nb ob x p->OutAt g' w' ob lt tl ls ts->Cg B (TN i) g w g' w'->GG P fn R B T ⟨(nxt s n v (AF m s.L)).s.K,(nxt s n v (AF m s.L)).s.f,B0 (B0 (nxt s n v (AF m s.L)).s.L++[⟨nb,.cells (AB i ob p x) 123,.n 0 i,false⟩])++[⟨ob,.cells #[lt.v,tl.v] 94,.n 50 0,false⟩]⟩ g' w')(hz:Tg.z∉T':=by simp)(hn:∀ r,r<6->Tg.n r i∉T':=by simp)(ho:∀ r,50<=r->Tg.n r 0∉T':=by simp)(hr:∀ W,CW P s n W=some (.ok (.enter f av) W):=by intro _;kernel_rfl)(hd:Mf s n=true:=by kernel_rfl)(hob:(nxt s n undef (AF m s.L)).o.map Ob.l'=(nxt s n undef (AF m s.L)).o.map Ob.r':=by kernel_rfl)(hT:(AF m s.L).all (λx=>(TN i).all λt=>x.t.ne t)=true:=by kernel_rfl)(hT1:(nxt s n v (AF m s.L)).s.L.all (λy=>(Tg.n 0 i).ne y.t)=true:=by kernel_rfl)(hT2:∀ x:NX,(B0 (nxt s n v (AF m s.L)).s.L++[(⟨nb,.cells (AB i ob p x) 123,.n 0 i,false⟩:Sh)]).all (λy=>(Tg.n 50 0).ne y.t)=true:=by intro _;kernel_rfl):GG P fn R B T s g w :=
 Ag λK=>qS0 n m (hc (nsC hN hO C K hz hn ho)) hk hr hd hob hT hT1 hT2
theorem qF{g1:Gh}{w1:World}(hN:NodeAt g1 w1 i nb ob x p)(hO:OutAt g1 w1 ob lt tl ls ts)(c:Cg B' T' g1 w1 g w)(C:Cg w0.heap.size (TN i) g0 w0 g w)(hz:Tg.z∉T':=by simp)(hn:∀ r,r<6->Tg.n r i∉T':=by simp)(ho:∀ r,50<=r->Tg.n r 0∉T':=by simp)(hr:Kn w0.heap.size g w s.L->(results fn s.f.act.tmps).run P w=.ok v w:=by intro _;kernel_rfl)(hs:Mg s.K=true:=by kernel_rfl):GG P fn (NP i nb ob g0 w0 v p ls ts) w0.heap.size T s g w :=
 qE v (λK=>⟨_,rfl,nsC hN hO c K hz hn ho,C⟩) hr hs
theorem Kn.nd(h:Kn B g w L)(k:Nat)(f1:FSl g w x.tape p.d)(f2:FSv g w x.votes p.vo.vs)(f3:∀ j,j<5->FSv g w (x.hv j) (p.rnd.heard j).vs)(f4:∃ vs,OwnS g w (.n 1 i) true 1 1 x.synced vs/\Pends g w nb vs p.pend)(f5:OwnS g w (.n 2 i) false 25 5 x.queue (cmL p.rnd.queue))(f6:OwnS g w (.n 3 i) true 25 5 x.agreed (cmL p.agreed))(f7:OwnS g w (.n 4 i) false 25 5 x.wants (cmL p.wants))(f8:V8 g w i p.asked x.asked)(f9:p.up=true->∃ b,x.asked=some b)(hx:L[k]?=some ⟨nb,.cells (AB i ob p x) 123,.n 0 i,false⟩:=by kernel_rfl):NodeAt g w i nb ob x p :=
 have q:=h.isN k nb _ 0 i hx
 ⟨q.1,q.2.1,q.2.2,f1,f2,f3,f4,f5,f6,f7,f8,f9⟩
theorem Kn.ndu{C:Nat}{T0:List Tg}(h:Kn B g w L)(k:Nat)(hN:NodeAt g0 w0 i nb ob x0 p0)(c:Cg C T0 g0 w0 g w)(hx:L[k]?=some ⟨nb,.cells (AB i ob p x) 123,.n 0 i,false⟩:=by kernel_rfl)(hz:Tg.z∉T0:=by simp)(hr:∀ r,1<=r->r<6->Tg.n r i∉T0:=by simp;try omega)(e1:x=x0:=by rfl)(e2:p.d=p0.d:=by rfl)(e3:p.vo.vs=p0.vo.vs:=by rfl)(e4:p.rnd.heard=p0.rnd.heard:=by rfl)(e5:p.pend=p0.pend:=by rfl)(e6:p.rnd.queue=p0.rnd.queue:=by rfl)(e7:p.agreed=p0.agreed:=by rfl)(e8:p.wants=p0.wants:=by rfl)(e9:p.asked=p0.asked:=by rfl)(e10:p.up=p0.up:=by rfl):NodeAt g w i nb ob x p:=by
 have q:=h.isN k nb _ 0 i hx;subst e1;obtain⟨vs,h2,h3⟩:=hN.pend;exact⟨q.1,q.2.1,q.2.2,by rw[e2];exact hN.tape.ch c hz,by rw[e3];exact hN.votes.ch c hz,by rw[e4];exact λj hj=>(hN.heard j hj).ch c hz,by rw[e5];exact⟨vs,h2.ch c (hr 1 (by omega) (by omega)) (by simp),h3.ch c hz⟩,by rw[e6];exact hN.queue.ch c (hr 2 (by omega) (by omega)) (by simp),by rw[e7];exact hN.agreed.ch c (hr 3 (by omega) (by omega)) (by simp),by rw[e8];exact hN.wants.ch c (hr 4 (by omega) (by omega)) (by simp),by rw[e9];exact hN.asked.ch c (hr 5 (by omega) (by omega)),by rw[e10];exact hN.upm⟩
theorem Kn.od(h:Kn B g w L)(k:Nat)(f1:∃ bs:List Nat,OwnS g w (.n 51 0) false 169 1 lt (bs.map (pt · 0))/\Lets g w bs ls)(f2:OwnS g w (.n 52 0) false 129 5 tl (ts.flatMap FQ))(hx:L[k]?=some ⟨ob,.cells #[lt.v,tl.v] 94,.n 50 0,false⟩:=by kernel_rfl):OutAt g w ob lt tl ls ts :=
 have q:=h.isN k ob _ 50 0 hx
 ⟨q.1,q.2.1,q.2.2,f1,f2⟩
end
end
section
structure RdC(w:World)(x:S3)(l:List Cmd):Prop where
 len:x.n=l.length
 cap:x.n<=x.c
 nul:x.a=none->x.c=0
 ex:l=[]\/∃ b off,x.a=some ⟨b,off,none⟩/\b<w.heap.size/\∀ j u,(cmL l)[j]?=some u->w.cell? ⟨b,off+j,none⟩=some u
variable{b j k off q:Nat}{c:Cmd}{g:Gh}{l:List Cmd}{u:Value}{w:World}{x:S3}
theorem OwnS.rd{τ:Tg}{kp:Bool}{e:TypeId}(h:OwnS g w τ kp e 5 x (cmL l)):RdC w x l:=by
 have hn:=h.num;rcases h.ex with⟨h1,h2,h3⟩|⟨b,cur,h1,h2,h3,h4,h5,h6,h7,h8⟩
 .exact⟨hn,by omega,λ_=>h3,.inl (iN (by omega))⟩
 .refine⟨hn,h3,λh=>(by rw[h1]at h;cases h),.inr ⟨b,0,h1,rl h2,λj u hj=>?_⟩⟩;obtain⟨b',hb',_,hc⟩:=h.cell hj;rw[h1]at hb'
  simp only[X',Addr.mk.injEq,and_true]at hb';subst hb';rw[jm];exact hc
theorem RdC.below{w':World}(h:RdC w x l)(b:Bw w w'):RdC w' x l :=
 ⟨h.len,h.cap,h.nul,h.ex.imp id λ⟨k,off,h1,h2,h3⟩=>⟨k,off,h1,Z' h2 b.size,λj u hj=>(b.cell (p:=⟨k,off+j,none⟩) h2).trans (h3 j u hj)⟩⟩
def S3.cut(x:S3)(l h:Nat):S3:=⟨if x.c=l then x.a else x.a.map (·.add (l*5)),h-l,x.c-l⟩
theorem Rc.drop(h:Rc g w x l)(hk:k<=l.length):Rc g w (x.cut k x.n) (l.drop k):=by
 have hl:=h.len;have hc:=h.cap;refine⟨by simp[S3.cut,hl],by simp only[S3.cut];omega,λhn=>?_,?_⟩
 .simp only[S3.cut]at hn ⊢;split at hn
  .omega
  .cases ha:x.a with
   | none=>have:=h.nul ha;omega
   | some a=>rw[ha]at hn;cases hn
 .rcases h.ex with rfl|⟨b,off,h1,h2,h3,h4⟩
  .exact .inl (by simp)
  .by_cases he:k=l.length
   .exact .inl (by rw[he];simp)
   .refine .inr ⟨b,off+k*5,?_,h2,λj u hj=>?_,?_⟩
    .simp only[S3.cut];rw[if_neg (by omega),h1];simp only[jC,X'];unfold Addr.add;split
     .rename_i h0;rw[show k=0 by omega];simp
     .simp
    .rw[<- K6,jB]at hj
     have:=h3 _ u hj;rw[show off+k*5+j=off+(5*k+j)by omega];exact this
    .rcases h4 with h4|h4
     .exact .inl h4
     .right;rw[iQ];omega
theorem Rc.addr(h:Rc g w x l)(hk:k<l.length):∃ b off,x.a=some ⟨b,off,none⟩:=by
 rcases h.ex with rfl|⟨b,off,h2,_⟩
 .simp at hk
 .exact⟨b,off,h2⟩
theorem Rc.cellAt(h:Rc g w x l)(ha:x.a=some ⟨b,off,none⟩)(hc:l[j]?=some c)(hu:(cmV c)[q]?=some u):w.cell? ⟨b,off+5*j+q,none⟩=some u:=by
 rcases h.ex with rfl|⟨b',off',h1,h2,h3,_⟩
 .cases hc
 .rw[ha]at h1
  simp only[X',Addr.mk.injEq,and_true]at h1;obtain⟨rfl,rfl⟩:=h1;rw[jI];exact h3 _ u (NO hc hu)
theorem RdC.cellAt(h:RdC w x l)(ha:x.a=some ⟨b,off,none⟩)(hc:l[j]?=some c)(hu:(cmV c)[q]?=some u):w.cell? ⟨b,off+5*j+q,none⟩=some u:=by
 rcases h.ex with rfl|⟨b',off',h1,h2,h3⟩
 .cases hc
 .rw[ha]at h1
  simp only[X',Addr.mk.injEq,and_true]at h1;obtain⟨rfl,rfl⟩:=h1;rw[jI];exact h3 _ u (NO hc hu)
theorem RdC.addr(h:RdC w x l)(hk:k<l.length):∃ b off,x.a=some ⟨b,off,none⟩:=by
 rcases h.ex with rfl|⟨b,off,h2,_⟩
 .simp at hk
 .exact⟨b,off,h2⟩
theorem Wb(l:List Cmd)(k:Nat)(h:(cmL (l.take k))[j]?=some u):(cmL l)[j]?=some u:=by
 have h1:cmL l=cmL (l.take k)++cmL (l.drop k):=by rw[<- Cd,jz]
 rw[h1,iT (Q'.1 h).1];exact h
theorem RdC.take(h:RdC w x l)(hk:k<=l.length):RdC w (x.cut 0 k) (l.take k):=by
 have hl:=h.len;have hc:=h.cap;have ha:(x.cut 0 k).a=x.a:=by
  simp only[S3.cut];split
  .rfl
  .cases x.a with
   | none=>rfl
   | some a=>simp[Addr.add]
 refine⟨by simp[S3.cut];omega,by simp only[S3.cut];omega,λhn=>?_,?_⟩
 .rw[ha]at hn
  have:=h.nul hn;simp only[S3.cut];omega
 .rcases h.ex with rfl|⟨b,off,h1,h2,h3⟩
  .exact .inl (by simp)
  .exact .inr ⟨b,off,by rw[ha];exact h1,h2,λj u hj=>h3 j u (Wb l k hj)⟩
end
section
variable{W:World}
section
theorem sz5:(Go.sizeOf (prog.elem 37)).run prog W=.ok 5 W:=by kernel_rfl
theorem unC:prog.underlying 37=some (.slice (prog.elem 37)):=by kernel_rfl
theorem eA(x:S3)(k:Nat)(hk:k<=x.n):(Instr.sliceAt 37 x.v (some (iv (k:Int))) none none).run prog W=.ok (S3.v (x.cut k x.n)) W:=by
 rw[run_sliceAt_slice _ _ _ _ _ _ unC,run_slice_l (P:=prog) (w:=W) _ _ _ _ unC .i64 k (by omega) (by omega),sz5];simp[Result.andThen,sliced,S3.cut]
theorem gE(x:S3)(k:Nat)(hk:k<=x.c):(Instr.sliceAt 37 x.v none (some (iv (k:Int))) none).run prog W=.ok (S3.v (x.cut 0 k)) W:=by
 rw[run_sliceAt_slice _ _ _ _ _ _ unC,run_slice_h (P:=prog) (w:=W) _ _ _ _ unC .i64 k (by omega) (by omega),sz5];simp[Result.andThen,sliced,S3.cut]
variable{b k off:Nat}{x:S3}{y:Operand}
theorem gA(ha:x.a=some ⟨b,off,none⟩)(k:Nat)(hk:k<x.n)(hc:x.n<=x.c):(Instr.sliceAt 37 x.v (some (iv (k:Int))) none none).run prog W=.ok (.slice (some ⟨b,off+5*k,none⟩) (x.n-k) (x.c-k)) W:=by
 rw[eA x k (by omega)];unfold S3.v S3.cut;simp only;rw[if_neg (by omega),ha];simp only[jC,Addr.add];split
 .rename_i h0;rw[show k=0 by omega];rfl
 .simp only[k7]
theorem gG{P:Program}{x:Operand}(a b:Nat)(hk:P.underlying 3=some (.int .i64))(h:b<=a)(ha:a<4611686018427387904):(do Go.eqGuard .sub 3 x y (iv (a:Int)) (iv (b:Int));Go.binOp .sub 3 (iv (a:Int)) (iv (b:Int)):Sem Value).run P W=.ok (iv ((a-b:Nat):Int)) W:=by
 rw[eB _ _ hk (by omega)]
 congr 3
 omega
theorem gd{g:Gh}{l:List Cmd}(ha:x.a=some ⟨b,off,none⟩)(h:Rc g W x l)(k:Nat)(hl:k<l.length):∀ j u,(cmL (l.drop k))[j]?=some u->W.cell? ((⟨b,off+5*k,none⟩:Addr).add j)=some u:=by
 intro j u hj;rcases h.ex with rfl|⟨b',off',h1,h2,h3,h4⟩
 .simp at hl
 .rw[ha]at h1
  simp only[X',Addr.mk.injEq,and_true]at h1;obtain⟨rfl,rfl⟩:=h1;rw[<- K6,jB]at hj
  have:=h3 _ u hj;have hadd:(⟨b,off+5*k,none⟩:Addr).add j=⟨b,off+5*k+j,none⟩:=by unfold Addr.add;split<;>simp_all
  rw[hadd,show off+5*k+j=off+(5*k+j)by omega];exact this
theorem Lr(ha:x.a=some ⟨b,off,none⟩)(j:Nat)(hj:j<x.n):(Instr.indexAt 37 x.v (iv (j:Int))).run prog W=.ok (pt b (off+5*j)) W:=by
 unfold S3.v;rw[ha];exact PZ (P:=prog) (e:=25) (z:=5) underlying37 (by kernel_rfl) (by kernel_rfl) hj _ rfl
theorem Ou(c:Cmd)(h:∀ j u,(cmV c)[j]?=some u->W.cell? ⟨b,k+j,none⟩=some u):(Instr.loadAt 25 (pt b k)).run prog W=.ok (.agg #[iv c.k,iv c.c,iv c.s,iv c.n,iv c.v]) W:=by
 have h1:=run_loadVar_mid (P:=prog) W b k 25 (cmV c) _ (λj u hj=>h j u hj) underlying25 rfl (by kernel_rfl);simp only[Instr.loadAt,Instr.sureAddr,Sem.run_bind,Sem.run_pure,Result.andThen_ok];exact h1
theorem cQ(ha:x.a=some ⟨b,off,none⟩)(j:Nat)(hj:j<x.n):(Instr.indexAt 103 x.v (iv (j:Int))).run prog W=.ok (pt b (off+8*j)) W:=by
 unfold S3.v;rw[ha];exact PZ (P:=prog) (e:=166) (z:=8) underlying103 (by kernel_rfl) (by kernel_rfl) hj _ rfl
theorem gn(v:Vt)(h:W.rangeAt b k (vtC v)):(Instr.loadAt 166 (pt b k)).run prog W=.ok (.agg #[iv v.slot,iv v.b.r,iv v.b.n,iv v.w.k,iv v.w.c,iv v.w.s,iv v.w.n,iv v.w.v]) W:=by
 have h1:=run_loadVar_mid (P:=prog) W b k 166 (vtC v) _ h underlying166 rfl (by kernel_rfl);simp only[Instr.loadAt,Instr.sureAddr,Sem.run_bind,Sem.run_pure,Result.andThen_ok];exact h1
theorem fh(u v:Vt):decide (u.slot=v.slot/\u.b.r=v.b.r/\u.b.n=v.b.n/\u.w.k=v.w.k/\u.w.c=v.w.c/\u.w.s=v.w.s/\u.w.n=v.w.n/\u.w.v=v.w.v)=decide (u=v):=by
 apply jZ.2;constructor
 .rintro⟨a1,a2,a3,a4,a5,a6,a7,a8⟩;exact(Vt.eq_iff u v).1 ⟨a1,(Bal.eq_iff _ _).1 ⟨a2,a3⟩,(Cmd.eq_iff _ _).1 ⟨a4,a5,a6,a7,a8⟩⟩
 .rintro rfl;exact⟨rfl,rfl,rfl,rfl,rfl,rfl,rfl,rfl⟩
theorem gj{x:Operand}(a b:Vt):(do Go.eqGuard .eql 166 x y (.agg #[iv a.slot,iv a.b.r,iv a.b.n,iv a.w.k,iv a.w.c,iv a.w.s,iv a.w.n,iv a.w.v]) (.agg #[iv b.slot,iv b.b.r,iv b.b.n,iv b.w.k,iv b.w.c,iv b.w.s,iv b.w.n,iv b.w.v]);Go.binOp .eql 166 (.agg #[iv a.slot,iv a.b.r,iv a.b.n,iv a.w.k,iv a.w.c,iv a.w.s,iv a.w.n,iv a.w.v]) (.agg #[iv b.slot,iv b.b.r,iv b.b.n,iv b.w.k,iv b.w.c,iv b.w.s,iv b.w.n,iv b.w.v]):Sem Value).run prog W=.ok (.bool (decide (a=b))) W:=by
 have h1:=W8 a.slot a.b.r a.b.n a.w.k a.w.c a.w.s a.w.n a.w.v b.slot b.b.r b.b.n b.w.k b.w.c b.w.s b.w.n b.w.v W;rw[fh]at h1
 have hg:(Go.eqGuard .eql 166 x y (.agg #[iv a.slot,iv a.b.r,iv a.b.n,iv a.w.k,iv a.w.c,iv a.w.s,iv a.w.n,iv a.w.v]) (.agg #[iv b.slot,iv b.b.r,iv b.b.n,iv b.w.k,iv b.w.c,iv b.w.s,iv b.w.n,iv b.w.v])).run prog W=.ok () W:=by kernel_rfl
 rw[Sem.run_bind,hg,Result.andThen_ok];exact h1
end
end
section
variable{B sz:Nat}{P:Program}{T:List Tg}{W w w':World}{e:TypeId}{g g':Gh}{l:List Cmd}{vs:List Value}{x:S3}
theorem Kn.isNw{L:List Sh}(h:Kn B g w L)(k b:Nat)(o:Obj)(r i:Nat)(v:Bool)(hx:L[k]?=some ⟨b,o,.n r i,v⟩):w.heap[b]?=some o/\g.t b=.n r i/\g.k b=0 :=
 have h1:=h.row _ (jg hx)
 ⟨h1.1,h1.2.1,h1.2.2.2 (by simp)⟩
structure RdV(w:World)(x:S3)(sz:Nat)(vs:List Value):Prop where
 len:vs.length=x.n*sz
 cap:x.n<=x.c
 nul:x.a=none->x.c=0
 ex:x.n=0\/∃ b off,x.a=some ⟨b,off,none⟩/\b<w.heap.size/\∀ j u,vs[j]?=some u->w.cell? ⟨b,off+j,none⟩=some u
theorem RdC.rv(h:RdC w x l):RdV w x 5 (cmL l) :=
 ⟨by rw[Bu,h.len],h.cap,h.nul,h.ex.imp (λe=>by rw[h.len,e];rfl) id⟩
theorem RdV.rc(h:RdV w x 5 (cmL l)):RdC w x l :=
 have hn:x.n=l.length:=by have:=h.len;rw[Bu]at this;omega
 ⟨hn,h.cap,h.nul,h.ex.imp (λe=>iN (by omega)) id⟩
theorem RdV.below(h:RdV w x sz vs)(b:Bw w w'):RdV w' x sz vs :=
 ⟨h.len,h.cap,h.nul,h.ex.imp id λ⟨k,off,h1,h2,h3⟩=>⟨k,off,h1,Z' h2 b.size,λj u hj=>(b.cell (p:=⟨k,off+j,none⟩) h2).trans (h3 j u hj)⟩⟩
theorem OwnS.rv{τ:Tg}{kp:Bool}(h:OwnS g w τ kp e sz x vs):RdV w x sz vs:=by
 rcases h.ex with⟨h1,h2,h3⟩|⟨b,cur,h1,h2,h3,h4,h5,h6,h7,h8⟩
 .exact⟨h.len,by omega,λ_=>h3,.inl h2⟩
 .refine⟨h.len,h3,λh=>(by rw[h1]at h;cases h),.inr ⟨b,0,h1,rl h2,λj u hj=>?_⟩⟩;obtain⟨b',hb',_,hc⟩:=h.cell hj;rw[h1]at hb'
  simp only[X',Addr.mk.injEq,and_true]at hb';subst hb';rw[jm];exact hc
theorem aT{t:TypeId}{x y:Operand}{z:S3}{b:Bool}(hb:z.a.isNone=b)(ht:P.underlying t=some (.slice e))(hg:(Go.eqGuard .eql t x y z.v (.slice none 0 0)).run P W=.ok () W):(do Go.eqGuard .eql t x y z.v (.slice none 0 0);Go.binOp .eql t z.v (.slice none 0 0):Sem Value).run P W=.ok (.bool b) W:=by
 subst hb;rw[Sem.run_bind,hg,Result.andThen_ok];have h1:=run_equal_slice_nil (P:=P) (w:=W) t e z.a z.n z.c ht;simp only[S3.v,binOp,Sem.run_bind,h1,Result.andThen_ok];rfl
theorem cK(t ty e:TypeId)(i:TypeInfo)(ht:P.underlying t=some (.slice e))(hi:P.info? e=some i)(b:Nat)(a:Addr)(c:Nat):(Builtin.append_ #[t,t] ty #[.slice (some ⟨b,0,none⟩) 0 0,.slice (some a) 0 c]).run P W=.ok (.slice (some ⟨b,0,none⟩) 0 0) W:=by
 have hf:=run_firstCells_some (P:=P) W i.size 0 a 0 c [] (by simp) (by simp);simp[Builtin.append_,run_underlying ht,sizeOf,typeInfo,hi,Builtin.lenOf,hf,storeCells]
structure FzV(g:Gh)(w:World)(x:S3)(sz:Nat)(vs:List Value):Prop where
 rd:RdV w x sz vs
 z:vs≠[]->Frz g x
theorem FzV.ch(h:FzV g w x sz vs)(c:Cg B T g w g' w')(hz:Tg.z∉T:=by simp):FzV g' w' x sz vs:=by
 obtain⟨⟨h1,h2,h3,h4⟩,h5⟩:=h;by_cases hv:vs=[]
 .subst hv;exact⟨⟨h1,h2,h3,h4.imp id λ⟨b,off,e1,e2,_⟩=>⟨b,off,e1,Z' e2 c.size,λj u hj=>(by cases hj)⟩⟩,λh=>absurd rfl h⟩
 .rcases h4 with h4|⟨b,off,e1,e2,e3⟩
  .exact absurd (iN (by rw[h1,h4,mB])) hv
  .have hb:g.t b=.z:=h5 hv _ e1;refine⟨⟨h1,h2,h3,.inr ⟨b,off,e1,Z' e2 c.size,λj u hj=>?_⟩⟩,λ_ a ha=>?_⟩
   .rw[World.cell?_of_block (w:=w) (c.zc hz e2 hb)];exact e3 j u hj
   .rw[e1]at ha;simp only[X']at ha;subst ha
    rw[c.tag e2 (by rw[hb];intro h;cases h)];exact hb
structure Fa where
 ro:Option Nat
 p:Gh->World->Prop
 st:∀ {B:Nat} {T:List Tg} {g g':Gh} {w w':World},Tg.z∉T->(∀ r,ro=some r->Tg.n 60 r∉T)->Cg B T g w g' w'->p g w->p g' w'
@[reducible] def AllF (g:Gh) (w:World):List Fa->Prop
 | []=>True
 | f::l=>f.p g w/\AllF g w l
variable{Φ:List Fa}
theorem AllF.ch(h:AllF g w Φ)(c:Cg B T g w g' w')(hz:Tg.z∉T:=by simp)(hr:∀ f∈Φ,∀ r,f.ro=some r->Tg.n 60 r∉T):AllF g' w' Φ:=by
 induction Φ with
 | nil=>trivial
 | cons f l ih=>exact⟨f.st hz (hr f U') c h.1,ih h.2 λf hf=>hr f (P' _ hf)⟩
theorem AllF.ch0(h:AllF g w Φ)(c:Cg B [] g w g' w'):AllF g' w' Φ:=h.ch c M' λ_ _ _ _=>M'
def Fa.zv(x:S3)(sz:Nat)(vs:List Value):Fa:=⟨none,λg w=>FzV g w x sz vs,λhz _ c h=>h.ch c hz⟩
def Fa.sl(x:S3)(l:List Int):Fa:=⟨none,λg w=>FSl g w x l,λhz _ c h=>h.ch c hz⟩
def Fa.ow(r:Nat)(e:TypeId)(sz:Nat)(x:S3)(vs:List Value):Fa:=⟨some r,λg w=>OwnS g w (.n 60 r) true e sz x vs,λ_ hr c h=>h.ch c (hr r rfl) (by simp)⟩
def TQ:List Tg:=[.n 60 0,.n 60 1,.n 60 2,.n 60 3]
theorem io:Tg.z∉TQ:=by simp[TQ]
end
section
variable{P:Program}{fn:Func}{R:Ending->World->Prop}{w0:World}{Φ:List Fa}{g:Gh}{w:World}
section
structure GT(P:Program)(fn:Func)(R:Ending->World->Prop)(w0:World)(Φ:List Fa)(s:Xs)(g:Gh)(w:World):Prop where
 ex:AllF g w Φ->Cg w0.heap.size TQ gS w0 g w->GG P fn R w0.heap.size TQ s g w
theorem CgQ.below(c:Cg w0.heap.size TQ gS w0 g w):Bw w0 w:=Cg.below c λ_ _=>io
variable{J:Act->World->Prop}{L':List Sh}{S:Sem Value}{e:List (Nat × Value)}{f:FuncId}{n:Nat}{s:Xs}{Φ':List Fa}
theorem tIn{args:Array Value}(Φ:List Fa)(hf:P.funcs[f]?=some fn)(hΦ:AllF gS w0 Φ)(h:GT P fn R w0 Φ ⟨[.c (OK fn)],⟨fn.ntmps,NH 0 args.toList,λ_=>undef⟩,[]⟩ gS w0)(hb:fn.body.isSome=true:=by kernel_rfl)(hn:Nat.ble args.size fn.ntmps=true:=by kernel_rfl):Calls P f args w0 R :=
 gIn TQ gS hf hb hn (λ_ _=>⟨rfl,rfl⟩) (h.ex hΦ (Cg.refl _ _ _ _))
theorem tX(h:AllF g w Φ->Cg w0.heap.size TQ gS w0 g w->GG P fn R w0.heap.size TQ s g w):GT P fn R w0 Φ s g w:=⟨h⟩
theorem tF(h:AllF g w Φ->Cg w0.heap.size TQ gS w0 g w->GT P fn R w0 Φ s g w):GT P fn R w0 Φ s g w:=⟨λF C=>(h F C).ex F C⟩
theorem tCv(Ψ:List Fa)(hΨ:AllF g w Φ->AllF g w Ψ)(h:GT P fn R w0 Ψ s g w):GT P fn R w0 Φ s g w:=⟨λF C=>h.ex (hΨ F) C⟩
theorem tR(m:Nat)(h:List Nat)(hk:∀ gs g' w',GT P fn R w0 Φ (rn0 P [] gs m s h).s g' w')(hob:∀ gs,(rn0 P [] gs m s h).o.map Ob.l'=(rn0 P [] gs m s h).o.map Ob.r':=by intro _;kernel_rfl):GT P fn R w0 Φ s g w :=
 ⟨λF C=>ZK [] m h hob λgs g' w' c=>(hk gs g' w').ex (F.ch0 c) (C.n c)⟩
theorem tV(i:Nat)(v:Value)(hr:AllF g w Φ->Cg w0.heap.size TQ gS w0 g w->S.run P w=.ok v w)(hk:GT P fn R w0 Φ (nxt s i v s.L).s g w)(hs:De s i=some (S>>=λv=>pure (.value v)):=by kernel_rfl)(hob:(nxt s i undef s.L).o.map Ob.l'=(nxt s i undef s.L).o.map Ob.r':=by kernel_rfl):GT P fn R w0 Φ s g w:=⟨λF C=>qV i v (hr F C) (hk.ex F C) hs hob⟩
theorem tT(i:Nat)(v:Value)(hr:∀ W,S.run P W=.ok v W)(hk:GT P fn R w0 Φ (tkN s i v false).s g w)(hs:De s i=some (S>>=λv=>pure (.value v)):=by kernel_rfl)(hob:(tkN s i undef false).o.map Ob.l'=(tkN s i undef false).o.map Ob.r':=by kernel_rfl):GT P fn R w0 Φ s g w:=⟨λF C=>qT i v hr (hk.ex F C) hs hob⟩
theorem tI(b t:Bool)(hb:b=t)(h:GT P fn R w0 Φ (K9 s t) g w)(hc:OZ s=.bool b:=by kernel_rfl):GT P fn R w0 Φ s g w:=⟨λF C=>qI b t hb (h.ex F C) hc⟩
theorem tC(i:Nat){av:Array Value}{K:Ending->World->Prop}(hc:AllF g w Φ->Cg w0.heap.size TQ gS w0 g w->Calls P f av w K)(hk:(∀ b,w.heap.size<=b->g.t b=.z)->∀ e w',K e w'->∃ v Ψ,e=.returned v/\Bw w w'/\(AllF g w' Φ->AllF g w' Ψ)/\GT P fn R w0 Ψ (nxt s i v s.L).s g w')(hr:∀ W,CW P s i W=some (.ok (.enter f av) W):=by intro _;kernel_rfl)(hd:Mf s i=true:=by kernel_rfl)(hob:(nxt s i undef s.L).o.map Ob.l'=(nxt s i undef s.L).o.map Ob.r':=by kernel_rfl):GT P fn R w0 Φ s g w :=
 ⟨λF C=>Ag λhK=>qC i (hc F C) (λe w' h=>let ⟨v,Ψ,h1,h2,h3,h4⟩:=hk (λb hb=>(hK.new b hb).1) e w' h;⟨v,h1,h2,h4.ex (h3 (F.ch0 (Cg.ofBelow (B:=w0.heap.size) h2))) (C.trans (Cg.ofBelow h2))⟩) hr hd hob⟩
theorem tE(v:Value)(h:AllF g w Φ->Bw w0 w->R (.returned v) w)(hr:Kn w0.heap.size g w s.L->(results fn s.f.act.tmps).run P w=.ok v w:=by intro _;kernel_rfl)(hs:Mg s.K=true:=by kernel_rfl):GT P fn R w0 Φ s g w:=⟨λF C=>qE v (λ_=>h F (CgQ.below C)) hr hs⟩
def JT(P:Program)(w0:World)(n:Nat)(Inv:Nat->List (Nat × Value)->List Sh->List Fa->Prop)(k:Nat)(J:Act->World->Prop):Prop:=∀ k' e' L' Φ' g' w' z',k'<k->Inv k' e' L' Φ'->AllF g' w' Φ'->Cg w0.heap.size TQ gS w0 g' w'->Kn w0.heap.size g' w' L'->J (⟨n,e',z'⟩:Fm).act w'
theorem Fs(n:Nat)(e0:List (Nat × Value))(m:List Bool)(L0:List Sh)(Φ0:List Fa)(Inv:Nat->List (Nat × Value)->List Sh->List Fa->Prop)(k0:Nat)(h0:Inv k0 e0 L0 Φ0)(hΦ:AllF g w Φ->AllF g w Φ0)(round:∀ k e L Φ,Inv k e L Φ->∀ z g w J,JT P w0 n Inv k J->GT P fn R w0 Φ (be s n J e z L) g w)(hl:Ry s.K=true:=by kernel_rfl)(hn:s.f.n=n:=by kernel_rfl)(he:e0.map (λp=>lk s.f.z s.f.e p.1)=e0.map (·.2):=by kernel_rfl)(hL:B0 (AF m s.L)=L0:=by kernel_rfl):GT P fn R w0 Φ s g w :=
 ⟨λF C=>BI n e0 m L0 (λk g' w' e L=>∃ Ψ,Inv k e L Ψ/\AllF g' w' Ψ/\Cg w0.heap.size TQ gS w0 g' w') hl hn he hL k0 (λ_=>⟨Φ0,h0,hΦ F,C⟩) λk g' w' e z L ⟨Ψ,hI,F',C'⟩ J hJ=>(round k e L Ψ hI z g' w' J λk' e' L' Φ' g'' w'' z' hk hI' F'' C'' K=>hJ k' g'' w'' e' z' L' hk ⟨Φ',hI',F'',C''⟩ K).ex F' C'⟩
theorem tB{k:Nat}{Inv:Nat->List (Nat × Value)->List Sh->List Fa->Prop}(hJ:JT P w0 n Inv k J)(k':Nat)(hk:k'<k)(m:List Bool)(hI:Inv k' e L' Φ')(hΦ:AllF g w Φ->AllF g w Φ')(hi:isJ s.K=true:=by kernel_rfl)(hj:jK s.K=J:=by kernel_rfl)(hn:s.f.n=n:=by kernel_rfl)(he:e.map (λp=>lk s.f.z s.f.e p.1)=e.map (·.2):=by kernel_rfl)(hL:B0 (AF m s.L)=L':=by kernel_rfl):GT P fn R w0 Φ s g w :=
 ⟨λF C=>qB m (λz _ K=>hJ k' e L' Φ' g w z hk hI (hΦ F) C K) hi hj hn he hL⟩
def JC(P:Program)(w0:World)(n:Nat)(Inv:List (Nat × Value)->List Sh->List Fa->Prop)(J:Act->World->Prop):Prop:=∀ e' L' Φ' g' w' z',Inv e' L' Φ'->AllF g' w' Φ'->Cg w0.heap.size TQ gS w0 g' w'->Kn w0.heap.size g' w' L'->J (⟨n,e',z'⟩:Fm).act w'
theorem My(n:Nat)(Inv:List (Nat × Value)->List Sh->List Fa->Prop)(h1:∀ J,JC P w0 n Inv J->GT P fn R w0 Φ (Wi s J) g w)(h2:∀ e L Φ,Inv e L Φ->∀ z g w,GT P fn R w0 Φ ⟨s.K.tail,⟨n,e,z⟩,L⟩ g w)(hs:s.K.isEmpty=false:=by kernel_rfl):GT P fn R w0 Φ s g w :=
 ⟨λF C=>BX n (λg' w' e L=>∃ Ψ,Inv e L Ψ/\AllF g' w' Ψ/\Cg w0.heap.size TQ gS w0 g' w') hs (λJ hJ=>(h1 J λe' L' Φ' g' w' z' hI F' C' K=>hJ g' w' e' z' L' ⟨Φ',hI,F',C'⟩ K).ex F C) λg' w' e z L ⟨Ψ,hI,F',C'⟩=>(h2 e L Ψ hI z g' w').ex F' C'⟩
theorem tD{Inv:List (Nat × Value)->List Sh->List Fa->Prop}(hJ:JC P w0 n Inv J)(m:List Bool)(hI:Inv e L' Φ')(hΦ:AllF g w Φ->AllF g w Φ')(hi:isJ s.K=true:=by kernel_rfl)(hj:jK s.K=J:=by kernel_rfl)(hn:s.f.n=n:=by kernel_rfl)(he:e.map (λp=>lk s.f.z s.f.e p.1)=e.map (·.2):=by kernel_rfl)(hL:B0 (AF m s.L)=L':=by kernel_rfl):GT P fn R w0 Φ s g w :=
 ⟨λF C=>qB m (λz _ K=>hJ e L' Φ' g w z hI (hΦ F) C K) hi hj hn he hL⟩
theorem JS(i j:Nat)(h1:GT P fn R w0 Φ (IX s i) g w)(h2:GT P fn R w0 Φ (IX s j) g w)(hb:bO s i j=true:=by kernel_rfl):GT P fn R w0 Φ s g w:=⟨λF C=>CN i j hb (h1.ex F C) (h2.ex F C)⟩
theorem JR(i:Nat)(r:Nat){x:S3}{xs:List Value}(t ty e:TypeId)(sz bytes:Nat)(z:Value)(a:Addr)(m c:Nat)(news:List Value)(hx:AllF g w Φ->OwnS g w (.n 60 r) true e sz x xs)(Ψ:List Fa)(hΨ:AllF g w Φ->AllF g w Ψ)(hro:Ψ.all (λf=>f.ro != some r)=true)(hrT:Tg.n 60 r∈TQ)(hl:news.length=m*sz)(h1:∀ u∈news,u.oneCell'=true)(hnews:AllF g w Φ->Kn w0.heap.size g w s.L->∀ j u,news[j]?=some u->w.cell? (a.add j)=some u)(h63:x.n+m<=maxLen)(hbytes:(x.n+m)*bytes<=140737488355328)(hk:∀ x' g' w',x'.n=x.n+m->GT P fn R w0 (Fa.ow r e sz x' (xs++news)::Ψ) (nxt s i (S3.v x') s.L).s g' w')(hm:0<m:=by decide)(hsz:0<sz:=by decide)(ht:P.underlying t=some (.slice e):=by kernel_rfl)(hinfo:(P.info? e).map (λi=>(i.zero,i.size,i.bytes))=some (some z,sz,bytes):=by kernel_rfl)(hzs:Nat.beq z.cells.size sz=true:=by kernel_rfl)(hsem:De s i=some (Builtin.append_ #[t,t] ty #[x.v,.slice (some a) m c]>>=λv=>pure (.value v)):=by kernel_rfl)(hob:(nxt s i undef s.L).o.map Ob.l'=(nxt s i undef s.L).o.map Ob.r':=by kernel_rfl)(hT:s.L.all (λy=>[Tg.n 60 r].all λt=>y.t.ne t)=true:=by kernel_rfl):GT P fn R w0 Φ s g w:=by
 refine⟨λF C=>JI i t ty e sz bytes z a m c news (hx F) hsem hob hT ht hinfo hzs hsz hm hl h1 (hnews F) h63 hbytes λx' g' w' hO hn hc hG=>?_⟩;refine(hk x' g' w' hn).ex ⟨hO,(hΨ F).ch (hc w0.heap.size [.n 60 r] (O'.2 rfl)) (by simp) λf hf q hq hm=>?_⟩ (C.trans (hc _ _ hrT));have h2:=jS.1 hro f hf;rw[hq]at h2
 have h3:q=r:=by simpa using hm
 rw[h3]at h2
 simp at h2
end
end
end Go.Proofs.YtalbmmghmoggcadGreatDoor
