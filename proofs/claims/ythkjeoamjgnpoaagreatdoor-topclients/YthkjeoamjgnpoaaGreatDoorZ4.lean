/- Part 4 of the walk. -/
import Derived.Laws.Cover3
import Derived.Test.YthkjeoamjgnpoaaGreatDoorZ3
set_option maxRecDepth 100000
set_option maxHeartbeats 4000000
open Go.Proofs.Tryz
set_option linter.unusedVariables false
namespace Go.Proofs.YthkjeoamjgnpoaaGreatDoor
section
open Go.RowKit
section
variable{P:Program}{fn:Func}{R:Ending->World->Prop}{B:Nat}{T:List Tg}{g:Gh}{w:World}
section
def ST:List Kt->Bool|.c (.loop _)::_=>true|_=>false
def kL:List Kt->Code|.c (.loop b)::_=>b|_=>.skip
def isJ:List Kt->Bool|.j _::_=>true|_=>false
def jK:List Kt->Act->World->Prop|.j J::_=>J|_=>λ_ _=>False
def eS(s:Xs)(n:Nat)(J:Act->World->Prop)(e:List (Nat × Value))(z:Nat->Value)(L:List Sh):Xs:=⟨.c (kL s.K)::.j J::s.K.tail,⟨n,e,z⟩,L⟩
variable{s:Xs}
theorem Cd(n:Nat)(d:List (Nat × Value))(m:List Bool)(i:List Sh)(a:Nat->Gh->World->List (Nat × Value)->List Sh->Prop)(q:ST s.K=true)(r:s.f.n=n)(D:d.map (λp=>lk s.f.z s.f.e p.1)=d.map (·.2))(A:BN (AK m s.L)=i)(k:Nat)(u:Kn B g w s.L->a k g w d i)(round:∀ k g w e z L,a k g w e L->∀ J:Act->World->Prop,(∀ k' g' w' e' z' L',k'<k->a k' g' w' e' L'->Kn B g' w' L'->J (⟨n,e',z'⟩:Fm).act w')->GG P fn R B T (eS s n J e z L) g w):GG P fn R B T s g w:=by
 refine Af λj=>gFm d D λz=>?_;obtain⟨K,f,L⟩:=s;simp only at r;subst r;have o:BN (AK m L)=i:=A;have C:GG P fn R B T ⟨K,⟨f.n,d,z⟩,BN (AK m L)⟩ g w->GG P fn R B T ⟨K,⟨f.n,d,z⟩,L⟩ g w:=λh=>⟨λj=>h.ex (j.sub (DC m L)).uc⟩;refine C ?_;rw[o];cases K with
 | nil=>cases q
 | cons t K =>
  cases t with
  | c x =>
   cases x with
   | loop b=>exact kt a (λk g w e z L v J y=>round k g w e z L v J y) (u j)
   | _=>cases q
  | _=>cases q
theorem EP(J:Act->World->Prop)(n:Nat)(e:List (Nat × Value))(m:List Bool)(b:List Sh)(i:isJ s.K=true)(c:jK s.K=J)(o:s.f.n=n)(r:e.map (λp=>lk s.f.z s.f.e p.1)=e.map (·.2))(k:BN (AK m s.L)=b)(h:∀ z,Kn B g w s.L->Kn B g w b->J (⟨n,e,z⟩:Fm).act w):GG P fn R B T s g w:=by
 refine Af λa=>gFm e r λz=>⟨λq=>?_⟩;obtain⟨K,f,L⟩:=s;simp only at o c k i a;subst o;have d:Kn B g w b:=by rw[<- k];exact(q.sub (DC m L)).uc
 cases K with
 | nil=>cases i
 | cons t K =>
  cases t with
  | j J'=>simp only[jK]at c;rw[c];exact h z a d
  | _=>cases i
def JY(s:Xs)(i:Nat):Xs:=match s.K with|.x ops (u+1) Ld e L0::K=>⟨.y ops u Ld e L0 i::K,s.f,s.L⟩|_=>s
def fD(s:Xs)(i j:Nat):Bool:=match s.K with|.x ops (_+1) Ld _ _::_=>(match Region.ready .any ops Ld with|[k,l]=>Nat.beq k i&&Nat.beq l j|_=>false)|_=>false
theorem DT(i j:Nat)(a:fD s i j=true)(h:GG P fn R B T (JY s i) g w)(m:GG P fn R B T (JY s j) g w):GG P fn R B T s g w:=by
 refine⟨λd=>?_⟩;obtain⟨K,f,L⟩:=s;have b:=h.ex;have c:=m.ex;unfold JY at b c;unfold fD at a;cases K with
 | nil=>cases a
 | cons t K =>
  cases t with
  | x ops u Ld e L0 =>
   cases u with
   | zero=>cases a
   | succ u =>
    simp only at b c a;have n:Region.ready .any ops Ld=[i,j]:=by
     split at a
     .rename_i k l hk
      simp only[nC]at a;rw[hk,nD a.1,nD a.2]
     .cases a
    exact mR n (b d) (c d)
  | _=>cases a
def Yg(s:Xs)(J:Act->World->Prop):Xs:=match s.K with|t::K=>⟨t::.j J::K,s.f,s.L⟩|[]=>s
theorem E2(Q:Exit->Act->World->Prop):Exit.then (Q .normal) Q=Q:=by
 funext e a w
 cases e<;>rfl
theorem Ea(n:Nat)(d:Gh->World->List (Nat × Value)->List Sh->Prop)(u:s.K.isEmpty=false)(k:∀ J:Act->World->Prop,(∀ g' w' e z L,d g' w' e L->Kn B g' w' L->J (⟨n,e,z⟩:Fm).act w')->GG P fn R B T (Yg s J) g w)(p:∀ g' w' e z L,d g' w' e L->GG P fn R B T ⟨s.K.tail,⟨n,e,z⟩,L⟩ g' w'):GG P fn R B T s g w:=by
 obtain⟨K,f,L⟩:=s;cases K with
 | nil=>cases u
 | cons t K =>
  have q:=k (Kq P (bodyPost P fn R) K .normal) (λg' w' e z L r h=>(p g' w' e z L r).ex h);refine⟨λh=>?_⟩;have a:=q.ex h;unfold Yg at a;simp only at a;cases t with
  | c x=>simp only[Kq,E2]at a ⊢;exact a
  | b id=>simp only[Kq,E2]at a ⊢;exact a
  | o ops is=>simp only[Kq,E2]at a ⊢;exact a
  | x ops m Ld e L0=>simp only[Kq,E2]at a ⊢;exact a
  | y ops m Ld e L0 i=>simp only[Kq,E2]at a ⊢;exact a
  | j J=>simp only[Kq,E2]at a ⊢;exact a
def zL(L:List Sh)(k:Nat):List Sh:=L.set k { L.getD k default with t:=.z,w:=false }
theorem kw(k:Nat)(b:Nat)(A:(BN s.L)[k]?.map (λx=>(x.g,x.t))=some (b,.l))(h:∀ g',Cg B [] g w g' w->GG P fn R B T ⟨s.K,s.f,zL (BN s.L) k⟩ g' w):GG P fn R B T s g w:=by
 refine⟨λF=>?_⟩;have q:=F.uc;generalize O:BN s.L=L at *;have V:∀ x∈L,x.w=false:=λx e=>by rw[<- O]at e;obtain⟨y,_,rfl⟩:=nw.1 e;rfl
 have m:k<L.length:=by
  cases e:L[k]? with
  | none=>rw[e]at A;cases A
  | some x=>exact(V'.1 e).1
 have N:L.getD k default=L[k]:=by rw[nF,E' m];rfl
 rw[E' m]at A
 simp only[nW,Z',nY]at A;obtain⟨r,I⟩:=A;have d:=q.row _ (nJ m);have G:∀ n (D:n<L.length),n≠k->L[n].g≠b:=λn D o a=>by
  have:=q.two D m o (by rw[r];exact a);rw[I]at this
  cases this.2.1
 let g':Gh:=⟨λc=>if c=b then .z else g.t c,g.k⟩
 have H:g.t b=.l:=by rw[<- r,d.2.1];exact I
 have E:B<=b:=by rw[<- r];exact d.2.2.1 I
 refine(h g' ⟨rfl,rfl,rfl,A' _,λc M=>?_,λ_ _=>A' _,λ_ _ _ _=>rfl,λ_ _ _ _=>rfl,λ_ _ _ _=>rfl⟩).ex ⟨λx e=>?_,?_,λc M=>?_,q.base⟩
 .show(if c=b then _ else _)=_\/(_/\_/\(if c=b then _ else _)=_);by_cases a:c=b
  .subst a;right;exact⟨H,E,if_pos rfl⟩
  .left;exact if_neg a
 .unfold zL at e;simp only at e;rw[N]at e
  obtain⟨n,D,rfl⟩:=pG e;have C:n<L.length:=by simpa using D
  rw[pi];split
  .refine⟨d.1,?_,λh=>(by cases h),λh=>absurd rfl h⟩;show(if L[k].g=b then _ else _)=_;rw[if_pos r]
  .rename_i o
   have p:=q.row _ (nJ C);refine⟨p.1,?_,p.2.2⟩;show(if L[n].g=b then _ else _)=_;rw[if_neg (G n C (λh=>o h.symm))];exact p.2.1
 .show(zL L k).Pairwise _;unfold zL;rw[N,nZ];intro i j Q U S a;have u:i<L.length:=by simpa using Q
  have v:j<L.length:=by simpa using U
  rw[pi,pi]at a ⊢
  by_cases p:k=i
  .rw[if_pos p]at a ⊢
   rw[if_neg (by omega)]at a ⊢
   exact absurd a.symm (by show L[j].g≠L[k].g;rw[r];exact G j v (by omega))
  .rw[if_neg p]at a ⊢
   by_cases J:k=j
   .rw[if_pos J]at a ⊢
    exact absurd a (by show L[i].g≠L[k].g;rw[r];exact G i u (by omega))
   .rw[if_neg J]at a ⊢
    exact q.two u v (by omega) a
 .have:=q.new c M;show(if c=b then _ else _)=_/\_;refine⟨?_,this.2⟩;split
  .rfl
  .exact this.1
end
end
def gS:Gh:=⟨λ_=>.z,λ_=>0⟩
section
variable{P:Program}{fn:Func}{R:Ending->World->Prop}{B:Nat}{T:List Tg}{g:Gh}{w:World}
def me(s:Xs)(i j l:Nat):Bool:=match s.K with|.x ops (_+1) Ld _ _::_=>(match Region.ready .any ops Ld with|[a,b,c]=>Nat.beq a i&&(Nat.beq b j&&Nat.beq c l)|_=>false)|_=>false
theorem YE{s:Xs}(i j l:Nat)(d:me s i j l=true)(r:GG P fn R B T (JY s i) g w)(v:GG P fn R B T (JY s j) g w)(y:GG P fn R B T (JY s l) g w):GG P fn R B T s g w:=by
 refine⟨λn=>?_⟩;obtain⟨K,f,L⟩:=s;have h:=r.ex;have k:=v.ex;have m:=y.ex;unfold JY at h k m;unfold me at d;cases K with
 | nil=>cases d
 | cons t K =>
  cases t with
  | x ops u Ld e L0 =>
   cases u with
   | zero=>cases d
   | succ u =>
    simp only at h k m d;have o:Region.ready .any ops Ld=[i,j,l]:=by
     split at d
     .rename_i a b c hk
      simp only[nC]at d;rw[hk,nD d.1,nD d.2.1,nD d.2.2]
     .cases d
    refine⟨λp=>absurd (o▸p) (by simp),o▸(λq z=>?_)⟩;rcases(show q=i\/q=j\/q=l by simpa using z)with rfl|rfl|rfl
    .exact h n
    .exact k n
    .exact m n
  | _=>cases d
def Vh:List Sh->List Sh
 | [a,b]=>[b,a]
 | a::l=>a::Vh l
 | []=>[]
theorem In:∀ L:List Sh,(Vh L).Perm L
 | []=>.refl _
 | [a]=>by simp[Vh]
 | [a,b]=>.swap _ _ _
 | a::b::c::l=>(In (b::c::l)).cons a
theorem Oi{s:Xs}(h:GG P fn R B T ⟨s.K,s.f,Vh s.L⟩ g w):GG P fn R B T s g w:=by
 refine⟨λa=>h.ex ⟨λx c=>a.row x ((In s.L).mem_iff.1 c),?_,a.new,a.base⟩⟩;refine(In s.L).symm.pairwise a.sU ?_;intro x y b e;have:=b e.symm;exact⟨this.2,this.1⟩
theorem m6{s:Xs}{r i:Nat}{e:TypeId}{p:Nat}{x:S3}{m:List Value}(c:OwnS g w (.n r i) false e p x m)(q:s.L.all (λy=>y.t.ne (.n r i))=true)(h:∀ g',Cg B [.n r i] g w g' w->OwnS g' w (.n r i) true e p x m->GG P fn R B T s g' w):GG P fn R B T s g w:=by
 refine⟨λa=>?_⟩;rcases c.ex with h1|⟨b,cur,h1,h2,h3,h4,h5,h6,h7,h8⟩
 .exact(h g (Cg.refl _ _ _ _) ⟨c.len,.inl h1⟩).ex a
 .have h80:g.k b=0:=h8;have u:b<w.heap.size:=(U'.1 h2).1;refine(h (kr g b m.length) ⟨rfl,rfl,rfl,A' _,λ_ _=>.inl rfl,λd f=>?_,λd f j _=>if_neg (λe=>j (by rw[e,h7];exact D'.2 rfl)),λ_ _ _ _=>rfl,λ_ _ _ _=>rfl⟩ ⟨c.len,.inr ⟨b,cur,h1,h2,h3,h4,h5,h6,h7,if_pos rfl⟩⟩).ex ⟨λy o=>?_,a.sU,λd f=>?_,a.base⟩
  .show g.k d<=(if d=b then _ else g.k d);split
   .rename_i e;rw[e,h80];exact nH _
   .exact A' _
  .obtain⟨k1,k2,k3,k4⟩:=a.row y o;refine⟨k1,k2,k3,λv=>?_⟩;show(if y.g=b then _ else g.k y.g)=0;rw[if_neg (λe=>Tg.tA (oK.1 q y o) (by rw[<- k2,e,h7]))];exact k4 v
  .have:=a.new d f;refine⟨this.1,?_⟩;show(if d=b then _ else g.k d)=0;rw[if_neg (by omega)];exact this.2
end
theorem XM{P:Program}{s:Xs}{a:Nat}{S:Sem Value}{v:Value}{W:World}(h:Ds s a=some (S>>=λv=>pure (.value v)))(b:S.run P W=.ok v W):Df P s a W=some (.ok (.value v) W):=by
 unfold Df;unfold Ds at h;cases hx:opN s a with
 | none=>rw[hx]at h;cases h
 | some x =>
  rw[hx]at h
  simp only[nW,Z']at h ⊢;rw[h,Sem.run_bind,b,Result.andThen_ok];rfl
section
variable{P:Program}{W:World}
section
theorem l9(d:Array TypeId)(t:TypeId)(a b:Int):(Builtin.max_ d t #[iv a,iv b]).run P W=.ok (iv (max a b)) W:=by
 rw[run_max_int2]
 congr 2
 rw[Int.max_def];by_cases h:a<b
 .rw[if_pos h,if_pos (by omega)]
 .rw[if_neg h];by_cases c:a<=b
  .rw[if_pos c];omega
  .rw[if_neg c]
theorem jj(c:Array TypeId)(t:TypeId)(a b:Int):(Builtin.min_ c t #[iv a,iv b]).run P W=.ok (iv (min a b)) W:=by
 rw[run_min_int2]
 congr 2
 rw[Int.min_def];by_cases h:b<a
 .rw[if_pos h,if_neg (by omega)]
 .rw[if_neg h,if_pos (by omega)]
variable{t:TypeId}{x y:Operand}
theorem JG(a b:Int)(d:P.underlying t=some (.int .i64))(h:-9223372036854775808<=a+b/\a+b<=9223372036854775807):(do Go.eqGuard .add t x y (iv a) (iv b);Go.binOp .add t (iv a) (iv b):Sem Value).run P W=.ok (iv (a+b)) W:=by
 have c:IntKind.i64.wrap (a+b)=a+b:=by rw[IntKind.wrap_i64];omega
 simp[Go.eqGuard,Go.binOp,go_sem,c]
theorem AX(k:Nat)(a:Int)(b:P.underlying 3=some (.int .i64))(h:-9223372036854775808<=a+1/\a+1<=9223372036854775807):(do Go.eqGuard .add 3 (.tmp k) (.const (iv 1)) (iv a) (iv 1);Go.binOp .add 3 (iv a) (iv 1):Sem Value).run P W=.ok (iv (a+1)) W:=JG a 1 b h
theorem aq(a b:Int)(d:P.underlying t=some (.int .i64))(h:-9223372036854775808<=a-b/\a-b<=9223372036854775807):(do Go.eqGuard .sub t x y (iv a) (iv b);Go.binOp .sub t (iv a) (iv b):Sem Value).run P W=.ok (iv (a-b)) W:=by
 have c:IntKind.i64.wrap (a-b)=a-b:=by rw[IntKind.wrap_i64];omega
 simp[Go.eqGuard,Go.binOp,go_sem,c]
end
end
section
theorem Us(a b:Bal):decide (a.r=b.r/\a.n=b.n)=decide (a=b):=ol.2 (Bal.eq_iff a b)
variable{W:World}{x y:Operand}
theorem mA(a b:Bal):(do Go.eqGuard .eql 121 x y (.agg #[iv a.r,iv a.n]) (.agg #[iv b.r,iv b.n]);Go.binOp .eql 121 (.agg #[iv a.r,iv a.n]) (.agg #[iv b.r,iv b.n]):Sem Value).run prog W=.ok (.bool (decide (a=b))) W:=by
 have c:=dh a.r a.n b.r b.n W;rw[Us]at c
 have d:(Go.eqGuard .eql 121 x y (.agg #[iv a.r,iv a.n]) (.agg #[iv b.r,iv b.n])).run prog W=.ok () W:=by kernel_rfl
 rw[Sem.run_bind,d,Result.andThen_ok];exact c
theorem iN(a b c d:Int):∀ w,(binOp .neq 121 (.agg #[.int .i64 a,.int .i64 b]) (.agg #[.int .i64 c,.int .i64 d])).run prog w=.ok (.bool (!decide (a=c/\b=d))) w:=by
 intro w;rw[run_neq_struct,run_equalIn_agg w 9999 _ _ _ (by kernel_rfl) (by kernel_rfl)];unfold Program.fieldsOf;rw[underlying121];have e:=underlying3;simp[Op.eqFields,go_sem,e]
 repeat' split
 all_goals simp_all
theorem lC(a b:Bal):(do Go.eqGuard .neq 121 x y (.agg #[iv a.r,iv a.n]) (.agg #[iv b.r,iv b.n]);Go.binOp .neq 121 (.agg #[iv a.r,iv a.n]) (.agg #[iv b.r,iv b.n]):Sem Value).run prog W=.ok (.bool (!decide (a=b))) W:=by
 have c:=iN a.r a.n b.r b.n W;rw[Us]at c
 have d:(Go.eqGuard .neq 121 x y (.agg #[iv a.r,iv a.n]) (.agg #[iv b.r,iv b.n])).run prog W=.ok () W:=by kernel_rfl
 rw[Sem.run_bind,d,Result.andThen_ok];exact c
theorem Ux(a b:Cmd):decide (a.k=b.k/\a.c=b.c/\a.s=b.s/\a.n=b.n/\a.v=b.v)=decide (a=b):=ol.2 (Cmd.eq_iff a b)
theorem lh(a b:Cmd):(do Go.eqGuard .eql 24 x y (.agg #[iv a.k,iv a.c,iv a.s,iv a.n,iv a.v]) (.agg #[iv b.k,iv b.c,iv b.s,iv b.n,iv b.v]);Go.binOp .eql 24 (.agg #[iv a.k,iv a.c,iv a.s,iv a.n,iv a.v]) (.agg #[iv b.k,iv b.c,iv b.s,iv b.n,iv b.v]):Sem Value).run prog W=.ok (.bool (decide (a=b))) W:=by
 have d:=U8 a.k a.c a.s a.n a.v b.k b.c b.s b.n b.v W;rw[Ux]at d
 have e:(Go.eqGuard .eql 24 x y (.agg #[iv a.k,iv a.c,iv a.s,iv a.n,iv a.v]) (.agg #[iv b.k,iv b.c,iv b.s,iv b.n,iv b.v])).run prog W=.ok () W:=by kernel_rfl
 rw[Sem.run_bind,e,Result.andThen_ok];exact d
theorem IU(a b:Bal)(h:a≠b):(do Go.eqGuard .neq 121 x y (.agg #[iv a.r,iv a.n]) (.agg #[iv b.r,iv b.n]);Go.binOp .neq 121 (.agg #[iv a.r,iv a.n]) (.agg #[iv b.r,iv b.n]):Sem Value).run prog W=.ok (.bool true) W:=by rw[lC,H' h];rfl
theorem IT(a b:Bal)(h:a=b):(do Go.eqGuard .neq 121 x y (.agg #[iv a.r,iv a.n]) (.agg #[iv b.r,iv b.n]);Go.binOp .neq 121 (.agg #[iv a.r,iv a.n]) (.agg #[iv b.r,iv b.n]):Sem Value).run prog W=.ok (.bool false) W:=by rw[lC,O' h];rfl
theorem se{j:Nat}(h:j<5):j=0\/j=1\/j=2\/j=3\/j=4:=by omega
theorem GN:∀ ts:List Tol,(ts.flatMap FY).length=ts.length*5
 | []=>rfl
 | t::r=>by rw[pz,G',GN r,nK];show 5+_=_;omega
end
section
variable{P:Program}{fn:Func}{R:Ending->World->Prop}{B:Nat}{T:List Tg}{g:Gh}{w:World}
section
variable{B' i nb ob:Nat}{L:List Sh}{T':List Tg}{g0:Gh}{ls:List Let}{lt tl:S3}{p p0:Nod}{s:Xs}{ts:List Tol}{v:Value}{w0:World}{x x0:NX}
theorem qR(a:List Tg)(m:Nat)(h:List Nat)(c:∀ gs g' w',Cg B a g w g' w'->GG P fn R B T (rn0 P a gs m s h).s g' w')(b:∀ gs,(rn0 P a gs m s h).o.map Ob.l'=(rn0 P a gs m s h).o.map Ob.r':=by intro _;kernel_rfl):GG P fn R B T s g w:=dw a m h b c
theorem qV(i:Nat)(v:Value){S:Sem Value}(c:S.run P w=.ok v w)(b:GG P fn R B T (nxt s i v s.L).s g w)(d:Ds s i=some (S>>=λv=>pure (.value v)):=by kernel_rfl)(a:(nxt s i undef s.L).o.map Ob.l'=(nxt s i undef s.L).o.map Ob.r':=by kernel_rfl):GG P fn R B T s g w:=dz i v (λ_=>XM d c) a b
theorem qT(i:Nat)(v:Value){S:Sem Value}(c:∀ W,S.run P W=.ok v W)(b:GG P fn R B T (tkN s i v false).s g w)(d:Ds s i=some (S>>=λv=>pure (.value v)):=by kernel_rfl)(a:(tkN s i undef false).o.map Ob.l'=(tkN s i undef false).o.map Ob.r':=by kernel_rfl):GG P fn R B T s g w:=Q5 i v false (λW _=>XM d (c W)) a b
theorem qU(i:Nat)(v:Value){S:Sem Value}(c:∀ W,(true=true->AR (Vf s) W)->S.run P W=.ok v W)(b:GG P fn R B T (tkN s i v true).s g w)(d:Ds s i=some (S>>=λv=>pure (.value v)):=by kernel_rfl)(a:(tkN s i undef true).o.map Ob.l'=(tkN s i undef true).o.map Ob.r':=by kernel_rfl):GG P fn R B T s g w:=Q5 i v true (λW h=>XM d (c W h)) a b
theorem qI(b t:Bool)(a:b=t)(h:GG P fn R B T (L5 s t) g w)(c:Ql s=.bool b:=by kernel_rfl):GG P fn R B T s g w:=gIf b t a c h
theorem qC(i:Nat){f:FuncId}{a:Array Value}{C:Ending->World->Prop}(c:Calls P f a w C)(h:∀ e w',C e w'->∃ v,e=.returned v/\Bw w w'/\GG P fn R B T (nxt s i v s.L).s g w')(j:∀ W,Df P s i W=some (.ok (.enter f a) W):=by intro _;kernel_rfl)(d:KC s i=true:=by kernel_rfl)(b:(nxt s i undef s.L).o.map Ob.l'=(nxt s i undef s.L).o.map Ob.r':=by kernel_rfl):GG P fn R B T s g w:=iz i f a j d b c h
theorem qG(i:Nat)(a:List Tg)(m:List Bool){f:FuncId}{c:Array Value}{C:Ending->World->Prop}(j:Calls P f c w C)(q:∀ e w',C e w'->∃ v g',e=.returned v/\Cg w.heap.size a g w g' w'/\(∀ b,w'.heap.size<=b->g'.t b=.z/\g'.k b=0)/\GG P fn R B T (nxt s i v (AK m s.L)).s g' w')(r:∀ W,Df P s i W=some (.ok (.enter f c) W):=by intro _;kernel_rfl)(p:KC s i=true:=by kernel_rfl)(d:(nxt s i undef (AK m s.L)).o.map Ob.l'=(nxt s i undef (AK m s.L)).o.map Ob.r':=by kernel_rfl)(h:(AK m s.L).all (λx=>a.all λt=>x.t.ne t)=true:=by kernel_rfl):GG P fn R B T s g w:=SG i f c a m r p d h j q
theorem qE(v:Value)(h:Kn B g w s.L->R (.returned v) w)(a:Kn B g w s.L->(results fn s.f.act.tmps).run P w=.ok v w:=by intro _;kernel_rfl)(b:LF s.K=true:=by kernel_rfl):GG P fn R B T s g w:=SH v b a h
theorem qB{J:Act->World->Prop}{n:Nat}{e:List (Nat × Value)}(m:List Bool){a:List Sh}(h:∀ z,Kn B g w s.L->Kn B g w a->J (⟨n,e,z⟩:Fm).act w)(i:isJ s.K=true:=by kernel_rfl)(b:jK s.K=J:=by kernel_rfl)(j:s.f.n=n:=by kernel_rfl)(d:e.map (λp=>lk s.f.z s.f.e p.1)=e.map (·.2):=by kernel_rfl)(c:BN (AK m s.L)=a:=by kernel_rfl):GG P fn R B T s g w:=EP J n e m a i b j d c h
theorem Kn.tM(h:Kn B g w L){i b:Nat}{d:Array Value}(a:(L[i]?).map (λx=>(x.g,CN x.o,Ec x.o))=some (b,d,true)):∃ e,w.heap[b]?=some (.cells d e (0,0)):=by
 cases hi:L[i]? with
 | none=>rw[hi]at a;cases a
 | some x =>
  rw[hi]at a
  have f:=(h.row x (np hi)).1;obtain⟨j,k,m,p⟩:=x;simp only[nW,Z',nY]at a f;obtain⟨rfl,rfl,c⟩:=a;rw[f];unfold Ec at c;split at c
  .exact⟨_,rfl⟩
  .cases c
theorem GF{a:TypeId}(h:Gg P a=true):∃ d,P.underlying a=some d/\d.isRow=true:=by
 unfold Gg at h;split at h
 .rename_i d hd
  exact⟨d,hd,h⟩
 .cases h
theorem qE1(p:Tmp)(c:TypeId)(i b:Nat)(a:Array Value)(h:Kn B g w s.L->R (.returned (.agg a)) w)(t:(s.L[i]?).map (λx=>(x.g,CN x.o,Ec x.o))=some (b,a,true):=by kernel_rfl)(j:fn.results=#[.cell p c]:=by kernel_rfl)(m:s.f.act.tmps.getD p undef=pt b 0:=by kernel_rfl)(r:Gg P c=true:=by kernel_rfl)(k:(P.info? c).map (·.size)=some a.size:=by kernel_rfl)(q:LF s.K=true:=by kernel_rfl):GG P fn R B T s g w :=
 SH _ q (λK=>let ⟨e,he⟩:=K.tM t;let ⟨d,h1,h2⟩:=GF r;bj j _ _ b e a (0,0) d m he h1 (by cases d<;>first|rfl|cases h2) k) h
theorem qE2(p u:Tmp)(c:TypeId)(i b:Nat)(a:Array Value)(v:Value)(h:Kn B g w s.L->R (.returned (.tuple #[.agg a,v])) w)(y:(s.L[i]?).map (λx=>(x.g,CN x.o,Ec x.o))=some (b,a,true):=by kernel_rfl)(j:fn.results=#[.cell p c,.tmp u]:=by kernel_rfl)(m:s.f.act.tmps.getD p undef=pt b 0:=by kernel_rfl)(t:s.f.act.tmps.getD u undef=v:=by kernel_rfl)(r:Gg P c=true:=by kernel_rfl)(k:(P.info? c).map (·.size)=some a.size:=by kernel_rfl)(q:LF s.K=true:=by kernel_rfl):GG P fn R B T s g w :=
 SH _ q (λK=>let ⟨e,he⟩:=K.tM y;let ⟨d,h1,h2⟩:=GF r;by rw[<- t];exact Vi j _ _ b e a (0,0) d m he h1 (by cases d<;>first|rfl|cases h2) k) h
theorem qE3(p u k:Tmp)(j:TypeId)(i b:Nat)(a:Array Value)(v m:Value)(h:Kn B g w s.L->R (.returned (.tuple #[.agg a,v,m])) w)(D:(s.L[i]?).map (λx=>(x.g,CN x.o,Ec x.o))=some (b,a,true):=by kernel_rfl)(q:fn.results=#[.cell p j,.tmp u,.tmp k]:=by kernel_rfl)(t:s.f.act.tmps.getD p undef=pt b 0:=by kernel_rfl)(C:s.f.act.tmps.getD u undef=v:=by kernel_rfl)(c:s.f.act.tmps.getD k undef=m:=by kernel_rfl)(A:Gg P j=true:=by kernel_rfl)(r:(P.info? j).map (·.size)=some a.size:=by kernel_rfl)(y:LF s.K=true:=by kernel_rfl):GG P fn R B T s g w :=
 SH _ y (λK=>let ⟨e,he⟩:=K.tM D;let ⟨d,h1,h2⟩:=GF A;by rw[<- C,<- c];exact kW q _ _ b e a (0,0) d t he h1 (by cases d<;>first|rfl|cases h2) r) h
theorem qE4(p y:Tmp)(v c:TypeId)(i b j m:Nat)(k a:Array Value)(h:Kn B g w s.L->R (.returned (.tuple #[.agg k,.agg a])) w)(G:(s.L[i]?).map (λx=>(x.g,CN x.o,Ec x.o))=some (b,k,true):=by kernel_rfl)(u:(s.L[j]?).map (λx=>(x.g,CN x.o,Ec x.o))=some (m,a,true):=by kernel_rfl)(A:fn.results=#[.cell p v,.cell y c]:=by kernel_rfl)(D:s.f.act.tmps.getD p undef=pt b 0:=by kernel_rfl)(r:s.f.act.tmps.getD y undef=pt m 0:=by kernel_rfl)(F:Gg P v=true:=by kernel_rfl)(t:Gg P c=true:=by kernel_rfl)(C:(P.info? v).map (·.size)=some k.size:=by kernel_rfl)(q:(P.info? c).map (·.size)=some a.size:=by kernel_rfl)(E:LF s.K=true:=by kernel_rfl):GG P fn R B T s g w :=
 SH _ E (λK=>let ⟨e,he⟩:=K.tM G;let ⟨e',he'⟩:=K.tM u;let ⟨d,h1,h2⟩:=GF F;let ⟨d',h3,h4⟩:=GF t;kg A _ _ b m e e' k a (0,0) (0,0) d d' D he h1 (by cases d<;>first|rfl|cases h2) C r he' h3 (by cases d'<;>first|rfl|cases h4) q) h
theorem qE5(p C u:Tmp)(A c:TypeId)(i b j m:Nat)(k a:Array Value)(v:Value)(h:Kn B g w s.L->R (.returned (.tuple #[.agg k,.agg a,v])) w)(J:(s.L[i]?).map (λx=>(x.g,CN x.o,Ec x.o))=some (b,k,true):=by kernel_rfl)(y:(s.L[j]?).map (λx=>(x.g,CN x.o,Ec x.o))=some (m,a,true):=by kernel_rfl)(D:fn.results=#[.cell p A,.cell C c,.tmp u]:=by kernel_rfl)(F:s.f.act.tmps.getD p undef=pt b 0:=by kernel_rfl)(r:s.f.act.tmps.getD C undef=pt m 0:=by kernel_rfl)(I:s.f.act.tmps.getD u undef=v:=by kernel_rfl)(H:Gg P A=true:=by kernel_rfl)(t:Gg P c=true:=by kernel_rfl)(E:(P.info? A).map (·.size)=some k.size:=by kernel_rfl)(q:(P.info? c).map (·.size)=some a.size:=by kernel_rfl)(G:LF s.K=true:=by kernel_rfl):GG P fn R B T s g w :=
 SH _ G (λK=>let ⟨e,he⟩:=K.tM J;let ⟨e',he'⟩:=K.tM y;let ⟨d,h1,h2⟩:=GF H;let ⟨d',h3,h4⟩:=GF t;by rw[<- I];exact kh D _ _ b m e e' k a (0,0) (0,0) d d' F he h1 (by cases d<;>first|rfl|cases h2) E r he' h3 (by cases d'<;>first|rfl|cases h4) q) h
theorem qN(h:NodeAt g w i nb ob x p)(b:GG P fn R B T ⟨s.K,s.f,BN s.L++[⟨nb,.cells (AJ i ob p x) 136,.n 0 i,false⟩]⟩ g w)(a:s.L.all (λy=>(Tg.n 0 i).ne y.t)=true:=by kernel_rfl):GG P fn R B T s g w:=I7 nb _ 0 i h.row h.tag h.sL a b
theorem qO(h:OutAt g w ob lt tl ls ts)(b:GG P fn R B T ⟨s.K,s.f,BN s.L++[⟨ob,.cells #[lt.v,tl.v] 113,.n 50 0,false⟩]⟩ g w)(a:s.L.all (λy=>(Tg.n 50 0).ne y.t)=true:=by kernel_rfl):GG P fn R B T s g w:=I7 ob _ 50 0 h.row h.tag h.sL a b
theorem qS0(n:Nat)(m:List Bool){f:FuncId}{j:Array Value}{i nb a:Nat}{v:Value}{p:Nod}{k:List Let}{q:List Tol}(u:Calls P f j w (NP i nb a g w v p k q))(C:∀ g' w' x lt tl,NodeAt g' w' i nb a x p->OutAt g' w' a lt tl k q->Cg B (TN i) g w g' w'->GG P fn R B T ⟨(nxt s n v (AK m s.L)).s.K,(nxt s n v (AK m s.L)).s.f,BN (BN (nxt s n v (AK m s.L)).s.L++[⟨nb,.cells (AJ i a p x) 136,.n 0 i,false⟩])++[⟨a,.cells #[lt.v,tl.v] 113,.n 50 0,false⟩]⟩ g' w')(D:∀ W,Df P s n W=some (.ok (.enter f j) W):=by intro _;kernel_rfl)(A:KC s n=true:=by kernel_rfl)(h:(nxt s n undef (AK m s.L)).o.map Ob.l'=(nxt s n undef (AK m s.L)).o.map Ob.r':=by kernel_rfl)(r:(AK m s.L).all (λx=>(TN i).all λt=>x.t.ne t)=true:=by kernel_rfl)(b:(nxt s n v (AK m s.L)).s.L.all (λy=>(Tg.n 0 i).ne y.t)=true:=by kernel_rfl)(d:∀ x:NX,(BN (nxt s n v (AK m s.L)).s.L++[(⟨nb,.cells (AJ i a p x) 136,.n 0 i,false⟩:Sh)]).all (λy=>(Tg.n 50 0).ne y.t)=true:=by intro _;kernel_rfl):GG P fn R B T s g w :=
 qG n (TN i) m u (λ_ w' ⟨g',e,M,c⟩=>⟨v,g',e,c,M.new,let ⟨x,lt,tl,hN,hO,_⟩:=M;qN hN (qO hO (C g' w' x lt tl hN hO c.ret) (d x)) b⟩) D A h r
theorem qS(n:Nat)(m:List Bool){f:FuncId}{D:Array Value}{i nb a H:Nat}{d:List Tg}{e:Gh}{A:World}{Y:NX}{q u:S3}{v:Value}{F p:Nod}{b E:List Let}{c G:List Tol}(I:NodeAt e A i nb a Y F)(J:OutAt e A a q u b c)(C:Cg H d e A g w)(N:NS i nb a g w F b c->Calls P f D w (NP i nb a g w v p E G))(Q:∀ g' w' x lt tl,NodeAt g' w' i nb a x p->OutAt g' w' a lt tl E G->Cg B (TN i) g w g' w'->GG P fn R B T ⟨(nxt s n v (AK m s.L)).s.K,(nxt s n v (AK m s.L)).s.f,BN (BN (nxt s n v (AK m s.L)).s.L++[⟨nb,.cells (AJ i a p x) 136,.n 0 i,false⟩])++[⟨a,.cells #[lt.v,tl.v] 113,.n 50 0,false⟩]⟩ g' w')(X:Tg.z∉d:=by simp)(S:∀ r,r<6->Tg.n r i∉d:=by simp)(U:∀ r,50<=r->Tg.n r 0∉d:=by simp)(V:∀ W,Df P s n W=some (.ok (.enter f D) W):=by intro _;kernel_rfl)(O:KC s n=true:=by kernel_rfl)(k:(nxt s n undef (AK m s.L)).o.map Ob.l'=(nxt s n undef (AK m s.L)).o.map Ob.r':=by kernel_rfl)(M:(AK m s.L).all (λx=>(TN i).all λt=>x.t.ne t)=true:=by kernel_rfl)(h:(nxt s n v (AK m s.L)).s.L.all (λy=>(Tg.n 0 i).ne y.t)=true:=by kernel_rfl)(j:∀ x:NX,(BN (nxt s n v (AK m s.L)).s.L++[(⟨nb,.cells (AJ i a p x) 136,.n 0 i,false⟩:Sh)]).all (λy=>(Tg.n 50 0).ne y.t)=true:=by intro _;kernel_rfl):GG P fn R B T s g w :=
 Af λK=>qS0 n m (N (nsC I J C K X S U)) Q V O k M h j
theorem qF{a:Gh}{b:World}(d:NodeAt a b i nb ob x p)(e:OutAt a b ob lt tl ls ts)(c:Cg B' T' a b g w)(C:Cg w0.heap.size (TN i) g0 w0 g w)(o:Tg.z∉T':=by simp)(h:∀ r,r<6->Tg.n r i∉T':=by simp)(j:∀ r,50<=r->Tg.n r 0∉T':=by simp)(k:Kn w0.heap.size g w s.L->(results fn s.f.act.tmps).run P w=.ok v w:=by intro _;kernel_rfl)(m:LF s.K=true:=by kernel_rfl):GG P fn (NP i nb ob g0 w0 v p ls ts) w0.heap.size T s g w :=
 qE v (λK=>⟨_,rfl,nsC d e c K o h j,C⟩) k m
theorem Kn.nd(h:Kn B g w L)(k:Nat)(a:FSl g w x.tape p.d)(c:FSv g w x.mv p.vo.vs)(e:∀ j,j<5->FSv g w (x.hv j) (p.bn.an j).vs)(f:∃ vs,OwnS g w (.n 1 i) true 1 1 x.synced vs/\Pends g w nb vs p.bu)(m:OwnS g w (.n 2 i) false 24 5 x.fa (cmL p.bn.fa))(o:OwnS g w (.n 3 i) true 24 5 x.ae (cmL p.ae))(r:OwnS g w (.n 4 i) false 24 5 x.av (cmL p.av))(s:X0 g w i p.bN x.bN)(t:p.up=true->∃ b,x.bN=some b)(u:L[k]?=some ⟨nb,.cells (AJ i ob p x) 136,.n 0 i,false⟩:=by kernel_rfl):NodeAt g w i nb ob x p :=
 have q:=h.sJ k nb _ 0 i u
 ⟨q.1,q.2.1,q.2.2,a,c,e,f,m,o,r,s,t⟩
theorem Kn.ud{C:Nat}{f:List Tg}(h:Kn B g w L)(k:Nat)(a:NodeAt g0 w0 i nb ob x0 p0)(c:Cg C f g0 w0 g w)(I:L[k]?=some ⟨nb,.cells (AJ i ob p x) 136,.n 0 i,false⟩:=by kernel_rfl)(e:Tg.z∉f:=by simp)(b:∀ r,1<=r->r<6->Tg.n r i∉f:=by simp;try omega)(o:x=x0:=by rfl)(s:p.d=p0.d:=by rfl)(t:p.vo.vs=p0.vo.vs:=by rfl)(u:p.bn.an=p0.bn.an:=by rfl)(v:p.bu=p0.bu:=by rfl)(y:p.bn.fa=p0.bn.fa:=by rfl)(A:p.ae=p0.ae:=by rfl)(D:p.av=p0.av:=by rfl)(E:p.bN=p0.bN:=by rfl)(m:p.up=p0.up:=by rfl):NodeAt g w i nb ob x p:=by
 have q:=h.sJ k nb _ 0 i I;subst o;obtain⟨vs,F,G⟩:=a.bu;exact⟨q.1,q.2.1,q.2.2,by rw[s];exact a.tape.ch c e,by rw[t];exact a.mv.ch c e,by rw[u];exact λj H=>(a.an j H).ch c e,by rw[v];exact⟨vs,F.ch c (b 1 (by omega) (by omega)) (by simp),G.ch c e⟩,by rw[y];exact a.fa.ch c (b 2 (by omega) (by omega)) (by simp),by rw[A];exact a.ae.ch c (b 3 (by omega) (by omega)) (by simp),by rw[D];exact a.av.ch c (b 4 (by omega) (by omega)) (by simp),by rw[E];exact a.bN.ch c (b 5 (by omega) (by omega)),by rw[m];exact a.sS⟩
theorem Kn.od(h:Kn B g w L)(k:Nat)(a:∃ bs:List Nat,OwnS g w (.n 51 0) false 184 1 lt (bs.map (pt · 0))/\Lets g w bs ls)(b:OwnS g w (.n 52 0) false 142 5 tl (ts.flatMap FY))(c:L[k]?=some ⟨ob,.cells #[lt.v,tl.v] 113,.n 50 0,false⟩:=by kernel_rfl):OutAt g w ob lt tl ls ts :=
 have q:=h.sJ k ob _ 50 0 c
 ⟨q.1,q.2.1,q.2.2,a,b⟩
end
end
section
structure RdC(w:World)(x:S3)(l:List Cmd):Prop where
 len:x.n=l.length
 cap:x.n<=x.c
 th:x.a=none->x.c=0
 ex:l=[]\/∃ b off,x.a=some ⟨b,off,none⟩/\b<w.heap.size/\∀ j u,(cmL l)[j]?=some u->w.cell? ⟨b,off+j,none⟩=some u
variable{g:Gh}{l:List Cmd}{w:World}{x:S3}
theorem OwnS.rd{τ:Tg}{i:Bool}{e:TypeId}(h:OwnS g w τ i e 5 x (cmL l)):RdC w x l:=by
 have c:=h.num;rcases h.ex with⟨h1,h2,h3⟩|⟨b,cur,h1,h2,h3,h4,h5,h6,h7,h8⟩
 .exact⟨c,by omega,λ_=>h3,.inl (Y' (by omega))⟩
 .refine⟨c,h3,λh=>(by rw[h1]at h;cases h),.inr ⟨b,0,h1,rl h2,λj u f=>?_⟩⟩;obtain⟨k,a,_,d⟩:=h.cell f;rw[h1]at a
  simp only[Z',Addr.mk.injEq,and_true]at a;subst a;rw[nM];exact d
theorem RdC.af{d:World}(h:RdC w x l)(b:Bw w d):RdC d x l :=
 ⟨h.len,h.cap,h.th,h.ex.imp id λ⟨k,a,e,c,f⟩=>⟨k,a,e,X' c b.size,λj u g=>(b.cell (p:=⟨k,a+j,none⟩) c).trans (f j u g)⟩⟩
def S3.cut(x:S3)(l h:Nat):S3:=⟨if x.c=l then x.a else x.a.map (·.add (l*5)),h-l,x.c-l⟩
theorem Rc.drop(h:Rc g w x l){k:Nat}(i:k<=l.length):Rc g w (x.cut k x.n) (l.drop k):=by
 have e:=h.len;have f:=h.cap;refine⟨by simp[S3.cut,e],by simp only[S3.cut];omega,λc=>?_,?_⟩
 .simp only[S3.cut]at c ⊢;split at c
  .omega
  .cases ha:x.a with
   | none=>have:=h.th ha;omega
   | some a=>rw[ha]at c;cases c
 .rcases h.ex with rfl|⟨b,off,h1,h2,h3,h4⟩
  .exact .inl (by simp)
  .by_cases he:k=l.length
   .exact .inl (by rw[he];simp)
   .refine .inr ⟨b,off+k*5,?_,h2,λj u d=>?_,?_⟩
    .simp only[S3.cut];rw[if_neg (by omega),h1];simp only[nW,Z'];unfold Addr.add;split
     .rename_i h0;rw[show k=0 by omega];simp
     .simp
    .rw[<- Lz,om]at d
     have:=h3 _ u d;rw[show off+k*5+j=off+(5*k+j)by omega];exact this
    .rcases h4 with h4|h4
     .exact .inl h4
     .right;rw[nc];omega
theorem Rc.addr(h:Rc g w x l){k:Nat}(c:k<l.length):∃ b off,x.a=some ⟨b,off,none⟩:=by
 rcases h.ex with rfl|⟨b,off,h2,_⟩
 .simp at c
 .exact⟨b,off,h2⟩
theorem Rc.cellAt(h:Rc g w x l){b d j q:Nat}{c:Cmd}{u:Value}(f:x.a=some ⟨b,d,none⟩)(e:l[j]?=some c)(i:(cmV c)[q]?=some u):w.cell? ⟨b,d+5*j+q,none⟩=some u:=by
 rcases h.ex with rfl|⟨b',off',h1,h2,h3,_⟩
 .cases e
 .rw[f]at h1
  simp only[Z',Addr.mk.injEq,and_true]at h1;obtain⟨rfl,rfl⟩:=h1;rw[oh];exact h3 _ u (Pd e i)
theorem RdC.cellAt(h:RdC w x l){b d j q:Nat}{c:Cmd}{u:Value}(f:x.a=some ⟨b,d,none⟩)(e:l[j]?=some c)(g:(cmV c)[q]?=some u):w.cell? ⟨b,d+5*j+q,none⟩=some u:=by
 rcases h.ex with rfl|⟨b',off',h1,h2,h3⟩
 .cases e
 .rw[f]at h1
  simp only[Z',Addr.mk.injEq,and_true]at h1;obtain⟨rfl,rfl⟩:=h1;rw[oh];exact h3 _ u (Pd e g)
theorem RdC.addr(h:RdC w x l){k:Nat}(c:k<l.length):∃ b off,x.a=some ⟨b,off,none⟩:=by
 rcases h.ex with rfl|⟨b,off,h2,_⟩
 .simp at c
 .exact⟨b,off,h2⟩
theorem XZ(l:List Cmd)(k:Nat){j:Nat}{u:Value}(h:(cmL (l.take k))[j]?=some u):(cmL l)[j]?=some u:=by
 have a:cmL l=cmL (l.take k)++cmL (l.drop k):=by rw[<- Cu,oq]
 rw[a,nk (V'.1 h).1];exact h
theorem RdC.take(h:RdC w x l){k:Nat}(g:k<=l.length):RdC w (x.cut 0 k) (l.take k):=by
 have i:=h.len;have f:=h.cap;have c:(x.cut 0 k).a=x.a:=by
  simp only[S3.cut];split
  .rfl
  .cases x.a with
   | none=>rfl
   | some a=>simp[Addr.add]
 refine⟨by simp[S3.cut];omega,by simp only[S3.cut];omega,λd=>?_,?_⟩
 .rw[c]at d
  have:=h.th d;simp only[S3.cut];omega
 .rcases h.ex with rfl|⟨b,off,h1,h2,h3⟩
  .exact .inl (by simp)
  .exact .inr ⟨b,off,by rw[c];exact h1,h2,λj u e=>h3 j u (XZ l k e)⟩
end
section
variable{W:World}
section
theorem sz5:(Go.sizeOf (prog.elem 45)).run prog W=.ok 5 W:=by kernel_rfl
theorem unC:prog.underlying 45=some (.slice (prog.elem 45)):=by kernel_rfl
theorem jl(x:S3)(k:Nat)(a:k<=x.n):(Instr.sliceAt 45 x.v (some (iv (k:Int))) none none).run prog W=.ok (S3.v (x.cut k x.n)) W:=by
 rw[run_sliceAt_slice _ _ _ _ _ _ unC,run_slice_l (P:=prog) (w:=W) _ _ _ _ unC .i64 k (by omega) (by omega),sz5];simp[Result.andThen,sliced,S3.cut]
theorem lK(x:S3)(k:Nat)(a:k<=x.c):(Instr.sliceAt 45 x.v none (some (iv (k:Int))) none).run prog W=.ok (S3.v (x.cut 0 k)) W:=by
 rw[run_sliceAt_slice _ _ _ _ _ _ unC,run_slice_h (P:=prog) (w:=W) _ _ _ _ unC .i64 k (by omega) (by omega),sz5];simp[Result.andThen,sliced,S3.cut]
variable{b k off:Nat}{x:S3}{y:Operand}
theorem lH(d:x.a=some ⟨b,off,none⟩)(k:Nat)(f:k<x.n)(e:x.n<=x.c):(Instr.sliceAt 45 x.v (some (iv (k:Int))) none none).run prog W=.ok (.slice (some ⟨b,off+5*k,none⟩) (x.n-k) (x.c-k)) W:=by
 rw[jl x k (by omega)];unfold S3.v S3.cut;simp only;rw[if_neg (by omega),d];simp only[nW,Addr.add];split
 .rename_i h0;rw[show k=0 by omega];rfl
 .simp only[pZ]
theorem lM{P:Program}{x:Operand}(a b:Nat)(c:P.underlying 3=some (.int .i64))(h:b<=a)(d:a<4611686018427387904):(do Go.eqGuard .sub 3 x y (iv (a:Int)) (iv (b:Int));Go.binOp .sub 3 (iv (a:Int)) (iv (b:Int)):Sem Value).run P W=.ok (iv ((a-b:Nat):Int)) W:=by
 rw[aq _ _ c (by omega)]
 congr 3
 omega
theorem kP{g:Gh}{l:List Cmd}(e:x.a=some ⟨b,off,none⟩)(h:Rc g W x l)(k:Nat)(f:k<l.length):∀ j u,(cmL (l.drop k))[j]?=some u->W.cell? ((⟨b,off+5*k,none⟩:Addr).add j)=some u:=by
 intro j u d;rcases h.ex with rfl|⟨b',off',h1,h2,h3,h4⟩
 .simp at f
 .rw[e]at h1
  simp only[Z',Addr.mk.injEq,and_true]at h1;obtain⟨rfl,rfl⟩:=h1;rw[<- Lz,om]at d
  have:=h3 _ u d;have c:(⟨b,off+5*k,none⟩:Addr).add j=⟨b,off+5*k+j,none⟩:=by unfold Addr.add;split<;>simp_all
  rw[c,show off+5*k+j=off+(5*k+j)by omega];exact this
theorem Ms(c:x.a=some ⟨b,off,none⟩)(j:Nat)(d:j<x.n):(Instr.indexAt 45 x.v (iv (j:Int))).run prog W=.ok (pt b (off+5*j)) W:=by
 unfold S3.v;rw[c];exact P6 (P:=prog) (e:=24) (z:=5) underlying45 (by kernel_rfl) (by kernel_rfl) d _ rfl
theorem TG(c:Cmd)(h:∀ j u,(cmV c)[j]?=some u->W.cell? ⟨b,k+j,none⟩=some u):(Instr.loadAt 24 (pt b k)).run prog W=.ok (.agg #[iv c.k,iv c.c,iv c.s,iv c.n,iv c.v]) W:=by
 have a:=run_loadVar_mid (P:=prog) W b k 24 (cmV c) _ (λj u d=>h j u d) underlying24 rfl (by kernel_rfl);simp only[Instr.loadAt,Instr.sureAddr,Sem.run_bind,Sem.run_pure,Result.andThen_ok];exact a
theorem Va(c:x.a=some ⟨b,off,none⟩)(j:Nat)(d:j<x.n):(Instr.indexAt 122 x.v (iv (j:Int))).run prog W=.ok (pt b (off+8*j)) W:=by
 unfold S3.v;rw[c];exact P6 (P:=prog) (e:=181) (z:=8) underlying122 (by kernel_rfl) (by kernel_rfl) d _ rfl
theorem eJ(v:Vt)(h:W.rangeAt b k (vtC v)):(Instr.loadAt 181 (pt b k)).run prog W=.ok (.agg #[iv v.bt,iv v.b.r,iv v.b.n,iv v.w.k,iv v.w.c,iv v.w.s,iv v.w.n,iv v.w.v]) W:=by
 have a:=run_loadVar_mid (P:=prog) W b k 181 (vtC v) _ h underlying181 rfl (by kernel_rfl);simp only[Instr.loadAt,Instr.sureAddr,Sem.run_bind,Sem.run_pure,Result.andThen_ok];exact a
theorem jH(u v:Vt):decide (u.bt=v.bt/\u.b.r=v.b.r/\u.b.n=v.b.n/\u.w.k=v.w.k/\u.w.c=v.w.c/\u.w.s=v.w.s/\u.w.n=v.w.n/\u.w.v=v.w.v)=decide (u=v):=by
 apply ol.2;constructor
 .rintro⟨a1,a2,a3,a4,a5,a6,a7,a8⟩;exact(Vt.eq_iff u v).1 ⟨a1,(Bal.eq_iff _ _).1 ⟨a2,a3⟩,(Cmd.eq_iff _ _).1 ⟨a4,a5,a6,a7,a8⟩⟩
 .rintro rfl;exact⟨rfl,rfl,rfl,rfl,rfl,rfl,rfl,rfl⟩
theorem lu{x:Operand}(a b:Vt):(do Go.eqGuard .eql 181 x y (.agg #[iv a.bt,iv a.b.r,iv a.b.n,iv a.w.k,iv a.w.c,iv a.w.s,iv a.w.n,iv a.w.v]) (.agg #[iv b.bt,iv b.b.r,iv b.b.n,iv b.w.k,iv b.w.c,iv b.w.s,iv b.w.n,iv b.w.v]);Go.binOp .eql 181 (.agg #[iv a.bt,iv a.b.r,iv a.b.n,iv a.w.k,iv a.w.c,iv a.w.s,iv a.w.n,iv a.w.v]) (.agg #[iv b.bt,iv b.b.r,iv b.b.n,iv b.w.k,iv b.w.c,iv b.w.s,iv b.w.n,iv b.w.v]):Sem Value).run prog W=.ok (.bool (decide (a=b))) W:=by
 have d:=Y2 a.bt a.b.r a.b.n a.w.k a.w.c a.w.s a.w.n a.w.v b.bt b.b.r b.b.n b.w.k b.w.c b.w.s b.w.n b.w.v W;rw[jH]at d
 have e:(Go.eqGuard .eql 181 x y (.agg #[iv a.bt,iv a.b.r,iv a.b.n,iv a.w.k,iv a.w.c,iv a.w.s,iv a.w.n,iv a.w.v]) (.agg #[iv b.bt,iv b.b.r,iv b.b.n,iv b.w.k,iv b.w.c,iv b.w.s,iv b.w.n,iv b.w.v])).run prog W=.ok () W:=by kernel_rfl
 rw[Sem.run_bind,e,Result.andThen_ok];exact d
end
end
section
variable{B sz:Nat}{P:Program}{T:List Tg}{W w w':World}{e:TypeId}{g g':Gh}{l:List Cmd}{vs:List Value}{x:S3}
theorem Da{ty:TypeId}{c:TypeDesc}{b k:Nat}{v:Value}(g:prog.underlying ty=some c)(d:c.isRow=false)(e:W.cell? ⟨b,k,none⟩=some v):(Instr.loadAt ty (pt b k)).run prog W=.ok v W:=by
 have a:(isAgg ty).run prog W=.ok false W:=by
  unfold isAgg;rw[Sem.run_bind,run_underlying g W];cases c<;>first|rfl|(simp only[TypeDesc.isRow]at d;cases d)
 have f:(loadVar ty ⟨b,k,none⟩).run prog W=.ok v W:=by simp[loadVar,a,e,go_sem]
 simp only[Instr.loadAt,Instr.sureAddr,Sem.run_bind,Sem.run_pure,Result.andThen_ok,f]
theorem Kn.ux{L:List Sh}(h:Kn B g w L)(k b:Nat)(o:Obj)(r i:Nat)(v:Bool)(c:L[k]?=some ⟨b,o,.n r i,v⟩):w.heap[b]?=some o/\g.t b=.n r i/\g.k b=0 :=
 have a:=h.row _ (np c)
 ⟨a.1,a.2.1,a.2.2.2 (by simp)⟩
structure RdV(w:World)(x:S3)(sz:Nat)(vs:List Value):Prop where
 len:vs.length=x.n*sz
 cap:x.n<=x.c
 th:x.a=none->x.c=0
 ex:x.n=0\/∃ b off,x.a=some ⟨b,off,none⟩/\b<w.heap.size/\∀ j u,vs[j]?=some u->w.cell? ⟨b,off+j,none⟩=some u
theorem RdC.rv(h:RdC w x l):RdV w x 5 (cmL l) :=
 ⟨by rw[BJ,h.len],h.cap,h.th,h.ex.imp (λe=>by rw[h.len,e];rfl) id⟩
theorem RdV.rc(h:RdV w x 5 (cmL l)):RdC w x l :=
 have a:x.n=l.length:=by have:=h.len;rw[BJ]at this;omega
 ⟨a,h.cap,h.th,h.ex.imp (λe=>Y' (by omega)) id⟩
theorem RdV.af(h:RdV w x sz vs)(b:Bw w w'):RdV w' x sz vs :=
 ⟨h.len,h.cap,h.th,h.ex.imp id λ⟨k,a,d,c,e⟩=>⟨k,a,d,X' c b.size,λj u f=>(b.cell (p:=⟨k,a+j,none⟩) c).trans (e j u f)⟩⟩
theorem OwnS.rv{τ:Tg}{f:Bool}(h:OwnS g w τ f e sz x vs):RdV w x sz vs:=by
 rcases h.ex with⟨h1,h2,h3⟩|⟨b,cur,h1,h2,h3,h4,h5,h6,h7,h8⟩
 .exact⟨h.len,by omega,λ_=>h3,.inl h2⟩
 .refine⟨h.len,h3,λh=>(by rw[h1]at h;cases h),.inr ⟨b,0,h1,rl h2,λj u d=>?_⟩⟩;obtain⟨i,a,_,c⟩:=h.cell d;rw[h1]at a
  simp only[Z',Addr.mk.injEq,and_true]at a;subst a;rw[nM];exact c
theorem eK{t:TypeId}{x y:Operand}{z:S3}{b:Bool}(f:z.a.isNone=b)(h:P.underlying t=some (.slice e))(g:(Go.eqGuard .eql t x y z.v (.slice none 0 0)).run P W=.ok () W):(do Go.eqGuard .eql t x y z.v (.slice none 0 0);Go.binOp .eql t z.v (.slice none 0 0):Sem Value).run P W=.ok (.bool b) W:=by
 subst f;rw[Sem.run_bind,g,Result.andThen_ok];have d:=run_equal_slice_nil (P:=P) (w:=W) t e z.a z.n z.c h;simp only[S3.v,binOp,Sem.run_bind,d,Result.andThen_ok];rfl
theorem gj(t h e:TypeId)(i:TypeInfo)(g:P.underlying t=some (.slice e))(f:P.info? e=some i)(b:Nat)(a:Addr)(c:Nat):(Builtin.append_ #[t,t] h #[.slice (some ⟨b,0,none⟩) 0 0,.slice (some a) 0 c]).run P W=.ok (.slice (some ⟨b,0,none⟩) 0 0) W:=by
 have d:=run_firstCells_some (P:=P) W i.size 0 a 0 c [] (by simp) (by simp);simp[Builtin.append_,run_underlying g,sizeOf,typeInfo,f,Builtin.lenOf,d,storeCells]
structure FzV(g:Gh)(w:World)(x:S3)(sz:Nat)(vs:List Value):Prop where
 rd:RdV w x sz vs
 z:vs≠[]->Frz g x
theorem FzV.ch(h:FzV g w x sz vs)(c:Cg B T g w g' w')(v:Tg.z∉T:=by simp):FzV g' w' x sz vs:=by
 obtain⟨⟨k,q,r,i⟩,s⟩:=h;by_cases p:vs=[]
 .subst p;exact⟨⟨k,q,r,i.imp id λ⟨b,d,e,f,_⟩=>⟨b,d,e,X' f c.size,λj u o=>(by cases o)⟩⟩,λh=>absurd rfl h⟩
 .rcases i with i|⟨b,d,e,f,e3⟩
  .exact absurd (Y' (by rw[k,i,rC])) p
  .have hb:g.t b=.z:=s p _ e;refine⟨⟨k,q,r,.inr ⟨b,d,e,X' f c.size,λj u o=>?_⟩⟩,λ_ a m=>?_⟩
   .rw[World.cell?_of_block (w:=w) (c.zc v f hb)];exact e3 j u o
   .rw[e]at m;simp only[Z']at m;subst m
    rw[c.tag f (by rw[hb];intro h;cases h)];exact hb
structure Fa where
 ro:Option Nat
 p:Gh->World->Prop
 st:∀ {B:Nat} {T:List Tg} {g g':Gh} {w w':World},Tg.z∉T->(∀ r,ro=some r->Tg.n 60 r∉T)->Cg B T g w g' w'->p g w->p g' w'
@[reducible] def AllF (g:Gh) (w:World):List Fa->Prop
 | []=>True
 | f::l=>f.p g w/\AllF g w l
variable{Φ:List Fa}
theorem AllF.ch(h:AllF g w Φ)(c:Cg B T g w g' w')(d:Tg.z∉T:=by simp)(a:∀ f∈Φ,∀ r,f.ro=some r->Tg.n 60 r∉T):AllF g' w' Φ:=by
 induction Φ with
 | nil=>trivial
 | cons f l ih=>exact⟨f.st d (a f M') c h.1,ih h.2 λf b=>a f (I' _ b)⟩
theorem AllF.sr(h:AllF g w Φ)(c:Cg B [] g w g' w'):AllF g' w' Φ:=h.ch c Q' λ_ _ _ _=>Q'
def Fa.zv(x:S3)(sz:Nat)(vs:List Value):Fa:=⟨none,λg w=>FzV g w x sz vs,λhz _ c h=>h.ch c hz⟩
def Fa.sl(x:S3)(l:List Int):Fa:=⟨none,λg w=>FSl g w x l,λhz _ c h=>h.ch c hz⟩
def Fa.ow(r:Nat)(e:TypeId)(sz:Nat)(x:S3)(vs:List Value):Fa:=⟨some r,λg w=>OwnS g w (.n 60 r) true e sz x vs,λ_ hr c h=>h.ch c (hr r rfl) (by simp)⟩
def TQ:List Tg:=[.n 60 0,.n 60 1,.n 60 2,.n 60 3]
theorem mq:Tg.z∉TQ:=by simp[TQ]
end
section
variable{P:Program}{fn:Func}{R:Ending->World->Prop}{w0:World}{Φ:List Fa}{g:Gh}{w:World}
section
structure GT(P:Program)(fn:Func)(R:Ending->World->Prop)(w0:World)(Φ:List Fa)(s:Xs)(g:Gh)(w:World):Prop where
 ex:AllF g w Φ->Cg w0.heap.size TQ gS w0 g w->GG P fn R w0.heap.size TQ s g w
theorem CgQ.af(c:Cg w0.heap.size TQ gS w0 g w):Bw w0 w:=Cg.af c λ_ _=>mq
variable{J:Act->World->Prop}{f:FuncId}{n:Nat}{s:Xs}
theorem tIn{a:Array Value}(Φ:List Fa)(e:P.funcs[f]?=some fn)(b:AllF gS w0 Φ)(h:GT P fn R w0 Φ ⟨[.c (PZ fn)],⟨fn.ntmps,OY 0 a.toList,λ_=>undef⟩,[]⟩ gS w0)(d:fn.body.isSome=true:=by kernel_rfl)(g:Nat.ble a.size fn.ntmps=true:=by kernel_rfl):Calls P f a w0 R :=
 gIn TQ gS e d g (λ_ _=>⟨rfl,rfl⟩) (h.ex b (Cg.refl _ _ _ _))
theorem tX(h:AllF g w Φ->Cg w0.heap.size TQ gS w0 g w->GG P fn R w0.heap.size TQ s g w):GT P fn R w0 Φ s g w:=⟨h⟩
theorem tF(h:AllF g w Φ->Cg w0.heap.size TQ gS w0 g w->GT P fn R w0 Φ s g w):GT P fn R w0 Φ s g w:=⟨λF C=>(h F C).ex F C⟩
theorem tCv(Ψ:List Fa)(a:AllF g w Φ->AllF g w Ψ)(h:GT P fn R w0 Ψ s g w):GT P fn R w0 Φ s g w:=⟨λF C=>h.ex (a F) C⟩
theorem tR(m:Nat)(h:List Nat)(b:∀ gs g' w',GT P fn R w0 Φ (rn0 P [] gs m s h).s g' w')(a:∀ gs,(rn0 P [] gs m s h).o.map Ob.l'=(rn0 P [] gs m s h).o.map Ob.r':=by intro _;kernel_rfl):GT P fn R w0 Φ s g w :=
 ⟨λF C=>dw [] m h a λgs g' w' c=>(b gs g' w').ex (F.sr c) (C.n c)⟩
theorem tV(i:Nat)(v:Value){S:Sem Value}(c:AllF g w Φ->Cg w0.heap.size TQ gS w0 g w->S.run P w=.ok v w)(b:GT P fn R w0 Φ (nxt s i v s.L).s g w)(d:Ds s i=some (S>>=λv=>pure (.value v)):=by kernel_rfl)(a:(nxt s i undef s.L).o.map Ob.l'=(nxt s i undef s.L).o.map Ob.r':=by kernel_rfl):GT P fn R w0 Φ s g w:=⟨λF C=>qV i v (c F C) (b.ex F C) d a⟩
theorem tT(i:Nat)(v:Value){S:Sem Value}(c:∀ W,S.run P W=.ok v W)(b:GT P fn R w0 Φ (tkN s i v false).s g w)(d:Ds s i=some (S>>=λv=>pure (.value v)):=by kernel_rfl)(a:(tkN s i undef false).o.map Ob.l'=(tkN s i undef false).o.map Ob.r':=by kernel_rfl):GT P fn R w0 Φ s g w:=⟨λF C=>qT i v c (b.ex F C) d a⟩
theorem tU(i:Nat)(v:Value){S:Sem Value}(c:∀ W,(true=true->AR (Vf s) W)->S.run P W=.ok v W)(b:GT P fn R w0 Φ (tkN s i v true).s g w)(d:Ds s i=some (S>>=λv=>pure (.value v)):=by kernel_rfl)(a:(tkN s i undef true).o.map Ob.l'=(tkN s i undef true).o.map Ob.r':=by kernel_rfl):GT P fn R w0 Φ s g w:=⟨λF C=>qU i v c (b.ex F C) d a⟩
theorem tI(b t:Bool)(a:b=t)(h:GT P fn R w0 Φ (L5 s t) g w)(c:Ql s=.bool b:=by kernel_rfl):GT P fn R w0 Φ s g w:=⟨λF C=>qI b t a (h.ex F C) c⟩
theorem tC(i:Nat){f:FuncId}{c:Array Value}{K:Ending->World->Prop}(k:AllF g w Φ->Cg w0.heap.size TQ gS w0 g w->Calls P f c w K)(m:(∀ b,w.heap.size<=b->g.t b=.z)->∀ e w',K e w'->∃ v Ψ,e=.returned v/\Bw w w'/\(AllF g w' Φ->AllF g w' Ψ)/\GT P fn R w0 Ψ (nxt s i v s.L).s g w')(n:∀ W,Df P s i W=some (.ok (.enter f c) W):=by intro _;kernel_rfl)(l:KC s i=true:=by kernel_rfl)(a:(nxt s i undef s.L).o.map Ob.l'=(nxt s i undef s.L).o.map Ob.r':=by kernel_rfl):GT P fn R w0 Φ s g w :=
 ⟨λF C=>Af λd=>qC i (k F C) (λe w' h=>let ⟨v,Ψ,h1,h2,h3,h4⟩:=m (λb j=>(d.new b j).1) e w' h;⟨v,h1,h2,h4.ex (h3 (F.sr (Cg.eb (B:=w0.heap.size) h2))) (C.trans (Cg.eb h2))⟩) n l a⟩
theorem tC1(i:Nat){f:FuncId}{b:Array Value}{v:Value}(c:AllF g w Φ->Cg w0.heap.size TQ gS w0 g w->Calls P f b w λe w'=>e=.returned v/\Bw w w')(j:∀ w',GT P fn R w0 Φ (nxt s i v s.L).s g w')(k:∀ W,Df P s i W=some (.ok (.enter f b) W):=by intro _;kernel_rfl)(d:KC s i=true:=by kernel_rfl)(a:(nxt s i undef s.L).o.map Ob.l'=(nxt s i undef s.L).o.map Ob.r':=by kernel_rfl):GT P fn R w0 Φ s g w:=tC i c (λ_ e w' h=>⟨v,Φ,h.1,h.2,id,j w'⟩) k d a
theorem tE(v:Value)(h:AllF g w Φ->Bw w0 w->R (.returned v) w)(a:Kn w0.heap.size g w s.L->(results fn s.f.act.tmps).run P w=.ok v w:=by intro _;kernel_rfl)(b:LF s.K=true:=by kernel_rfl):GT P fn R w0 Φ s g w:=⟨λF C=>qE v (λ_=>h F (CgQ.af C)) a b⟩
def JT(P:Program)(w0:World)(n:Nat)(Inv:Nat->List (Nat × Value)->List Sh->List Fa->Prop)(k:Nat)(J:Act->World->Prop):Prop:=∀ k' e' L' Φ' g' w' z',k'<k->Inv k' e' L' Φ'->AllF g' w' Φ'->Cg w0.heap.size TQ gS w0 g' w'->Kn w0.heap.size g' w' L'->J (⟨n,e',z'⟩:Fm).act w'
theorem Ek(n:Nat)(c:List (Nat × Value))(m:List Bool)(o:List Sh)(b:List Fa)(a:Nat->List (Nat × Value)->List Sh->List Fa->Prop)(x:Nat)(E:a x c o b)(t:AllF g w Φ->AllF g w b)(round:∀ k e L Φ,a k e L Φ->∀ z g w J,JT P w0 n a k J->GT P fn R w0 Φ (eS s n J e z L) g w)(O:ST s.K=true:=by kernel_rfl)(Q:s.f.n=n:=by kernel_rfl)(M:c.map (λp=>lk s.f.z s.f.e p.1)=c.map (·.2):=by kernel_rfl)(I:BN (AK m s.L)=o:=by kernel_rfl):GT P fn R w0 Φ s g w :=
 ⟨λF C=>Cd n c m o (λk d h e L=>∃ Ψ,a k e L Ψ/\AllF d h Ψ/\Cg w0.heap.size TQ gS w0 d h) O Q M I x (λ_=>⟨b,E,t F,C⟩) λk d h e z L ⟨Ψ,G,A,y⟩ J H=>(round k e L Ψ G z d h J λS D B v q u T N r j i K=>H S q u D T B N ⟨v,r,j,i⟩ K).ex A y⟩
theorem tB{k:Nat}{b:Nat->List (Nat × Value)->List Sh->List Fa->Prop}(i:JT P w0 n b k J)(d:Nat)(t:d<k){e:List (Nat × Value)}(m:List Bool){L':List Sh}{a:List Fa}(h:b d e L' a)(c:AllF g w Φ->AllF g w a)(q:isJ s.K=true:=by kernel_rfl)(r:jK s.K=J:=by kernel_rfl)(u:s.f.n=n:=by kernel_rfl)(o:e.map (λp=>lk s.f.z s.f.e p.1)=e.map (·.2):=by kernel_rfl)(j:BN (AK m s.L)=L':=by kernel_rfl):GT P fn R w0 Φ s g w :=
 ⟨λF C=>qB m (λz _ K=>i d e L' a g w z t h (c F) C K) q r u o j⟩
def JC(P:Program)(w0:World)(n:Nat)(Inv:List (Nat × Value)->List Sh->List Fa->Prop)(J:Act->World->Prop):Prop:=∀ e' L' Φ' g' w' z',Inv e' L' Φ'->AllF g' w' Φ'->Cg w0.heap.size TQ gS w0 g' w'->Kn w0.heap.size g' w' L'->J (⟨n,e',z'⟩:Fm).act w'
theorem Je(n:Nat)(a:List (Nat × Value)->List Sh->List Fa->Prop)(m:∀ J,JC P w0 n a J->GT P fn R w0 Φ (Yg s J) g w)(o:∀ e L Φ,a e L Φ->∀ z g w,GT P fn R w0 Φ ⟨s.K.tail,⟨n,e,z⟩,L⟩ g w)(q:s.K.isEmpty=false:=by kernel_rfl):GT P fn R w0 Φ s g w :=
 ⟨λF C=>Ea n (λb c e L=>∃ Ψ,a e L Ψ/\AllF b c Ψ/\Cg w0.heap.size TQ gS w0 b c) q (λJ p=>(m J λk j i b c r h f d K=>p b c k r j ⟨i,h,f,d⟩ K).ex F C) λb c e z L ⟨Ψ,h,f,d⟩=>(o e L Ψ h z b c).ex f d⟩
theorem tD{b:List (Nat × Value)->List Sh->List Fa->Prop}(i:JC P w0 n b J){e:List (Nat × Value)}(m:List Bool){c:List Sh}{a:List Fa}(h:b e c a)(d:AllF g w Φ->AllF g w a)(o:isJ s.K=true:=by kernel_rfl)(q:jK s.K=J:=by kernel_rfl)(r:s.f.n=n:=by kernel_rfl)(k:e.map (λp=>lk s.f.z s.f.e p.1)=e.map (·.2):=by kernel_rfl)(j:BN (AK m s.L)=c:=by kernel_rfl):GT P fn R w0 Φ s g w :=
 ⟨λF C=>qB m (λz _ K=>i e c a g w z h (d F) C K) o q r k j⟩
theorem Hr(i j:Nat)(a:GT P fn R w0 Φ (JY s i) g w)(b:GT P fn R w0 Φ (JY s j) g w)(c:fD s i j=true:=by kernel_rfl):GT P fn R w0 Φ s g w:=⟨λF C=>DT i j c (a.ex F C) (b.ex F C)⟩
theorem R7(i:Nat)(r:Nat){x:S3}{xs:List Value}(t O e:TypeId)(p b:Nat)(z:Value)(a:Addr)(m c:Nat)(news:List Value)(hx:AllF g w Φ->OwnS g w (.n 60 r) true e p x xs)(Ψ:List Fa)(M:AllF g w Φ->AllF g w Ψ)(I:Ψ.all (λf=>f.ro != some r)=true)(H:Tg.n 60 r∈TQ)(X:news.length=m*p)(Q:∀ u∈news,u.oneCell'=true)(k:AllF g w Φ->Kn w0.heap.size g w s.L->∀ j u,news[j]?=some u->w.cell? (a.add j)=some u)(D:x.n+m<=maxLen)(d:(x.n+m)*b<=140737488355328)(W:∀ x' g' w',x'.n=x.n+m->GT P fn R w0 (Fa.ow r e p x' (xs++news)::Ψ) (nxt s i (S3.v x') s.L).s g' w')(E:0<m:=by decide)(J:0<p:=by decide)(ht:P.underlying t=some (.slice e):=by kernel_rfl)(h:(P.info? e).map (λi=>(i.zero,i.size,i.bytes))=some (some z,p,b):=by kernel_rfl)(K:Nat.beq z.cells.size p=true:=by kernel_rfl)(A:Ds s i=some (Builtin.append_ #[t,t] O #[x.v,.slice (some a) m c]>>=λv=>pure (.value v)):=by kernel_rfl)(G:(nxt s i undef s.L).o.map Ob.l'=(nxt s i undef s.L).o.map Ob.r':=by kernel_rfl)(U:s.L.all (λy=>[Tg.n 60 r].all λt=>y.t.ne t)=true:=by kernel_rfl):GT P fn R w0 Φ s g w:=by
 refine⟨λF C=>KD i t O e p b z a m c news (hx F) A G U ht h K J E X Q (k F) D d λx' g' w' T Y N hG=>?_⟩;refine(W x' g' w' Y).ex ⟨T,(M F).ch (N w0.heap.size [.n 60 r] (D'.2 rfl)) (by simp) λf V q Z E=>?_⟩ (C.trans (N _ _ H));have B:=oK.1 I f V;rw[Z]at B
 have S:q=r:=by simpa using E
 rw[S]at B
 simp at B
end
end
end
section
section
structure Plc(l:List Vt)(s:Int)(p:Nat):Prop where
 le:p<=l.length
 lo:∀ (i:Nat) (v:Vt),i<p->l[i]?=some v->v.bt<s
 hi:∀ (i:Nat) (v:Vt),p<=i->l[i]?=some v->s<=v.bt
theorem Oq(a b:List Vt)(v:Vt)(h:∀ u∈a,u.bt<v.bt):Bn (a++b) v=a++Bn b v:=by
 induction a with
 | nil=>rfl
 | cons x a ih =>
  show Bn (x::(a++b)) v=x::(a++Bn b v);rw[Bn,if_pos (h x M'),ih (λu c=>h u (I' _ c))]
variable{l:List Vt}{m p:Nat}{s:Int}{u v x:Vt}
theorem Plc.front(h:Plc l s p):∀ u∈l.take p,u.bt<s:=by
 intro u b;obtain⟨i,a⟩:=oD.1 b;rw[oz]at a
 split at a
 .rename_i hip;exact h.lo i u hip a
 .cases a
theorem Plc.has(h:Plc l v.bt p)(f:l[p]?=some u)(c:u.bt=v.bt):Bn l v=l.take p++(v::l.drop (p+1)):=by
 obtain⟨d,e⟩:=V'.1 f;have b:l.drop p=u::l.drop (p+1):=by rw[<- e];exact n7 d
 have a:=Oq (l.take p) (l.drop p) v h.front;rw[oq]at a
 rw[a,b,Bn,if_neg (by omega),if_pos c]
theorem Plc.no(h:Plc l v.bt p)(c:∀ u,l[p]?=some u->u.bt≠v.bt):Bn l v=l.take p++(v::l.drop p):=by
 have a:=Oq (l.take p) (l.drop p) v h.front;rw[oq]at a
 rw[a];rcases nU p l.length with hp|hp
 .have hd:l.drop p=l[p]::l.drop (p+1):=n7 hp;have d:=h.hi p l[p] (A' _) (E' hp);have b:=c l[p] (E' hp);rw[hd,Bn,if_neg (by omega),if_neg b]
 .rw[oc hp,Bn]
theorem Plc.sY(d:BM l)(e:l[p]?=some u)(c:u.bt=s):Ae l s=[u]:=by
 have b:=JD d s;have a:u∈Ae l s:=AM.2 ⟨oD.2 ⟨p,e⟩,c⟩
 match hl:Ae l s with
 | []=>rw[hl]at a;cases a
 | [x]=>rw[hl]at a;rw[D'.1 a]
 | x::y::r=>rw[hl]at b;simp at b
theorem Plc.sO(b:BM l)(h:Plc l s p)(f:∀ u,l[p]?=some u->u.bt≠s):Ae l s=[]:=by
 rw[pE];intro u a;obtain⟨a,e⟩:=AM.1 a;obtain⟨i,c⟩:=oD.1 a;rcases qy i p with hip|rfl|hip
 .have:=h.lo i u hip c;omega
 .exact f u c e
 .have hip':i<l.length:=(V'.1 c).1;have d:p<l.length:=by omega
  have g:=h.hi p l[p] (A' _) (E' d);have k:=rise_lt b hip (E' d) c;omega
where
 rise_lt:∀ {l:List Vt} (b:BM l) {i j:Nat} (hij:i<j) {u v:Vt} (a:l[i]?=some u) (hv:l[j]?=some v),u.bt<v.bt
  | x::xs,b,0,j+1,_,u,v,a,hv=>by
   simp at a hv;subst a;exact b.1 v (oD.2 ⟨j,hv⟩)
  | x::xs,b,i+1,j+1,hij,u,v,a,hv=>rise_lt (l:=xs) b.2 (i:=i) (j:=j) (by omega) (by simpa using a) (by simpa using hv)
  | [],_,i,j,_,u,v,a,hv=>by simp at a
theorem BM.get(b:BM l){i j:Nat}(a:i<j){u v:Vt}(c:l[i]?=some u)(d:l[j]?=some v):u.bt<v.bt:=Plc.sO.rise_lt b a c d
theorem Plc.half(b:BM l){s:Int}{i j h:Nat}{u:Vt}(a:l[h]?=some u)(d:∀ (k:Nat) (v:Vt),k<i->l[k]?=some v->v.bt<s)(c:∀ (k:Nat) (v:Vt),j<=k->l[k]?=some v->s<=v.bt) :
  (u.bt<s->∀ (k:Nat) (v:Vt),k<h+1->l[k]?=some v->v.bt<s)/\(s<=u.bt->∀ (k:Nat) (v:Vt),h<=k->l[k]?=some v->s<=v.bt):=by
 constructor
 .intro g k v hk hv;rcases nU k h with hkh|hkh
  .have:=b.get hkh hv a;omega
  .obtain rfl:k=h:=by omega
   rw[a]at hv;cases hv;exact g
 .intro g k v hk hv;rcases nU h k with hkh|hkh
  .have:=b.get hkh a hv;omega
  .obtain rfl:k=h:=by omega
   rw[a]at hv;cases hv;exact g
def QN(o:Option Vt)(v:Vt):Option Vt:=match o with
 | none=>some v
 | some u=>if u.b.lt v.b then some v else some u
theorem RU(l:List Vt)(v:Vt)(o:Option Vt):BR (l++[v]) o=QN (BR l o) v:=by
 induction l generalizing o with
 | nil =>
  cases o with
  | none=>rfl
  | some u =>
   show BR [v] (some u)=QN (some u) v;rw[BR,QN];split<;>rfl
 | cons x l ih =>
  cases o with
  | none=>exact ih _
  | some u =>
   show BR (x::(l++[v])) (some u)=QN (BR (x::l) (some u)) v;rw[BR,BR];split
   .exact ih _
   .exact ih _
def vt0:Vt:=⟨0,⟨0,0⟩,⟨0,0,0,0,0⟩⟩
def Ff(o:Option Vt)(x:Vt):Prop:=(o=none/\x=vt0)\/(o=some x/\Ac x.b)
theorem Ff.next{o:Option Vt}(h:Ff o x)(a:Ac v.b):Ff (QN o v) (if x.b.lt v.b then v else x):=by
 rcases h with⟨rfl,rfl⟩|⟨rfl,hx⟩
 .rw[if_pos (by unfold Ac at a;unfold Bal.lt;simp[vt0];omega)];exact .inr ⟨rfl,a⟩
 .show Ff (if x.b.lt v.b then some v else some x) _;split
  .exact .inr ⟨rfl,a⟩
  .exact .inr ⟨rfl,hx⟩
theorem Ff.pick{a:List (List Vt)}(d:0<=s/\s<=39)(c:∀ l∈a,∀ v∈l,Ah v)(h:Ff (Eh a s) x):(if BZ a s=0 then((Eh a s).map (·.w)).getD ⟨0,0,0,0,0⟩else⟨0,0,0,0,0⟩)=x.w/\(if BZ a s=0 then(Eh a s).isSome else false)=!decide (x.b.r=0/\x.b.n=0)/\BZ a s=0:=by
 have e:BZ a s=0:=by unfold BZ;rw[if_neg (λg=>g d),if_pos c]
 rw[if_pos e,if_pos e];rcases h with⟨h1,rfl⟩|⟨h1,h2⟩
 .rw[h1];exact⟨rfl,rfl,e⟩
 .rw[h1];refine⟨rfl,?_,e⟩;rw[H' (by unfold Ac at h2;omega)];rfl
theorem ZH(l:List Vt){u v:Vt}(h:u≠v):BK l u+BK l v<=l.length:=by
 induction l with
 | nil=>simp[BK]
 | cons x l ih =>
  unfold BK at ih ⊢;rw[qX,qX,nK];by_cases a:x=u
  .subst a;rw[if_pos (by simp),if_neg (by simp[h])];omega
  .by_cases hy:x=v
   .subst hy;rw[if_neg (by simp[a]),if_pos (by simp)];omega
   .rw[if_neg (by simp[a]),if_neg (by simp[hy])];omega
theorem ZF(h:0<BK l v):v∈l:=by
 unfold BK at h;obtain⟨u,a,e⟩:=rp.1 h;rw[<- nL e];exact a
theorem eh(a b:List Vt)(v:Vt):BK a v<=BK (a++b) v:=by
 unfold BK;rw[pl];omega
theorem Sa(b:l.length<=m)(h:m<2*BK l v):Ho l m=some v:=by
 cases hf:Ho l m with
 | none =>
  have:=oG.1 hf v (ZF (by omega));simp at this;omega
 | some u =>
  have a:=rX hf;simp at a;by_cases e:u=v
  .rw[e]
  .have:=ZH l e;omega
theorem XU(h:∀ v,2*BK l v<=m):Ho l m=none:=by
 unfold Ho;rw[oG];intro v _;have:=h v;simp;omega
end
end
section
open Go.RowKit
section
variable{B cap e n p sz:Nat}{P:Program}{a:Option Addr}{b:Bal}{l:List Vt}{r:Bool}{s:Int}{v:Vt}{w:World}{x:S3}{xs:List Value}{y:Value}
theorem NTab.uJ(h:NTab w):w.cell? ⟨0,1*3+2,none⟩=some (.int .i64 1073741824):=h.cell 5 (by omega)
theorem NTab.value(h:NTab w)(k:Nat)(a:1<=k)(b:k<=3):w.cell? ⟨0,k*3+2,none⟩=some (.int .i64 (if k=1 then 1073741824 else 0)):=by
 rcases(by omega:k=1\/k=2\/k=3)with rfl|rfl|rfl
 .exact h.cell 5 (by omega)
 .exact h.cell 8 (by omega)
 .exact h.cell 11 (by omega)
theorem EB(k c s n v:Int)(w:World)(G:NTab w) :
  Calls prog 27 #[.agg (cmA k c s n v)] w λe w'=>e=.returned (.int .i64 (Bi k c s n v))/\Bw w w':=by
 have b:Bw w (w.alloc (.cells (cmA k c s n v) 24)):=(Below.refl _ _).alloc (A' _) _;have h:=Bc.made w k c s n v;have t:=G.af b;have F:=GZ k c s n v;generalize E:w.alloc (.cells (cmA k c s n v) 24)=W at b h t;have u:w.alloc (.cells #[.int .i64 k,.int .i64 c,.int .i64 s,.int .i64 n,.int .i64 v] 24)=W:=E;obtain⟨x,y,z,A,B⟩:=Fi h.row;clear G;go_enter func27,ntmps27
 go_wp2_with fail
 clear E u;refine(SS k _).mono ?_;rintro e K ⟨rfl,rfl⟩;by_cases o:0<=k/\k<=3
 .rw[O' o];by_cases C:k=0
  .subst C;go_wp2_with (refine wpList_load_row rfl 24 _ rfl w.heap.size rfl 24 _ (0,0) _ h.row underlying24 rfl F ?_)
   refine(ZE c s n v _).mono ?_;rintro e f ⟨rfl,g⟩;have j:Bw w f:=b.trans (g.mono b.size);go_wp2
   go_ret;exact⟨rfl,j⟩
  .obtain⟨m,rfl⟩:=nI o.1;have r:1<=(m:Int)/\(m:Int)<=3:=by omega
   go_wp2_with (refine wpList_load_row rfl 24 _ rfl w.heap.size rfl 24 _ (0,0) _ h.row underlying24 rfl F ?_)
   refine(Po (m:Int) c s n v _ r t).mono ?_;rintro e f ⟨rfl,g⟩;have j:Bw w f:=b.trans (g.mono b.size);have i:=h.af g;have q:=t.af g;clear x y z A B h t g b;by_cases a:InC c s n v
   .rw[O' a];obtain⟨x,y,z,A,B⟩:=Fi i.row;have D:=q.value m (by omega) (by omega);have H:(0:Int)<=(m:Int):=by omega
    have I:(m:Int)<4:=by omega
    have J:m<4:=by omega
    clear i q o C;by_cases p:v<=(if m=1 then 1073741824 else 0)
    .have d:Hid (0=Bi (m:Int) c s n v):=by
      refine(Uy r a ?_).symm;unfold InC at a;split at p<;>omega
     clear a r;generalize (if m=1 then(1073741824:Int)else 0)=V at D p;go_wp2_with fail
     go_quiet (fail)
     have l:Bw w (f.drewN nq):=Ar j nq;generalize f.drewN nq=w3 at l ⊢;go_wp2
     go_ret;exact⟨CW d.out,l⟩
    .have d:Hid (3=Bi (m:Int) c s n v):=by
      unfold InC at a;refine(VK ⟨?_,by omega⟩ (by unfold InC;omega) ?_).symm
      .split at p<;>omega
      .split at p<;>omega
     clear a r;generalize (if m=1 then(1073741824:Int)else 0)=V at D p;go_wp2_with fail
     go_quiet (fail)
     have l:Bw w (f.drewN nq):=Ar j nq;generalize f.drewN nq=w3 at l ⊢;go_wp2
     go_ret;exact⟨CW d.out,l⟩
   .rw[H' a];have d:Hid (2=Bi (m:Int) c s n v):=(Sj r a).symm;clear a;go_wp2
    go_ret;exact⟨CW d.out,j⟩
 .rw[H' o];have d:Hid (4=Bi k c s n v):=(VL o).symm;go_wp2
  go_ret;exact⟨CW d.out,b⟩
def Lj(l:List Vt)(n:Int):Prop:=0<=n/\n<=40/\∀ s:Int,0<=s->(n<=s↔∀ u∈l,u.bt<s)
theorem Lj.nil:Lj [] 0:=⟨by omega,by omega,λs a=>⟨λ_ u b=>(Q' b).elim,λ_=>a⟩⟩
theorem Lj.snoc{n:Int}(h:Lj l n){v:Vt}(b:0<=v.bt)(c:v.bt<=39)(d:n<=v.bt):Lj (l++[v]) (v.bt+1):=by
 refine⟨by omega,by omega,λs a=>⟨λg u hu=>?_,λg=>?_⟩⟩
 .rcases P'.1 hu with hu|hu
  .exact(h.2.2 s a).1 (by omega) u hu
  .obtain rfl:u=v:=by simpa using hu
   omega
 .have:=g v (by simp);omega
theorem kY{p:Bal}(h:p≠Bf):(!decide (Ac p))=!decide (Ap p):=by
 have:Ac p↔Ap p:=⟨.inl,λg=>g.resolve_right λe=>h ((Bal.eq_iff p Bf).1 e)⟩;simp[this]
theorem jR{P Q:Prop}[Decidable P][Decidable Q](h:Q↔¬ P):decide P=!decide Q:=by by_cases g:P<;>simp[h,g]
theorem WU(h:BM l)(k:Nat):BM (l.take k):=by
 induction k with
 | zero=>exact trivial
 | succ k ih =>
  cases hh:l[k]? with
  | none=>rw[nf (by have:=List.getElem?_eq_none_iff.1 hh;omega)];exact h
  | some v =>
   rw[FX l k v hh,OB];refine⟨ih,λu b=>?_⟩;obtain⟨i,a⟩:=oD.1 b;rw[oz]at a
   split at a
   .rename_i hk;exact h.get hk a hh
   .cases a
theorem Ey(b:decide (0<=s/\s<=39)=r) :
  Calls prog 184 #[iv s] w λe w'=>e=.returned (.bool r)/\Bw w w':=by
 subst b;refine tIn [] func184 trivial (tR 7 [] λc _ _=>?_);by_cases a:0<=s
 .refine tV 1 (.bool true) (λF C=>(rGe (t:=3) (m:=s) (n:=0) (x:=(.tmp 3)) (y:=(.const (iv 0))) (O' a))) (tR 6 [] λd _ _=>tE (.bool (decide (s<40))) λ_ B=>⟨by rw[ol.2 (show s<40↔0<=s/\s<=39 by omega)],B⟩)
 .refine tV 1 (.bool false) (λF C=>(rGe (t:=3) (m:=s) (n:=0) (x:=(.tmp 3)) (y:=(.const (iv 0))) (H' a))) (tR 6 [] λf _ _=>tE (.bool false) λ_ B=>⟨by rw[H' (show ¬ (0<=s/\s<=39)by omega)],B⟩)
theorem IH(f:decide (Ac b)=r) :
  Calls prog 164 #[.agg #[iv b.r,iv b.n]] w λe w'=>e=.returned (.bool r)/\Bw w w':=by
 subst f;refine tIn [] func164 trivial (tR 9 [0,0,0] λg _ _=>?_);by_cases a:1<=b.r
 .refine tV 2 (.bool true) (λF C=>(rGe (t:=3) (m:=b.r) (n:=1) (x:=(.tmp 4)) (y:=(.const (iv 1))) (O' a))) (tR 3 [0] λh _ _=>?_);by_cases c:b.r<=65536
  .refine tV 6 (.bool true) (λF C=>(rLe (t:=3) (m:=b.r) (n:=65536) (x:=(.tmp 8)) (y:=(.const (iv 65536))) (O' c))) (tR 4 [0] λi _ _=>?_);by_cases d:0<=b.n
   .refine tV 11 (.bool true) (λF C=>(rGe (t:=3) (m:=b.n) (n:=0) (x:=(.tmp 13)) (y:=(.const (iv 0))) (O' d))) (tR 8 [0] λj _ _=>tE (.bool (decide (b.n<5))) λ_ B=>⟨by rw[ol.2 (show b.n<5↔Ac b by unfold Ac;omega)],B⟩)
   .refine tV 11 (.bool false) (λF C=>(rGe (t:=3) (m:=b.n) (n:=0) (x:=(.tmp 13)) (y:=(.const (iv 0))) (H' d))) (tR 8 [] λk _ _=>tE (.bool false) λ_ B=>⟨by rw[H' (show ¬ Ac b by unfold Ac;omega)],B⟩)
  .refine tV 6 (.bool false) (λF C=>(rLe (t:=3) (m:=b.r) (n:=65536) (x:=(.tmp 8)) (y:=(.const (iv 65536))) (H' c))) (tR 13 [] λl _ _=>tE (.bool false) λ_ B=>⟨by rw[H' (show ¬ Ac b by unfold Ac;omega)],B⟩)
 .refine tV 2 (.bool false) (λF C=>(rGe (t:=3) (m:=b.r) (n:=1) (x:=(.tmp 4)) (y:=(.const (iv 1))) (H' a))) (tR 17 [] λo _ _=>tE (.bool false) λ_ B=>⟨by rw[H' (show ¬ Ac b by unfold Ac;omega)],B⟩)
theorem E6{a:Bal}(d:decide (a.lt b)=r) :
  Calls prog 165 #[.agg #[iv a.r,iv a.n],.agg #[iv b.r,iv b.n]] w λe w'=>e=.returned (.bool r)/\Bw w w':=by
 subst d;refine tIn [] func165 trivial (tR 15 [0,0,0,0,0,1] λf _ _=>?_);by_cases c:a.r≠b.r
 .refine tI ((a.r != b.r)) true (by simpa using c) (tR 9 [0,1] λg _ _=>tE (.bool (decide (a.r<b.r))) λ_ B=>⟨by rw[ol.2 (show a.r<b.r↔a.lt b by unfold Bal.lt;omega)],B⟩)
 .refine tI ((a.r != b.r)) false (by simpa using c) (tR 10 [0,1] λh _ _=>tE (.bool (decide (a.n<b.n))) λ_ B=>⟨by rw[ol.2 (show a.n<b.n↔a.lt b by unfold Bal.lt;omega)],B⟩)
theorem He(i:NTab w){r:Bool}(h:decide (Ah v)=r) :
  Calls prog 170 #[.agg #[iv v.bt,iv v.b.r,iv v.b.n,iv v.w.k,iv v.w.c,iv v.w.s,iv v.w.n,iv v.w.v]] w λe w'=>e=.returned (.bool r)/\Bw w w':=by
 subst h;refine tIn [] func170 trivial (tR 9 [0,0,0] λj _ _=>?_);by_cases a:0<=v.bt/\v.bt<=39
 .refine tC1 2 (λF C=>Ey (r:=true) (O' a)) λ_=>tR 3 [0] λl _ _=>?_;by_cases d:Ac v.b
  .refine tC1 6 (λF C=>IH (b:=v.b) (r:=true) (O' d)) λ_=>tR 4 [0] λm _ _=>tC1 11 (λF C=>EB v.w.k v.w.c v.w.s v.w.n v.w.v _ (i.af (CgQ.af C))) λ_=>tR 4 [] λo _ _=>tE (.bool (Bi v.w.k v.w.c v.w.s v.w.n v.w.v==0)) λ_ B=>⟨by rw[show(Bi v.w.k v.w.c v.w.s v.w.n v.w.v==0)=decide (Ah v)from by rw[show(Bi v.w.k v.w.c v.w.s v.w.n v.w.v==0)=decide (v.w.e=0)from rfl];exact ol.2 ⟨λg=>⟨a,d,g⟩,λg=>g.2.2⟩],B⟩
  .refine tC1 6 (λF C=>IH (b:=v.b) (r:=false) (H' d)) λ_=>tR 9 [] λp _ _=>tE (.bool false) λ_ B=>⟨by rw[H' (show ¬ Ah v from λg=>d g.2.1)],B⟩
 .refine tC1 2 (λF C=>Ey (r:=false) (H' a)) λ_=>tR 13 [] λf _ _=>tE (.bool false) λ_ B=>⟨by rw[H' (show ¬ Ah v from λg=>a g.1)],B⟩
theorem Iu{p:Bal}{u:Vt}:Ag ⟨p,l++[u]⟩↔Ag ⟨p,l⟩/\(Ah u/\¬ p.lt u.b)/\∀ x∈l,x.bt<u.bt:=by
 unfold Ag;simp only[OB,P',D'];exact⟨λh=>⟨⟨h.1,λv a=>h.2.1 v (.inl a),h.2.2.1⟩,h.2.1 u (.inr rfl),h.2.2.2⟩,λh=>⟨h.1.1,λv a=>a.elim (h.1.2.1 v) λe=>by rw[e];exact h.2.1,h.1.2.2,h.2.2⟩⟩
theorem X2{p:Bal}(h:Ag ⟨p,l⟩)(k:Nat):Ag ⟨p,l.take k⟩:=⟨h.1,λv a=>h.2.1 v (nm a),(WU h.2.2 k)⟩
theorem Sv.op(h:Sv w x.v l):x.n=l.length/\(l=[]\/∃ b off,x.a=some ⟨b,off,none⟩/\∀ i v,l[i]?=some v->w.rangeAt b (off+8*i) (vtC v)):=by
 obtain⟨j,m,k⟩:=x;obtain⟨⟨a,c,e,_,_,d⟩,_⟩:=h;simp only[S3.v,Value.slice.injEq]at e;obtain⟨rfl,rfl,rfl⟩:=e;exact⟨rfl,d.imp id λ⟨b,off,f,_,g⟩=>⟨b,off,f,g⟩⟩
theorem Sv.at_(h:Sv w x.v l){b c i:Nat}{v:Vt}(e:x.a=some ⟨b,c,none⟩)(d:l[i]?=some v):w.rangeAt b (c+8*i) (vtC v):=by
 rcases h.op.2 with rfl|⟨b',off',ha,hc⟩
 .simp at d
 .rw[e]at ha;cases ha;exact hc i v d
theorem Sv.ad(h:Sv w x.v l){i:Nat}(c:i<l.length):∃ b off,x.a=some ⟨b,off,none⟩:=by
 rcases h.op.2 with rfl|⟨b',off',ha,hc⟩
 .exact absurd c (pf _)
 .exact⟨b',off',ha⟩
theorem Sv.s3{x:Value}(h:Sv w x l):∃ y:S3,x=y.v:=by
 obtain⟨⟨a,b,e,_,_,c⟩,_⟩:=h;exact⟨⟨a,l.length,b⟩,e⟩
theorem Jx(p:Bal)(x:Value)(l:List Vt)(w:World)(h:Sv w x l)(S:NTab w) :
  Calls prog 163 #[.agg (acA p x)] w λe w'=>e=.returned (.int .i64 (F5 ⟨p,l⟩))/\Bw w w':=by
 obtain⟨y,rfl⟩:=h.s3;have hn:=h.op.1;have a7:=h.len;show Calls prog 163 #[.agg #[iv p.r,iv p.n,S3.v y]] w _;refine tIn [] func163 trivial (tR 7 [0,0] λf _ _=>Je 43 (λL K d=>∃ (v:Bool),L=[(1,pt (f 0) 0),(15,.bool v)]/\K=[⟨(f 0),.cells #[iv p.r,iv p.n,S3.v y] 124,.z,false⟩]/\d=[]/\v=!decide (Ap p)) (λJ u=>?_) ?_)
 .refine tR 4 [0] λa8 _ _=>?_;by_cases q:p=Bf
  .refine tV 3 (.bool false) (λF C=>(IT (x:=(.tmp 7)) (y:=(.tmp 8)) p Bf q)) (tR 7 [] λa9 _ _=>tD u [true] ⟨false,rfl,rfl,rfl,by rw[q];rfl⟩ (λF=>trivial))
  .refine tV 3 (.bool true) (λF C=>(IU (x:=(.tmp 7)) (y:=(.tmp 8)) p Bf q)) (tR 3 [0] λb0 _ _=>tC1 7 (λF C=>IH (b:=p) rfl) λ_=>tR 3 [] λb1 _ _=>tD u [true] ⟨_,rfl,rfl,rfl,kY q⟩ (λF=>trivial))
 rintro _ _ _ ⟨v,rfl,rfl,rfl,H⟩ _ _ _;by_cases q:v=true
 .refine tI (v) true q (tR 4 [] λb2 _ _=>tE (iv 5) λ_ B=>⟨by rw[F5,if_neg λg:Ag _=>absurd g.1 (by simpa[q]using H.symm)],B⟩)
 .refine tI (v) false (by simpa using q) ?_;have hp:Ap p:=by simpa[q]using H.symm
  refine tR 14 [0] λb3 _ _=>Ek 43 [(1,pt (f 0) 0),(3,iv 0),(17,S3.v y),(18,iv (y.n:Int)),(19,iv 0)] [true] [⟨(f 0),.cells #[iv p.r,iv p.n,S3.v y] 124,.z,false⟩] [] (λkk L K d=>∃ (j:Nat) (n:Int),kk=y.n-j/\L=[(1,pt (f 0) 0),(3,iv n),(17,S3.v y),(18,iv (y.n:Int)),(19,iv (j:Int))]/\K=[⟨(f 0),.cells #[iv p.r,iv p.n,S3.v y] 124,.z,false⟩]/\d=[]/\j<=y.n/\Ag ⟨p,l.take j⟩/\Lj (l.take j) n) (y.n) ⟨0,0,rfl,rfl,rfl,rfl,by omega,⟨hp,λv H=>(by cases H),trivial⟩,Lj.nil⟩ (λF=>trivial) ?_;rintro k _ _ _ ⟨j,n,rfl,rfl,rfl,rfl,hj,E,G⟩ _ _ _ J u;refine tR 5 [] λU _ _=>?_;by_cases I:j<y.n
  .refine tI ((decide ((j:Int)<(y.n:Int)))) true (O' (by omega)) ?_;obtain⟨v,H⟩:∃ v,l[j]?=some v:=⟨_,E' (by omega)⟩;obtain⟨b,O,Q⟩:=h.ad (i:=j) (by omega);have N:l.take (j+1)=l.take j++[v]:=FX l j v H;refine tR 5 [] λV _ _=>tV 0 (pt b (O+8*j)) (λF C=>(Va Q j (by omega))) (tV 1 (.agg #[iv v.bt,iv v.b.r,iv v.b.n,iv v.w.k,iv v.w.c,iv v.w.s,iv v.w.n,iv v.w.v]) (λF C=>(eJ v ((h.af (CgQ.af C)).at_ Q H))) (tR 5 [0,0,1,0] λD _ _=>Je 43 (λL K d=>∃ (z:Bool),L=[(1,pt (f 0) 0),(3,iv n),(5,pt (D 0) 0),(17,S3.v y),(18,iv (y.n:Int)),(19,iv (j:Int)),(38,.bool z)]/\K=[⟨(f 0),.cells #[iv p.r,iv p.n,S3.v y] 124,.z,false⟩,⟨(D 0),.cells #[iv v.bt,iv v.b.r,iv v.b.n,iv v.w.k,iv v.w.c,iv v.w.s,iv v.w.n,iv v.w.v] 181,.z,false⟩]/\d=[]/\z=!decide (Ag ⟨p,l.take j++[v]⟩)) (λJ u=>?_) ?_))
   .refine tR 2 [1] λW _ _=>?_;by_cases I:Ah v
    .refine tC1 1 (λF C=>He (v:=v) (S.af (CgQ.af C)) (r:=true) (O' I)) λ_=>tR 5 [1] λX _ _=>?_;have R:=G.2.2 v.bt I.1.1;by_cases P:v.bt<n
     .refine tV 7 (.bool true) (λF C=>(rLt (t:=3) (m:=v.bt) (n:=n) (x:=(.tmp 28)) (y:=(.tmp 29)) (O' P))) (tR 9 [] λY _ _=>tD u [true,true] ⟨true,rfl,rfl,rfl,by rw[H' λg=>absurd (R.2 (Iu.1 g).2.2) (by omega)];rfl⟩ (λF=>trivial))
     .refine tV 7 (.bool false) (λF C=>(rLt (t:=3) (m:=v.bt) (n:=n) (x:=(.tmp 28)) (y:=(.tmp 29)) (H' P))) (tR 6 [0,1] λZ _ _=>tC1 14 (λF C=>E6 (a:=p) (b:=v.b) rfl) λ_=>tR 2 [] λa0 _ _=>tD u [true,true] ⟨_,rfl,rfl,rfl,jR (Iu.trans ⟨λg=>g.2.1.2,λg=>⟨E,⟨I,g⟩,R.1 (by omega)⟩⟩)⟩ (λF=>trivial))
    .refine tC1 1 (λF C=>He (v:=v) (S.af (CgQ.af C)) (r:=false) (H' I)) λ_=>tR 15 [] λa1 _ _=>tD u [true,true] ⟨true,rfl,rfl,rfl,by rw[H' λg=>I (Iu.1 g).2.1.1];rfl⟩ (λF=>trivial)
   rintro _ _ _ ⟨z,rfl,rfl,rfl,T⟩ _ _ _;by_cases M:z=true
   .refine tI (z) true M (tR 4 [] λa2 _ _=>tE (iv 5) λ_ B=>⟨by rw[F5,if_neg λg=>absurd (N▸X2 g (j+1)) (by simpa[M]using T.symm)],B⟩)
   .refine tI (z) false (by simpa using M) ?_;have A:Ag ⟨p,l.take j++[v]⟩:=by simpa[M]using T.symm
    have o:=(Iu.1 A).2;refine tR 4 [1] λa3 _ _=>tV 2 (iv (v.bt+1)) (λF C=>(AX 40 v.bt underlying3 (by have:=o.1.1.1;omega))) (tR 4 [] λa4 _ _=>tV 0 (iv ((j:Int)+1)) (λF C=>(AX 19 (j:Int) underlying3 (by omega))) (tR 2 [] λa5 _ _=>tB u (y.n-(j+1)) (by omega) [true,false] ⟨j+1,v.bt+1,rfl,rfl,rfl,rfl,by omega,by rw[N];exact A,by rw[N];exact G.snoc o.1.1.1.1 o.1.1.1.2 ((G.2.2 v.bt o.1.1.1.1).2 o.2)⟩ (λF=>trivial)))
  .refine tI ((decide ((j:Int)<(y.n:Int)))) false (H' (by omega)) ?_;rw[nf (by omega)]at E
   refine tR 5 [] λa6 _ _=>tE (iv 0) λ_ B=>⟨by rw[F5,if_pos E],B⟩
theorem Sv.cells{ad:Addr}{m:List Vt}(h:Sv w (.slice (some ad) n cap) m):∀ j u,(vtL m)[j]?=some u->w.cell? (ad.add j)=some u:=by
 intro j u d;obtain⟨⟨a,l,e,o,p,f⟩,_⟩:=h;simp only[Value.slice.injEq]at e;obtain⟨rfl,rfl,rfl⟩:=e;rcases f with rfl|⟨b,off,hab,_,hcell⟩
 .simp[vtL]at d
 .obtain rfl:ad=⟨b,off,none⟩:=by simpa using hab
  obtain⟨v,g,i⟩:=bX m j u d;have c:(⟨b,off,none⟩:Addr).add j=⟨b,off+j,none⟩:=by unfold Addr.add;split<;>simp_all
  rw[c];have k:=hcell (j/8) v g (j%8) u i
  rwa [show off+8*(j/8)+j%8=off+j by omega]at k
theorem Rv(w:World)(b s B C e:Nat)(t:P.underlying s=some (.slice e))(o:(P.info? e).map (·.size)=some 8)(g n:Nat)(D:List Value)(f:w.ownsRow b e 8 (.slice (some ⟨g,0,none⟩) n n) n D)(u:Value)(m:List Vt)(c:m.length=n)(v:Sv w u m) :
  ∃ w',(Builtin.copy_ #[s,B] C #[.slice (some ⟨g,0,none⟩) n n,u]).run P w=.ok (goInt n) w'/\w'.ownsRow b e 8 (.slice (some ⟨g,0,none⟩) n n) n (vtL m)/\Below g w w':=by
 obtain⟨i,h,y⟩:∃ i,P.info? e=some i/\i.size=8:=by
  cases h:P.info? e with
  | none=>rw[h]at o;cases o
  | some i=>rw[h]at o;exact⟨i,rfl,by simpa using o⟩
 rcases f.2 with⟨h0,_⟩|⟨g',cap,cur,hvv,hbg,hg,hnc,hcm,hcs,ht⟩
 .cases h0
 .simp only[Value.slice.injEq,Z',Addr.mk.injEq]at hvv;obtain⟨⟨rfl,_⟩,_,rfl⟩:=hvv;have l:=v;obtain⟨⟨a,x,rfl,F,A,E⟩,_⟩:=v;rw[c]at l ⊢
  cases a with
  | none =>
   have p:=A rfl;subst p;have q:n=0:=by omega
   subst q;have r:m=[]:=Y' c;subst r;refine⟨w,?_,⟨rfl,.inr ⟨g,0,cur,rfl,hbg,hg,hnc,hcm,hcs,by simp[vtL]⟩⟩,Below.refl _ _⟩;simp[Builtin.copy_,run_underlying t,Builtin.lenOf,Builtin.firstCells,sizeOf,typeInfo,h,storeCells]
  | some ad =>
   have z:=run_firstCells_some (P:=P) w 8 n ad n x (vtL m) (by rw[De,c]) l.cells;have j:=run_storeCells_at P g 0 e (vtL m) 0 cur w hg (by rw[De,c];omega) (Vx m);have d:(cur.toList.take (0+0)++vtL m++cur.toList.drop (0+0+(vtL m).length))=vtL m:=by
    rw[De,c,oc (by rw[oM];omega)];simp
   rw[d]at j
   refine⟨w.setRow g (vtL m).toArray,?_,⟨by rw[De,c],.inr ⟨g,n,(vtL m).toArray,rfl,hbg,setRow_heap w g cur _ e _ hg,A' _,hcm,by simp[De,c],?_⟩⟩,?_⟩
   .simp[Builtin.copy_,run_underlying t,Builtin.lenOf,sizeOf,typeInfo,h,y,z,j]
   .rw[nf (by simp[De,c])]
   .exact⟨rfl,rfl,rfl,by simp,λk G=>setRow_other w g k _ (by omega)⟩
theorem Nj(w:World){j:Array Oper}{c:List Oper}{o:Oper}{a:Act}{Q:Exit->Act->World->Prop}(l:o.guard=none)(d s:Operand)(k q:TypeId)(y:o.op=.call { callee:=.builtin .copy,args:=#[d,s],argTypes:=#[k,q] })(b e:Nat)(A:P.underlying k=some (.slice e))(z:(P.info? e).map (·.size)=some 8)(g n:Nat)(r:List Value)(v:a.eval d=.slice (some ⟨g,0,none⟩) n n)(f:w.ownsRow b e 8 (.slice (some ⟨g,0,none⟩) n n) n r)(u:Value)(p:a.eval s=u)(m:List Vt)(x:m.length=n)(B:Sv w u m)(h:∀ w',w'.ownsRow b e 8 (.slice (some ⟨g,0,none⟩) n n) n (vtL m)->Below g w w'->wpList P j Q c (a.put o.dst (goInt n)) w'):wpList P j Q (o::c) a w:=by
 refine wpList_plain l λK t=>?_;obtain⟨w',i,C,D⟩:=Rv (P:=P) w b k q o.type e A z g n r f u m x B;unfold Oper.wp execOp;simp only[y,resolve,invoke,builtin,Sem.run_bind,Sem.run_pure,Result.andThen_ok,pV,nO,oN,v,p,i];exact t _ _ (h w' C D)
theorem Nl(w:World){g:Array Oper}{d:List Oper}{o:Oper}{a:Act}{Q:Exit->Act->World->Prop}(v:o.guard=none)(l c:Operand)(t:TypeId)(h:o.op=Op.makeSlice t l c)(b:Nat)(e:TypeId)(r:P.underlying t=some (.slice e))(f:(P.info? e).map (λi=>(i.zero,i.size,i.bytes))=some (some zVt,8,64))(n:Nat)(y:a.eval l=.int .i64 (n:Int))(u:a.eval c=.int .i64 (n:Int))(B:n<=2199023255488)(p:b<=w.heap.size)(s:∀ w',Hid (∃ xs,w'.ownsRow b e 8 (.slice (some ⟨w.heap.size,0,none⟩) n n) n xs)->w.grownBy w' none->wpList P g Q d (a.put o.dst (.slice (some ⟨w.heap.size,0,none⟩) n n)) w'):wpList P g Q (o::d) a w:=by
 obtain⟨z,x,j,k,m⟩:=info_parts f;refine wpList_make_full w v l c t h b e z zVt 8 r x j k _ _ _ _ n y u rfl rfl (by rw[m];omega) (by unfold maxLen;omega) p (λw' A q=>s w' ⟨_,A⟩ q)
theorem FN{b a c:Nat}{v:Value}(h:w.ownsRow b e c v n xs)(d:a<=b):w.ownsRow a e c v n xs:=by
 refine⟨h.1,?_⟩;rcases h.2 with h2|⟨g,cap,cur,hv,hbg,hr⟩
 .exact .inl h2
 .exact .inr ⟨g,cap,cur,hv,mS d hbg,hr⟩
theorem vt8:(prog.info? 181).map (·.size)=some 8:=by kernel_rfl
theorem Sp(x:Value)(l:List Vt)(w:World)(h:Sv w x l) :
  Calls prog 166 #[x] w λe w'=>∃ x',e=.returned x'/\w'.ownsRow w.heap.size 181 8 x' l.length (vtL l)/\Bw w w':=by
 have b:=h.len;obtain⟨a,v,rfl⟩:=h.shape;obtain⟨N,f⟩:∃ N,l.length=N:=⟨_,rfl⟩;have n:Hid (l.length=N):=f;rw[f]at h b ⊢
 clear f;go_enter func166,ntmps166
 go_wp2_with ((with_reducible (refine CZ ?_));at_make;refine Nl _ rfl _ _ 122 rfl w.heap.size 181 underlying122 Fb N rfl rfl b (A' _) ?_)
 intro m c q;have i:Bw w m:=(Below.refl _ _).grown q (A' _) (λk s=>by cases s);have r:=h.af i;obtain⟨u,c⟩:=c.out;have g:Hid (m.ownsRow w.heap.size 181 8 (.slice (some ⟨w.heap.size,0,none⟩) N N) N u):=c;clear c;go_wp2_with ((with_reducible (refine CZ ?_));refine Nj _ rfl _ _ 122 122 rfl w.heap.size 181 underlying122 vt8 w.heap.size N _ rfl g.out _ rfl l n.out r ?_)
 intro t j o;have d:Hid (t.ownsRow w.heap.size 181 8 (.slice (some ⟨w.heap.size,0,none⟩) N N) N (vtL l)):=j;have p:=i.trans o;clear j g;go_wp2
 go_ret;exact⟨_,rfl,d.out,p⟩
theorem Sv.first(h:Sv w (.slice a n cap) l)(i:Nat)(v:Vt)(e:l[i]?=some v):∃ b off,a=some ⟨b,off,none⟩/\b<w.heap.size/\w.cell? ⟨b,off+8*i,none⟩=some (.int .i64 v.bt):=by
 obtain⟨b,off,c,d,f⟩:=h.spot i v e;exact⟨b,off,c,d,f 0 _ rfl⟩
theorem TC(f g:Nat)(a:Option Addr)(n c:Nat)(l:List Vt)(s:Int)(i:Nat)(v:Vt)(w:World)(u:l.length=n)(j:l[i]?=some v)(h:Sv w (.slice a n c) l)(p:w.cell? ⟨f,0,none⟩=some (.slice a n c))(q:w.cell? ⟨g,0,none⟩=some (.int .i64 s)) :
  Calls prog 206 #[.int .i64 (i:Int),.pointer (some ⟨f,0,none⟩),.pointer (some ⟨g,0,none⟩)] w λe w'=>e=.returned (.bool (decide (s<=v.bt)))/\Bw w w':=by
 obtain⟨b,d,rfl,t,r⟩:=h.first i v j;have hin:i<n:=by have:=(V'.1 j).1;omega
 have o:=JJ b d n c i hin;have k:=Below.refl w.heap.size w;go_enter func206,ntmps206
 go_wp2_with fail
 go_quiet (fail)
 have m:Bw w (w.drewN nq):=Ar k nq;go_wp2
 go_ret;exact⟨Ay (by simp),m⟩
theorem TS(o q:Nat)(a:Option Addr)(n f:Nat)(l:List Vt)(s:Int)(w:World)(B:l.length=n)(M:BM l)(h:Sv w (.slice a n f) l)(N:o<w.heap.size)(O:q<w.heap.size)(G:w.cell? ⟨o,0,none⟩=some (.slice a n f))(H:w.cell? ⟨q,0,none⟩=some (.int .i64 s)) :
  Calls prog 205 #[.int .i64 (n:Int),.func (.func 206) #[] #[.pointer (some ⟨o,0,none⟩),.pointer (some ⟨q,0,none⟩)]] w λe w'=>∃ p:Nat,e=.returned (.int .i64 (p:Int))/\Plc l s p/\Bw w w':=by
 have t:=h.len;rw[B]at t
 have y:Hid (l.length=n):=B;clear B;go_enter func205,ntmps205
 go_wp2_with fail
 go_loopw [5,6] (λiv C wr=>∃ i j:Nat,i<=j/\j<=n/\iv=.int .i64 (i:Int)/\C=.int .i64 (j:Int)/\(∀ (k:Nat) (v:Vt),k<i->l[k]?=some v->v.bt<s)/\(∀ (k:Nat) (v:Vt),j<=k->l[k]?=some v->s<=v.bt)/\Bw w wr) (λiv C _=>(intOf C-intOf iv).toNat)
 case atStart=>exact⟨0,n,by omega,by omega,rfl,rfl,λk v K=>by omega,λk v K g=>by have:=(V'.1 g).1;have:=y.out;omega,Below.refl _ _⟩
 case round =>
  obtain⟨i,j,I,J,rfl,rfl,u,r,b⟩:=hrel;have d:Hid (∀ (k:Nat) (v:Vt),k<i->l[k]?=some v->v.bt<s):=u;have c:Hid (∀ (k:Nat) (v:Vt),j<=k->l[k]?=some v->s<=v.bt):=r;clear u r;by_cases L:i<j
  .have hlt':(i:Int)<(j:Int):=by omega
   go_wp2_with fail
   obtain⟨m,E⟩:∃ m:Nat,((i:Int)+(j:Int))/2=(m:Int):=⟨(i+j)/2,by omega⟩;rw[E];have P:i<=m:=by omega
   have Q:m<j:=by omega
   clear E;obtain⟨v,g⟩:∃ v,l[m]?=some v:=⟨_,E' (by have:=y.out;omega)⟩;refine(TC o q a n f l s m v wr y.out g (h.af b) ((b.cell (p:=⟨o,0,none⟩) N).trans G) ((b.cell (p:=⟨q,0,none⟩) O).trans H)).mono ?_;rintro e R ⟨rfl,F⟩;have D:=b.trans (F.mono b.size);obtain⟨P1,A⟩:=Plc.half M g d.out c.out;by_cases x:s<=v.bt
   .rw[O' x];have z:Hid (∀ (k:Nat) (v:Vt),m<=k->l[k]?=some v->s<=v.bt):=A x;clear P1 A g x;go_wp2
    go_roundw
    case rel=>exact⟨i,m,by omega,by omega,rfl,rfl,d.out,z.out,D⟩
    case measure=>simp[intOf];omega
   .rw[H' x];have z:Hid (∀ (k:Nat) (v:Vt),k<m+1->l[k]?=some v->v.bt<s):=P1 (by omega);clear P1 A g x;go_wp2
    go_roundw
    case rel=>exact⟨m+1,j,by omega,by omega,by go_num,rfl,z.out,c.out,D⟩
    case measure=>simp[intOf];omega
  .obtain rfl:i=j:=by omega
   go_wp2
   go_ret;exact⟨i,rfl,⟨by have:=y.out;omega,d.out,c.out⟩,b⟩
theorem Kp(x:Value)(l:List Vt)(s:Int)(w:World)(v:BM l)(h:Sv w x l) :
  Calls prog 195 #[x,.int .i64 s] w λe w'=>∃ p:Nat,e=.returned (.int .i64 (p:Int))/\Plc l s p/\Bw w w':=by
 obtain⟨a,b,rfl⟩:=h.shape;obtain⟨n,f⟩:∃ n,l.length=n:=⟨_,rfl⟩;rw[f]at h ⊢
 have m:Hid (l.length=n):=f;clear f;have j:=heap_alloc2_old w (.cells #[.slice a n b] 122) (.cells #[.int .i64 s] 3);have k:=heap_alloc2_new w (.cells #[.slice a n b] 122) (.cells #[.int .i64 s] 3);have c:Bw w ((w.alloc (.cells #[.slice a n b] 122)).alloc (.cells #[.int .i64 s] 3)):=((Below.refl _ _).alloc (A' _) _).alloc (by simp) _;generalize g:(w.alloc (.cells #[.slice a n b] 122)).alloc (.cells #[.int .i64 s] 3)=W at j k c;have z:W.heap.size=w.heap.size+2:=by rw[<- g];simp
 have r:W.cell? ⟨w.heap.size,0,none⟩=some (.slice a n b):=cell_of_row _ _ 0 _ _ _ j;have t:W.cell? ⟨w.heap.size+1,0,none⟩=some (.int .i64 s):=cell_of_row _ _ 0 _ _ _ k;have d:=h.af c;go_enter func195,ntmps195
 go_wp2_with fail
 clear g;refine(TS w.heap.size (w.heap.size+1) a n b l s W m.out v d (by omega) (by omega) r t).mono ?_;rintro e y ⟨p,rfl,i,q⟩;have u:=c.trans (q.mono c.size);have o:Hid (Plc l s p):=i;clear i;go_wp2
 go_ret;exact⟨p,rfl,o.out,u⟩
def LT(l:List Vt)(p:Nat)(s:Int):Bool:=match l[p]? with|some v=>decide (v.bt=s)|none=>false
theorem J5(h:l[p]?=some v):LT l p s=decide (v.bt=s):=by unfold LT;rw[h]
theorem Oj(h:l[p]?=none):LT l p s=false:=by unfold LT;rw[h]
theorem Ol(h:LT l p s=true):∃ v,l[p]?=some v/\v.bt=s:=by
 cases hu:l[p]? with
 | none=>rw[Oj hu]at h;cases h
 | some v=>rw[J5 hu]at h;exact⟨v,rfl,nL h⟩
theorem LU(h:LT l p s=false):∀ v,l[p]?=some v->v.bt≠s:=by
 intro v a;rw[J5 a]at h
 exact of_decide_eq_false h
theorem Kh(x:Value)(l:List Vt)(p:Nat)(s:Int)(w:World)(h:Sv w x l) :
  Calls prog 196 #[x,.int .i64 (p:Int),.int .i64 s] w λe w'=>e=.returned (.bool (LT l p s))/\w'=w:=by
 obtain⟨a,g,rfl⟩:=h.shape;obtain⟨n,c⟩:∃ n,l.length=n:=⟨_,rfl⟩;rw[c]at h ⊢
 by_cases j:p<n
 .obtain⟨v,hv⟩:∃ v,l[p]?=some v:=⟨_,E' (by omega)⟩;obtain⟨b,f,rfl,m,k⟩:=h.first p v hv;have i:=JJ b f n g p j;have d:(p:Int)<(n:Int):=by omega
  rw[J5 hv];clear c hv h;go_enter func196,ntmps196
  go_wp2
  go_ret;exact⟨Ay (by first|rfl|simp),rfl⟩
 .have hv:l[p]?=none:=oW (by omega);have d:¬ (p:Int)<(n:Int):=by omega
  rw[Oj hv];clear c hv h;go_enter func196,ntmps196
  go_wp2
  go_ret;exact⟨rfl,rfl⟩
theorem Sv.sE(h:Sv w (.slice a n cap) l)(d f:Nat)(j:d<=f)(g:f<=l.length):Sv w (sliced a d f cap 8) ((l.take f).drop d):=by
 obtain⟨⟨s,k,e,u,r,p⟩,q⟩:=h;simp only[Value.slice.injEq]at e;obtain⟨rfl,rfl,rfl⟩:=e;have m:((l.take f).drop d).length=f-d:=by rw[nc,j'];omega
 cases a with
 | none =>
  have o:=r rfl;subst o;have t:l.length=0:=by omega
  refine⟨⟨_,_,by rw[m];rfl,by omega,λ_=>by omega,.inl (Y' (by omega))⟩,by omega⟩
 | some ad =>
  refine⟨⟨_,_,by rw[m];rfl,by omega,(by intro h;split at h<;>simp at h),?_⟩,by omega⟩;rcases Nat.eq_or_lt_of_le j with he|hlt
  .exact .inl (Y' (by omega))
  .rcases p with rfl|⟨b,off,e2,hbs,hcell⟩
   .simp at g;omega
   .simp only[Z']at e2;subst e2;refine .inr ⟨b,off+d*8,?_,hbs,λi v c=>?_⟩
    .rw[if_neg (by omega)];simp[Addr.add]
    .rw[om,oz]at c
     split at c
     .have:=hcell (d+i) v c
      rwa [show off+8*(d+i)=off+d*8+8*i by omega]at this
     .cases c
theorem Sv.sa(h:Sv w (.slice a n cap) l)(b:Nat)(c:b<=l.length) :
  ∃ a' c',(∀ W,(Instr.slice 122 (.slice a n cap) none (some (.int .i64 (b:Int))) none).run prog W=.ok (.slice a' b c') W)/\Sv w (.slice a' b c') (l.take b):=by
 have g:=h.sE 0 b (by omega) c;obtain⟨⟨a',d,e,j,k,i⟩,f⟩:=h;simp only[Value.slice.injEq]at e;obtain⟨rfl,rfl,rfl⟩:=e;refine⟨_,_,λW=>?_,by simpa[sliced]using g⟩;rw[run_slice_h (P:=prog) W 122 a _ cap underlying122 .i64 _ (by omega) (by omega)];rw[S4,TU];simp[Result.andThen,sliced]
theorem Sv.from(h:Sv w (.slice a n cap) l)(b:Nat)(c:b<=l.length) :
  ∃ a' c',(∀ W,(Instr.slice 122 (.slice a n cap) (some (.int .i64 (b:Int))) none none).run prog W=.ok (.slice a' (n-b) c') W)/\Sv w (.slice a' (n-b) c') (l.drop b):=by
 have g:=h.sE b l.length c (A' _);obtain⟨⟨a',d,e,j,k,i⟩,f⟩:=h;simp only[Value.slice.injEq]at e;obtain⟨rfl,rfl,rfl⟩:=e;refine⟨_,_,λW=>?_,by simpa[sliced]using g⟩;rw[run_slice_l (P:=prog) W 122 a _ cap underlying122 .i64 _ (by omega) (by omega)];rw[S4,TU];simp[Result.andThen,sliced]
theorem Fy(w:World){g:Array Oper}{d:List Oper}{o:Oper}{a:Act}{Q:Exit->Act->World->Prop}(x:o.guard=none)(l c:Operand)(t:TypeId)(h:o.op=Op.makeSlice t l c)(b:Nat)(e:TypeId)(r:P.underlying t=some (.slice e))(f:(P.info? e).map (λi=>(i.zero,i.size,i.bytes))=some (some zVt,8,64))(C:Int)(n:Nat)(z:a.eval l=.int .i64 0)(v:a.eval c=.int .i64 C)(s:C=(n:Int))(D:n<=2199023255500)(p:b<=w.heap.size)(u:∀ w',Hid (w'.ownsRow b e 8 (.slice (some ⟨w.heap.size,0,none⟩) 0 n) ([]:List Vt).length (vtL []))->w.grownBy w' none->wpList P g Q d (a.put o.dst (.slice (some ⟨w.heap.size,0,none⟩) 0 n)) w'):wpList P g Q (o::d) a w:=by
 obtain⟨A,y,j,k,m⟩:=info_parts f;exact wpList_make_own w x l c t h b e A zVt 8 r y j k _ _ C n z v s (by rw[m];omega) (by unfold maxLen;omega) p (λw' B q=>u w' B q)
theorem PS(x:Value)(l:List Vt)(v:Vt)(w:World)(hr:BM l)(h:Sv w x l) :
  Calls prog 171 #[x,.agg (vtA v)] w λe w'=>∃ x',e=.returned x'/\w'.ownsRow w.heap.size 181 8 x' (Bn l v).length (vtL (Bn l v))/\Bw w w':=by
 have Z:=h.len;obtain⟨a,cp,rfl⟩:=h.shape;obtain⟨n,hn⟩:∃ n,l.length=n:=⟨_,rfl⟩;rw[hn]at h Z ⊢
 have R:Hid (l.length=n):=hn;clear hn;have P:Bw w (w.alloc (.cells (vtA v) 181)):=(Below.refl _ _).alloc (A' _) _;have B:=heap_alloc_new w (.cells (vtA v) 181);have M:=jG v;have HU:Hid (∀ p,Plc l v.bt p->LT l p v.bt=true->Bn l v=l.take p++[v]++l.drop (p+1)/\p+1<=l.length):=λp E D=>by
  obtain⟨u,hu,he⟩:=Ol D;exact⟨by rw[E.has hu he];simp,by have:=(V'.1 hu).1;omega⟩
 have HN:Hid (∀ p,Plc l v.bt p->LT l p v.bt=false->Bn l v=l.take p++[v]++l.drop p/\p<=l.length):=λp E D=>⟨by rw[E.no (LU D)];simp,E.le⟩;obtain⟨c,⟨m,i⟩,⟨f,d,j,g,o⟩⟩:=v;simp only[vtA,vtC]at P B M ⊢;generalize hW:w.alloc (.cells [.int .i64 c,.int .i64 m,.int .i64 i,.int .i64 f,.int .i64 d,.int .i64 j,.int .i64 g,.int .i64 o].toArray 181)=W at P B;have a3:w.heap.size<W.heap.size:=(U'.1 B).1;have c0:W.cell? ⟨w.heap.size,0,none⟩=some (.int .i64 c):=cell_of_row _ _ 0 _ _ _ B;go_enter func171,ntmps171
 go_wp2_with fail
 clear hW;refine(Kp _ l c W hr (h.af P)).mono ?_;rintro e w1 ⟨p,rfl,E,b1⟩;have C:=P.trans (b1.mono P.size);have F:w.heap.size<w1.heap.size:=X' a3 b1.size;replace B:=(b1.block _ a3).trans B;have c0:w1.cell? ⟨w.heap.size,0,none⟩=some (.int .i64 c):=cell_of_row _ _ 0 _ _ _ B;have Q:=h.af C;have a5:p<=n:=by have:=E.le;have:=R.out;omega
 have HP:Hid (Plc l c p):=E;clear b1 P E;go_wp2_with fail
 refine(Kh _ l p c w1 Q).mono ?_;rintro e b ⟨rfl,rfl⟩;obtain⟨a1,k1,u1,su⟩:=Q.sa p HP.out.le;have a0:(l.take p).length<=n:=by rw[j'];omega
 have hz:=C.size;generalize D:LT l p c=bh;cases bh
 .obtain⟨HI0,hk0⟩:=HN.out p HP.out D;have G:Hid (Bn l ⟨c,⟨m,i⟩,⟨f,d,j,g,o⟩⟩=l.take p++([⟨c,⟨m,i⟩,⟨f,d,j,g,o⟩⟩]:List Vt)++l.drop (p)):=HI0;obtain⟨a2,k2,u2,sd⟩:=Q.from (p) hk0;have t:(l.take p).length+(l.drop (p)).length<=n:=by rw[j',nc];have:=R.out;omega
  have T:Hid (∀ w',Bw b w'->Sv w' (.slice a1 p k1) (l.take p)):=λw' L=>su.af L;have S:Hid (∀ w',Bw b w'->Sv w' (.slice a2 (n-(p)) k2) (l.drop (p))):=λw' L=>sd.af L;clear HI0 HU HN D su sd Q h hr;generalize l.take p=LP at G T a0 t;generalize l.drop (p)=LD at G S t;have a4:(p)<=n:=by have:=R.out;omega
  go_wp2_with ((with_reducible (refine CZ ?_));at_make;refine Fy _ rfl _ _ 122 rfl b.heap.size 181 underlying122 Fb _ (n+1) rfl rfl (by first|rfl|omega) (by omega) (A' _) ?_)
  intro w3 N U;have I:Bw b w3:=(Below.refl _ _).grown U (A' _) (λk s=>by cases s);have z3:=I.size;clear U;go_wp2_with ((with_reducible (refine CZ ?_));at_builtin;refine B1 _ rfl _ _ 122 rfl b.heap.size 181 zVt underlying122 Fb rfl _ _ rfl rfl [] (LP) N.out (T.out w3 I) (by simp;omega) (by omega) ?_)
  intro v4 w4 o4 V;have J:Bw b w4:=I.grown V (by omega) (λk s=>(N.out.lt k s).1);have z4:=J.size;have q:Hid (w4.ownsRow b.heap.size 181 8 v4 (LP).length (vtL (LP))):=by unfold Hid;simpa using o4
  have y:=q.out.lt;have A:=(J.block _ F).trans B;clear o4 V N;go_wp2_with ((with_reducible (refine CZ ?_));first|(refine wpList_load_row rfl 181 _ rfl w.heap.size rfl 181 _ (0,0) _ A underlying181 rfl M ?_)|(at_builtin;refine B1 _ rfl _ _ 122 rfl b.heap.size 181 zVt underlying122 Fb rfl _ _ rfl rfl (LP) ([⟨c,⟨m,i⟩,⟨f,d,j,g,o⟩⟩]:List Vt) (q.out.alloc _) (Sv.one _ ⟨c,⟨m,i⟩,⟨f,d,j,g,o⟩⟩ _ rfl) (by simp;omega) (by simp;omega) ?_))
  intro v5 O o5 X;have K:Bw b O:=(J.alloc (by omega) _).grown X (by simp;omega) (λk s=>(y k s).1);have z5:=K.size;have r:Hid (O.ownsRow b.heap.size 181 8 v5 (LP++([⟨c,⟨m,i⟩,⟨f,d,j,g,o⟩⟩]:List Vt)).length (vtL (LP++([⟨c,⟨m,i⟩,⟨f,d,j,g,o⟩⟩]:List Vt)))):=by unfold Hid;rw[G'];exact o5
  have z:=r.out.lt;clear o5 X q y A;go_wp2_with ((with_reducible (refine CZ ?_));at_builtin;refine B1 _ rfl _ _ 122 rfl b.heap.size 181 zVt underlying122 Fb rfl _ _ rfl rfl (LP++([⟨c,⟨m,i⟩,⟨f,d,j,g,o⟩⟩]:List Vt)) (LD) r.out (S.out O K) (by rw[G'];simp;omega) (by omega) ?_)
  intro v6 w6 o6 Y;have b6:Bw b w6:=K.grown Y (by omega) (λk s=>(z k s).1);have H:Hid (w6.ownsRow b.heap.size 181 8 v6 (LP++([⟨c,⟨m,i⟩,⟨f,d,j,g,o⟩⟩]:List Vt)++LD).length (vtL (LP++([⟨c,⟨m,i⟩,⟨f,d,j,g,o⟩⟩]:List Vt)++LD))):=by unfold Hid;simpa using o6
  have d6:=C.trans (b6.mono C.size);clear o6 Y r z;go_wp2
  go_ret;refine⟨v6,rfl,?_,d6⟩;rw[G.out];exact FN H.out C.size
 .obtain⟨HI0,hk0⟩:=HU.out p HP.out D;have G:Hid (Bn l ⟨c,⟨m,i⟩,⟨f,d,j,g,o⟩⟩=l.take p++([⟨c,⟨m,i⟩,⟨f,d,j,g,o⟩⟩]:List Vt)++l.drop (p+1)):=HI0;obtain⟨a2,k2,u2,sd⟩:=Q.from (p+1) hk0;rw[show((p+1:Nat):Int)=(p:Int)+1 by omega]at u2
  have t:(l.take p).length+(l.drop (p+1)).length<=n:=by rw[j',nc];have:=R.out;omega
  have T:Hid (∀ w',Bw b w'->Sv w' (.slice a1 p k1) (l.take p)):=λw' L=>su.af L;have S:Hid (∀ w',Bw b w'->Sv w' (.slice a2 (n-(p+1)) k2) (l.drop (p+1))):=λw' L=>sd.af L;clear HI0 HU HN D su sd Q h hr;generalize l.take p=LP at G T a0 t;generalize l.drop (p+1)=LD at G S t;have a4:(p+1)<=n:=by have:=R.out;omega
  go_wp2_with ((with_reducible (refine CZ ?_));at_make;refine Fy _ rfl _ _ 122 rfl b.heap.size 181 underlying122 Fb _ (n+1) rfl rfl (by first|rfl|omega) (by omega) (A' _) ?_)
  intro w3 N U;have I:Bw b w3:=(Below.refl _ _).grown U (A' _) (λk s=>by cases s);have z3:=I.size;clear U;go_wp2_with ((with_reducible (refine CZ ?_));at_builtin;refine B1 _ rfl _ _ 122 rfl b.heap.size 181 zVt underlying122 Fb rfl _ _ rfl rfl [] (LP) N.out (T.out w3 I) (by simp;omega) (by omega) ?_)
  intro v4 w4 o4 V;have J:Bw b w4:=I.grown V (by omega) (λk s=>(N.out.lt k s).1);have z4:=J.size;have q:Hid (w4.ownsRow b.heap.size 181 8 v4 (LP).length (vtL (LP))):=by unfold Hid;simpa using o4
  have y:=q.out.lt;have A:=(J.block _ F).trans B;clear o4 V N;go_wp2_with ((with_reducible (refine CZ ?_));first|(refine wpList_load_row rfl 181 _ rfl w.heap.size rfl 181 _ (0,0) _ A underlying181 rfl M ?_)|(at_builtin;refine B1 _ rfl _ _ 122 rfl b.heap.size 181 zVt underlying122 Fb rfl _ _ rfl rfl (LP) ([⟨c,⟨m,i⟩,⟨f,d,j,g,o⟩⟩]:List Vt) (q.out.alloc _) (Sv.one _ ⟨c,⟨m,i⟩,⟨f,d,j,g,o⟩⟩ _ rfl) (by simp;omega) (by simp;omega) ?_))
  intro v5 O o5 X;have K:Bw b O:=(J.alloc (by omega) _).grown X (by simp;omega) (λk s=>(y k s).1);have z5:=K.size;have r:Hid (O.ownsRow b.heap.size 181 8 v5 (LP++([⟨c,⟨m,i⟩,⟨f,d,j,g,o⟩⟩]:List Vt)).length (vtL (LP++([⟨c,⟨m,i⟩,⟨f,d,j,g,o⟩⟩]:List Vt)))):=by unfold Hid;rw[G'];exact o5
  have z:=r.out.lt;clear o5 X q y A;go_wp2_with ((with_reducible (refine CZ ?_));at_builtin;refine B1 _ rfl _ _ 122 rfl b.heap.size 181 zVt underlying122 Fb rfl _ _ rfl rfl (LP++([⟨c,⟨m,i⟩,⟨f,d,j,g,o⟩⟩]:List Vt)) (LD) r.out (S.out O K) (by rw[G'];simp;omega) (by omega) ?_)
  intro v6 w6 o6 Y;have b6:Bw b w6:=K.grown Y (by omega) (λk s=>(z k s).1);have H:Hid (w6.ownsRow b.heap.size 181 8 v6 (LP++([⟨c,⟨m,i⟩,⟨f,d,j,g,o⟩⟩]:List Vt)++LD).length (vtL (LP++([⟨c,⟨m,i⟩,⟨f,d,j,g,o⟩⟩]:List Vt)++LD))):=by unfold Hid;simpa using o6
  have d6:=C.trans (b6.mono C.size);clear o6 Y r z;go_wp2
  go_ret;refine⟨v6,rfl,?_,d6⟩;rw[G.out];exact FN H.out C.size
def Fa.fo(B:Nat)(e:TypeId)(sz:Nat)(x:Value)(n:Nat)(vs:List Value):Fa:=⟨none,λg w=>w.ownsRow B e sz x n vs/\∀ k,x.ownBlock=some k->k<w.heap.size/\g.t k=.z,λhz _ c h=>⟨Tv h.1 λk hk=>c.zc hz (h.2 k hk).1 (h.2 k hk).2,λk hk=>⟨X' (h.2 k hk).1 c.size,(c.tag (h.2 k hk).1 λe=>by rw[(h.2 k hk).2]at e;cases e).trans (h.2 k hk).2⟩⟩⟩
theorem YA{g:Gh}{a:Nat}(h:w.ownsRow B e sz y n xs)(d:a<=B)(G:∀ b,B<=b->g.t b=.z):w.ownsRow a e sz y n xs/\∀ k,y.ownBlock=some k->k<w.heap.size/\g.t k=.z:=by
 refine⟨FN h d,λk c=>?_⟩;rcases h.2 with⟨rfl,_⟩|⟨b,cap,cur,rfl,hb,hh,_⟩
 .cases c
 .cases c;exact⟨(U'.1 hh).1,G _ hb⟩
theorem ZO(h:w.ownsRow B e sz y n xs):∃ z:S3,y=z.v:=by
 rcases h.2 with⟨rfl,_⟩|⟨b,cap,cur,rfl,_⟩
 .exact⟨s30,rfl⟩
 .exact⟨⟨some ⟨b,0,none⟩,n,cap⟩,rfl⟩
theorem U0{y:S3}(h:Sv w y.v l) :
  Calls prog 166 #[y.v] w λe w'=>∃ z:S3,e=.returned z.v/\w'.ownsRow w.heap.size 181 8 z.v l.length (vtL l)/\Bw w w' :=
 (Sp y.v l w h).mono λe w' ⟨x,b,a,c⟩=>by obtain⟨z,rfl⟩:=ZO a;exact⟨z,b,a,c⟩
theorem fV{y:S3}(g:BM l)(h:Sv w y.v l) :
  Calls prog 171 #[y.v,.agg #[iv v.bt,iv v.b.r,iv v.b.n,iv v.w.k,iv v.w.c,iv v.w.s,iv v.w.n,iv v.w.v]] w λe w'=>∃ z:S3,e=.returned z.v/\w'.ownsRow w.heap.size 181 8 z.v (Bn l v).length (vtL (Bn l v))/\Bw w w' :=
 (PS y.v l v w g h).mono λe w' ⟨x,d,a,f⟩=>by obtain⟨z,rfl⟩:=ZO a;exact⟨z,d,a,f⟩
end
section
variable{p:Bal}{l:List Vt}{w w':World}
theorem P3{b:Bal}{E:Int}(a:Cn ⟨p,l⟩ b=E)(c:E≠0)(f:Bw w w'):∃ y z,(Ending.returned (.tuple #[.agg #[iv 0,iv 0,sn],sn,iv E]):Ending)=.returned (.tuple #[.agg (acA (Fs ⟨p,l⟩ b) y),z,.int .i64 (Cn ⟨p,l⟩ b)])/\w'.ownsRow w.heap.size 181 8 y (DW ⟨p,l⟩ b).length (vtL (DW ⟨p,l⟩ b))/\w'.ownsRow w.heap.size 181 8 z (DW ⟨p,l⟩ b).length (vtL (DW ⟨p,l⟩ b))/\Bw w w':=by
 have d:Fs ⟨p,l⟩ b=⟨0,0⟩:=if_neg (by rw[a];exact c);have e:DW ⟨p,l⟩ b=[]:=if_neg (by rw[a];exact c);rw[d,e,a];exact⟨sn,sn,rfl,World.ownsRow_nil _ _ _ _,World.ownsRow_nil _ _ _ _,f⟩
theorem eE{b:Bal}{y z:S3}(e:Ag ⟨p,l⟩)(f:Ac b)(h:¬ b.lt p)(j:w'.ownsRow w.heap.size 181 8 y.v l.length (vtL l))(k:w'.ownsRow w.heap.size 181 8 z.v l.length (vtL l))(i:Bw w w'):∃ y' z',(Ending.returned (.tuple #[.agg #[iv b.r,iv b.n,y.v],z.v,iv 0]):Ending)=.returned (.tuple #[.agg (acA (Fs ⟨p,l⟩ b) y'),z',.int .i64 (Cn ⟨p,l⟩ b)])/\w'.ownsRow w.heap.size 181 8 y' (DW ⟨p,l⟩ b).length (vtL (DW ⟨p,l⟩ b))/\w'.ownsRow w.heap.size 181 8 z' (DW ⟨p,l⟩ b).length (vtL (DW ⟨p,l⟩ b))/\Bw w w':=by
 have a:Cn ⟨p,l⟩ b=0:=(if_neg (λg=>g e)).trans ((if_neg (λg=>g f)).trans (if_neg h));have c:Fs ⟨p,l⟩ b=b:=if_pos a;have d:DW ⟨p,l⟩ b=l:=if_pos a;rw[c,d,a];exact⟨y.v,z.v,rfl,j,k,i⟩
end
theorem Dm(p:Bal)(x:Value)(l:List Vt)(b:Bal)(w:World)(h:Sv w x l)(J:NTab w) :
  Calls prog 137 #[.agg (acA p x),.agg (baA b)] w λe w'=>∃ y z,e=.returned (.tuple #[.agg (acA (Fs ⟨p,l⟩ b) y),z,.int .i64 (Cn ⟨p,l⟩ b)])/\w'.ownsRow w.heap.size 181 8 y (DW ⟨p,l⟩ b).length (vtL (DW ⟨p,l⟩ b))/\w'.ownsRow w.heap.size 181 8 z (DW ⟨p,l⟩ b).length (vtL (DW ⟨p,l⟩ b))/\Bw w w':=by
 obtain⟨y,rfl⟩:=h.s3;show Calls prog 137 #[.agg #[iv p.r,iv p.n,S3.v y],.agg #[iv b.r,iv b.n]] w _;refine tIn [] func137 trivial (tR 12 [0,0,0,0,1,0,0] λc _ _=>tC1 1 (λF C=>Jx p y.v l _ (h.af (CgQ.af C)) (J.af (CgQ.af C))) λ_=>tR 7 [] λK _ _=>?_);by_cases d:Ag ⟨p,l⟩
 .have hE:F5 ⟨p,l⟩=0:=if_pos d;refine tI (((F5 ⟨p,l⟩) != 0)) false (by rw[hE];decide) (tR 5 [1] λL _ _=>?_);by_cases f:Ac b
  .refine tC1 1 (λF C=>IH (b:=b) (r:=true) (O' f)) λ_=>tR 10 [1,0] λM _ _=>?_;by_cases k:b.lt p
   .refine tC1 3 (λF C=>E6 (a:=b) (b:=p) (r:=true) (O' k)) λ_=>tR 9 [2,0] λN _ _=>tX λF C=>qE3 4 5 6 124 2 (c 2) #[iv 0,iv 0,sn] sn (iv 7) λ_=>P3 ((if_neg (λg=>g d)).trans ((if_neg (λg=>g f)).trans (if_pos k))) (by decide) (CgQ.af C)
   .refine tC1 3 (λF C=>E6 (a:=b) (b:=p) (r:=false) (H' k)) λ_=>tR 10 [8,0,1,2,4,0,10,12,0] λD _ _=>tF λ_ m=>?_;have i:=m.size;refine tC 3 (λF C=>U0 (h.af (CgQ.af C))) λo=>?_;rintro _ _ ⟨A,rfl,t,q⟩;refine⟨_,Fa.fo w.heap.size 181 8 A.v l.length (vtL l)::_,rfl,q,λF=>⟨YA t i o,F⟩,?_⟩;refine tR 1 [8] λE _ _=>tF λ_ m=>?_;have j:=m.size;refine tC 7 (λF C=>U0 (h.af (CgQ.af C))) λo=>?_;rintro _ _ ⟨B,rfl,u,s⟩;refine⟨_,Fa.fo w.heap.size 181 8 B.v l.length (vtL l)::_,rfl,s,λF=>⟨YA u j o,F⟩,?_⟩;refine tR 4 [17,2,0,18,20] λG _ _=>tX λF C=>qE3 4 5 6 124 2 (c 2) #[iv b.r,iv b.n,S3.v A] (S3.v B) (iv 0) λ_=>eE d f k F.2.1.1 F.1.1 (CgQ.af C)
  .refine tC1 1 (λF C=>IH (b:=b) (r:=false) (H' f)) λ_=>tR 10 [2,0] λH _ _=>tX λF C=>qE3 4 5 6 124 2 (c 2) #[iv 0,iv 0,sn] sn (iv 2) λ_=>P3 ((if_neg (λg=>g d)).trans (if_pos f)) (by decide) (CgQ.af C)
 .have hE:F5 ⟨p,l⟩=5:=if_neg d;refine tI (((F5 ⟨p,l⟩) != 0)) true (by rw[hE];decide) ?_;refine tR 8 [2,0] λI _ _=>tX λF C=>qE3 4 5 6 124 2 (c 2) #[iv 0,iv 0,sn] sn (iv (F5 ⟨p,l⟩)) λ_=>by rw[hE];exact P3 (if_pos d) (by decide) (CgQ.af C)
theorem CV(a:Acc)(b:Bal):(DW a b).length<=a.vs.length:=by unfold DW;split<;>simp
theorem Re(p:Bal)(x:Value)(l:List Vt)(b:Bal)(w:World)(h:Sv w x l)(d:NTab w) :
  Calls prog 137 #[.agg (acA p x),.agg (baA b)] w λe w'=>∃ y z,e=.returned (.tuple #[.agg (acA (Fs ⟨p,l⟩ b) y),z,.int .i64 (Cn ⟨p,l⟩ b)])/\Sv w' y (DW ⟨p,l⟩ b)/\Sv w' z (DW ⟨p,l⟩ b)/\Bw w w' :=
 (Dm p x l b w h d).mono λe w' ⟨y,z,c,f,g,a⟩=>⟨y,z,c,Sv.ov f (mS (CV ⟨p,l⟩ b) h.len),Sv.ov g (mS (CV ⟨p,l⟩ b) h.len),a⟩
section
variable{p:Bal}{l:List Vt}{w w':World}{v:Vt}
theorem i9{p:Bal}{l:List Vt}{v:Vt}(a:Ag ⟨p,l⟩)(b:Ah v):(Bn l v).length<=40:=by
 rw[<- dA 40 a.2.2 (λu c=>by have:=(a.2.1 u c).1.1;omega) (by have:=b.1;omega)];exact YG _ a.2.2 40
theorem OW{E:Int}(a:Bb ⟨p,l⟩ v=E)(b:E≠0)(e:Bw w w'):∃ y,(Ending.returned (.tuple #[.agg #[iv 0,iv 0,sn],iv E]):Ending)=.returned (.tuple #[.agg (acA (BI ⟨p,l⟩ v) y),.int .i64 (Bb ⟨p,l⟩ v)])/\w'.ownsRow w.heap.size 181 8 y (Br ⟨p,l⟩ v).length (vtL (Br ⟨p,l⟩ v))/\(Br ⟨p,l⟩ v).length<=40/\Bw w w':=by
 have c:BI ⟨p,l⟩ v=⟨0,0⟩:=if_neg (by rw[a];exact b);have d:Br ⟨p,l⟩ v=[]:=if_neg (by rw[a];exact b);rw[c,d,a];exact⟨sn,rfl,World.ownsRow_nil _ _ _ _,by simp,e⟩
theorem cz{y:S3}(c:Ag ⟨p,l⟩)(d:Ah v)(h:¬ v.b.lt p)(j:w'.ownsRow w.heap.size 181 8 y.v (Bn l v).length (vtL (Bn l v)))(i:Bw w w'):∃ y',(Ending.returned (.tuple #[.agg #[iv v.b.r,iv v.b.n,y.v],iv 0]):Ending)=.returned (.tuple #[.agg (acA (BI ⟨p,l⟩ v) y'),.int .i64 (Bb ⟨p,l⟩ v)])/\w'.ownsRow w.heap.size 181 8 y' (Br ⟨p,l⟩ v).length (vtL (Br ⟨p,l⟩ v))/\(Br ⟨p,l⟩ v).length<=40/\Bw w w':=by
 have a:Bb ⟨p,l⟩ v=0:=(if_neg (λg=>g c)).trans ((if_neg (λg=>g d)).trans (if_neg h));have e:BI ⟨p,l⟩ v=v.b:=if_pos a;have f:Br ⟨p,l⟩ v=Bn l v:=if_pos a;rw[e,f,a];exact⟨y.v,rfl,j,i9 c d,i⟩
end
section
theorem Ct(p:Bal)(x:Value)(l:List Vt)(v:Vt)(w:World)(h:Sv w x l)(q:NTab w) :
  Calls prog 139 #[.agg (acA p x),.agg (vtA v)] w λe w'=>∃ y,e=.returned (.tuple #[.agg (acA (BI ⟨p,l⟩ v) y),.int .i64 (Bb ⟨p,l⟩ v)])/\w'.ownsRow w.heap.size 181 8 y (Br ⟨p,l⟩ v).length (vtL (Br ⟨p,l⟩ v))/\(Br ⟨p,l⟩ v).length<=40/\Bw w w':=by
 obtain⟨y,rfl⟩:=h.s3;show Calls prog 139 #[.agg #[iv p.r,iv p.n,S3.v y],.agg #[iv v.bt,iv v.b.r,iv v.b.n,iv v.w.k,iv v.w.c,iv v.w.s,iv v.w.n,iv v.w.v]] w _;refine tIn [] func139 trivial (tR 11 [0,0,0,0,1,0,0] λd _ _=>tC1 1 (λF C=>Jx p y.v l _ (h.af (CgQ.af C)) (q.af (CgQ.af C))) λ_=>tR 7 [] λH _ _=>?_);by_cases f:Ag ⟨p,l⟩
 .have hE:F5 ⟨p,l⟩=0:=if_pos f;refine tI (((F5 ⟨p,l⟩) != 0)) false (by rw[hE];decide) (tR 5 [1] λI _ _=>?_);by_cases i:Ah v
  .refine tC1 1 (λF C=>He (v:=v) (q.af (CgQ.af C)) (r:=true) (O' i)) λ_=>tR 11 [1,0] λJ _ _=>?_;by_cases m:v.b.lt p
   .refine tC1 4 (λF C=>E6 (a:=v.b) (b:=p) (r:=true) (O' m)) λ_=>tR 8 [2,0] λK _ _=>tX λF C=>qE2 4 5 124 2 (d 2) #[iv 0,iv 0,sn] (iv 7) λ_=>OW ((if_neg (λg=>g f)).trans ((if_neg (λg=>g i)).trans (if_pos m))) (by decide) (CgQ.af C)
   .refine tC1 4 (λF C=>E6 (a:=v.b) (b:=p) (r:=false) (H' m)) λ_=>tR 10 [7,0,2,1,4,6,0,8,1] λz _ _=>tF λ_ E=>?_;have j:=E.size;refine tC 5 (λF C=>fV (v:=v) f.2.2 (h.af (CgQ.af C))) λG=>?_;rintro _ _ ⟨u,rfl,t,o⟩;refine⟨_,Fa.fo w.heap.size 181 8 u.v (Bn l v).length (vtL (Bn l v))::_,rfl,o,λF=>⟨YA t j G,F⟩,?_⟩;refine tR 4 [12,15,2,0,16] λA _ _=>tX λF C=>qE2 4 5 124 2 (d 2) #[iv v.b.r,iv v.b.n,S3.v u] (iv 0) λ_=>cz f i m F.1.1 (CgQ.af C)
  .refine tC1 1 (λF C=>He (v:=v) (q.af (CgQ.af C)) (r:=false) (H' i)) λ_=>tR 9 [2,0] λB _ _=>tX λF C=>qE2 4 5 124 2 (d 2) #[iv 0,iv 0,sn] (iv 2) λ_=>OW ((if_neg (λg=>g f)).trans (if_pos i)) (by decide) (CgQ.af C)
 .have hE:F5 ⟨p,l⟩=5:=if_neg f;refine tI (((F5 ⟨p,l⟩) != 0)) true (by rw[hE];decide) ?_;refine tR 7 [2,0] λD _ _=>tX λF C=>qE2 4 5 124 2 (d 2) #[iv 0,iv 0,sn] (iv (F5 ⟨p,l⟩)) λ_=>by rw[hE];exact OW (if_pos f) (by decide) (CgQ.af C)
theorem RR(p:Bal)(x:Value)(l:List Vt)(v:Vt)(w:World)(h:Sv w x l)(c:NTab w) :
  Calls prog 139 #[.agg (acA p x),.agg (vtA v)] w λe w'=>∃ y,e=.returned (.tuple #[.agg (acA (BI ⟨p,l⟩ v) y),.int .i64 (Bb ⟨p,l⟩ v)])/\Sv w' y (Br ⟨p,l⟩ v)/\Bw w w' :=
 (Ct p x l v w h c).mono λe w' ⟨y,b,d,f,a⟩=>⟨y,b,Sv.ov d (by omega),a⟩
structure Base(w0:World)(g:Gh)(w:World):Prop where
 b:Bw w0 w
 z:∀ k,k<w0.heap.size->g.t k=.z
variable{B:Nat}{a:Acc}{g:Gh}{w w' w0:World}{y:Value}
theorem Base.ch{T:List Tg}{d:Gh}(h:Base w0 g w)(c:Cg B T g w d w')(f:Tg.z∉T:=by simp):Base w0 d w' :=
 have e:∀ k,k<w0.heap.size->k<w.heap.size:=λk a=>X' a h.b.size
 ⟨⟨c.os.trans h.b.os,c.tape.trans h.b.tape,c.output.trans h.b.output,mS h.b.size c.size,λk a=>(c.zc f (e k a) (h.z k a)).trans (h.b.block k a)⟩,λk a=>(c.tag (e k a) (by rw[h.z k a];intro h;cases h)).trans (h.z k a)⟩
structure Tabs(w:World):Prop where
 t:AD w
 n:NTab w
 q:Dq w
theorem Base.tt(h:Base w0 g w)(t:Tabs w0):AD w:=t.t.af h.b
theorem Base.tn(h:Base w0 g w)(t:Tabs w0):NTab w:=t.n.af h.b
theorem Base.tq(h:Base w0 g w)(t:Tabs w0):Dq w:=t.q.af t.q.pos h.b
theorem Eq{l:List Vt}(h:w'.ownsRow B 181 8 y l.length (vtL l))(e:∀ b,B<=b->g.t b=.z)(f:l.length<=2199023255488):∃ y3:S3,y=y3.v/\y3.n=l.length/\FSv g w' y3 l:=by
 have d:=Sv.ov h f;rcases h.2 with⟨rfl,h0⟩|⟨b,cap,cur,rfl,hb,_⟩
 .exact⟨s30,rfl,h0.symm,d,λi=>absurd (Y' h0) i⟩
 .exact⟨⟨some ⟨b,0,none⟩,l.length,cap⟩,rfl,rfl,d,λ_ a c=>by simp only[Z']at c;subst c;exact e b hb⟩
theorem eq{l:List Int}(h:w'.ownsRow B 5 1 y l.length (l.map (Value.int .u8)))(k:∀ b,B<=b->g.t b=.z)(m:l.length<=140737488351232)(j:∀ x∈l,0<=x/\x<256):∃ y3:S3,y=y3.v/\y3.n=l.length/\FSl g w' y3 l:=by
 rcases h.2 with⟨rfl,h0⟩|⟨b,cap,cur,rfl,hbb,hh,hc,_,hcs,ht⟩
 .have d:l=[]:=Y' h0;subst d;exact⟨s30,rfl,rfl,⟨⟨none,0,rfl,A' _,λ_=>rfl,.inl rfl⟩,by simp,by simp⟩,λd=>absurd rfl d⟩
 .refine⟨⟨some ⟨b,0,none⟩,l.length,cap⟩,rfl,rfl,⟨⟨_,_,rfl,hc,λh=>(by cases h),.inr ⟨b,0,rfl,rl hh,λi f=>?_⟩⟩,m,j⟩,λ_ a e=>by simp only[Z']at e;subst e;exact k b hbb⟩;have c:(l.map (Value.int .u8))[i]?=some (.int .u8 (l.getD i 0)):=by rw[nS,E' f,nF,E' f];rfl
  rw[<- ht,oz]at c
  split at c
  .rw[cell_of_row _ _ _ _ _ _ hh,nM];simpa using c
  .cases c
theorem JZ{d:List Int}{s:Int}{may:Prop}[Decidable may]{b:List Int}(h:CH d s may b=0):AV d s/\d.length+(b.length+5)<=100000/\may:=by
 unfold CH at h;by_cases c:GE d s (b.length+5)≠0
 .rw[if_pos c]at h;exact absurd h c
 .rw[if_neg c]at h
  have e:may:=nQ λe=>by rw[if_neg e]at h;cases h
  have a:GE d s (b.length+5)=0:=by simpa using c
  unfold GE at a;by_cases f:AV d s
  .rw[if_neg (λg=>g f)]at a
   refine⟨f,?_,e⟩;rcases nU 100000 (d.length+(b.length+5))with h2|h2
   .rw[if_pos h2]at a;cases a
   .exact h2
  .rw[if_pos f]at a;cases a
theorem jb{b:Bal}(h:Cn a b=0):Fs a b=b/\DW a b=a.vs:=⟨if_pos h,if_pos h⟩
theorem DK{v:Vt}(h:Bb a v=0):BI a v=v.b/\Br a v=Bn a.vs v:=⟨if_pos h,if_pos h⟩
end
end
section
open Go.ChangeShapes Go.WideShapes Go.ChangeAt Go.RowKit
theorem mL{W:World}(h:laidMetH prog Rows.topClientsRow.laid W):Tabs W/\LWTab W/\LBTab W:=by
 have u:laidMet prog Rows.topClientsRow.laid W:=h;obtain⟨B,⟨w,F,r,d,z,C,k,n,a,g,⟨x,G,s,e,p1,D,l,o,b,i,⟨y,H,t,f,A,E,m,p,c,j,v,_⟩,_⟩,_⟩,_⟩:=u;have q:=fw v;obtain rfl:=nP (YC.symm.trans k);obtain rfl:=nP (SI.symm.trans n);obtain rfl:=nP (kv.symm.trans l);obtain rfl:=nP (YD.symm.trans o);obtain rfl:=nP (gc.symm.trans m);obtain rfl:=nP (VX.symm.trans p);exact⟨⟨aF b i,ec c j,al a g⟩,q.1,q.2⟩
def Js(os:Os)(W:World):Prop :=
 W={ World.holding prog os ⟨#[],#[],[]⟩with heap:=(((((World.holding prog os ⟨#[],#[],[]⟩).heap.modify 4 (Ze WO)).modify 3 (Ze (SW.map (Value.int .u32)).toArray)).modify 0 (Ze (O0.map (Value.int .i64)).toArray)).modify 2 (Za Qe)).modify 1 (Za RY) }
theorem di(a:Os):∃ W,Js a W:=⟨_,rfl⟩
end
section
open Go.RowKit
section
def Nb(B:Nat)(y:S3)(l:List Int):Prop:=l≠[]->∀ a,y.a=some a->B<=a.block
variable{B sz:Nat}{e:TypeId}{g:Gh}{l:List Int}{w:World}{x:S3}{xs:List Value}
theorem JE{y:Value}(h:w.ownsRow B 5 1 y l.length (l.map (Value.int .u8)))(f:l.length<=140737488351232)(e:∀ x∈l,0<=x/\x<256):∃ z:S3,y=z.v/\Sl w z.v l/\Nb B z l:=by
 have d:=Sl.ov h f e;rcases h.2 with⟨rfl,h0⟩|⟨b,cap,cur,rfl,hbb,_⟩
 .exact⟨s30,rfl,d,λg=>absurd (Y' h0) g⟩
 .exact⟨⟨some ⟨b,0,none⟩,l.length,cap⟩,rfl,d,λ_ a c=>by simp only[Z']at c;subst c;exact hbb⟩
theorem VW(g:Gh)(w:World):FSl g w s30 []:=⟨⟨⟨none,0,rfl,A' _,λ_=>rfl,.inl rfl⟩,by simp,by simp⟩,λh=>absurd rfl h⟩
theorem Dy{y:S3}(h:Sl w y.v l)(n:Nb B y l)(G:∀ b,B<=b->g.t b=.z):FSl g w y l:=⟨h,λd a c=>G _ (n d a c)⟩
structure OwN(B:Nat)(w:World)(e:TypeId)(sz:Nat)(x:S3)(xs:List Value):Prop where
 len:xs.length=x.n*sz
 ex:(x.a=none/\x.n=0/\x.c=0)\/∃ b cur,B<=b/\x.a=some ⟨b,0,none⟩/\w.heap[b]?=some (.cells cur e (0,0))/\x.n<=x.c/\x.c<=maxLen/\cur.size=x.c*sz/\cur.toList.take (x.n*sz)=xs
theorem OwnS.own{c:World}{r:Nat}{p:Bool}(h:OwnS g w (.n 60 r) p e sz x xs)(C:Cg c.heap.size TQ gS c g w):OwN c.heap.size w e sz x xs:=by
 refine⟨h.len,h.ex.imp id λ⟨b,a,f,i,j,k,l,m,o,q⟩=>⟨b,a,?_,f,i,j,k,l,m⟩⟩;refine qW λd=>?_;have:=C.tag d (λ_=>d);rw[o]at this
 cases this
theorem OwN.rv(h:OwN B w e sz x xs):RdV w x sz xs:=by
 rcases h.ex with⟨h1,h2,h3⟩|⟨b,cur,h0,h1,h2,h3,h4,h5,h6⟩
 .exact⟨h.len,by omega,λ_=>h3,.inl h2⟩
 .refine⟨h.len,h3,λh=>(by rw[h1]at h;cases h),.inr ⟨b,0,h1,rl h2,λj u a=>?_⟩⟩;rw[nM,cell_of_row _ _ _ _ _ _ h2];rw[<- h6,oz]at a
  split at a
  .simpa using a
  .cases a
theorem OwN.fz(h:OwN B w e sz x xs)(G:∀ b,B<=b->g.t b=.z):FzV g w x sz xs :=
 ⟨h.rv,λ_ a c=>by
  rcases h.ex with⟨h1,h2,h3⟩|⟨b,cur,h0,h1,_⟩
  .rw[h1]at c;cases c
  .rw[h1]at c;cases c;exact G _ h0⟩
theorem RdV.fz(h:RdV w x sz xs):FzV gS w x sz xs:=⟨h,λ_ _ _=>rfl⟩
theorem RdV.spot(h:RdV w x sz xs){i:Nat}(d:i<x.n):∃ b off,x.a=some ⟨b,off,none⟩/\b<w.heap.size/\∀ j u,xs[sz*i+j]?=some u->w.cell? ⟨b,off+sz*i+j,none⟩=some u:=by
 rcases h.ex with h1|⟨b,off,h1,h2,h3⟩
 .omega
 .exact⟨b,off,h1,h2,λj u c=>by rw[oh];exact h3 _ u c⟩
theorem OwN.take{l:World}(h:OwN w.heap.size l e sz x xs)(b:Bw w l)(G:∀ b,w.heap.size<=b->g.t b=.z/\g.k b=0)(r:Nat):∃ g',(∀ B,Cg B [] g w g' l)/\(∀ b,l.heap.size<=b->g'.t b=.z/\g'.k b=0)/\OwnS g' l (.n 60 r) true e sz x xs/\∀ b,w.heap.size<=b->(∀ a,x.a=some a->b≠a.block)->g'.t b=.z:=by
 have m:=b.size;rcases h.ex with h1|⟨c,cur,h0,h1,h2,h3,h4,h5,h6⟩
 .exact⟨g,λ_=>Cg.eb b,λd f=>G d (mS m f),⟨h.len,.inl h1⟩,λd f _=>(G d f).1⟩
 .have hc:c<l.heap.size:=rl h2;have i:∀ d,d<w.heap.size->¬ d=c:=λd f e=>by omega
  refine⟨⟨λd=>if d=c then .n 60 r else g.t d,λd=>if d=c then xs.length else g.k d⟩,λ_=>⟨b.os,b.tape,b.output,m,λd f=>.inl (if_neg (i d f)),λd f=>?_,λd f _ _=>if_neg (i d f),λd f _ _=>b.block d f,λd f j _=>World.cell?_of_block (w:=w) (b.block d f)⟩,λd f=>?_,⟨h.len,.inr ⟨c,cur,h1,h2,h3,h4,h5,h6,if_pos rfl,if_pos rfl⟩⟩,λd f o=>(if_neg (o _ h1)).trans (G d f).1⟩
  .show g.k d<=(if d=c then _ else g.k d);rw[if_neg (i d f)];exact A' _
  .have hd2:¬ d=c:=by omega
   show(if d=c then _ else g.t d)=.z/\(if d=c then _ else g.k d)=0;rw[if_neg hd2,if_neg hd2];exact G d (mS m f)
end
section
variable{P:Program}{fn:Func}{R:Ending->World->Prop}{w0:World}{Φ:List Fa}{g:Gh}{w:World}
section
variable{s:Xs}
theorem tG(i:Nat)(m:List Bool)(r:Nat){f:FuncId}{j:Array Value}{K:Ending->World->Prop}(B:AllF g w Φ->Cg w0.heap.size TQ gS w0 g w->Calls P f j w K)(E:(∀ b,w.heap.size<=b->g.t b=.z)->∀ e w',K e w'->∃ v Ψ et sz x xs,e=.returned v/\Bw w w'/\OwN w.heap.size w' et sz x xs/\∀ g',(AllF g' w' Φ->OwnS g' w' (.n 60 r) true et sz x xs->(∀ b,w.heap.size<=b->(∀ a,x.a=some a->b≠a.block)->g'.t b=.z)->AllF g' w' Ψ)/\GT P fn R w0 Ψ (nxt s i v (AK m s.L)).s g' w')(H:∀ W,Df P s i W=some (.ok (.enter f j) W):=by intro _;kernel_rfl)(D:KC s i=true:=by kernel_rfl)(d:(nxt s i undef (AK m s.L)).o.map Ob.l'=(nxt s i undef (AK m s.L)).o.map Ob.r':=by kernel_rfl):GT P fn R w0 Φ s g w:=by
 refine⟨λF C=>Af λl=>qG i [] m (B F C) (λe w' h=>?_) H D d (by simp)⟩;obtain⟨v,Ψ,et,sz,x,xs,p,q,u,k⟩:=E (λb A=>(l.new b A).1) e w' h;obtain⟨g',c,G,y,I⟩:=u.take q l.new r;exact⟨v,g',p,c _,G,(k g').2.ex ((k g').1 (F.sr (c w0.heap.size)) y I) (C.trans ((c _).nil TQ))⟩
theorem jd{P:Program}{W:World}(t f e:TypeId)(i:TypeInfo)(c:P.underlying t=some (.slice e))(b:P.info? e=some i)(y:S3)(d:y.n=0):(Builtin.append_ #[t,t] f #[s30.v,y.v]).run P W=.ok s30.v W:=by
 obtain⟨g,k,h⟩:=y;simp only at d;subst d;show(Builtin.append_ #[t,t] f #[.slice none 0 0,.slice g 0 h]).run P W=.ok (.slice none 0 0) W;cases g with
 | none=>simp[Builtin.append_,run_underlying c,sizeOf,typeInfo,b,Builtin.lenOf,run_firstCells_none]
 | some a =>
  have j:=run_firstCells_some (P:=P) W i.size 0 a 0 h [] (by simp) (by simp);simp[Builtin.append_,run_underlying c,sizeOf,typeInfo,b,Builtin.lenOf,run_firstCells_none,j]
theorem gw(i:Nat)(r:Nat)(y:S3)(news:List Value)(t M e:TypeId)(p a:Nat)(z:Value)(O:AllF g w Φ->RdV w y p news)(Ψ:List Fa)(B:AllF g w Φ->AllF g w Ψ)(I:Ψ.all (λf=>f.ro != some r)=true)(H:Tg.n 60 r∈TQ)(Q:∀ u∈news,u.oneCell'=true)(E:y.n<=maxLen)(h:y.n*a<=140737488355328)(G:∀ x' g' w',x'.n=y.n->GT P fn R w0 (Fa.ow r e p x' news::Ψ) (nxt s i (S3.v x') s.L).s g' w')(J:0<p:=by decide)(N:P.underlying t=some (.slice e):=by kernel_rfl)(d:(P.info? e).map (λi=>(i.zero,i.size,i.bytes))=some (some z,p,a):=by kernel_rfl)(K:Nat.beq z.cells.size p=true:=by kernel_rfl)(k:Ds s i=some (Builtin.append_ #[t,t] M #[s30.v,y.v]>>=λv=>pure (.value v)):=by kernel_rfl)(A:(nxt s i undef s.L).o.map Ob.l'=(nxt s i undef s.L).o.map Ob.r':=by kernel_rfl)(S:s.L.all (λy=>[Tg.n 60 r].all λt=>y.t.ne t)=true:=by kernel_rfl):GT P fn R w0 Φ s g w:=by
 refine tF λF C=>?_;have D:=O F;by_cases q:y.n=0
 .obtain⟨inf,hi⟩:∃ inf,P.info? e=some inf:=by cases hh:P.info? e with|none=>rw[hh]at d;cases d|some j=>exact⟨j,rfl⟩
  obtain rfl:news=[]:=Y' (by rw[D.len,q,rC]);refine tV i s30.v (λ_ _=>jd t M e inf N hi y q) ?_ k A;exact tCv (Fa.ow r e p s30 []::Ψ) (λF=>⟨OwnS.nil _ _ _ _ _ _,B F⟩) (G s30 g w q.symm)
 .obtain⟨b,off,ha,_,_⟩:=D.spot (i:=0) (by omega);obtain⟨V,m,c⟩:=y;simp only at ha q E h G k D;subst ha;refine R7 i r (x:=s30) (xs:=[]) t M e p a z ⟨b,off,none⟩ m c news (λ_=>OwnS.nil _ _ _ _ _ _) Ψ B I H D.len Q (λF _ j u T=>?_) (by show 0+m<=_;omega) (by show(0+m)*a<=_;rw[nM];exact h) (λx' g' w' U=>?_) (rD q) J N d K k A S
  .rcases(O F).ex with h2|⟨b2,off2,k1,k2,k3⟩
   .exact absurd h2 q
   .cases k1;have:(⟨b,off,none⟩:Addr).add j=⟨b,off+j,none⟩:=by unfold Addr.add;split<;>simp_all
    rw[this];exact k3 j u T
  .rw[oJ];exact G x' g' w' (by rw[U];show 0+m=m;omega)
theorem tW(i:Nat)(v:Value){S:Sem Value}(c:AllF g w Φ->Kn w0.heap.size g w s.L->S.run P w=.ok v w)(b:GT P fn R w0 Φ (nxt s i v s.L).s g w)(d:Ds s i=some (S>>=λv=>pure (.value v)):=by kernel_rfl)(a:(nxt s i undef s.L).o.map Ob.l'=(nxt s i undef s.L).o.map Ob.r':=by kernel_rfl):GT P fn R w0 Φ s g w:=⟨λF C=>Af λK=>qV i v (c F K) (b.ex F C) d a⟩
end
end
end
end Go.Proofs.YthkjeoamjgnpoaaGreatDoor
