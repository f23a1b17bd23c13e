/- Part 5 of the walk. -/
import Derived.Laws.Cover3
import Derived.Test.YtdjfdfpkkenjbaaGreatDoorZ4
set_option maxRecDepth 100000
set_option maxHeartbeats 4000000
open Go.Proofs.Tryz
set_option linter.unusedVariables false
namespace Go.Proofs.YtdjfdfpkkenjbaaGreatDoor
section
open Go.RowKit
section
variable{P:Program}{fn:Func}{R:Ending->World->Prop}{B:Nat}{T:List Tg}{g:Gh}{w:World}
section
def QL:List Kt->Bool|.c (.loop _)::_=>true|_=>false
def fE:List Kt->Code|.c (.loop b)::_=>b|_=>.skip
def isJ:List Kt->Bool|.j _::_=>true|_=>false
def jK:List Kt->Act->World->Prop|.j J::_=>J|_=>λ_ _=>False
def aw(s:Xs)(n:Nat)(J:Act->World->Prop)(e:List (Nat × Value))(z:Nat->Value)(L:List Sh):Xs:=⟨.c (fE s.K)::.j J::s.K.tail,⟨n,e,z⟩,L⟩
variable{s:Xs}
theorem BD(n:Nat)(i:List (Nat × Value))(m:List Bool)(j:List Sh)(a:Nat->Gh->World->List (Nat × Value)->List Sh->Prop)(q:QL s.K=true)(r:s.f.n=n)(D:i.map (λp=>lk s.f.z s.f.e p.1)=i.map (·.2))(A:Bp (AA m s.L)=j)(k:Nat)(u:Kn B g w s.L->a k g w i j)(d:∀ k g w e z L,a k g w e L->∀ J:Act->World->Prop,(∀ k' g' w' e' z' L',k'<k->a k' g' w' e' L'->Kn B g' w' L'->J (⟨n,e',z'⟩:Fm).act w')->GG P fn R B T (aw s n J e z L) g w):GG P fn R B T s g w:=by
 refine Ae λl=>gFm i D λz=>?_;obtain⟨K,f,L⟩:=s;simp only at r;subst r;have o:Bp (AA m L)=j:=A;have C:GG P fn R B T ⟨K,⟨f.n,i,z⟩,Bp (AA m L)⟩ g w->GG P fn R B T ⟨K,⟨f.n,i,z⟩,L⟩ g w:=λh=>⟨λl=>h.ex (l.sub (CZ m L)).nw⟩;refine C ?_;rw[o];cases K with
 | nil=>cases q
 | cons t K =>
  cases t with
  | c x =>
   cases x with
   | loop b=>exact fw a (λk g w e z L v J y=>d k g w e z L v J y) (u l)
   | _=>cases q
  | _=>cases q
theorem DX(J:Act->World->Prop)(n:Nat)(e:List (Nat × Value))(m:List Bool)(b:List Sh)(i:isJ s.K=true)(c:jK s.K=J)(l:s.f.n=n)(q:e.map (λp=>lk s.f.z s.f.e p.1)=e.map (·.2))(k:Bp (AA m s.L)=b)(h:∀ z,Kn B g w s.L->Kn B g w b->J (⟨n,e,z⟩:Fm).act w):GG P fn R B T s g w:=by
 refine Ae λa=>gFm e q λz=>⟨λo=>?_⟩;obtain⟨K,f,L⟩:=s;simp only at l c k i a;subst l;have d:Kn B g w b:=by rw[<- k];exact(o.sub (CZ m L)).nw
 cases K with
 | nil=>cases i
 | cons t K =>
  cases t with
  | j J'=>simp only[jK]at c;rw[c];exact h z a d
  | _=>cases i
def II(s:Xs)(i:Nat):Xs:=match s.K with|.x ops (u+1) Ld e L0::K=>⟨.y ops u Ld e L0 i::K,s.f,s.L⟩|_=>s
def aT(s:Xs)(i j:Nat):Bool:=match s.K with|.x ops (_+1) Ld _ _::_=>(match Region.ready .any ops Ld with|[k,l]=>Nat.beq k i&&Nat.beq l j|_=>false)|_=>false
theorem CH(i j:Nat)(a:aT s i j=true)(h:GG P fn R B T (II s i) g w)(m:GG P fn R B T (II s j) g w):GG P fn R B T s g w:=by
 refine⟨λd=>?_⟩;obtain⟨K,f,L⟩:=s;have b:=h.ex;have c:=m.ex;unfold II at b c;unfold aT at a;cases K with
 | nil=>cases a
 | cons t K =>
  cases t with
  | x ops u Ld e L0 =>
   cases u with
   | zero=>cases a
   | succ u =>
    simp only at b c a;have n:Region.ready .any ops Ld=[i,j]:=by
     split at a
     .rename_i k l hk
      simp only[iK]at a;rw[hk,iM a.1,iM a.2]
     .cases a
    exact ix n (b d) (c d)
  | _=>cases a
def V0(s:Xs)(J:Act->World->Prop):Xs:=match s.K with|t::K=>⟨t::.j J::K,s.f,s.L⟩|[]=>s
theorem D7(Q:Exit->Act->World->Prop):Exit.then (Q .normal) Q=Q:=by
 funext e a w
 cases e<;>rfl
theorem BK(n:Nat)(d:Gh->World->List (Nat × Value)->List Sh->Prop)(r:s.K.isEmpty=false)(k:∀ J:Act->World->Prop,(∀ g' w' e z L,d g' w' e L->Kn B g' w' L->J (⟨n,e,z⟩:Fm).act w')->GG P fn R B T (V0 s J) g w)(l:∀ g' w' e z L,d g' w' e L->GG P fn R B T ⟨s.K.tail,⟨n,e,z⟩,L⟩ g' w'):GG P fn R B T s g w:=by
 obtain⟨K,f,L⟩:=s;cases K with
 | nil=>cases r
 | cons t K =>
  have p:=k (Kq P (bodyPost P fn R) K .normal) (λg' w' e z L q h=>(l g' w' e z L q).ex h);refine⟨λh=>?_⟩;have a:=p.ex h;unfold V0 at a;simp only at a;cases t with
  | c x=>simp only[Kq,D7]at a ⊢;exact a
  | b id=>simp only[Kq,D7]at a ⊢;exact a
  | o ops is=>simp only[Kq,D7]at a ⊢;exact a
  | x ops m Ld e L0=>simp only[Kq,D7]at a ⊢;exact a
  | y ops m Ld e L0 i=>simp only[Kq,D7]at a ⊢;exact a
  | j J=>simp only[Kq,D7]at a ⊢;exact a
def zL(L:List Sh)(k:Nat):List Sh:=L.set k { L.getD k default with t:=.z,w:=false }
theorem fy(k:Nat)(b:Nat)(A:(Bp s.L)[k]?.map (λx=>(x.g,x.t))=some (b,.l))(h:∀ g',Cg B [] g w g' w->GG P fn R B T ⟨s.K,s.f,zL (Bp s.L) k⟩ g' w):GG P fn R B T s g w:=by
 refine⟨λF=>?_⟩;have q:=F.nw;generalize O:Bp s.L=L at *;have V:∀ x∈L,x.w=false:=λx e=>by rw[<- O]at e;obtain⟨y,_,rfl⟩:=i7.1 e;rfl
 have m:k<L.length:=by
  cases e:L[k]? with
  | none=>rw[e]at A;cases A
  | some x=>exact(O'.1 e).1
 have N:L.getD k default=L[k]:=by rw[iS,E' m];rfl
 rw[E' m]at A
 simp only[i8,V',je]at A;obtain⟨r,I⟩:=A;have d:=q.row _ (iT m);have G:∀ n (D:n<L.length),n≠k->L[n].g≠b:=λn D o a=>by
  have:=q.two D m o (by rw[r];exact a);rw[I]at this
  cases this.2.1
 let g':Gh:=⟨λc=>if c=b then .z else g.t c,g.k⟩
 have H:g.t b=.l:=by rw[<- r,d.2.1];exact I
 have E:B<=b:=by rw[<- r];exact d.2.2.1 I
 refine(h g' ⟨rfl,rfl,rfl,A' _,λc M=>?_,λ_ _=>A' _,λ_ _ _ _=>rfl,λ_ _ _ _=>rfl,λ_ _ _ _=>rfl⟩).ex ⟨λx e=>?_,?_,λc M=>?_,q.base⟩
 .show(if c=b then _ else _)=_\/(_/\_/\(if c=b then _ else _)=_);by_cases a:c=b
  .subst a;right;exact⟨H,E,if_pos rfl⟩
  .left;exact if_neg a
 .unfold zL at e;simp only at e;rw[N]at e
  obtain⟨n,D,rfl⟩:=j1 e;have C:n<L.length:=by simpa using D
  rw[jO];split
  .refine⟨d.1,?_,λh=>(by cases h),λh=>absurd rfl h⟩;show(if L[k].g=b then _ else _)=_;rw[if_pos r]
  .rename_i o
   have p:=q.row _ (iT C);refine⟨p.1,?_,p.2.2⟩;show(if L[n].g=b then _ else _)=_;rw[if_neg (G n C (λh=>o h.symm))];exact p.2.1
 .show(zL L k).Pairwise _;unfold zL;rw[N,jG];intro i j Q U S a;have u:i<L.length:=by simpa using Q
  have v:j<L.length:=by simpa using U
  rw[jO,jO]at a ⊢
  by_cases p:k=i
  .rw[if_pos p]at a ⊢
   rw[if_neg (by omega)]at a ⊢
   exact absurd a.symm (by show L[j].g≠L[k].g;rw[r];exact G j v (by omega))
  .rw[if_neg p]at a ⊢
   by_cases J:k=j
   .rw[if_pos J]at a ⊢
    exact absurd a (by show L[i].g≠L[k].g;rw[r];exact G i u (by omega))
   .rw[if_neg J]at a ⊢
    exact q.two u v (by omega) a
 .have:=q.new c M;show(if c=b then _ else _)=_/\_;refine⟨?_,this.2⟩;split
  .rfl
  .exact this.1
end
end
def gS:Gh:=⟨λ_=>.z,λ_=>0⟩
section
variable{P:Program}{fn:Func}{R:Ending->World->Prop}{B:Nat}{T:List Tg}{g:Gh}{w:World}
def gA(s:Xs)(i j l:Nat):Bool:=match s.K with|.x ops (_+1) Ld _ _::_=>(match Region.ready .any ops Ld with|[a,b,c]=>Nat.beq a i&&(Nat.beq b j&&Nat.beq c l)|_=>false)|_=>false
theorem Wb{s:Xs}(i j l:Nat)(d:gA s i j l=true)(r:GG P fn R B T (II s i) g w)(v:GG P fn R B T (II s j) g w)(y:GG P fn R B T (II s l) g w):GG P fn R B T s g w:=by
 refine⟨λn=>?_⟩;obtain⟨K,f,L⟩:=s;have h:=r.ex;have k:=v.ex;have m:=y.ex;unfold II at h k m;unfold gA at d;cases K with
 | nil=>cases d
 | cons t K =>
  cases t with
  | x ops u Ld e L0 =>
   cases u with
   | zero=>cases d
   | succ u =>
    simp only at h k m d;have o:Region.ready .any ops Ld=[i,j,l]:=by
     split at d
     .rename_i a b c hk
      simp only[iK]at d;rw[hk,iM d.1,iM d.2.1,iM d.2.2]
     .cases d
    refine⟨λp=>absurd (o▸p) (by simp),o▸(λq z=>?_)⟩;rcases(show q=i\/q=j\/q=l by simpa using z)with rfl|rfl|rfl
    .exact h n
    .exact k n
    .exact m n
  | _=>cases d
def SM:List Sh->List Sh
 | [a,b]=>[b,a]
 | a::l=>a::SM l
 | []=>[]
theorem GQ:∀ L:List Sh,(SM L).Perm L
 | []=>.refl _
 | [a]=>by simp[SM]
 | [a,b]=>.swap _ _ _
 | a::b::c::l=>(GQ (b::c::l)).cons a
theorem Mq{s:Xs}(h:GG P fn R B T ⟨s.K,s.f,SM s.L⟩ g w):GG P fn R B T s g w:=by
 refine⟨λa=>h.ex ⟨λx c=>a.row x ((GQ s.L).mem_iff.1 c),?_,a.new,a.base⟩⟩;refine(GQ s.L).symm.pairwise a.nc ?_;intro x y b e;have:=b e.symm;exact⟨this.2,this.1⟩
theorem gW{s:Xs}{r i:Nat}{e:TypeId}{p:Nat}{x:S3}{m:List Value}(c:OwnS g w (.n r i) false e p x m)(q:s.L.all (λy=>y.t.ne (.n r i))=true)(h:∀ g',Cg B [.n r i] g w g' w->OwnS g' w (.n r i) true e p x m->GG P fn R B T s g' w):GG P fn R B T s g w:=by
 refine⟨λa=>?_⟩;rcases c.ex with h1|⟨b,cur,h1,h2,h3,h4,h5,h6,h7,h8⟩
 .exact(h g (Cg.refl _ _ _ _) ⟨c.len,.inl h1⟩).ex a
 .have h80:g.k b=0:=h8;have u:b<w.heap.size:=(H'.1 h2).1;refine(h (fu g b m.length) ⟨rfl,rfl,rfl,A' _,λ_ _=>.inl rfl,λd f=>?_,λd f j _=>if_neg (λe=>j (by rw[e,h7];exact N'.2 rfl)),λ_ _ _ _=>rfl,λ_ _ _ _=>rfl⟩ ⟨c.len,.inr ⟨b,cur,h1,h2,h3,h4,h5,h6,h7,if_pos rfl⟩⟩).ex ⟨λy o=>?_,a.nc,λd f=>?_,a.base⟩
  .show g.k d<=(if d=b then _ else g.k d);split
   .rename_i e;rw[e,h80];exact iR _
   .exact A' _
  .obtain⟨k1,k2,k3,k4⟩:=a.row y o;refine⟨k1,k2,k3,λv=>?_⟩;show(if y.g=b then _ else g.k y.g)=0;rw[if_neg (λe=>Tg.ni (js.1 q y o) (by rw[<- k2,e,h7]))];exact k4 v
  .have:=a.new d f;refine⟨this.1,?_⟩;show(if d=b then _ else g.k d)=0;rw[if_neg (by omega)];exact this.2
end
theorem Vj{P:Program}{s:Xs}{a:Nat}{S:Sem Value}{v:Value}{W:World}(h:CP s a=some (S>>=λv=>pure (.value v)))(b:S.run P W=.ok v W):Cy P s a W=some (.ok (.value v) W):=by
 unfold Cy;unfold CP at h;cases hx:opN s a with
 | none=>rw[hx]at h;cases h
 | some x =>
  rw[hx]at h
  simp only[i8,V']at h ⊢;rw[h,Sem.run_bind,b,Result.andThen_ok];rfl
section
variable{P:Program}{W:World}
section
theorem fX(d:Array TypeId)(t:TypeId)(a b:Int):(Builtin.max_ d t #[iv a,iv b]).run P W=.ok (iv (max a b)) W:=by
 rw[run_max_int2]
 congr 2
 rw[Int.max_def];by_cases h:a<b
 .rw[if_pos h,if_pos (by omega)]
 .rw[if_neg h];by_cases c:a<=b
  .rw[if_pos c];omega
  .rw[if_neg c]
theorem dV(c:Array TypeId)(t:TypeId)(a b:Int):(Builtin.min_ c t #[iv a,iv b]).run P W=.ok (iv (min a b)) W:=by
 rw[run_min_int2]
 congr 2
 rw[Int.min_def];by_cases h:b<a
 .rw[if_pos h,if_neg (by omega)]
 .rw[if_neg h,if_pos (by omega)]
variable{t:TypeId}{x y:Operand}
theorem KS(a b:Int)(d:P.underlying t=some (.int .i64))(h:-9223372036854775808<=a+b/\a+b<=9223372036854775807):(do Go.eqGuard .add t x y (iv a) (iv b);Go.binOp .add t (iv a) (iv b):Sem Value).run P W=.ok (iv (a+b)) W:=by
 have c:IntKind.i64.wrap (a+b)=a+b:=by rw[IntKind.wrap_i64];omega
 simp[Go.eqGuard,Go.binOp,go_sem,c]
theorem AD(k:Nat)(a:Int)(b:P.underlying 3=some (.int .i64))(h:-9223372036854775808<=a+1/\a+1<=9223372036854775807):(do Go.eqGuard .add 3 (.tmp k) (.const (iv 1)) (iv a) (iv 1);Go.binOp .add 3 (iv a) (iv 1):Sem Value).run P W=.ok (iv (a+1)) W:=KS a 1 b h
theorem gh(a b:Int)(d:P.underlying t=some (.int .i64))(h:-9223372036854775808<=a-b/\a-b<=9223372036854775807):(do Go.eqGuard .sub t x y (iv a) (iv b);Go.binOp .sub t (iv a) (iv b):Sem Value).run P W=.ok (iv (a-b)) W:=by
 have c:IntKind.i64.wrap (a-b)=a-b:=by rw[IntKind.wrap_i64];omega
 simp[Go.eqGuard,Go.binOp,go_sem,c]
end
end
section
theorem RV(a b:Bal):decide (a.r=b.r/\a.n=b.n)=decide (a=b):=jf.2 (Bal.eq_iff a b)
variable{W:World}{x y:Operand}
theorem gZ(a b:Bal):(do Go.eqGuard .eql 94 x y (.agg #[iv a.r,iv a.n]) (.agg #[iv b.r,iv b.n]);Go.binOp .eql 94 (.agg #[iv a.r,iv a.n]) (.agg #[iv b.r,iv b.n]):Sem Value).run prog W=.ok (.bool (decide (a=b))) W:=by
 have c:=YU a.r a.n b.r b.n W;rw[RV]at c
 have d:(Go.eqGuard .eql 94 x y (.agg #[iv a.r,iv a.n]) (.agg #[iv b.r,iv b.n])).run prog W=.ok () W:=by kernel_rfl
 rw[Sem.run_bind,d,Result.andThen_ok];exact c
theorem dD(a b c d:Int):∀ w,(binOp .neq 94 (.agg #[.int .i64 a,.int .i64 b]) (.agg #[.int .i64 c,.int .i64 d])).run prog w=.ok (.bool (!decide (a=c/\b=d))) w:=by
 intro w;rw[run_neq_struct,run_equalIn_agg w 9999 _ _ _ (by kernel_rfl) (by kernel_rfl)];unfold Program.fieldsOf;rw[underlying94];have e:=underlying3;simp[Op.eqFields,go_sem,e]
 repeat' split
 all_goals simp_all
theorem fY(a b:Bal):(do Go.eqGuard .neq 94 x y (.agg #[iv a.r,iv a.n]) (.agg #[iv b.r,iv b.n]);Go.binOp .neq 94 (.agg #[iv a.r,iv a.n]) (.agg #[iv b.r,iv b.n]):Sem Value).run prog W=.ok (.bool (!decide (a=b))) W:=by
 have c:=dD a.r a.n b.r b.n W;rw[RV]at c
 have d:(Go.eqGuard .neq 94 x y (.agg #[iv a.r,iv a.n]) (.agg #[iv b.r,iv b.n])).run prog W=.ok () W:=by kernel_rfl
 rw[Sem.run_bind,d,Result.andThen_ok];exact c
theorem Sb(a b:Cmd):decide (a.k=b.k/\a.c=b.c/\a.s=b.s/\a.n=b.n/\a.v=b.v)=decide (a=b):=jf.2 (Cmd.eq_iff a b)
theorem hY(a b:Cmd):(do Go.eqGuard .eql 49 x y (.agg #[iv a.k,iv a.c,iv a.s,iv a.n,iv a.v]) (.agg #[iv b.k,iv b.c,iv b.s,iv b.n,iv b.v]);Go.binOp .eql 49 (.agg #[iv a.k,iv a.c,iv a.s,iv a.n,iv a.v]) (.agg #[iv b.k,iv b.c,iv b.s,iv b.n,iv b.v]):Sem Value).run prog W=.ok (.bool (decide (a=b))) W:=by
 have d:=Sg a.k a.c a.s a.n a.v b.k b.c b.s b.n b.v W;rw[Sb]at d
 have e:(Go.eqGuard .eql 49 x y (.agg #[iv a.k,iv a.c,iv a.s,iv a.n,iv a.v]) (.agg #[iv b.k,iv b.c,iv b.s,iv b.n,iv b.v])).run prog W=.ok () W:=by kernel_rfl
 rw[Sem.run_bind,e,Result.andThen_ok];exact d
theorem Hv(a b:Bal)(h:a≠b):(do Go.eqGuard .neq 94 x y (.agg #[iv a.r,iv a.n]) (.agg #[iv b.r,iv b.n]);Go.binOp .neq 94 (.agg #[iv a.r,iv a.n]) (.agg #[iv b.r,iv b.n]):Sem Value).run prog W=.ok (.bool true) W:=by rw[fY,D' h];rfl
theorem Hu(a b:Bal)(h:a=b):(do Go.eqGuard .neq 94 x y (.agg #[iv a.r,iv a.n]) (.agg #[iv b.r,iv b.n]);Go.binOp .neq 94 (.agg #[iv a.r,iv a.n]) (.agg #[iv b.r,iv b.n]):Sem Value).run prog W=.ok (.bool false) W:=by rw[fY,I' h];rfl
theorem mj{j:Nat}(h:j<5):j=0\/j=1\/j=2\/j=3\/j=4:=by omega
theorem FJ:∀ ts:List Tol,(ts.flatMap FI).length=ts.length*5
 | []=>rfl
 | t::r=>by rw[jW,G',FJ r,iX];show 5+_=_;omega
end
section
variable{P:Program}{fn:Func}{R:Ending->World->Prop}{B:Nat}{T:List Tg}{g:Gh}{w:World}
section
variable{B' i nb ob:Nat}{C:Ending->World->Prop}{L:List Sh}{S:Sem Value}{T':List Tg}{av:Array Value}{f:FuncId}{g0:Gh}{ls:List Let}{lt tl:S3}{p p0:Nod}{s:Xs}{ts:List Tol}{v:Value}{w0:World}{x x0:NX}
theorem qR(a:List Tg)(m:Nat)(h:List Nat)(c:∀ gs g' w',Cg B a g w g' w'->GG P fn R B T (rn0 P a gs m s h).s g' w')(b:∀ gs,(rn0 P a gs m s h).o.map Ob.l'=(rn0 P a gs m s h).o.map Ob.r':=by intro _;kernel_rfl):GG P fn R B T s g w:=Ze a m h b c
theorem qV(i:Nat)(v:Value)(c:S.run P w=.ok v w)(b:GG P fn R B T (nxt s i v s.L).s g w)(d:CP s i=some (S>>=λv=>pure (.value v)):=by kernel_rfl)(a:(nxt s i undef s.L).o.map Ob.l'=(nxt s i undef s.L).o.map Ob.r':=by kernel_rfl):GG P fn R B T s g w:=Zf i v (λ_=>Vj d c) a b
theorem qT(i:Nat)(v:Value)(c:∀ W,S.run P W=.ok v W)(b:GG P fn R B T (tkN s i v false).s g w)(d:CP s i=some (S>>=λv=>pure (.value v)):=by kernel_rfl)(a:(tkN s i undef false).o.map Ob.l'=(tkN s i undef false).o.map Ob.r':=by kernel_rfl):GG P fn R B T s g w:=OG i v false (λW _=>Vj d (c W)) a b
theorem qU(i:Nat)(v:Value)(c:∀ W,(true=true->AM (X6 s) W)->S.run P W=.ok v W)(b:GG P fn R B T (tkN s i v true).s g w)(d:CP s i=some (S>>=λv=>pure (.value v)):=by kernel_rfl)(a:(tkN s i undef true).o.map Ob.l'=(tkN s i undef true).o.map Ob.r':=by kernel_rfl):GG P fn R B T s g w:=OG i v true (λW h=>Vj d (c W h)) a b
theorem qI(b t:Bool)(a:b=t)(h:GG P fn R B T (Kk s t) g w)(c:O2 s=.bool b:=by kernel_rfl):GG P fn R B T s g w:=gIf b t a c h
theorem qC(i:Nat)(b:Calls P f av w C)(d:∀ e w',C e w'->∃ v,e=.returned v/\Bw w w'/\GG P fn R B T (nxt s i v s.L).s g w')(h:∀ W,Cy P s i W=some (.ok (.enter f av) W):=by intro _;kernel_rfl)(c:Jw s i=true:=by kernel_rfl)(a:(nxt s i undef s.L).o.map Ob.l'=(nxt s i undef s.L).o.map Ob.r':=by kernel_rfl):GG P fn R B T s g w:=di i f av h c a b d
theorem qG(i:Nat)(a:List Tg)(m:List Bool)(h:Calls P f av w C)(p:∀ e w',C e w'->∃ v g',e=.returned v/\Cg w.heap.size a g w g' w'/\(∀ b,w'.heap.size<=b->g'.t b=.z/\g'.k b=0)/\GG P fn R B T (nxt s i v (AA m s.L)).s g' w')(q:∀ W,Cy P s i W=some (.ok (.enter f av) W):=by intro _;kernel_rfl)(j:Jw s i=true:=by kernel_rfl)(c:(nxt s i undef (AA m s.L)).o.map Ob.l'=(nxt s i undef (AA m s.L)).o.map Ob.r':=by kernel_rfl)(d:(AA m s.L).all (λx=>a.all λt=>x.t.ne t)=true:=by kernel_rfl):GG P fn R B T s g w:=Q9 i f av a m q j c d h p
theorem qE(v:Value)(h:Kn B g w s.L->R (.returned v) w)(a:Kn B g w s.L->(results fn s.f.act.tmps).run P w=.ok v w:=by intro _;kernel_rfl)(b:Kp s.K=true:=by kernel_rfl):GG P fn R B T s g w:=QA v b a h
theorem qB{J:Act->World->Prop}{n:Nat}{e:List (Nat × Value)}(m:List Bool){a:List Sh}(h:∀ z,Kn B g w s.L->Kn B g w a->J (⟨n,e,z⟩:Fm).act w)(i:isJ s.K=true:=by kernel_rfl)(b:jK s.K=J:=by kernel_rfl)(j:s.f.n=n:=by kernel_rfl)(d:e.map (λp=>lk s.f.z s.f.e p.1)=e.map (·.2):=by kernel_rfl)(c:Bp (AA m s.L)=a:=by kernel_rfl):GG P fn R B T s g w:=DX J n e m a i b j d c h
theorem Kn.nr(h:Kn B g w L){b:Nat}{d:Array Value}(a:(L[i]?).map (λx=>(x.g,Cf x.o,Dr x.o))=some (b,d,true)):∃ e,w.heap[b]?=some (.cells d e (0,0)):=by
 cases hi:L[i]? with
 | none=>rw[hi]at a;cases a
 | some x =>
  rw[hi]at a
  have f:=(h.row x (iN hi)).1;obtain⟨j,k,q,m⟩:=x;simp only[i8,V',je]at a f;obtain⟨rfl,rfl,c⟩:=a;rw[f];unfold Dr at c;split at c
  .exact⟨_,rfl⟩
  .cases c
theorem FF{a:TypeId}(h:Fl P a=true):∃ d,P.underlying a=some d/\d.isRow=true:=by
 unfold Fl at h;split at h
 .rename_i d hd
  exact⟨d,hd,h⟩
 .cases h
theorem qE1(p:Tmp)(c:TypeId)(i b:Nat)(a:Array Value)(h:Kn B g w s.L->R (.returned (.agg a)) w)(q:(s.L[i]?).map (λx=>(x.g,Cf x.o,Dr x.o))=some (b,a,true):=by kernel_rfl)(j:fn.results=#[.cell p c]:=by kernel_rfl)(l:s.f.act.tmps.getD p undef=pt b 0:=by kernel_rfl)(n:Fl P c=true:=by kernel_rfl)(k:(P.info? c).map (·.size)=some a.size:=by kernel_rfl)(m:Kp s.K=true:=by kernel_rfl):GG P fn R B T s g w :=
 QA _ m (λK=>let ⟨e,he⟩:=K.nr q;let ⟨d,h1,h2⟩:=FF n;XX j _ _ b e a (0,0) d l he h1 (by cases d<;>first|rfl|cases h2) k) h
theorem qE2(p u:Tmp)(c:TypeId)(i b:Nat)(a:Array Value)(v:Value)(h:Kn B g w s.L->R (.returned (.tuple #[.agg a,v])) w)(r:(s.L[i]?).map (λx=>(x.g,Cf x.o,Dr x.o))=some (b,a,true):=by kernel_rfl)(j:fn.results=#[.cell p c,.tmp u]:=by kernel_rfl)(l:s.f.act.tmps.getD p undef=pt b 0:=by kernel_rfl)(q:s.f.act.tmps.getD u undef=v:=by kernel_rfl)(n:Fl P c=true:=by kernel_rfl)(k:(P.info? c).map (·.size)=some a.size:=by kernel_rfl)(m:Kp s.K=true:=by kernel_rfl):GG P fn R B T s g w :=
 QA _ m (λK=>let ⟨e,he⟩:=K.nr r;let ⟨d,h1,h2⟩:=FF n;by rw[<- q];exact SN j _ _ b e a (0,0) d l he h1 (by cases d<;>first|rfl|cases h2) k) h
theorem qE3(p u k:Tmp)(j:TypeId)(i b:Nat)(a:Array Value)(v l:Value)(h:Kn B g w s.L->R (.returned (.tuple #[.agg a,v,l])) w)(z:(s.L[i]?).map (λx=>(x.g,Cf x.o,Dr x.o))=some (b,a,true):=by kernel_rfl)(m:fn.results=#[.cell p j,.tmp u,.tmp k]:=by kernel_rfl)(q:s.f.act.tmps.getD p undef=pt b 0:=by kernel_rfl)(y:s.f.act.tmps.getD u undef=v:=by kernel_rfl)(c:s.f.act.tmps.getD k undef=l:=by kernel_rfl)(t:Fl P j=true:=by kernel_rfl)(n:(P.info? j).map (·.size)=some a.size:=by kernel_rfl)(r:Kp s.K=true:=by kernel_rfl):GG P fn R B T s g w :=
 QA _ r (λK=>let ⟨e,he⟩:=K.nr z;let ⟨d,h1,h2⟩:=FF t;by rw[<- y,<- c];exact fN m _ _ b e a (0,0) d q he h1 (by cases d<;>first|rfl|cases h2) n) h
theorem qE4(p u:Tmp)(t c:TypeId)(i b j l:Nat)(k a:Array Value)(h:Kn B g w s.L->R (.returned (.tuple #[.agg k,.agg a])) w)(D:(s.L[i]?).map (λx=>(x.g,Cf x.o,Dr x.o))=some (b,k,true):=by kernel_rfl)(r:(s.L[j]?).map (λx=>(x.g,Cf x.o,Dr x.o))=some (l,a,true):=by kernel_rfl)(v:fn.results=#[.cell p t,.cell u c]:=by kernel_rfl)(z:s.f.act.tmps.getD p undef=pt b 0:=by kernel_rfl)(n:s.f.act.tmps.getD u undef=pt l 0:=by kernel_rfl)(C:Fl P t=true:=by kernel_rfl)(q:Fl P c=true:=by kernel_rfl)(y:(P.info? t).map (·.size)=some k.size:=by kernel_rfl)(m:(P.info? c).map (·.size)=some a.size:=by kernel_rfl)(A:Kp s.K=true:=by kernel_rfl):GG P fn R B T s g w :=
 QA _ A (λK=>let ⟨e,he⟩:=K.nr D;let ⟨e',he'⟩:=K.nr r;let ⟨d,h1,h2⟩:=FF C;let ⟨d',h3,h4⟩:=FF q;fc v _ _ b l e e' k a (0,0) (0,0) d d' z he h1 (by cases d<;>first|rfl|cases h2) y n he' h3 (by cases d'<;>first|rfl|cases h4) m) h
theorem qE5(p y u:Tmp)(t c:TypeId)(i b j l:Nat)(k a:Array Value)(v:Value)(h:Kn B g w s.L->R (.returned (.tuple #[.agg k,.agg a,v])) w)(G:(s.L[i]?).map (λx=>(x.g,Cf x.o,Dr x.o))=some (b,k,true):=by kernel_rfl)(r:(s.L[j]?).map (λx=>(x.g,Cf x.o,Dr x.o))=some (l,a,true):=by kernel_rfl)(z:fn.results=#[.cell p t,.cell y c,.tmp u]:=by kernel_rfl)(C:s.f.act.tmps.getD p undef=pt b 0:=by kernel_rfl)(n:s.f.act.tmps.getD y undef=pt l 0:=by kernel_rfl)(F:s.f.act.tmps.getD u undef=v:=by kernel_rfl)(E:Fl P t=true:=by kernel_rfl)(q:Fl P c=true:=by kernel_rfl)(A:(P.info? t).map (·.size)=some k.size:=by kernel_rfl)(m:(P.info? c).map (·.size)=some a.size:=by kernel_rfl)(D:Kp s.K=true:=by kernel_rfl):GG P fn R B T s g w :=
 QA _ D (λK=>let ⟨e,he⟩:=K.nr G;let ⟨e',he'⟩:=K.nr r;let ⟨d,h1,h2⟩:=FF E;let ⟨d',h3,h4⟩:=FF q;by rw[<- F];exact fd z _ _ b l e e' k a (0,0) (0,0) d d' C he h1 (by cases d<;>first|rfl|cases h2) A n he' h3 (by cases d'<;>first|rfl|cases h4) m) h
theorem qN(h:NodeAt g w i nb ob x p)(b:GG P fn R B T ⟨s.K,s.f,Bp s.L++[⟨nb,.cells (Az i ob p x) 109,.n 0 i,false⟩]⟩ g w)(a:s.L.all (λy=>(Tg.n 0 i).ne y.t)=true:=by kernel_rfl):GG P fn R B T s g w:=Hf nb _ 0 i h.row h.tag h.mR a b
theorem qO(h:OutAt g w ob lt tl ls ts)(b:GG P fn R B T ⟨s.K,s.f,Bp s.L++[⟨ob,.cells #[lt.v,tl.v] 86,.n 50 0,false⟩]⟩ g w)(a:s.L.all (λy=>(Tg.n 50 0).ne y.t)=true:=by kernel_rfl):GG P fn R B T s g w:=Hf ob _ 50 0 h.row h.tag h.mR a b
theorem qS0(n:Nat)(m:List Bool)(j:Calls P f av w (NP i nb ob g w v p ls ts))(q:∀ g' w' x lt tl,NodeAt g' w' i nb ob x p->OutAt g' w' ob lt tl ls ts->Cg B (TN i) g w g' w'->GG P fn R B T ⟨(nxt s n v (AA m s.L)).s.K,(nxt s n v (AA m s.L)).s.f,Bp (Bp (nxt s n v (AA m s.L)).s.L++[⟨nb,.cells (Az i ob p x) 109,.n 0 i,false⟩])++[⟨ob,.cells #[lt.v,tl.v] 86,.n 50 0,false⟩]⟩ g' w')(r:∀ W,Cy P s n W=some (.ok (.enter f av) W):=by intro _;kernel_rfl)(k:Jw s n=true:=by kernel_rfl)(d:(nxt s n undef (AA m s.L)).o.map Ob.l'=(nxt s n undef (AA m s.L)).o.map Ob.r':=by kernel_rfl)(h:(AA m s.L).all (λx=>(TN i).all λt=>x.t.ne t)=true:=by kernel_rfl)(a:(nxt s n v (AA m s.L)).s.L.all (λy=>(Tg.n 0 i).ne y.t)=true:=by kernel_rfl)(b:∀ x:NX,(Bp (nxt s n v (AA m s.L)).s.L++[(⟨nb,.cells (Az i ob p x) 109,.n 0 i,false⟩:Sh)]).all (λy=>(Tg.n 50 0).ne y.t)=true:=by intro _;kernel_rfl):GG P fn R B T s g w :=
 qG n (TN i) m j (λ_ w' ⟨g',e,M,c⟩=>⟨v,g',e,c,M.new,let ⟨x,lt,tl,hN,hO,_⟩:=M;qN hN (qO hO (q g' w' x lt tl hN hO c.ret) (b x)) a⟩) r k d h
theorem qS(n:Nat)(m:List Bool){h j:S3}{a:List Let}{b:List Tol}(k:NodeAt g0 w0 i nb ob x0 p0)(q:OutAt g0 w0 ob h j a b)(C:Cg B' T' g0 w0 g w)(A:NS i nb ob g w p0 a b->Calls P f av w (NP i nb ob g w v p ls ts))(E:∀ g' w' x lt tl,NodeAt g' w' i nb ob x p->OutAt g' w' ob lt tl ls ts->Cg B (TN i) g w g' w'->GG P fn R B T ⟨(nxt s n v (AA m s.L)).s.K,(nxt s n v (AA m s.L)).s.f,Bp (Bp (nxt s n v (AA m s.L)).s.L++[⟨nb,.cells (Az i ob p x) 109,.n 0 i,false⟩])++[⟨ob,.cells #[lt.v,tl.v] 86,.n 50 0,false⟩]⟩ g' w')(I:Tg.z∉T':=by simp)(F:∀ r,r<6->Tg.n r i∉T':=by simp)(G:∀ r,50<=r->Tg.n r 0∉T':=by simp)(H:∀ W,Cy P s n W=some (.ok (.enter f av) W):=by intro _;kernel_rfl)(D:Jw s n=true:=by kernel_rfl)(e:(nxt s n undef (AA m s.L)).o.map Ob.l'=(nxt s n undef (AA m s.L)).o.map Ob.r':=by kernel_rfl)(u:(AA m s.L).all (λx=>(TN i).all λt=>x.t.ne t)=true:=by kernel_rfl)(c:(nxt s n v (AA m s.L)).s.L.all (λy=>(Tg.n 0 i).ne y.t)=true:=by kernel_rfl)(d:∀ x:NX,(Bp (nxt s n v (AA m s.L)).s.L++[(⟨nb,.cells (Az i ob p x) 109,.n 0 i,false⟩:Sh)]).all (λy=>(Tg.n 50 0).ne y.t)=true:=by intro _;kernel_rfl):GG P fn R B T s g w :=
 Ae λK=>qS0 n m (A (nsC k q C K I F G)) E H D e u c d
theorem qF{a:Gh}{b:World}(d:NodeAt a b i nb ob x p)(e:OutAt a b ob lt tl ls ts)(c:Cg B' T' a b g w)(C:Cg w0.heap.size (TN i) g0 w0 g w)(o:Tg.z∉T':=by simp)(h:∀ r,r<6->Tg.n r i∉T':=by simp)(j:∀ r,50<=r->Tg.n r 0∉T':=by simp)(k:Kn w0.heap.size g w s.L->(results fn s.f.act.tmps).run P w=.ok v w:=by intro _;kernel_rfl)(m:Kp s.K=true:=by kernel_rfl):GG P fn (NP i nb ob g0 w0 v p ls ts) w0.heap.size T s g w :=
 qE v (λK=>⟨_,rfl,nsC d e c K o h j,C⟩) k m
theorem Kn.nd(h:Kn B g w L)(k:Nat)(a:FSl g w x.tape p.d)(c:FSv g w x.kc p.vo.vs)(e:∀ j,j<5->FSv g w (x.hv j) (p.bw.br j).vs)(f:∃ vs,OwnS g w (.n 1 i) true 1 1 x.synced vs/\Pends g w nb vs p.bt)(l:OwnS g w (.n 2 i) false 49 5 x.dW (cmL p.bw.dW))(m:OwnS g w (.n 3 i) true 49 5 x.ae (cmL p.ae))(o:OwnS g w (.n 4 i) false 49 5 x.an (cmL p.an))(r:UN g w i p.cl x.cl)(s:p.up=true->∃ b,x.cl=some b)(t:L[k]?=some ⟨nb,.cells (Az i ob p x) 109,.n 0 i,false⟩:=by kernel_rfl):NodeAt g w i nb ob x p :=
 have q:=h.mN k nb _ 0 i t
 ⟨q.1,q.2.1,q.2.2,a,c,e,f,l,m,o,r,s⟩
theorem Kn.ny{C:Nat}{f:List Tg}(h:Kn B g w L)(k:Nat)(a:NodeAt g0 w0 i nb ob x0 p0)(c:Cg C f g0 w0 g w)(I:L[k]?=some ⟨nb,.cells (Az i ob p x) 109,.n 0 i,false⟩:=by kernel_rfl)(e:Tg.z∉f:=by simp)(b:∀ r,1<=r->r<6->Tg.n r i∉f:=by simp;try omega)(o:x=x0:=by rfl)(s:p.d=p0.d:=by rfl)(t:p.vo.vs=p0.vo.vs:=by rfl)(u:p.bw.br=p0.bw.br:=by rfl)(v:p.bt=p0.bt:=by rfl)(y:p.bw.dW=p0.bw.dW:=by rfl)(A:p.ae=p0.ae:=by rfl)(D:p.an=p0.an:=by rfl)(E:p.cl=p0.cl:=by rfl)(m:p.up=p0.up:=by rfl):NodeAt g w i nb ob x p:=by
 have q:=h.mN k nb _ 0 i I;subst o;obtain⟨vs,F,G⟩:=a.bt;exact⟨q.1,q.2.1,q.2.2,by rw[s];exact a.tape.ch c e,by rw[t];exact a.kc.ch c e,by rw[u];exact λj H=>(a.br j H).ch c e,by rw[v];exact⟨vs,F.ch c (b 1 (by omega) (by omega)) (by simp),G.ch c e⟩,by rw[y];exact a.dW.ch c (b 2 (by omega) (by omega)) (by simp),by rw[A];exact a.ae.ch c (b 3 (by omega) (by omega)) (by simp),by rw[D];exact a.an.ch c (b 4 (by omega) (by omega)) (by simp),by rw[E];exact a.cl.ch c (b 5 (by omega) (by omega)),by rw[m];exact a.mT⟩
theorem Kn.od(h:Kn B g w L)(k:Nat)(a:∃ bs:List Nat,OwnS g w (.n 51 0) false 159 1 lt (bs.map (pt · 0))/\Lets g w bs ls)(b:OwnS g w (.n 52 0) false 115 5 tl (ts.flatMap FI))(c:L[k]?=some ⟨ob,.cells #[lt.v,tl.v] 86,.n 50 0,false⟩:=by kernel_rfl):OutAt g w ob lt tl ls ts :=
 have q:=h.mN k ob _ 50 0 c
 ⟨q.1,q.2.1,q.2.2,a,b⟩
end
end
section
structure RdC(w:World)(x:S3)(l:List Cmd):Prop where
 len:x.n=l.length
 cap:x.n<=x.c
 nm:x.a=none->x.c=0
 ex:l=[]\/∃ b off,x.a=some ⟨b,off,none⟩/\b<w.heap.size/\∀ j u,(cmL l)[j]?=some u->w.cell? ⟨b,off+j,none⟩=some u
variable{b j k off q:Nat}{c:Cmd}{g:Gh}{l:List Cmd}{u:Value}{w:World}{x:S3}
theorem OwnS.rd{τ:Tg}{i:Bool}{e:TypeId}(h:OwnS g w τ i e 5 x (cmL l)):RdC w x l:=by
 have c:=h.num;rcases h.ex with⟨h1,h2,h3⟩|⟨b,cur,h1,h2,h3,h4,h5,h6,h7,h8⟩
 .exact⟨c,by omega,λ_=>h3,.inl (Z' (by omega))⟩
 .refine⟨c,h3,λh=>(by rw[h1]at h;cases h),.inr ⟨b,0,h1,rl h2,λj u f=>?_⟩⟩;obtain⟨k,a,_,d⟩:=h.cell f;rw[h1]at a
  simp only[V',Addr.mk.injEq,and_true]at a;subst a;rw[i5];exact d
theorem RdC.ab{d:World}(h:RdC w x l)(b:Bw w d):RdC d x l :=
 ⟨h.len,h.cap,h.nm,h.ex.imp id λ⟨k,a,e,c,f⟩=>⟨k,a,e,Y' c b.size,λj u g=>(b.cell (p:=⟨k,a+j,none⟩) c).trans (f j u g)⟩⟩
def S3.cut(x:S3)(l h:Nat):S3:=⟨if x.c=l then x.a else x.a.map (·.add (l*5)),h-l,x.c-l⟩
theorem Rc.drop(h:Rc g w x l)(i:k<=l.length):Rc g w (x.cut k x.n) (l.drop k):=by
 have e:=h.len;have f:=h.cap;refine⟨by simp[S3.cut,e],by simp only[S3.cut];omega,λc=>?_,?_⟩
 .simp only[S3.cut]at c ⊢;split at c
  .omega
  .cases ha:x.a with
   | none=>have:=h.nm ha;omega
   | some a=>rw[ha]at c;cases c
 .rcases h.ex with rfl|⟨b,off,h1,h2,h3,h4⟩
  .exact .inl (by simp)
  .by_cases he:k=l.length
   .exact .inl (by rw[he];simp)
   .refine .inr ⟨b,off+k*5,?_,h2,λj u d=>?_,?_⟩
    .simp only[S3.cut];rw[if_neg (by omega),h1];simp only[i8,V'];unfold Addr.add;split
     .rename_i h0;rw[show k=0 by omega];simp
     .simp
    .rw[<- Kh,jj]at d
     have:=h3 _ u d;rw[show off+k*5+j=off+(5*k+j)by omega];exact this
    .rcases h4 with h4|h4
     .exact .inl h4
     .right;rw[iA];omega
theorem Rc.addr(h:Rc g w x l)(c:k<l.length):∃ b off,x.a=some ⟨b,off,none⟩:=by
 rcases h.ex with rfl|⟨b,off,h2,_⟩
 .simp at c
 .exact⟨b,off,h2⟩
theorem Rc.cellAt(h:Rc g w x l)(e:x.a=some ⟨b,off,none⟩)(d:l[j]?=some c)(f:(cmV c)[q]?=some u):w.cell? ⟨b,off+5*j+q,none⟩=some u:=by
 rcases h.ex with rfl|⟨b',off',h1,h2,h3,_⟩
 .cases d
 .rw[e]at h1
  simp only[V',Addr.mk.injEq,and_true]at h1;obtain⟨rfl,rfl⟩:=h1;rw[jg];exact h3 _ u (Ni d f)
theorem RdC.cellAt(h:RdC w x l)(e:x.a=some ⟨b,off,none⟩)(d:l[j]?=some c)(f:(cmV c)[q]?=some u):w.cell? ⟨b,off+5*j+q,none⟩=some u:=by
 rcases h.ex with rfl|⟨b',off',h1,h2,h3⟩
 .cases d
 .rw[e]at h1
  simp only[V',Addr.mk.injEq,and_true]at h1;obtain⟨rfl,rfl⟩:=h1;rw[jg];exact h3 _ u (Ni d f)
theorem RdC.addr(h:RdC w x l)(c:k<l.length):∃ b off,x.a=some ⟨b,off,none⟩:=by
 rcases h.ex with rfl|⟨b,off,h2,_⟩
 .simp at c
 .exact⟨b,off,h2⟩
theorem Vw(l:List Cmd)(k:Nat)(h:(cmL (l.take k))[j]?=some u):(cmL l)[j]?=some u:=by
 have a:cmL l=cmL (l.take k)++cmL (l.drop k):=by rw[<- BO,jp]
 rw[a,iF (O'.1 h).1];exact h
theorem RdC.take(h:RdC w x l)(g:k<=l.length):RdC w (x.cut 0 k) (l.take k):=by
 have i:=h.len;have f:=h.cap;have c:(x.cut 0 k).a=x.a:=by
  simp only[S3.cut];split
  .rfl
  .cases x.a with
   | none=>rfl
   | some a=>simp[Addr.add]
 refine⟨by simp[S3.cut];omega,by simp only[S3.cut];omega,λd=>?_,?_⟩
 .rw[c]at d
  have:=h.nm d;simp only[S3.cut];omega
 .rcases h.ex with rfl|⟨b,off,h1,h2,h3⟩
  .exact .inl (by simp)
  .exact .inr ⟨b,off,by rw[c];exact h1,h2,λj u e=>h3 j u (Vw l k e)⟩
end
section
variable{W:World}
section
theorem sz5:(Go.sizeOf (prog.elem 35)).run prog W=.ok 5 W:=by kernel_rfl
theorem unC:prog.underlying 35=some (.slice (prog.elem 35)):=by kernel_rfl
theorem dY(x:S3)(k:Nat)(a:k<=x.n):(Instr.sliceAt 35 x.v (some (iv (k:Int))) none none).run prog W=.ok (S3.v (x.cut k x.n)) W:=by
 rw[run_sliceAt_slice _ _ _ _ _ _ unC,run_slice_l (P:=prog) (w:=W) _ _ _ _ unC .i64 k (by omega) (by omega),sz5];simp[Result.andThen,sliced,S3.cut]
theorem gg(x:S3)(k:Nat)(a:k<=x.c):(Instr.sliceAt 35 x.v none (some (iv (k:Int))) none).run prog W=.ok (S3.v (x.cut 0 k)) W:=by
 rw[run_sliceAt_slice _ _ _ _ _ _ unC,run_slice_h (P:=prog) (w:=W) _ _ _ _ unC .i64 k (by omega) (by omega),sz5];simp[Result.andThen,sliced,S3.cut]
variable{b k off:Nat}{x:S3}{y:Operand}
theorem gd(d:x.a=some ⟨b,off,none⟩)(k:Nat)(f:k<x.n)(e:x.n<=x.c):(Instr.sliceAt 35 x.v (some (iv (k:Int))) none none).run prog W=.ok (.slice (some ⟨b,off+5*k,none⟩) (x.n-k) (x.c-k)) W:=by
 rw[dY x k (by omega)];unfold S3.v S3.cut;simp only;rw[if_neg (by omega),d];simp only[i8,Addr.add];split
 .rename_i h0;rw[show k=0 by omega];rfl
 .simp only[kr]
theorem gi{P:Program}{x:Operand}(a b:Nat)(c:P.underlying 3=some (.int .i64))(h:b<=a)(d:a<4611686018427387904):(do Go.eqGuard .sub 3 x y (iv (a:Int)) (iv (b:Int));Go.binOp .sub 3 (iv (a:Int)) (iv (b:Int)):Sem Value).run P W=.ok (iv ((a-b:Nat):Int)) W:=by
 rw[gh _ _ c (by omega)]
 congr 3
 omega
theorem fI{g:Gh}{l:List Cmd}(e:x.a=some ⟨b,off,none⟩)(h:Rc g W x l)(k:Nat)(f:k<l.length):∀ j u,(cmL (l.drop k))[j]?=some u->W.cell? ((⟨b,off+5*k,none⟩:Addr).add j)=some u:=by
 intro j u d;rcases h.ex with rfl|⟨b',off',h1,h2,h3,h4⟩
 .simp at f
 .rw[e]at h1
  simp only[V',Addr.mk.injEq,and_true]at h1;obtain⟨rfl,rfl⟩:=h1;rw[<- Kh,jj]at d
  have:=h3 _ u d;have c:(⟨b,off+5*k,none⟩:Addr).add j=⟨b,off+5*k+j,none⟩:=by unfold Addr.add;split<;>simp_all
  rw[c,show off+5*k+j=off+(5*k+j)by omega];exact this
theorem MD(c:x.a=some ⟨b,off,none⟩)(j:Nat)(d:j<x.n):(Instr.indexAt 35 x.v (iv (j:Int))).run prog W=.ok (pt b (off+5*j)) W:=by
 unfold S3.v;rw[c];exact KT (P:=prog) (e:=49) (z:=5) underlying35 (by kernel_rfl) (by kernel_rfl) d _ rfl
theorem Um(c:Cmd)(h:∀ j u,(cmV c)[j]?=some u->W.cell? ⟨b,k+j,none⟩=some u):(Instr.loadAt 49 (pt b k)).run prog W=.ok (.agg #[iv c.k,iv c.c,iv c.s,iv c.n,iv c.v]) W:=by
 have a:=run_loadVar_mid (P:=prog) W b k 49 (cmV c) _ (λj u d=>h j u d) underlying49 rfl (by kernel_rfl);simp only[Instr.loadAt,Instr.sureAddr,Sem.run_bind,Sem.run_pure,Result.andThen_ok];exact a
theorem SH(c:x.a=some ⟨b,off,none⟩)(j:Nat)(d:j<x.n):(Instr.indexAt 95 x.v (iv (j:Int))).run prog W=.ok (pt b (off+8*j)) W:=by
 unfold S3.v;rw[c];exact KT (P:=prog) (e:=156) (z:=8) underlying95 (by kernel_rfl) (by kernel_rfl) d _ rfl
theorem ah(v:Vt)(h:W.rangeAt b k (vtC v)):(Instr.loadAt 156 (pt b k)).run prog W=.ok (.agg #[iv v.au,iv v.b.r,iv v.b.n,iv v.w.k,iv v.w.c,iv v.w.s,iv v.w.n,iv v.w.v]) W:=by
 have a:=run_loadVar_mid (P:=prog) W b k 156 (vtC v) _ h underlying156 rfl (by kernel_rfl);simp only[Instr.loadAt,Instr.sureAddr,Sem.run_bind,Sem.run_pure,Result.andThen_ok];exact a
theorem eG(u v:Vt):decide (u.au=v.au/\u.b.r=v.b.r/\u.b.n=v.b.n/\u.w.k=v.w.k/\u.w.c=v.w.c/\u.w.s=v.w.s/\u.w.n=v.w.n/\u.w.v=v.w.v)=decide (u=v):=by
 apply jf.2;constructor
 .rintro⟨a1,a2,a3,a4,a5,a6,a7,a8⟩;exact(Vt.eq_iff u v).1 ⟨a1,(Bal.eq_iff _ _).1 ⟨a2,a3⟩,(Cmd.eq_iff _ _).1 ⟨a4,a5,a6,a7,a8⟩⟩
 .rintro rfl;exact⟨rfl,rfl,rfl,rfl,rfl,rfl,rfl,rfl⟩
theorem fR{x:Operand}(a b:Vt):(do Go.eqGuard .eql 156 x y (.agg #[iv a.au,iv a.b.r,iv a.b.n,iv a.w.k,iv a.w.c,iv a.w.s,iv a.w.n,iv a.w.v]) (.agg #[iv b.au,iv b.b.r,iv b.b.n,iv b.w.k,iv b.w.c,iv b.w.s,iv b.w.n,iv b.w.v]);Go.binOp .eql 156 (.agg #[iv a.au,iv a.b.r,iv a.b.n,iv a.w.k,iv a.w.c,iv a.w.s,iv a.w.n,iv a.w.v]) (.agg #[iv b.au,iv b.b.r,iv b.b.n,iv b.w.k,iv b.w.c,iv b.w.s,iv b.w.n,iv b.w.v]):Sem Value).run prog W=.ok (.bool (decide (a=b))) W:=by
 have d:=VN a.au a.b.r a.b.n a.w.k a.w.c a.w.s a.w.n a.w.v b.au b.b.r b.b.n b.w.k b.w.c b.w.s b.w.n b.w.v W;rw[eG]at d
 have e:(Go.eqGuard .eql 156 x y (.agg #[iv a.au,iv a.b.r,iv a.b.n,iv a.w.k,iv a.w.c,iv a.w.s,iv a.w.n,iv a.w.v]) (.agg #[iv b.au,iv b.b.r,iv b.b.n,iv b.w.k,iv b.w.c,iv b.w.s,iv b.w.n,iv b.w.v])).run prog W=.ok () W:=by kernel_rfl
 rw[Sem.run_bind,e,Result.andThen_ok];exact d
end
end
section
variable{B sz:Nat}{P:Program}{T:List Tg}{W w w':World}{e:TypeId}{g g':Gh}{l:List Cmd}{vs:List Value}{x:S3}
theorem Ci{ty:TypeId}{c:TypeDesc}{b k:Nat}{v:Value}(g:prog.underlying ty=some c)(d:c.isRow=false)(e:W.cell? ⟨b,k,none⟩=some v):(Instr.loadAt ty (pt b k)).run prog W=.ok v W:=by
 have a:(isAgg ty).run prog W=.ok false W:=by
  unfold isAgg;rw[Sem.run_bind,run_underlying g W];cases c<;>first|rfl|(simp only[TypeDesc.isRow]at d;cases d)
 have f:(loadVar ty ⟨b,k,none⟩).run prog W=.ok v W:=by simp[loadVar,a,e,go_sem]
 simp only[Instr.loadAt,Instr.sureAddr,Sem.run_bind,Sem.run_pure,Result.andThen_ok,f]
theorem Kn.nK{L:List Sh}(h:Kn B g w L)(k b:Nat)(o:Obj)(r i:Nat)(v:Bool)(c:L[k]?=some ⟨b,o,.n r i,v⟩):w.heap[b]?=some o/\g.t b=.n r i/\g.k b=0 :=
 have a:=h.row _ (iN c)
 ⟨a.1,a.2.1,a.2.2.2 (by simp)⟩
structure RdV(w:World)(x:S3)(sz:Nat)(vs:List Value):Prop where
 len:vs.length=x.n*sz
 cap:x.n<=x.c
 nm:x.a=none->x.c=0
 ex:x.n=0\/∃ b off,x.a=some ⟨b,off,none⟩/\b<w.heap.size/\∀ j u,vs[j]?=some u->w.cell? ⟨b,off+j,none⟩=some u
theorem RdC.rv(h:RdC w x l):RdV w x 5 (cmL l) :=
 ⟨by rw[Bn,h.len],h.cap,h.nm,h.ex.imp (λe=>by rw[h.len,e];rfl) id⟩
theorem RdV.rc(h:RdV w x 5 (cmL l)):RdC w x l :=
 have a:x.n=l.length:=by have:=h.len;rw[Bn]at this;omega
 ⟨a,h.cap,h.nm,h.ex.imp (λe=>Z' (by omega)) id⟩
theorem RdV.ab(h:RdV w x sz vs)(b:Bw w w'):RdV w' x sz vs :=
 ⟨h.len,h.cap,h.nm,h.ex.imp id λ⟨k,a,d,c,e⟩=>⟨k,a,d,Y' c b.size,λj u f=>(b.cell (p:=⟨k,a+j,none⟩) c).trans (e j u f)⟩⟩
theorem OwnS.rv{τ:Tg}{f:Bool}(h:OwnS g w τ f e sz x vs):RdV w x sz vs:=by
 rcases h.ex with⟨h1,h2,h3⟩|⟨b,cur,h1,h2,h3,h4,h5,h6,h7,h8⟩
 .exact⟨h.len,by omega,λ_=>h3,.inl h2⟩
 .refine⟨h.len,h3,λh=>(by rw[h1]at h;cases h),.inr ⟨b,0,h1,rl h2,λj u d=>?_⟩⟩;obtain⟨i,a,_,c⟩:=h.cell d;rw[h1]at a
  simp only[V',Addr.mk.injEq,and_true]at a;subst a;rw[i5];exact c
theorem ai{t:TypeId}{x y:Operand}{z:S3}{b:Bool}(f:z.a.isNone=b)(h:P.underlying t=some (.slice e))(g:(Go.eqGuard .eql t x y z.v (.slice none 0 0)).run P W=.ok () W):(do Go.eqGuard .eql t x y z.v (.slice none 0 0);Go.binOp .eql t z.v (.slice none 0 0):Sem Value).run P W=.ok (.bool b) W:=by
 subst f;rw[Sem.run_bind,g,Result.andThen_ok];have d:=run_equal_slice_nil (P:=P) (w:=W) t e z.a z.n z.c h;simp only[S3.v,binOp,Sem.run_bind,d,Result.andThen_ok];rfl
theorem bP(t h e:TypeId)(i:TypeInfo)(g:P.underlying t=some (.slice e))(f:P.info? e=some i)(b:Nat)(a:Addr)(c:Nat):(Builtin.append_ #[t,t] h #[.slice (some ⟨b,0,none⟩) 0 0,.slice (some a) 0 c]).run P W=.ok (.slice (some ⟨b,0,none⟩) 0 0) W:=by
 have d:=run_firstCells_some (P:=P) W i.size 0 a 0 c [] (by simp) (by simp);simp[Builtin.append_,run_underlying g,sizeOf,typeInfo,f,Builtin.lenOf,d,storeCells]
structure FzV(g:Gh)(w:World)(x:S3)(sz:Nat)(vs:List Value):Prop where
 rd:RdV w x sz vs
 z:vs≠[]->Frz g x
theorem FzV.ch(h:FzV g w x sz vs)(c:Cg B T g w g' w')(v:Tg.z∉T:=by simp):FzV g' w' x sz vs:=by
 obtain⟨⟨k,q,r,i⟩,s⟩:=h;by_cases p:vs=[]
 .subst p;exact⟨⟨k,q,r,i.imp id λ⟨b,d,e,f,_⟩=>⟨b,d,e,Y' f c.size,λj u o=>(by cases o)⟩⟩,λh=>absurd rfl h⟩
 .rcases i with i|⟨b,d,e,f,e3⟩
  .exact absurd (Z' (by rw[k,i,lZ])) p
  .have hb:g.t b=.z:=s p _ e;refine⟨⟨k,q,r,.inr ⟨b,d,e,Y' f c.size,λj u o=>?_⟩⟩,λ_ a m=>?_⟩
   .rw[World.cell?_of_block (w:=w) (c.zc v f hb)];exact e3 j u o
   .rw[e]at m;simp only[V']at m;subst m
    rw[c.tag f (by rw[hb];intro h;cases h)];exact hb
structure Fa where
 ro:Option Nat
 p:Gh->World->Prop
 st:∀ {B:Nat} {T:List Tg} {g g':Gh} {w w':World},Tg.z∉T->(∀ r,ro=some r->Tg.n 60 r∉T)->Cg B T g w g' w'->p g w->p g' w'
@[reducible] def AllF (g:Gh) (w:World):List Fa->Prop
 | []=>True
 | f::l=>f.p g w/\AllF g w l
variable{Φ:List Fa}
theorem AllF.ch(h:AllF g w Φ)(c:Cg B T g w g' w')(d:Tg.z∉T:=by simp)(a:∀ f∈Φ,∀ r,f.ro=some r->Tg.n 60 r∉T):AllF g' w' Φ:=by
 induction Φ with
 | nil=>trivial
 | cons f l ih=>exact⟨f.st d (a f U') c h.1,ih h.2 λf b=>a f (Q' _ b)⟩
theorem AllF.mr(h:AllF g w Φ)(c:Cg B [] g w g' w'):AllF g' w' Φ:=h.ch c M' λ_ _ _ _=>M'
def Fa.zv(x:S3)(sz:Nat)(vs:List Value):Fa:=⟨none,λg w=>FzV g w x sz vs,λhz _ c h=>h.ch c hz⟩
def Fa.sl(x:S3)(l:List Int):Fa:=⟨none,λg w=>FSl g w x l,λhz _ c h=>h.ch c hz⟩
def Fa.ow(r:Nat)(e:TypeId)(sz:Nat)(x:S3)(vs:List Value):Fa:=⟨some r,λg w=>OwnS g w (.n 60 r) true e sz x vs,λ_ hr c h=>h.ch c (hr r rfl) (by simp)⟩
def TQ:List Tg:=[.n 60 0,.n 60 1,.n 60 2,.n 60 3]
theorem gO:Tg.z∉TQ:=by simp[TQ]
end
section
variable{P:Program}{fn:Func}{R:Ending->World->Prop}{w0:World}{Φ:List Fa}{g:Gh}{w:World}
section
structure GT(P:Program)(fn:Func)(R:Ending->World->Prop)(w0:World)(Φ:List Fa)(s:Xs)(g:Gh)(w:World):Prop where
 ex:AllF g w Φ->Cg w0.heap.size TQ gS w0 g w->GG P fn R w0.heap.size TQ s g w
theorem CgQ.ab(c:Cg w0.heap.size TQ gS w0 g w):Bw w0 w:=Cg.ab c λ_ _=>gO
variable{J:Act->World->Prop}{L':List Sh}{S:Sem Value}{av:Array Value}{e:List (Nat × Value)}{f:FuncId}{n:Nat}{s:Xs}{Φ':List Fa}
theorem tIn{a:Array Value}(Φ:List Fa)(e:P.funcs[f]?=some fn)(b:AllF gS w0 Φ)(h:GT P fn R w0 Φ ⟨[.c (Oj fn)],⟨fn.ntmps,Nc 0 a.toList,λ_=>undef⟩,[]⟩ gS w0)(d:fn.body.isSome=true:=by kernel_rfl)(g:Nat.ble a.size fn.ntmps=true:=by kernel_rfl):Calls P f a w0 R :=
 gIn TQ gS e d g (λ_ _=>⟨rfl,rfl⟩) (h.ex b (Cg.refl _ _ _ _))
theorem tX(h:AllF g w Φ->Cg w0.heap.size TQ gS w0 g w->GG P fn R w0.heap.size TQ s g w):GT P fn R w0 Φ s g w:=⟨h⟩
theorem tF(h:AllF g w Φ->Cg w0.heap.size TQ gS w0 g w->GT P fn R w0 Φ s g w):GT P fn R w0 Φ s g w:=⟨λF C=>(h F C).ex F C⟩
theorem tCv(Ψ:List Fa)(a:AllF g w Φ->AllF g w Ψ)(h:GT P fn R w0 Ψ s g w):GT P fn R w0 Φ s g w:=⟨λF C=>h.ex (a F) C⟩
theorem tR(m:Nat)(h:List Nat)(b:∀ gs g' w',GT P fn R w0 Φ (rn0 P [] gs m s h).s g' w')(a:∀ gs,(rn0 P [] gs m s h).o.map Ob.l'=(rn0 P [] gs m s h).o.map Ob.r':=by intro _;kernel_rfl):GT P fn R w0 Φ s g w :=
 ⟨λF C=>Ze [] m h a λgs g' w' c=>(b gs g' w').ex (F.mr c) (C.n c)⟩
theorem tV(i:Nat)(v:Value)(c:AllF g w Φ->Cg w0.heap.size TQ gS w0 g w->S.run P w=.ok v w)(b:GT P fn R w0 Φ (nxt s i v s.L).s g w)(d:CP s i=some (S>>=λv=>pure (.value v)):=by kernel_rfl)(a:(nxt s i undef s.L).o.map Ob.l'=(nxt s i undef s.L).o.map Ob.r':=by kernel_rfl):GT P fn R w0 Φ s g w:=⟨λF C=>qV i v (c F C) (b.ex F C) d a⟩
theorem tT(i:Nat)(v:Value)(c:∀ W,S.run P W=.ok v W)(b:GT P fn R w0 Φ (tkN s i v false).s g w)(d:CP s i=some (S>>=λv=>pure (.value v)):=by kernel_rfl)(a:(tkN s i undef false).o.map Ob.l'=(tkN s i undef false).o.map Ob.r':=by kernel_rfl):GT P fn R w0 Φ s g w:=⟨λF C=>qT i v c (b.ex F C) d a⟩
theorem tI(b t:Bool)(a:b=t)(h:GT P fn R w0 Φ (Kk s t) g w)(c:O2 s=.bool b:=by kernel_rfl):GT P fn R w0 Φ s g w:=⟨λF C=>qI b t a (h.ex F C) c⟩
theorem tC(i:Nat){K:Ending->World->Prop}(j:AllF g w Φ->Cg w0.heap.size TQ gS w0 g w->Calls P f av w K)(l:(∀ b,w.heap.size<=b->g.t b=.z)->∀ e w',K e w'->∃ v Ψ,e=.returned v/\Bw w w'/\(AllF g w' Φ->AllF g w' Ψ)/\GT P fn R w0 Ψ (nxt s i v s.L).s g w')(m:∀ W,Cy P s i W=some (.ok (.enter f av) W):=by intro _;kernel_rfl)(k:Jw s i=true:=by kernel_rfl)(a:(nxt s i undef s.L).o.map Ob.l'=(nxt s i undef s.L).o.map Ob.r':=by kernel_rfl):GT P fn R w0 Φ s g w :=
 ⟨λF C=>Ae λc=>qC i (j F C) (λe w' h=>let ⟨v,Ψ,h1,h2,h3,h4⟩:=l (λb d=>(c.new b d).1) e w' h;⟨v,h1,h2,h4.ex (h3 (F.mr (Cg.bu (B:=w0.heap.size) h2))) (C.trans (Cg.bu h2))⟩) m k a⟩
theorem tC1(i:Nat){v:Value}(b:AllF g w Φ->Cg w0.heap.size TQ gS w0 g w->Calls P f av w λe w'=>e=.returned v/\Bw w w')(d:∀ w',GT P fn R w0 Φ (nxt s i v s.L).s g w')(j:∀ W,Cy P s i W=some (.ok (.enter f av) W):=by intro _;kernel_rfl)(c:Jw s i=true:=by kernel_rfl)(a:(nxt s i undef s.L).o.map Ob.l'=(nxt s i undef s.L).o.map Ob.r':=by kernel_rfl):GT P fn R w0 Φ s g w:=tC i b (λ_ e w' h=>⟨v,Φ,h.1,h.2,id,d w'⟩) j c a
theorem tE(v:Value)(h:AllF g w Φ->Bw w0 w->R (.returned v) w)(a:Kn w0.heap.size g w s.L->(results fn s.f.act.tmps).run P w=.ok v w:=by intro _;kernel_rfl)(b:Kp s.K=true:=by kernel_rfl):GT P fn R w0 Φ s g w:=⟨λF C=>qE v (λ_=>h F (CgQ.ab C)) a b⟩
def JT(P:Program)(w0:World)(n:Nat)(Inv:Nat->List (Nat × Value)->List Sh->List Fa->Prop)(k:Nat)(J:Act->World->Prop):Prop:=∀ k' e' L' Φ' g' w' z',k'<k->Inv k' e' L' Φ'->AllF g' w' Φ'->Cg w0.heap.size TQ gS w0 g' w'->Kn w0.heap.size g' w' L'->J (⟨n,e',z'⟩:Fm).act w'
theorem Dp(n:Nat)(d:List (Nat × Value))(m:List Bool)(o:List Sh)(c:List Fa)(a:Nat->List (Nat × Value)->List Sh->List Fa->Prop)(x:Nat)(E:a x d o c)(t:AllF g w Φ->AllF g w c)(b:∀ k e L Φ,a k e L Φ->∀ z g w J,JT P w0 n a k J->GT P fn R w0 Φ (aw s n J e z L) g w)(O:QL s.K=true:=by kernel_rfl)(Q:s.f.n=n:=by kernel_rfl)(M:d.map (λp=>lk s.f.z s.f.e p.1)=d.map (·.2):=by kernel_rfl)(I:Bp (AA m s.L)=o:=by kernel_rfl):GT P fn R w0 Φ s g w :=
 ⟨λF C=>BD n d m o (λk h i e L=>∃ Ψ,a k e L Ψ/\AllF h i Ψ/\Cg w0.heap.size TQ gS w0 h i) O Q M I x (λ_=>⟨c,E,t F,C⟩) λk h i e z L ⟨Ψ,G,A,y⟩ J H=>(b k e L Ψ G z h i J λS D B v q u T N r l j K=>H S q u D T B N ⟨v,r,l,j⟩ K).ex A y⟩
theorem tB{k:Nat}{a:Nat->List (Nat × Value)->List Sh->List Fa->Prop}(h:JT P w0 n a k J)(c:Nat)(q:c<k)(m:List Bool)(d:a c e L' Φ')(b:AllF g w Φ->AllF g w Φ')(l:isJ s.K=true:=by kernel_rfl)(o:jK s.K=J:=by kernel_rfl)(r:s.f.n=n:=by kernel_rfl)(j:e.map (λp=>lk s.f.z s.f.e p.1)=e.map (·.2):=by kernel_rfl)(i:Bp (AA m s.L)=L':=by kernel_rfl):GT P fn R w0 Φ s g w :=
 ⟨λF C=>qB m (λz _ K=>h c e L' Φ' g w z q d (b F) C K) l o r j i⟩
def JC(P:Program)(w0:World)(n:Nat)(Inv:List (Nat × Value)->List Sh->List Fa->Prop)(J:Act->World->Prop):Prop:=∀ e' L' Φ' g' w' z',Inv e' L' Φ'->AllF g' w' Φ'->Cg w0.heap.size TQ gS w0 g' w'->Kn w0.heap.size g' w' L'->J (⟨n,e',z'⟩:Fm).act w'
theorem Ia(n:Nat)(a:List (Nat × Value)->List Sh->List Fa->Prop)(l:∀ J,JC P w0 n a J->GT P fn R w0 Φ (V0 s J) g w)(m:∀ e L Φ,a e L Φ->∀ z g w,GT P fn R w0 Φ ⟨s.K.tail,⟨n,e,z⟩,L⟩ g w)(p:s.K.isEmpty=false:=by kernel_rfl):GT P fn R w0 Φ s g w :=
 ⟨λF C=>BK n (λb c e L=>∃ Ψ,a e L Ψ/\AllF b c Ψ/\Cg w0.heap.size TQ gS w0 b c) p (λJ o=>(l J λk j i b c q h f d K=>o b c k q j ⟨i,h,f,d⟩ K).ex F C) λb c e z L ⟨Ψ,h,f,d⟩=>(m e L Ψ h z b c).ex f d⟩
theorem tD{a:List (Nat × Value)->List Sh->List Fa->Prop}(d:JC P w0 n a J)(m:List Bool)(c:a e L' Φ')(b:AllF g w Φ->AllF g w Φ')(j:isJ s.K=true:=by kernel_rfl)(k:jK s.K=J:=by kernel_rfl)(l:s.f.n=n:=by kernel_rfl)(i:e.map (λp=>lk s.f.z s.f.e p.1)=e.map (·.2):=by kernel_rfl)(h:Bp (AA m s.L)=L':=by kernel_rfl):GT P fn R w0 Φ s g w :=
 ⟨λF C=>qB m (λz _ K=>d e L' Φ' g w z c (b F) C K) j k l i h⟩
theorem NR(i j:Nat)(a:GT P fn R w0 Φ (II s i) g w)(b:GT P fn R w0 Φ (II s j) g w)(c:aT s i j=true:=by kernel_rfl):GT P fn R w0 Φ s g w:=⟨λF C=>CH i j c (a.ex F C) (b.ex F C)⟩
theorem LY(i:Nat)(r:Nat){x:S3}{xs:List Value}(t Q e:TypeId)(A d:Nat)(z:Value)(a:Addr)(m c:Nat)(b:List Value)(hx:AllF g w Φ->OwnS g w (.n 60 r) true e A x xs)(Ψ:List Fa)(N:AllF g w Φ->AllF g w Ψ)(J:Ψ.all (λf=>f.ro != some r)=true)(I:Tg.n 60 r∈TQ)(Y:b.length=m*A)(S:∀ u∈b,u.oneCell'=true)(p:AllF g w Φ->Kn w0.heap.size g w s.L->∀ j u,b[j]?=some u->w.cell? (a.add j)=some u)(E:x.n+m<=maxLen)(h:(x.n+m)*d<=140737488355328)(X:∀ x' g' w',x'.n=x.n+m->GT P fn R w0 (Fa.ow r e A x' (xs++b)::Ψ) (nxt s i (S3.v x') s.L).s g' w')(G:0<m:=by decide)(K:0<A:=by decide)(ht:P.underlying t=some (.slice e):=by kernel_rfl)(k:(P.info? e).map (λi=>(i.zero,i.size,i.bytes))=some (some z,A,d):=by kernel_rfl)(M:Nat.beq z.cells.size A=true:=by kernel_rfl)(B:CP s i=some (Builtin.append_ #[t,t] Q #[x.v,.slice (some a) m c]>>=λv=>pure (.value v)):=by kernel_rfl)(H:(nxt s i undef s.L).o.map Ob.l'=(nxt s i undef s.L).o.map Ob.r':=by kernel_rfl)(V:s.L.all (λy=>[Tg.n 60 r].all λt=>y.t.ne t)=true:=by kernel_rfl):GT P fn R w0 Φ s g w:=by
 refine⟨λF C=>Jx i t Q e A d z a m c b (hx F) B H V ht k M K G Y S (p F) E h λx' g' w' U Z O hG=>?_⟩;refine(X x' g' w' Z).ex ⟨U,(N F).ch (O w0.heap.size [.n 60 r] (N'.2 rfl)) (by simp) λf W q hq G=>?_⟩ (C.trans (O _ _ I));have D:=js.1 J f W;rw[hq]at D
 have T:q=r:=by simpa using G
 rw[T]at D
 simp at D
end
end
end
section
section
structure Plc(l:List Vt)(s:Int)(p:Nat):Prop where
 le:p<=l.length
 lo:∀ (i:Nat) (v:Vt),i<p->l[i]?=some v->v.au<s
 hi:∀ (i:Nat) (v:Vt),p<=i->l[i]?=some v->s<=v.au
theorem Mv(a b:List Vt)(v:Vt)(h:∀ u∈a,u.au<v.au):Ba (a++b) v=a++Ba b v:=by
 induction a with
 | nil=>rfl
 | cons x a ih =>
  show Ba (x::(a++b)) v=x::(a++Ba b v);rw[Ba,if_pos (h x U'),ih (λu c=>h u (Q' _ c))]
variable{i j m p:Nat}{l:List Vt}{s:Int}{u v x:Vt}
theorem Plc.front(h:Plc l s p):∀ u∈l.take p,u.au<s:=by
 intro u b;obtain⟨i,a⟩:=jq.1 b;rw[jk]at a
 split at a
 .rename_i hip;exact h.lo i u hip a
 .cases a
theorem Plc.has(h:Plc l v.au p)(f:l[p]?=some u)(c:u.au=v.au):Ba l v=l.take p++(v::l.drop (p+1)):=by
 obtain⟨d,e⟩:=O'.1 f;have b:l.drop p=u::l.drop (p+1):=by rw[<- e];exact jc d
 have a:=Mv (l.take p) (l.drop p) v h.front;rw[jp]at a
 rw[a,b,Ba,if_neg (by omega),if_pos c]
theorem Plc.no(h:Plc l v.au p)(c:∀ u,l[p]?=some u->u.au≠v.au):Ba l v=l.take p++(v::l.drop p):=by
 have a:=Mv (l.take p) (l.drop p) v h.front;rw[jp]at a
 rw[a];rcases ja p l.length with hp|hp
 .have hd:l.drop p=l[p]::l.drop (p+1):=jc hp;have d:=h.hi p l[p] (A' _) (E' hp);have b:=c l[p] (E' hp);rw[hd,Ba,if_neg (by omega),if_neg b]
 .rw[jd hp,Ba]
theorem Plc.mV(d:B2 l)(e:l[p]?=some u)(c:u.au=s):Al l s=[u]:=by
 have b:=I3 d s;have a:u∈Al l s:=Cu.2 ⟨jq.2 ⟨p,e⟩,c⟩
 match hl:Al l s with
 | []=>rw[hl]at a;cases a
 | [x]=>rw[hl]at a;rw[N'.1 a]
 | x::y::r=>rw[hl]at b;simp at b
theorem Plc.mO(b:B2 l)(h:Plc l s p)(f:∀ u,l[p]?=some u->u.au≠s):Al l s=[]:=by
 rw[List.eq_nil_iff_forall_not_mem];intro u a;obtain⟨a,e⟩:=Cu.1 a;obtain⟨i,c⟩:=jq.1 a;rcases kL i p with hip|rfl|hip
 .have:=h.lo i u hip c;omega
 .exact f u c e
 .have hip':i<l.length:=(O'.1 c).1;have d:p<l.length:=by omega
  have g:=h.hi p l[p] (A' _) (E' d);have k:=rise_lt b hip (E' d) c;omega
where
 rise_lt:∀ {l:List Vt} (b:B2 l) {i j:Nat} (hij:i<j) {u v:Vt} (a:l[i]?=some u) (hv:l[j]?=some v),u.au<v.au
  | x::xs,b,0,j+1,_,u,v,a,hv=>by
   simp at a hv;subst a;exact b.1 v (jq.2 ⟨j,hv⟩)
  | x::xs,b,i+1,j+1,hij,u,v,a,hv=>rise_lt (l:=xs) b.2 (i:=i) (j:=j) (by omega) (by simpa using a) (by simpa using hv)
  | [],_,i,j,_,u,v,a,hv=>by simp at a
theorem B2.get(b:B2 l)(a:i<j)(c:l[i]?=some u)(d:l[j]?=some v):u.au<v.au:=Plc.mO.rise_lt b a c d
theorem Plc.half(b:B2 l){h:Nat}(a:l[h]?=some u)(d:∀ (k:Nat) (v:Vt),k<i->l[k]?=some v->v.au<s)(c:∀ (k:Nat) (v:Vt),j<=k->l[k]?=some v->s<=v.au) :
  (u.au<s->∀ (k:Nat) (v:Vt),k<h+1->l[k]?=some v->v.au<s)/\(s<=u.au->∀ (k:Nat) (v:Vt),h<=k->l[k]?=some v->s<=v.au):=by
 constructor
 .intro g k v hk hv;rcases ja k h with hkh|hkh
  .have:=b.get hkh hv a;omega
  .obtain rfl:k=h:=by omega
   rw[a]at hv;cases hv;exact g
 .intro g k v hk hv;rcases ja h k with hkh|hkh
  .have:=b.get hkh a hv;omega
  .obtain rfl:k=h:=by omega
   rw[a]at hv;cases hv;exact g
def OZ(o:Option Vt)(v:Vt):Option Vt:=match o with
 | none=>some v
 | some u=>if u.b.lt v.b then some v else some u
theorem Qd(l:List Vt)(v:Vt)(o:Option Vt):Cl (l++[v]) o=OZ (Cl l o) v:=by
 induction l generalizing o with
 | nil =>
  cases o with
  | none=>rfl
  | some u =>
   show Cl [v] (some u)=OZ (some u) v;rw[Cl,OZ];split<;>rfl
 | cons x l ih =>
  cases o with
  | none=>exact ih _
  | some u =>
   show Cl (x::(l++[v])) (some u)=OZ (Cl (x::l) (some u)) v;rw[Cl,Cl];split
   .exact ih _
   .exact ih _
def vt0:Vt:=⟨0,⟨0,0⟩,⟨0,0,0,0,0⟩⟩
def Eu(o:Option Vt)(x:Vt):Prop:=(o=none/\x=vt0)\/(o=some x/\Ad x.b)
theorem Eu.next{o:Option Vt}(h:Eu o x)(a:Ad v.b):Eu (OZ o v) (if x.b.lt v.b then v else x):=by
 rcases h with⟨rfl,rfl⟩|⟨rfl,hx⟩
 .rw[if_pos (by unfold Ad at a;unfold Bal.lt;simp[vt0];omega)];exact .inr ⟨rfl,a⟩
 .show Eu (if x.b.lt v.b then some v else some x) _;split
  .exact .inr ⟨rfl,a⟩
  .exact .inr ⟨rfl,hx⟩
theorem Eu.pick{a:List (List Vt)}(d:0<=s/\s<=39)(c:∀ l∈a,∀ v∈l,Ai v)(h:Eu (KM a s) x):(if CN a s=0 then((KM a s).map (·.w)).getD ⟨0,0,0,0,0⟩else⟨0,0,0,0,0⟩)=x.w/\(if CN a s=0 then(KM a s).isSome else false)=!decide (x.b.r=0/\x.b.n=0)/\CN a s=0:=by
 have e:CN a s=0:=by unfold CN;rw[if_neg (λg=>g d),if_pos c]
 rw[if_pos e,if_pos e];rcases h with⟨h1,rfl⟩|⟨h1,h2⟩
 .rw[h1];exact⟨rfl,rfl,e⟩
 .rw[h1];refine⟨rfl,?_,e⟩;rw[D' (by unfold Ad at h2;omega)];rfl
theorem WX(l:List Vt)(h:u≠v):CL l u+CL l v<=l.length:=by
 induction l with
 | nil=>simp[CL]
 | cons x l ih =>
  unfold CL at ih ⊢;rw[List.countP_cons,List.countP_cons,iX];by_cases a:x=u
  .subst a;rw[if_pos (by simp),if_neg (by simp[h])];omega
  .by_cases hy:x=v
   .subst hy;rw[if_neg (by simp[a]),if_pos (by simp)];omega
   .rw[if_neg (by simp[a]),if_neg (by simp[hy])];omega
theorem WW(h:0<CL l v):v∈l:=by
 unfold CL at h;obtain⟨u,a,e⟩:=List.countP_pos_iff.1 h;rw[<- jt e];exact a
theorem ZK(a b:List Vt)(v:Vt):CL a v<=CL (a++b) v:=by
 unfold CL;rw[List.countP_append];omega
theorem Qk(b:l.length<=m)(h:m<2*CL l v):Hb l m=some v:=by
 cases hf:Hb l m with
 | none =>
  have:=jL.1 hf v (WW (by omega));simp at this;omega
 | some u =>
  have a:=List.find?_some hf;simp at a;by_cases e:u=v
  .rw[e]
  .have:=WX l e;omega
theorem Vq(h:∀ v,2*CL l v<=m):Hb l m=none:=by
 unfold Hb;rw[jL];intro v _;have:=h v;simp;omega
end
end
section
open Go.RowKit
section
variable{b p:Bal}{i:Nat}{l:List Vt}{r:Bool}{v:Vt}{w:World}{x:S3}
theorem NTab.nW(h:NTab w):w.cell? ⟨2,1*3+2,none⟩=some (.int .i64 1073741824):=h.cell 5 (by omega)
theorem NTab.value(h:NTab w)(k:Nat)(a:1<=k)(b:k<=3):w.cell? ⟨2,k*3+2,none⟩=some (.int .i64 (if k=1 then 1073741824 else 0)):=by
 rcases(by omega:k=1\/k=2\/k=3)with rfl|rfl|rfl
 .exact h.cell 5 (by omega)
 .exact h.cell 8 (by omega)
 .exact h.cell 11 (by omega)
theorem DH(k c s n v:Int)(w:World)(E:NTab w) :
  Calls prog 41 #[.agg (cmA k c s n v)] w λe w'=>e=.returned (.int .i64 (AQ k c s n v))/\Bw w w':=by
 have b:Bw w (w.alloc (.cells (cmA k c s n v) 49)):=(Below.refl _ _).alloc (A' _) _;have h:=Bc.made w k c s n v;have t:=E.ab b;have D:=FU k c s n v;generalize C:w.alloc (.cells (cmA k c s n v) 49)=W at b h t;have u:w.alloc (.cells #[.int .i64 k,.int .i64 c,.int .i64 s,.int .i64 n,.int .i64 v] 49)=W:=C;obtain⟨c0,c1,x,y,z⟩:=Ex h.row;clear E;go_enter func41,ntmps41
 go_wp2_with fail
 clear C u;refine(QK k _).mono ?_;rintro e I ⟨rfl,rfl⟩;by_cases o:0<=k/\k<=3
 .rw[I' o];by_cases A:k=0
  .subst A;go_wp2_with (refine wpList_load_row rfl 49 _ rfl w.heap.size rfl 49 _ (0,0) _ h.row underlying49 rfl D ?_)
   refine(WV c s n v _).mono ?_;rintro e f ⟨rfl,g⟩;have j:Bw w f:=b.trans (g.mono b.size);go_wp2
   go_ret;exact⟨rfl,j⟩
  .obtain⟨m,rfl⟩:=iO o.1;have r:1<=(m:Int)/\(m:Int)<=3:=by omega
   go_wp2_with (refine wpList_load_row rfl 49 _ rfl w.heap.size rfl 49 _ (0,0) _ h.row underlying49 rfl D ?_)
   refine(Np (m:Int) c s n v _ r t).mono ?_;rintro e f ⟨rfl,g⟩;have j:Bw w f:=b.trans (g.mono b.size);have i:=h.ab g;have q:=t.ab g;clear c0 c1 x y z h t g b;by_cases a:InC c s n v
   .rw[I' a];obtain⟨c0,c1,x,y,z⟩:=Ex i.row;have B:=q.value m (by omega) (by omega);have F:(0:Int)<=(m:Int):=by omega
    have G:(m:Int)<4:=by omega
    have H:m<4:=by omega
    clear i q o A;by_cases p:v<=(if m=1 then 1073741824 else 0)
    .have d:Hid (0=AQ (m:Int) c s n v):=by
      refine(Sc r a ?_).symm;unfold InC at a;split at p<;>omega
     clear a r;generalize (if m=1 then(1073741824:Int)else 0)=V at B p;go_wp2_with fail
     go_quiet (fail)
     have l:Bw w (f.drewN nq):=Am j nq;generalize f.drewN nq=w3 at l ⊢;go_wp2
     go_ret;exact⟨Bl d.out,l⟩
    .have d:Hid (3=AQ (m:Int) c s n v):=by
      unfold InC at a;refine(Tp ⟨?_,by omega⟩ (by unfold InC;omega) ?_).symm
      .split at p<;>omega
      .split at p<;>omega
     clear a r;generalize (if m=1 then(1073741824:Int)else 0)=V at B p;go_wp2_with fail
     go_quiet (fail)
     have l:Bw w (f.drewN nq):=Am j nq;generalize f.drewN nq=w3 at l ⊢;go_wp2
     go_ret;exact⟨Bl d.out,l⟩
   .rw[D' a];have d:Hid (2=AQ (m:Int) c s n v):=(Qr r a).symm;clear a;go_wp2
    go_ret;exact⟨Bl d.out,j⟩
 .rw[D' o];have d:Hid (4=AQ k c s n v):=(Tq o).symm;go_wp2
  go_ret;exact⟨Bl d.out,b⟩
def JW(l:List Vt)(n:Int):Prop:=0<=n/\n<=40/\∀ s:Int,0<=s->(n<=s↔∀ u∈l,u.au<s)
theorem JW.nil:JW [] 0:=⟨by omega,by omega,λs a=>⟨λ_ u b=>(M' b).elim,λ_=>a⟩⟩
theorem JW.snoc{n:Int}(h:JW l n)(b:0<=v.au)(c:v.au<=39)(d:n<=v.au):JW (l++[v]) (v.au+1):=by
 refine⟨by omega,by omega,λs a=>⟨λg u hu=>?_,λg=>?_⟩⟩
 .rcases P'.1 hu with hu|hu
  .exact(h.2.2 s a).1 (by omega) u hu
  .obtain rfl:u=v:=by simpa using hu
   omega
 .have:=g v (by simp);omega
theorem fO(h:p≠Bm):(!decide (Ad p))=!decide (AL p):=by
 have:Ad p↔AL p:=⟨.inl,λg=>g.resolve_right λe=>h ((Bal.eq_iff p Bm).1 e)⟩;simp[this]
theorem eS{P Q:Prop}[Decidable P][Decidable Q](h:Q↔¬ P):decide P=!decide Q:=by by_cases g:P<;>simp[h,g]
theorem Uq(h:B2 l)(k:Nat):B2 (l.take k):=by
 induction k with
 | zero=>exact trivial
 | succ k ih =>
  cases hh:l[k]? with
  | none=>rw[iE (by have:=List.getElem?_eq_none_iff.1 hh;omega)];exact h
  | some v =>
   rw[Fe l k v hh,ME];refine⟨ih,λu b=>?_⟩;obtain⟨i,a⟩:=jq.1 b;rw[jk]at a
   split at a
   .rename_i hk;exact h.get hk a hh
   .cases a
theorem D4{s:Int}(b:decide (0<=s/\s<=39)=r) :
  Calls prog 164 #[iv s] w λe w'=>e=.returned (.bool r)/\Bw w w':=by
 subst b;refine tIn [] func164 trivial (tR 7 [] λc _ _=>?_);by_cases a:0<=s
 .refine tV 1 (.bool true) (λF C=>(rGe (t:=3) (m:=s) (n:=0) (x:=(.tmp 3)) (y:=(.const (iv 0))) (I' a))) (tR 6 [] λd _ _=>tE (.bool (decide (s<40))) λ_ B=>⟨by rw[jf.2 (show s<40↔0<=s/\s<=39 by omega)],B⟩)
 .refine tV 1 (.bool false) (λF C=>(rGe (t:=3) (m:=s) (n:=0) (x:=(.tmp 3)) (y:=(.const (iv 0))) (D' a))) (tR 6 [] λf _ _=>tE (.bool false) λ_ B=>⟨by rw[D' (show ¬ (0<=s/\s<=39)by omega)],B⟩)
theorem Hl(f:decide (Ad b)=r) :
  Calls prog 142 #[.agg #[iv b.r,iv b.n]] w λe w'=>e=.returned (.bool r)/\Bw w w':=by
 subst f;refine tIn [] func142 trivial (tR 9 [0,0,0] λg _ _=>?_);by_cases a:1<=b.r
 .refine tV 2 (.bool true) (λF C=>(rGe (t:=3) (m:=b.r) (n:=1) (x:=(.tmp 4)) (y:=(.const (iv 1))) (I' a))) (tR 3 [0] λh _ _=>?_);by_cases c:b.r<=65536
  .refine tV 6 (.bool true) (λF C=>(rLe (t:=3) (m:=b.r) (n:=65536) (x:=(.tmp 8)) (y:=(.const (iv 65536))) (I' c))) (tR 4 [0] λi _ _=>?_);by_cases d:0<=b.n
   .refine tV 11 (.bool true) (λF C=>(rGe (t:=3) (m:=b.n) (n:=0) (x:=(.tmp 13)) (y:=(.const (iv 0))) (I' d))) (tR 8 [0] λj _ _=>tE (.bool (decide (b.n<5))) λ_ B=>⟨by rw[jf.2 (show b.n<5↔Ad b by unfold Ad;omega)],B⟩)
   .refine tV 11 (.bool false) (λF C=>(rGe (t:=3) (m:=b.n) (n:=0) (x:=(.tmp 13)) (y:=(.const (iv 0))) (D' d))) (tR 8 [] λk _ _=>tE (.bool false) λ_ B=>⟨by rw[D' (show ¬ Ad b by unfold Ad;omega)],B⟩)
  .refine tV 6 (.bool false) (λF C=>(rLe (t:=3) (m:=b.r) (n:=65536) (x:=(.tmp 8)) (y:=(.const (iv 65536))) (D' c))) (tR 13 [] λl _ _=>tE (.bool false) λ_ B=>⟨by rw[D' (show ¬ Ad b by unfold Ad;omega)],B⟩)
 .refine tV 2 (.bool false) (λF C=>(rGe (t:=3) (m:=b.r) (n:=1) (x:=(.tmp 4)) (y:=(.const (iv 1))) (D' a))) (tR 17 [] λo _ _=>tE (.bool false) λ_ B=>⟨by rw[D' (show ¬ Ad b by unfold Ad;omega)],B⟩)
theorem DB{a:Bal}(d:decide (a.lt b)=r) :
  Calls prog 143 #[.agg #[iv a.r,iv a.n],.agg #[iv b.r,iv b.n]] w λe w'=>e=.returned (.bool r)/\Bw w w':=by
 subst d;refine tIn [] func143 trivial (tR 15 [0,0,0,0,0,1] λf _ _=>?_);by_cases c:a.r≠b.r
 .refine tI ((a.r != b.r)) true (by simpa using c) (tR 9 [0,1] λg _ _=>tE (.bool (decide (a.r<b.r))) λ_ B=>⟨by rw[jf.2 (show a.r<b.r↔a.lt b by unfold Bal.lt;omega)],B⟩)
 .refine tI ((a.r != b.r)) false (by simpa using c) (tR 10 [0,1] λh _ _=>tE (.bool (decide (a.n<b.n))) λ_ B=>⟨by rw[jf.2 (show a.n<b.n↔a.lt b by unfold Bal.lt;omega)],B⟩)
theorem Ga(i:NTab w)(h:decide (Ai v)=r) :
  Calls prog 148 #[.agg #[iv v.au,iv v.b.r,iv v.b.n,iv v.w.k,iv v.w.c,iv v.w.s,iv v.w.n,iv v.w.v]] w λe w'=>e=.returned (.bool r)/\Bw w w':=by
 subst h;refine tIn [] func148 trivial (tR 9 [0,0,0] λj _ _=>?_);by_cases a:0<=v.au/\v.au<=39
 .refine tC1 2 (λF C=>D4 (r:=true) (I' a)) λ_=>tR 3 [0] λl _ _=>?_;by_cases d:Ad v.b
  .refine tC1 6 (λF C=>Hl (b:=v.b) (r:=true) (I' d)) λ_=>tR 4 [0] λm _ _=>tC1 11 (λF C=>DH v.w.k v.w.c v.w.s v.w.n v.w.v _ (i.ab (CgQ.ab C))) λ_=>tR 4 [] λo _ _=>tE (.bool (AQ v.w.k v.w.c v.w.s v.w.n v.w.v==0)) λ_ B=>⟨by rw[show(AQ v.w.k v.w.c v.w.s v.w.n v.w.v==0)=decide (Ai v)from by rw[show(AQ v.w.k v.w.c v.w.s v.w.n v.w.v==0)=decide (v.w.e=0)from rfl];exact jf.2 ⟨λg=>⟨a,d,g⟩,λg=>g.2.2⟩],B⟩
  .refine tC1 6 (λF C=>Hl (b:=v.b) (r:=false) (D' d)) λ_=>tR 9 [] λp _ _=>tE (.bool false) λ_ B=>⟨by rw[D' (show ¬ Ai v from λg=>d g.2.1)],B⟩
 .refine tC1 2 (λF C=>D4 (r:=false) (D' a)) λ_=>tR 13 [] λf _ _=>tE (.bool false) λ_ B=>⟨by rw[D' (show ¬ Ai v from λg=>a g.1)],B⟩
theorem GW{u:Vt}:Ak ⟨p,l++[u]⟩↔Ak ⟨p,l⟩/\(Ai u/\¬ p.lt u.b)/\∀ x∈l,x.au<u.au:=by
 unfold Ak;simp only[ME,P',N'];exact⟨λh=>⟨⟨h.1,λv a=>h.2.1 v (.inl a),h.2.2.1⟩,h.2.1 u (.inr rfl),h.2.2.2⟩,λh=>⟨h.1.1,λv a=>a.elim (h.1.2.1 v) λe=>by rw[e];exact h.2.1,h.1.2.2,h.2.2⟩⟩
theorem UR(h:Ak ⟨p,l⟩)(k:Nat):Ak ⟨p,l.take k⟩:=⟨h.1,λv a=>h.2.1 v (iJ a),(Uq h.2.2 k)⟩
theorem Sv.op(h:Sv w x.v l):x.n=l.length/\(l=[]\/∃ b off,x.a=some ⟨b,off,none⟩/\∀ i v,l[i]?=some v->w.rangeAt b (off+8*i) (vtC v)):=by
 obtain⟨j,m,k⟩:=x;obtain⟨⟨a,c,e,_,_,d⟩,_⟩:=h;simp only[S3.v,Value.slice.injEq]at e;obtain⟨rfl,rfl,rfl⟩:=e;exact⟨rfl,d.imp id λ⟨b,off,f,_,g⟩=>⟨b,off,f,g⟩⟩
theorem Sv.at_(h:Sv w x.v l){b c:Nat}(e:x.a=some ⟨b,c,none⟩)(d:l[i]?=some v):w.rangeAt b (c+8*i) (vtC v):=by
 rcases h.op.2 with rfl|⟨b',off',ha,hc⟩
 .simp at d
 .rw[e]at ha;cases ha;exact hc i v d
theorem Sv.ad(h:Sv w x.v l)(c:i<l.length):∃ b off,x.a=some ⟨b,off,none⟩:=by
 rcases h.op.2 with rfl|⟨b',off',ha,hc⟩
 .exact absurd c (l6 _)
 .exact⟨b',off',ha⟩
theorem Sv.s3{x:Value}(h:Sv w x l):∃ y:S3,x=y.v:=by
 obtain⟨⟨a,b,e,_,_,c⟩,_⟩:=h;exact⟨⟨a,l.length,b⟩,e⟩
theorem Ir(p:Bal)(x:Value)(l:List Vt)(w:World)(h:Sv w x l)(S:NTab w) :
  Calls prog 141 #[.agg (acA p x)] w λe w'=>e=.returned (.int .i64 (EF ⟨p,l⟩))/\Bw w w':=by
 obtain⟨y,rfl⟩:=h.s3;have hn:=h.op.1;have a7:=h.len;show Calls prog 141 #[.agg #[iv p.r,iv p.n,S3.v y]] w _;refine tIn [] func141 trivial (tR 7 [0,0] λf _ _=>Ia 43 (λL K d=>∃ (v:Bool),L=[(1,pt (f 0) 0),(15,.bool v)]/\K=[⟨(f 0),.cells #[iv p.r,iv p.n,S3.v y] 97,.z,false⟩]/\d=[]/\v=!decide (AL p)) (λJ u=>?_) ?_)
 .refine tR 4 [0] λa8 _ _=>?_;by_cases q:p=Bm
  .refine tV 3 (.bool false) (λF C=>(Hu (x:=(.tmp 7)) (y:=(.tmp 8)) p Bm q)) (tR 7 [] λa9 _ _=>tD u [true] ⟨false,rfl,rfl,rfl,by rw[q];rfl⟩ (λF=>trivial))
  .refine tV 3 (.bool true) (λF C=>(Hv (x:=(.tmp 7)) (y:=(.tmp 8)) p Bm q)) (tR 3 [0] λb0 _ _=>tC1 7 (λF C=>Hl (b:=p) rfl) λ_=>tR 3 [] λb1 _ _=>tD u [true] ⟨_,rfl,rfl,rfl,fO q⟩ (λF=>trivial))
 rintro _ _ _ ⟨v,rfl,rfl,rfl,H⟩ _ _ _;by_cases q:v=true
 .refine tI (v) true q (tR 4 [] λb2 _ _=>tE (iv 5) λ_ B=>⟨by rw[EF,if_neg λg:Ak _=>absurd g.1 (by simpa[q]using H.symm)],B⟩)
 .refine tI (v) false (by simpa using q) ?_;have hp:AL p:=by simpa[q]using H.symm
  refine tR 14 [0] λb3 _ _=>Dp 43 [(1,pt (f 0) 0),(3,iv 0),(17,S3.v y),(18,iv (y.n:Int)),(19,iv 0)] [true] [⟨(f 0),.cells #[iv p.r,iv p.n,S3.v y] 97,.z,false⟩] [] (λkk L K d=>∃ (j:Nat) (n:Int),kk=y.n-j/\L=[(1,pt (f 0) 0),(3,iv n),(17,S3.v y),(18,iv (y.n:Int)),(19,iv (j:Int))]/\K=[⟨(f 0),.cells #[iv p.r,iv p.n,S3.v y] 97,.z,false⟩]/\d=[]/\j<=y.n/\Ak ⟨p,l.take j⟩/\JW (l.take j) n) (y.n) ⟨0,0,rfl,rfl,rfl,rfl,by omega,⟨hp,λv H=>(by cases H),trivial⟩,JW.nil⟩ (λF=>trivial) ?_;rintro k _ _ _ ⟨j,n,rfl,rfl,rfl,rfl,hj,E,G⟩ _ _ _ J u;refine tR 5 [] λU _ _=>?_;by_cases I:j<y.n
  .refine tI ((decide ((j:Int)<(y.n:Int)))) true (I' (by omega)) ?_;obtain⟨v,H⟩:∃ v,l[j]?=some v:=⟨_,E' (by omega)⟩;obtain⟨b,O,Q⟩:=h.ad (i:=j) (by omega);have N:l.take (j+1)=l.take j++[v]:=Fe l j v H;refine tR 5 [] λV _ _=>tV 0 (pt b (O+8*j)) (λF C=>(SH Q j (by omega))) (tV 1 (.agg #[iv v.au,iv v.b.r,iv v.b.n,iv v.w.k,iv v.w.c,iv v.w.s,iv v.w.n,iv v.w.v]) (λF C=>(ah v ((h.ab (CgQ.ab C)).at_ Q H))) (tR 5 [0,0,1,0] λD _ _=>Ia 43 (λL K d=>∃ (z:Bool),L=[(1,pt (f 0) 0),(3,iv n),(5,pt (D 0) 0),(17,S3.v y),(18,iv (y.n:Int)),(19,iv (j:Int)),(38,.bool z)]/\K=[⟨(f 0),.cells #[iv p.r,iv p.n,S3.v y] 97,.z,false⟩,⟨(D 0),.cells #[iv v.au,iv v.b.r,iv v.b.n,iv v.w.k,iv v.w.c,iv v.w.s,iv v.w.n,iv v.w.v] 156,.z,false⟩]/\d=[]/\z=!decide (Ak ⟨p,l.take j++[v]⟩)) (λJ u=>?_) ?_))
   .refine tR 2 [1] λW _ _=>?_;by_cases I:Ai v
    .refine tC1 1 (λF C=>Ga (v:=v) (S.ab (CgQ.ab C)) (r:=true) (I' I)) λ_=>tR 5 [1] λX _ _=>?_;have R:=G.2.2 v.au I.1.1;by_cases P:v.au<n
     .refine tV 7 (.bool true) (λF C=>(rLt (t:=3) (m:=v.au) (n:=n) (x:=(.tmp 28)) (y:=(.tmp 29)) (I' P))) (tR 9 [] λY _ _=>tD u [true,true] ⟨true,rfl,rfl,rfl,by rw[D' λg=>absurd (R.2 (GW.1 g).2.2) (by omega)];rfl⟩ (λF=>trivial))
     .refine tV 7 (.bool false) (λF C=>(rLt (t:=3) (m:=v.au) (n:=n) (x:=(.tmp 28)) (y:=(.tmp 29)) (D' P))) (tR 6 [0,1] λZ _ _=>tC1 14 (λF C=>DB (a:=p) (b:=v.b) rfl) λ_=>tR 2 [] λa0 _ _=>tD u [true,true] ⟨_,rfl,rfl,rfl,eS (GW.trans ⟨λg=>g.2.1.2,λg=>⟨E,⟨I,g⟩,R.1 (by omega)⟩⟩)⟩ (λF=>trivial))
    .refine tC1 1 (λF C=>Ga (v:=v) (S.ab (CgQ.ab C)) (r:=false) (D' I)) λ_=>tR 15 [] λa1 _ _=>tD u [true,true] ⟨true,rfl,rfl,rfl,by rw[D' λg=>I (GW.1 g).2.1.1];rfl⟩ (λF=>trivial)
   rintro _ _ _ ⟨z,rfl,rfl,rfl,T⟩ _ _ _;by_cases M:z=true
   .refine tI (z) true M (tR 4 [] λa2 _ _=>tE (iv 5) λ_ B=>⟨by rw[EF,if_neg λg=>absurd (N▸UR g (j+1)) (by simpa[M]using T.symm)],B⟩)
   .refine tI (z) false (by simpa using M) ?_;have A:Ak ⟨p,l.take j++[v]⟩:=by simpa[M]using T.symm
    have o:=(GW.1 A).2;refine tR 4 [1] λa3 _ _=>tV 2 (iv (v.au+1)) (λF C=>(AD 40 v.au underlying3 (by have:=o.1.1.1;omega))) (tR 4 [] λa4 _ _=>tV 0 (iv ((j:Int)+1)) (λF C=>(AD 19 (j:Int) underlying3 (by omega))) (tR 2 [] λa5 _ _=>tB u (y.n-(j+1)) (by omega) [true,false] ⟨j+1,v.au+1,rfl,rfl,rfl,rfl,by omega,by rw[N];exact A,by rw[N];exact G.snoc o.1.1.1.1 o.1.1.1.2 ((G.2.2 v.au o.1.1.1.1).2 o.2)⟩ (λF=>trivial)))
  .refine tI ((decide ((j:Int)<(y.n:Int)))) false (D' (by omega)) ?_;rw[iE (by omega)]at E
   refine tR 5 [] λa6 _ _=>tE (iv 0) λ_ B=>⟨by rw[EF,if_pos E],B⟩
end
end
end Go.Proofs.YtdjfdfpkkenjbaaGreatDoor
