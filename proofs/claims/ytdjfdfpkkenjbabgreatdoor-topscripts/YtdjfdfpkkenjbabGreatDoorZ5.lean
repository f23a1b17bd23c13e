/- Part 5 of the walk. -/
import Derived.Laws.Cover3
import Derived.Test.YtdjfdfpkkenjbabGreatDoorZ4
set_option maxRecDepth 100000
set_option maxHeartbeats 4000000
open Go.Proofs.Tryz
set_option linter.unusedVariables false
namespace Go.Proofs.YtdjfdfpkkenjbabGreatDoor
section
open Go.RowKit
section
variable{P:Program}{fn:Func}{R:Ending->World->Prop}{B:Nat}{T:List Tg}{g:Gh}{w:World}
section
def S6:List Kt->Bool|.c (.loop _)::_=>true|_=>false
def ku:List Kt->Code|.c (.loop b)::_=>b|_=>.skip
def isJ:List Kt->Bool|.j _::_=>true|_=>false
def jK:List Kt->Act->World->Prop|.j J::_=>J|_=>λ_ _=>False
def eB(s:Xs)(n:Nat)(J:Act->World->Prop)(e:List (Nat × Value))(z:Nat->Value)(L:List Sh):Xs:=⟨.c (ku s.K)::.j J::s.K.tail,⟨n,e,z⟩,L⟩
variable{s:Xs}
theorem BJ(n:Nat)(i:List (Nat × Value))(m:List Bool)(j:List Sh)(a:Nat->Gh->World->List (Nat × Value)->List Sh->Prop)(r:S6 s.K=true)(u:s.f.n=n)(E:i.map (λp=>lk s.f.z s.f.e p.1)=i.map (·.2))(C:B2 (AE m s.L)=j)(k:Nat)(v:Kn B g w s.L->a k g w i j)(d:∀ k g w e z L,a k g w e L->∀ J:Act->World->Prop,(∀ k' g' w' e' z' L',k'<k->a k' g' w' e' L'->Kn B g' w' L'->J (⟨n,e',z'⟩:Fm).act w')->GG P fn R B T (eB s n J e z L) g w):GG P fn R B T s g w:=by
 refine Ad λo=>gFm i E λz=>?_;obtain⟨K,f,L⟩:=s;simp only at u;subst u;have q:B2 (AE m L)=j:=C;have D:GG P fn R B T ⟨K,⟨f.n,i,z⟩,B2 (AE m L)⟩ g w->GG P fn R B T ⟨K,⟨f.n,i,z⟩,L⟩ g w:=λh=>⟨λo=>h.ex (o.sub (Dg m L)).sw⟩;refine D ?_;rw[q];cases K with
 | nil=>cases r
 | cons t K =>
  cases t with
  | c x =>
   cases x with
   | loop b=>exact kf a (λk g w e z L y J A=>d k g w e z L y J A) (v o)
   | _=>cases r
  | _=>cases r
theorem Ee(J:Act->World->Prop)(n:Nat)(e:List (Nat × Value))(m:List Bool)(b:List Sh)(i:isJ s.K=true)(c:jK s.K=J)(o:s.f.n=n)(r:e.map (λp=>lk s.f.z s.f.e p.1)=e.map (·.2))(k:B2 (AE m s.L)=b)(h:∀ z,Kn B g w s.L->Kn B g w b->J (⟨n,e,z⟩:Fm).act w):GG P fn R B T s g w:=by
 refine Ad λa=>gFm e r λz=>⟨λq=>?_⟩;obtain⟨K,f,L⟩:=s;simp only at o c k i a;subst o;have d:Kn B g w b:=by rw[<- k];exact(q.sub (Dg m L)).sw
 cases K with
 | nil=>cases i
 | cons t K =>
  cases t with
  | j J'=>simp only[jK]at c;rw[c];exact h z a d
  | _=>cases i
def JA(s:Xs)(i:Nat):Xs:=match s.K with|.x ops (u+1) Ld e L0::K=>⟨.y ops u Ld e L0 i::K,s.f,s.L⟩|_=>s
def fd(s:Xs)(i j:Nat):Bool:=match s.K with|.x ops (_+1) Ld _ _::_=>(match Region.ready .any ops Ld with|[k,l]=>Nat.beq k i&&Nat.beq l j|_=>false)|_=>false
theorem CR(i j:Nat)(a:fd s i j=true)(h:GG P fn R B T (JA s i) g w)(m:GG P fn R B T (JA s j) g w):GG P fn R B T s g w:=by
 refine⟨λd=>?_⟩;obtain⟨K,f,L⟩:=s;have b:=h.ex;have c:=m.ex;unfold JA at b c;unfold fd at a;cases K with
 | nil=>cases a
 | cons t K =>
  cases t with
  | x ops u Ld e L0 =>
   cases u with
   | zero=>cases a
   | succ u =>
    simp only at b c a;have n:Region.ready .any ops Ld=[i,j]:=by
     split at a
     .rename_i k l hk
      simp only[mW]at a;rw[hk,mX a.1,mX a.2]
     .cases a
    exact mF n (b d) (c d)
  | _=>cases a
def XS(s:Xs)(J:Act->World->Prop):Xs:=match s.K with|t::K=>⟨t::.j J::K,s.f,s.L⟩|[]=>s
theorem DI(Q:Exit->Act->World->Prop):Exit.then (Q .normal) Q=Q:=by
 funext e a w
 cases e<;>rfl
theorem BT(n:Nat)(d:Gh->World->List (Nat × Value)->List Sh->Prop)(u:s.K.isEmpty=false)(k:∀ J:Act->World->Prop,(∀ g' w' e z L,d g' w' e L->Kn B g' w' L->J (⟨n,e,z⟩:Fm).act w')->GG P fn R B T (XS s J) g w)(p:∀ g' w' e z L,d g' w' e L->GG P fn R B T ⟨s.K.tail,⟨n,e,z⟩,L⟩ g' w'):GG P fn R B T s g w:=by
 obtain⟨K,f,L⟩:=s;cases K with
 | nil=>cases u
 | cons t K =>
  have q:=k (Kq P (bodyPost P fn R) K .normal) (λg' w' e z L r h=>(p g' w' e z L r).ex h);refine⟨λh=>?_⟩;have a:=q.ex h;unfold XS at a;simp only at a;cases t with
  | c x=>simp only[Kq,DI]at a ⊢;exact a
  | b id=>simp only[Kq,DI]at a ⊢;exact a
  | o ops is=>simp only[Kq,DI]at a ⊢;exact a
  | x ops m Ld e L0=>simp only[Kq,DI]at a ⊢;exact a
  | y ops m Ld e L0 i=>simp only[Kq,DI]at a ⊢;exact a
  | j J=>simp only[Kq,DI]at a ⊢;exact a
def zL(L:List Sh)(k:Nat):List Sh:=L.set k { L.getD k default with t:=.z,w:=false }
theorem kh(k:Nat)(b:Nat)(A:(B2 s.L)[k]?.map (λx=>(x.g,x.t))=some (b,.l))(h:∀ g',Cg B [] g w g' w->GG P fn R B T ⟨s.K,s.f,zL (B2 s.L) k⟩ g' w):GG P fn R B T s g w:=by
 refine⟨λF=>?_⟩;have q:=F.sw;generalize O:B2 s.L=L at *;have V:∀ x∈L,x.w=false:=λx e=>by rw[<- O]at e;obtain⟨y,_,rfl⟩:=nG.1 e;rfl
 have m:k<L.length:=by
  cases e:L[k]? with
  | none=>rw[e]at A;cases A
  | some x=>exact(Q'.1 e).1
 have N:L.getD k default=L[k]:=by rw[nc,H' m];rfl
 rw[H' m]at A
 simp only[nA,P',nH]at A;obtain⟨r,I⟩:=A;have d:=q.row _ (na m);have G:∀ n (D:n<L.length),n≠k->L[n].g≠b:=λn D o a=>by
  have:=q.two D m o (by rw[r];exact a);rw[I]at this
  cases this.2.1
 let g':Gh:=⟨λc=>if c=b then .z else g.t c,g.k⟩
 have H:g.t b=.l:=by rw[<- r,d.2.1];exact I
 have E:B<=b:=by rw[<- r];exact d.2.2.1 I
 refine(h g' ⟨rfl,rfl,rfl,A' _,λc M=>?_,λ_ _=>A' _,λ_ _ _ _=>rfl,λ_ _ _ _=>rfl,λ_ _ _ _=>rfl⟩).ex ⟨λx e=>?_,?_,λc M=>?_,q.base⟩
 .show(if c=b then _ else _)=_\/(_/\_/\(if c=b then _ else _)=_);by_cases a:c=b
  .subst a;right;exact⟨H,E,if_pos rfl⟩
  .left;exact if_neg a
 .unfold zL at e;simp only at e;rw[N]at e
  obtain⟨n,D,rfl⟩:=oX e;have C:n<L.length:=by simpa using D
  rw[oL];split
  .refine⟨d.1,?_,λh=>(by cases h),λh=>absurd rfl h⟩;show(if L[k].g=b then _ else _)=_;rw[if_pos r]
  .rename_i o
   have p:=q.row _ (na C);refine⟨p.1,?_,p.2.2⟩;show(if L[n].g=b then _ else _)=_;rw[if_neg (G n C (λh=>o h.symm))];exact p.2.1
 .show(zL L k).Pairwise _;unfold zL;rw[N,oB];intro i j Q U S a;have u:i<L.length:=by simpa using Q
  have v:j<L.length:=by simpa using U
  rw[oL,oL]at a ⊢
  by_cases p:k=i
  .rw[if_pos p]at a ⊢
   rw[if_neg (by omega)]at a ⊢
   exact absurd a.symm (by show L[j].g≠L[k].g;rw[r];exact G j v (by omega))
  .rw[if_neg p]at a ⊢
   by_cases J:k=j
   .rw[if_pos J]at a ⊢
    exact absurd a (by show L[i].g≠L[k].g;rw[r];exact G i u (by omega))
   .rw[if_neg J]at a ⊢
    exact q.two u v (by omega) a
 .have:=q.new c M;show(if c=b then _ else _)=_/\_;refine⟨?_,this.2⟩;split
  .rfl
  .exact this.1
end
end
def gS:Gh:=⟨λ_=>.z,λ_=>0⟩
section
variable{P:Program}{fn:Func}{R:Ending->World->Prop}{B:Nat}{T:List Tg}{g:Gh}{w:World}
def lO(s:Xs)(i j l:Nat):Bool:=match s.K with|.x ops (_+1) Ld _ _::_=>(match Region.ready .any ops Ld with|[a,b,c]=>Nat.beq a i&&(Nat.beq b j&&Nat.beq c l)|_=>false)|_=>false
theorem Yw{s:Xs}(i j l:Nat)(d:lO s i j l=true)(r:GG P fn R B T (JA s i) g w)(v:GG P fn R B T (JA s j) g w)(y:GG P fn R B T (JA s l) g w):GG P fn R B T s g w:=by
 refine⟨λn=>?_⟩;obtain⟨K,f,L⟩:=s;have h:=r.ex;have k:=v.ex;have m:=y.ex;unfold JA at h k m;unfold lO at d;cases K with
 | nil=>cases d
 | cons t K =>
  cases t with
  | x ops u Ld e L0 =>
   cases u with
   | zero=>cases d
   | succ u =>
    simp only at h k m d;have o:Region.ready .any ops Ld=[i,j,l]:=by
     split at d
     .rename_i a b c hk
      simp only[mW]at d;rw[hk,mX d.1,mX d.2.1,mX d.2.2]
     .cases d
    refine⟨λp=>absurd (o▸p) (by simp),o▸(λq z=>?_)⟩;rcases(show q=i\/q=j\/q=l by simpa using z)with rfl|rfl|rfl
    .exact h n
    .exact k n
    .exact m n
  | _=>cases d
def UU:List Sh->List Sh
 | [a,b]=>[b,a]
 | a::l=>a::UU l
 | []=>[]
theorem Hs:∀ L:List Sh,(UU L).Perm L
 | []=>.refl _
 | [a]=>by simp[UU]
 | [a,b]=>.swap _ _ _
 | a::b::c::l=>(Hs (b::c::l)).cons a
theorem NA{s:Xs}(h:GG P fn R B T ⟨s.K,s.f,UU s.L⟩ g w):GG P fn R B T s g w:=by
 refine⟨λa=>h.ex ⟨λx c=>a.row x ((Hs s.L).mem_iff.1 c),?_,a.new,a.base⟩⟩;refine(Hs s.L).symm.pairwise a.rZ ?_;intro x y b e;have:=b e.symm;exact⟨this.2,this.1⟩
theorem mn{s:Xs}{r i:Nat}{e:TypeId}{p:Nat}{x:S3}{m:List Value}(c:OwnS g w (.n r i) false e p x m)(q:s.L.all (λy=>y.t.ne (.n r i))=true)(h:∀ g',Cg B [.n r i] g w g' w->OwnS g' w (.n r i) true e p x m->GG P fn R B T s g' w):GG P fn R B T s g w:=by
 refine⟨λa=>?_⟩;rcases c.ex with h1|⟨b,cur,h1,h2,h3,h4,h5,h6,h7,h8⟩
 .exact(h g (Cg.refl _ _ _ _) ⟨c.len,.inl h1⟩).ex a
 .have h80:g.k b=0:=h8;have u:b<w.heap.size:=(D'.1 h2).1;refine(h (ke g b m.length) ⟨rfl,rfl,rfl,A' _,λ_ _=>.inl rfl,λd f=>?_,λd f j _=>if_neg (λe=>j (by rw[e,h7];exact U'.2 rfl)),λ_ _ _ _=>rfl,λ_ _ _ _=>rfl⟩ ⟨c.len,.inr ⟨b,cur,h1,h2,h3,h4,h5,h6,h7,if_pos rfl⟩⟩).ex ⟨λy o=>?_,a.rZ,λd f=>?_,a.base⟩
  .show g.k d<=(if d=b then _ else g.k d);split
   .rename_i e;rw[e,h80];exact ng _
   .exact A' _
  .obtain⟨k1,k2,k3,k4⟩:=a.row y o;refine⟨k1,k2,k3,λv=>?_⟩;show(if y.g=b then _ else g.k y.g)=0;rw[if_neg (λe=>Tg.sf (nV.1 q y o) (by rw[<- k2,e,h7]))];exact k4 v
  .have:=a.new d f;refine⟨this.1,?_⟩;show(if d=b then _ else g.k d)=0;rw[if_neg (by omega)];exact this.2
end
theorem XC{P:Program}{s:Xs}{a:Nat}{S:Sem Value}{v:Value}{W:World}(h:Dw s a=some (S>>=λv=>pure (.value v)))(b:S.run P W=.ok v W):CO P s a W=some (.ok (.value v) W):=by
 unfold CO;unfold Dw at h;cases hx:opN s a with
 | none=>rw[hx]at h;cases h
 | some x =>
  rw[hx]at h
  simp only[nA,P']at h ⊢;rw[h,Sem.run_bind,b,Result.andThen_ok];rfl
section
variable{P:Program}{W:World}
section
theorem kY(d:Array TypeId)(t:TypeId)(a b:Int):(Builtin.max_ d t #[iv a,iv b]).run P W=.ok (iv (max a b)) W:=by
 rw[run_max_int2]
 congr 2
 rw[Int.max_def];by_cases h:a<b
 .rw[if_pos h,if_pos (by omega)]
 .rw[if_neg h];by_cases c:a<=b
  .rw[if_pos c];omega
  .rw[if_neg c]
theorem iY(c:Array TypeId)(t:TypeId)(a b:Int):(Builtin.min_ c t #[iv a,iv b]).run P W=.ok (iv (min a b)) W:=by
 rw[run_min_int2]
 congr 2
 rw[Int.min_def];by_cases h:b<a
 .rw[if_pos h,if_neg (by omega)]
 .rw[if_neg h,if_pos (by omega)]
variable{t:TypeId}{x y:Operand}
theorem Tr(a b:Int)(d:P.underlying t=some (.int .i64))(h:-9223372036854775808<=a+b/\a+b<=9223372036854775807):(do Go.eqGuard .add t x y (iv a) (iv b);Go.binOp .add t (iv a) (iv b):Sem Value).run P W=.ok (iv (a+b)) W:=by
 have c:IntKind.i64.wrap (a+b)=a+b:=by rw[IntKind.wrap_i64];omega
 simp[Go.eqGuard,Go.binOp,go_sem,c]
theorem AZ(k:Nat)(a:Int)(b:P.underlying 3=some (.int .i64))(h:-9223372036854775808<=a+1/\a+1<=9223372036854775807):(do Go.eqGuard .add 3 (.tmp k) (.const (iv 1)) (iv a) (iv 1);Go.binOp .add 3 (iv a) (iv 1):Sem Value).run P W=.ok (iv (a+1)) W:=Tr a 1 b h
theorem lA(a b:Int)(d:P.underlying t=some (.int .i64))(h:-9223372036854775808<=a-b/\a-b<=9223372036854775807):(do Go.eqGuard .sub t x y (iv a) (iv b);Go.binOp .sub t (iv a) (iv b):Sem Value).run P W=.ok (iv (a-b)) W:=by
 have c:IntKind.i64.wrap (a-b)=a-b:=by rw[IntKind.wrap_i64];omega
 simp[Go.eqGuard,Go.binOp,go_sem,c]
end
end
section
theorem Ui(a b:Bal):decide (a.r=b.r/\a.n=b.n)=decide (a=b):=nK.2 (Bal.eq_iff a b)
variable{W:World}{x y:Operand}
theorem ms(a b:Bal):(do Go.eqGuard .eql 123 x y (.agg #[iv a.r,iv a.n]) (.agg #[iv b.r,iv b.n]);Go.binOp .eql 123 (.agg #[iv a.r,iv a.n]) (.agg #[iv b.r,iv b.n]):Sem Value).run prog W=.ok (.bool (decide (a=b))) W:=by
 have c:=cR a.r a.n b.r b.n W;rw[Ui]at c
 have d:(Go.eqGuard .eql 123 x y (.agg #[iv a.r,iv a.n]) (.agg #[iv b.r,iv b.n])).run prog W=.ok () W:=by kernel_rfl
 rw[Sem.run_bind,d,Result.andThen_ok];exact c
theorem iI(a b c d:Int):∀ w,(binOp .neq 123 (.agg #[.int .i64 a,.int .i64 b]) (.agg #[.int .i64 c,.int .i64 d])).run prog w=.ok (.bool (!decide (a=c/\b=d))) w:=by
 intro w;rw[run_neq_struct,run_equalIn_agg w 9999 _ _ _ (by kernel_rfl) (by kernel_rfl)];unfold Program.fieldsOf;rw[underlying123];have e:=underlying3;simp[Op.eqFields,go_sem,e]
 repeat' split
 all_goals simp_all
theorem kZ(a b:Bal):(do Go.eqGuard .neq 123 x y (.agg #[iv a.r,iv a.n]) (.agg #[iv b.r,iv b.n]);Go.binOp .neq 123 (.agg #[iv a.r,iv a.n]) (.agg #[iv b.r,iv b.n]):Sem Value).run prog W=.ok (.bool (!decide (a=b))) W:=by
 have c:=iI a.r a.n b.r b.n W;rw[Ui]at c
 have d:(Go.eqGuard .neq 123 x y (.agg #[iv a.r,iv a.n]) (.agg #[iv b.r,iv b.n])).run prog W=.ok () W:=by kernel_rfl
 rw[Sem.run_bind,d,Result.andThen_ok];exact c
theorem OB(a b:Cmd):decide (a.k=b.k/\a.c=b.c/\a.s=b.s/\a.n=b.n/\a.v=b.v)=decide (a=b):=nK.2 (Cmd.eq_iff a b)
theorem mt(a b:Cmd):(do Go.eqGuard .eql 64 x y (.agg #[iv a.k,iv a.c,iv a.s,iv a.n,iv a.v]) (.agg #[iv b.k,iv b.c,iv b.s,iv b.n,iv b.v]);Go.binOp .eql 64 (.agg #[iv a.k,iv a.c,iv a.s,iv a.n,iv a.v]) (.agg #[iv b.k,iv b.c,iv b.s,iv b.n,iv b.v]):Sem Value).run prog W=.ok (.bool (decide (a=b))) W:=by
 have d:=Uu a.k a.c a.s a.n a.v b.k b.c b.s b.n b.v W;rw[OB]at d
 have e:(Go.eqGuard .eql 64 x y (.agg #[iv a.k,iv a.c,iv a.s,iv a.n,iv a.v]) (.agg #[iv b.k,iv b.c,iv b.s,iv b.n,iv b.v])).run prog W=.ok () W:=by kernel_rfl
 rw[Sem.run_bind,e,Result.andThen_ok];exact d
theorem I3(a b:Bal)(h:a≠b):(do Go.eqGuard .neq 123 x y (.agg #[iv a.r,iv a.n]) (.agg #[iv b.r,iv b.n]);Go.binOp .neq 123 (.agg #[iv a.r,iv a.n]) (.agg #[iv b.r,iv b.n]):Sem Value).run prog W=.ok (.bool true) W:=by rw[kZ,G' h];rfl
theorem I2(a b:Bal)(h:a=b):(do Go.eqGuard .neq 123 x y (.agg #[iv a.r,iv a.n]) (.agg #[iv b.r,iv b.n]);Go.binOp .neq 123 (.agg #[iv a.r,iv a.n]) (.agg #[iv b.r,iv b.n]):Sem Value).run prog W=.ok (.bool false) W:=by rw[kZ,N' h];rfl
theorem hZ{j:Nat}(h:j<5):j=0\/j=1\/j=2\/j=3\/j=4:=by omega
theorem Gf:∀ ts:List Tol,(ts.flatMap F4).length=ts.length*5
 | []=>rfl
 | t::r=>by rw[oS,I',Gf r,mR];show 5+_=_;omega
end
section
variable{P:Program}{fn:Func}{R:Ending->World->Prop}{B:Nat}{T:List Tg}{g:Gh}{w:World}
section
variable{B' i nb ob:Nat}{L:List Sh}{T':List Tg}{g0:Gh}{ls:List Let}{lt tl:S3}{p p0:Nod}{s:Xs}{ts:List Tol}{v:Value}{w0:World}{x x0:NX}
theorem qR(a:List Tg)(m:Nat)(h:List Nat)(c:∀ gs g' w',Cg B a g w g' w'->GG P fn R B T (rn0 P a gs m s h).s g' w')(b:∀ gs,(rn0 P a gs m s h).o.map Ob.l'=(rn0 P a gs m s h).o.map Ob.r':=by intro _;kernel_rfl):GG P fn R B T s g w:=dc a m h b c
theorem qV(i:Nat)(v:Value){S:Sem Value}(c:S.run P w=.ok v w)(b:GG P fn R B T (nxt s i v s.L).s g w)(d:Dw s i=some (S>>=λv=>pure (.value v)):=by kernel_rfl)(a:(nxt s i undef s.L).o.map Ob.l'=(nxt s i undef s.L).o.map Ob.r':=by kernel_rfl):GG P fn R B T s g w:=de i v (λ_=>XC d c) a b
theorem qT(i:Nat)(v:Value){S:Sem Value}(c:∀ W,S.run P W=.ok v W)(b:GG P fn R B T (tkN s i v false).s g w)(d:Dw s i=some (S>>=λv=>pure (.value v)):=by kernel_rfl)(a:(tkN s i undef false).o.map Ob.l'=(tkN s i undef false).o.map Ob.r':=by kernel_rfl):GG P fn R B T s g w:=PZ i v false (λW _=>XC d (c W)) a b
theorem qU(i:Nat)(v:Value){S:Sem Value}(c:∀ W,(true=true->AO (ZV s) W)->S.run P W=.ok v W)(b:GG P fn R B T (tkN s i v true).s g w)(d:Dw s i=some (S>>=λv=>pure (.value v)):=by kernel_rfl)(a:(tkN s i undef true).o.map Ob.l'=(tkN s i undef true).o.map Ob.r':=by kernel_rfl):GG P fn R B T s g w:=PZ i v true (λW h=>XC d (c W h)) a b
theorem qI(b t:Bool)(a:b=t)(h:GG P fn R B T (Lq s t) g w)(c:PK s=.bool b:=by kernel_rfl):GG P fn R B T s g w:=gIf b t a c h
theorem qC(i:Nat){f:FuncId}{a:Array Value}{C:Ending->World->Prop}(c:Calls P f a w C)(h:∀ e w',C e w'->∃ v,e=.returned v/\Bw w w'/\GG P fn R B T (nxt s i v s.L).s g w')(j:∀ W,CO P s i W=some (.ok (.enter f a) W):=by intro _;kernel_rfl)(d:Lt s i=true:=by kernel_rfl)(b:(nxt s i undef s.L).o.map Ob.l'=(nxt s i undef s.L).o.map Ob.r':=by kernel_rfl):GG P fn R B T s g w:=ip i f a j d b c h
theorem qG(i:Nat)(a:List Tg)(m:List Bool){f:FuncId}{c:Array Value}{C:Ending->World->Prop}(j:Calls P f c w C)(q:∀ e w',C e w'->∃ v g',e=.returned v/\Cg w.heap.size a g w g' w'/\(∀ b,w'.heap.size<=b->g'.t b=.z/\g'.k b=0)/\GG P fn R B T (nxt s i v (AE m s.L)).s g' w')(r:∀ W,CO P s i W=some (.ok (.enter f c) W):=by intro _;kernel_rfl)(p:Lt s i=true:=by kernel_rfl)(d:(nxt s i undef (AE m s.L)).o.map Ob.l'=(nxt s i undef (AE m s.L)).o.map Ob.r':=by kernel_rfl)(h:(AE m s.L).all (λx=>a.all λt=>x.t.ne t)=true:=by kernel_rfl):GG P fn R B T s g w:=Sm i f c a m r p d h j q
theorem qE(v:Value)(h:Kn B g w s.L->R (.returned v) w)(a:Kn B g w s.L->(results fn s.f.act.tmps).run P w=.ok v w:=by intro _;kernel_rfl)(b:MJ s.K=true:=by kernel_rfl):GG P fn R B T s g w:=VF v b a h
theorem qB{J:Act->World->Prop}{n:Nat}{e:List (Nat × Value)}(m:List Bool){a:List Sh}(h:∀ z,Kn B g w s.L->Kn B g w a->J (⟨n,e,z⟩:Fm).act w)(i:isJ s.K=true:=by kernel_rfl)(b:jK s.K=J:=by kernel_rfl)(j:s.f.n=n:=by kernel_rfl)(d:e.map (λp=>lk s.f.z s.f.e p.1)=e.map (·.2):=by kernel_rfl)(c:B2 (AE m s.L)=a:=by kernel_rfl):GG P fn R B T s g w:=Ee J n e m a i b j d c h
theorem Kn.sr(h:Kn B g w L){i b:Nat}{d:Array Value}(a:(L[i]?).map (λx=>(x.g,C6 x.o,DS x.o))=some (b,d,true)):∃ e,w.heap[b]?=some (.cells d e (0,0)):=by
 cases hi:L[i]? with
 | none=>rw[hi]at a;cases a
 | some x =>
  rw[hi]at a
  have f:=(h.row x (nm hi)).1;obtain⟨j,k,m,p⟩:=x;simp only[nA,P',nH]at a f;obtain⟨rfl,rfl,c⟩:=a;rw[f];unfold DS at c;split at c
  .exact⟨_,rfl⟩
  .cases c
theorem Hp{a:TypeId}(h:FZ P a=true):∃ d,P.underlying a=some d/\d.isRow=true:=by
 unfold FZ at h;split at h
 .rename_i d hd
  exact⟨d,hd,h⟩
 .cases h
theorem qE1(p:Tmp)(c:TypeId)(i b:Nat)(a:Array Value)(h:Kn B g w s.L->R (.returned (.agg a)) w)(t:(s.L[i]?).map (λx=>(x.g,C6 x.o,DS x.o))=some (b,a,true):=by kernel_rfl)(j:fn.results=#[.cell p c]:=by kernel_rfl)(m:s.f.act.tmps.getD p undef=pt b 0:=by kernel_rfl)(r:FZ P c=true:=by kernel_rfl)(k:(P.info? c).map (·.size)=some a.size:=by kernel_rfl)(q:MJ s.K=true:=by kernel_rfl):GG P fn R B T s g w :=
 VF _ q (λK=>let ⟨e,he⟩:=K.sr t;let ⟨d,h1,h2⟩:=Hp r;aT j _ _ b e a (0,0) d m he h1 (by cases d<;>first|rfl|cases h2) k) h
theorem qE2(p u:Tmp)(c:TypeId)(i b:Nat)(a:Array Value)(v:Value)(h:Kn B g w s.L->R (.returned (.tuple #[.agg a,v])) w)(y:(s.L[i]?).map (λx=>(x.g,C6 x.o,DS x.o))=some (b,a,true):=by kernel_rfl)(j:fn.results=#[.cell p c,.tmp u]:=by kernel_rfl)(m:s.f.act.tmps.getD p undef=pt b 0:=by kernel_rfl)(t:s.f.act.tmps.getD u undef=v:=by kernel_rfl)(r:FZ P c=true:=by kernel_rfl)(k:(P.info? c).map (·.size)=some a.size:=by kernel_rfl)(q:MJ s.K=true:=by kernel_rfl):GG P fn R B T s g w :=
 VF _ q (λK=>let ⟨e,he⟩:=K.sr y;let ⟨d,h1,h2⟩:=Hp r;by rw[<- t];exact ES j _ _ b e a (0,0) d m he h1 (by cases d<;>first|rfl|cases h2) k) h
theorem qE3(p u k:Tmp)(j:TypeId)(i b:Nat)(a:Array Value)(v m:Value)(h:Kn B g w s.L->R (.returned (.tuple #[.agg a,v,m])) w)(D:(s.L[i]?).map (λx=>(x.g,C6 x.o,DS x.o))=some (b,a,true):=by kernel_rfl)(q:fn.results=#[.cell p j,.tmp u,.tmp k]:=by kernel_rfl)(t:s.f.act.tmps.getD p undef=pt b 0:=by kernel_rfl)(C:s.f.act.tmps.getD u undef=v:=by kernel_rfl)(c:s.f.act.tmps.getD k undef=m:=by kernel_rfl)(A:FZ P j=true:=by kernel_rfl)(r:(P.info? j).map (·.size)=some a.size:=by kernel_rfl)(y:MJ s.K=true:=by kernel_rfl):GG P fn R B T s g w :=
 VF _ y (λK=>let ⟨e,he⟩:=K.sr D;let ⟨d,h1,h2⟩:=Hp A;by rw[<- C,<- c];exact kL q _ _ b e a (0,0) d t he h1 (by cases d<;>first|rfl|cases h2) r) h
theorem qE4(p y:Tmp)(v c:TypeId)(i b j m:Nat)(k a:Array Value)(h:Kn B g w s.L->R (.returned (.tuple #[.agg k,.agg a])) w)(G:(s.L[i]?).map (λx=>(x.g,C6 x.o,DS x.o))=some (b,k,true):=by kernel_rfl)(u:(s.L[j]?).map (λx=>(x.g,C6 x.o,DS x.o))=some (m,a,true):=by kernel_rfl)(A:fn.results=#[.cell p v,.cell y c]:=by kernel_rfl)(D:s.f.act.tmps.getD p undef=pt b 0:=by kernel_rfl)(r:s.f.act.tmps.getD y undef=pt m 0:=by kernel_rfl)(F:FZ P v=true:=by kernel_rfl)(t:FZ P c=true:=by kernel_rfl)(C:(P.info? v).map (·.size)=some k.size:=by kernel_rfl)(q:(P.info? c).map (·.size)=some a.size:=by kernel_rfl)(E:MJ s.K=true:=by kernel_rfl):GG P fn R B T s g w :=
 VF _ E (λK=>let ⟨e,he⟩:=K.sr G;let ⟨e',he'⟩:=K.sr u;let ⟨d,h1,h2⟩:=Hp F;let ⟨d',h3,h4⟩:=Hp t;jT A _ _ b m e e' k a (0,0) (0,0) d d' D he h1 (by cases d<;>first|rfl|cases h2) C r he' h3 (by cases d'<;>first|rfl|cases h4) q) h
theorem qE5(p C u:Tmp)(A c:TypeId)(i b j m:Nat)(k a:Array Value)(v:Value)(h:Kn B g w s.L->R (.returned (.tuple #[.agg k,.agg a,v])) w)(J:(s.L[i]?).map (λx=>(x.g,C6 x.o,DS x.o))=some (b,k,true):=by kernel_rfl)(y:(s.L[j]?).map (λx=>(x.g,C6 x.o,DS x.o))=some (m,a,true):=by kernel_rfl)(D:fn.results=#[.cell p A,.cell C c,.tmp u]:=by kernel_rfl)(F:s.f.act.tmps.getD p undef=pt b 0:=by kernel_rfl)(r:s.f.act.tmps.getD C undef=pt m 0:=by kernel_rfl)(I:s.f.act.tmps.getD u undef=v:=by kernel_rfl)(H:FZ P A=true:=by kernel_rfl)(t:FZ P c=true:=by kernel_rfl)(E:(P.info? A).map (·.size)=some k.size:=by kernel_rfl)(q:(P.info? c).map (·.size)=some a.size:=by kernel_rfl)(G:MJ s.K=true:=by kernel_rfl):GG P fn R B T s g w :=
 VF _ G (λK=>let ⟨e,he⟩:=K.sr J;let ⟨e',he'⟩:=K.sr y;let ⟨d,h1,h2⟩:=Hp H;let ⟨d',h3,h4⟩:=Hp t;by rw[<- I];exact jU D _ _ b m e e' k a (0,0) (0,0) d d' F he h1 (by cases d<;>first|rfl|cases h2) E r he' h3 (by cases d'<;>first|rfl|cases h4) q) h
theorem qN(h:NodeAt g w i nb ob x p)(b:GG P fn R B T ⟨s.K,s.f,B2 s.L++[⟨nb,.cells (Az i ob p x) 145,.n 0 i,false⟩]⟩ g w)(a:s.L.all (λy=>(Tg.n 0 i).ne y.t)=true:=by kernel_rfl):GG P fn R B T s g w:=Ii nb _ 0 i h.row h.tag h.rM a b
theorem qO(h:OutAt g w ob lt tl ls ts)(b:GG P fn R B T ⟨s.K,s.f,B2 s.L++[⟨ob,.cells #[lt.v,tl.v] 115,.n 50 0,false⟩]⟩ g w)(a:s.L.all (λy=>(Tg.n 50 0).ne y.t)=true:=by kernel_rfl):GG P fn R B T s g w:=Ii ob _ 50 0 h.row h.tag h.rM a b
theorem qS0(n:Nat)(m:List Bool){f:FuncId}{k:Array Value}{i b a:Nat}{v:Value}{p:Nod}{q:List Let}{r:List Tol}(A:Calls P f k w (NP i b a g w v p q r))(D:∀ g' w' x lt tl,NodeAt g' w' i b a x p->OutAt g' w' a lt tl q r->Cg B (TN i) g w g' w'->GG P fn R B T ⟨(nxt s n v (AE m s.L)).s.K,(nxt s n v (AE m s.L)).s.f,B2 (B2 (nxt s n v (AE m s.L)).s.L++[⟨b,.cells (Az i a p x) 145,.n 0 i,false⟩])++[⟨a,.cells #[lt.v,tl.v] 115,.n 50 0,false⟩]⟩ g' w')(E:∀ W,CO P s n W=some (.ok (.enter f k) W):=by intro _;kernel_rfl)(C:Lt s n=true:=by kernel_rfl)(j:(nxt s n undef (AE m s.L)).o.map Ob.l'=(nxt s n undef (AE m s.L)).o.map Ob.r':=by kernel_rfl)(u:(AE m s.L).all (λx=>(TN i).all λt=>x.t.ne t)=true:=by kernel_rfl)(d:(nxt s n v (AE m s.L)).s.L.all (λy=>(Tg.n 0 i).ne y.t)=true:=by kernel_rfl)(h:∀ x:NX,(B2 (nxt s n v (AE m s.L)).s.L++[(⟨b,.cells (Az i a p x) 145,.n 0 i,false⟩:Sh)]).all (λy=>(Tg.n 50 0).ne y.t)=true:=by intro _;kernel_rfl):GG P fn R B T s g w :=
 qG n (TN i) m A (λ_ w' ⟨g',e,M,c⟩=>⟨v,g',e,c,M.new,let ⟨x,lt,tl,hN,hO,_⟩:=M;qN hN (qO hO (D g' w' x lt tl hN hO c.ret) (h x)) d⟩) E C j u
theorem qS(n:Nat)(m:List Bool){f:FuncId}{E:Array Value}{i b a I:Nat}{e:List Tg}{h:Gh}{D:World}{Z:NX}{u A:S3}{v:Value}{G p:Nod}{c F:List Let}{d H:List Tol}(J:NodeAt h D i b a Z G)(M:OutAt h D a u A c d)(C:Cg I e h D g w)(O:NS i b a g w G c d->Calls P f E w (NP i b a g w v p F H))(S:∀ g' w' x lt tl,NodeAt g' w' i b a x p->OutAt g' w' a lt tl F H->Cg B (TN i) g w g' w'->GG P fn R B T ⟨(nxt s n v (AE m s.L)).s.K,(nxt s n v (AE m s.L)).s.f,B2 (B2 (nxt s n v (AE m s.L)).s.L++[⟨b,.cells (Az i a p x) 145,.n 0 i,false⟩])++[⟨a,.cells #[lt.v,tl.v] 115,.n 50 0,false⟩]⟩ g' w')(Y:Tg.z∉e:=by simp)(U:∀ r,r<6->Tg.n r i∉e:=by simp)(V:∀ r,50<=r->Tg.n r 0∉e:=by simp)(X:∀ W,CO P s n W=some (.ok (.enter f E) W):=by intro _;kernel_rfl)(Q:Lt s n=true:=by kernel_rfl)(q:(nxt s n undef (AE m s.L)).o.map Ob.l'=(nxt s n undef (AE m s.L)).o.map Ob.r':=by kernel_rfl)(N:(AE m s.L).all (λx=>(TN i).all λt=>x.t.ne t)=true:=by kernel_rfl)(j:(nxt s n v (AE m s.L)).s.L.all (λy=>(Tg.n 0 i).ne y.t)=true:=by kernel_rfl)(k:∀ x:NX,(B2 (nxt s n v (AE m s.L)).s.L++[(⟨b,.cells (Az i a p x) 145,.n 0 i,false⟩:Sh)]).all (λy=>(Tg.n 50 0).ne y.t)=true:=by intro _;kernel_rfl):GG P fn R B T s g w :=
 Ad λK=>qS0 n m (O (nsC J M C K Y U V)) S X Q q N j k
theorem qF{a:Gh}{b:World}(d:NodeAt a b i nb ob x p)(e:OutAt a b ob lt tl ls ts)(c:Cg B' T' a b g w)(C:Cg w0.heap.size (TN i) g0 w0 g w)(o:Tg.z∉T':=by simp)(h:∀ r,r<6->Tg.n r i∉T':=by simp)(j:∀ r,50<=r->Tg.n r 0∉T':=by simp)(k:Kn w0.heap.size g w s.L->(results fn s.f.act.tmps).run P w=.ok v w:=by intro _;kernel_rfl)(m:MJ s.K=true:=by kernel_rfl):GG P fn (NP i nb ob g0 w0 v p ls ts) w0.heap.size T s g w :=
 qE v (λK=>⟨_,rfl,nsC d e c K o h j,C⟩) k m
theorem Kn.nd(h:Kn B g w L)(k:Nat)(a:FSl g w x.tape p.d)(c:FSv g w x.eA p.vo.vs)(e:∀ j,j<5->FSv g w (x.hv j) (p.bt.av j).vs)(f:∃ vs,OwnS g w (.n 1 i) true 1 1 x.synced vs/\Pends g w nb vs p.br)(m:OwnS g w (.n 2 i) false 64 5 x.cn (cmL p.bt.cn))(o:OwnS g w (.n 3 i) true 64 5 x.ae (cmL p.ae))(r:OwnS g w (.n 4 i) false 64 5 x.af (cmL p.af))(s:Xq g w i p.bu x.bu)(t:p.up=true->∃ b,x.bu=some b)(u:L[k]?=some ⟨nb,.cells (Az i ob p x) 145,.n 0 i,false⟩:=by kernel_rfl):NodeAt g w i nb ob x p :=
 have q:=h.rI k nb _ 0 i u
 ⟨q.1,q.2.1,q.2.2,a,c,e,f,m,o,r,s,t⟩
theorem Kn.sA{C:Nat}{f:List Tg}(h:Kn B g w L)(k:Nat)(a:NodeAt g0 w0 i nb ob x0 p0)(c:Cg C f g0 w0 g w)(I:L[k]?=some ⟨nb,.cells (Az i ob p x) 145,.n 0 i,false⟩:=by kernel_rfl)(e:Tg.z∉f:=by simp)(b:∀ r,1<=r->r<6->Tg.n r i∉f:=by simp;try omega)(o:x=x0:=by rfl)(s:p.d=p0.d:=by rfl)(t:p.vo.vs=p0.vo.vs:=by rfl)(u:p.bt.av=p0.bt.av:=by rfl)(v:p.br=p0.br:=by rfl)(y:p.bt.cn=p0.bt.cn:=by rfl)(A:p.ae=p0.ae:=by rfl)(D:p.af=p0.af:=by rfl)(E:p.bu=p0.bu:=by rfl)(m:p.up=p0.up:=by rfl):NodeAt g w i nb ob x p:=by
 have q:=h.rI k nb _ 0 i I;subst o;obtain⟨vs,F,G⟩:=a.br;exact⟨q.1,q.2.1,q.2.2,by rw[s];exact a.tape.ch c e,by rw[t];exact a.eA.ch c e,by rw[u];exact λj H=>(a.av j H).ch c e,by rw[v];exact⟨vs,F.ch c (b 1 (by omega) (by omega)) (by simp),G.ch c e⟩,by rw[y];exact a.cn.ch c (b 2 (by omega) (by omega)) (by simp),by rw[A];exact a.ae.ch c (b 3 (by omega) (by omega)) (by simp),by rw[D];exact a.af.ch c (b 4 (by omega) (by omega)) (by simp),by rw[E];exact a.bu.ch c (b 5 (by omega) (by omega)),by rw[m];exact a.rP⟩
theorem Kn.od(h:Kn B g w L)(k:Nat)(a:∃ bs:List Nat,OwnS g w (.n 51 0) false 187 1 lt (bs.map (pt · 0))/\Lets g w bs ls)(b:OwnS g w (.n 52 0) false 150 5 tl (ts.flatMap F4))(c:L[k]?=some ⟨ob,.cells #[lt.v,tl.v] 115,.n 50 0,false⟩:=by kernel_rfl):OutAt g w ob lt tl ls ts :=
 have q:=h.rI k ob _ 50 0 c
 ⟨q.1,q.2.1,q.2.2,a,b⟩
end
end
section
structure RdC(w:World)(x:S3)(l:List Cmd):Prop where
 len:x.n=l.length
 cap:x.n<=x.c
 sh:x.a=none->x.c=0
 ex:l=[]\/∃ b off,x.a=some ⟨b,off,none⟩/\b<w.heap.size/\∀ j u,(cmL l)[j]?=some u->w.cell? ⟨b,off+j,none⟩=some u
variable{g:Gh}{l:List Cmd}{w:World}{x:S3}
theorem OwnS.rd{τ:Tg}{i:Bool}{e:TypeId}(h:OwnS g w τ i e 5 x (cmL l)):RdC w x l:=by
 have c:=h.num;rcases h.ex with⟨h1,h2,h3⟩|⟨b,cur,h1,h2,h3,h4,h5,h6,h7,h8⟩
 .exact⟨c,by omega,λ_=>h3,.inl (mG (by omega))⟩
 .refine⟨c,h3,λh=>(by rw[h1]at h;cases h),.inr ⟨b,0,h1,rl h2,λj u f=>?_⟩⟩;obtain⟨k,a,_,d⟩:=h.cell f;rw[h1]at a
  simp only[P',Addr.mk.injEq,and_true]at a;subst a;rw[nn];exact d
theorem RdC.ab{d:World}(h:RdC w x l)(b:Bw w d):RdC d x l :=
 ⟨h.len,h.cap,h.sh,h.ex.imp id λ⟨k,a,e,c,f⟩=>⟨k,a,e,X' c b.size,λj u g=>(b.cell (p:=⟨k,a+j,none⟩) c).trans (f j u g)⟩⟩
def S3.cut(x:S3)(l h:Nat):S3:=⟨if x.c=l then x.a else x.a.map (·.add (l*5)),h-l,x.c-l⟩
theorem Rc.drop(h:Rc g w x l){k:Nat}(i:k<=l.length):Rc g w (x.cut k x.n) (l.drop k):=by
 have e:=h.len;have f:=h.cap;refine⟨by simp[S3.cut,e],by simp only[S3.cut];omega,λc=>?_,?_⟩
 .simp only[S3.cut]at c ⊢;split at c
  .omega
  .cases ha:x.a with
   | none=>have:=h.sh ha;omega
   | some a=>rw[ha]at c;cases c
 .rcases h.ex with rfl|⟨b,off,h1,h2,h3,h4⟩
  .exact .inl (by simp)
  .by_cases he:k=l.length
   .exact .inl (by rw[he];simp)
   .refine .inr ⟨b,off+k*5,?_,h2,λj u d=>?_,?_⟩
    .simp only[S3.cut];rw[if_neg (by omega),h1];simp only[nA,P'];unfold Addr.add;split
     .rename_i h0;rw[show k=0 by omega];simp
     .simp
    .rw[<- Lo,nN]at d
     have:=h3 _ u d;rw[show off+k*5+j=off+(5*k+j)by omega];exact this
    .rcases h4 with h4|h4
     .exact .inl h4
     .right;rw[mJ];omega
theorem Rc.addr(h:Rc g w x l){k:Nat}(c:k<l.length):∃ b off,x.a=some ⟨b,off,none⟩:=by
 rcases h.ex with rfl|⟨b,off,h2,_⟩
 .simp at c
 .exact⟨b,off,h2⟩
theorem Rc.cellAt(h:Rc g w x l){b d j q:Nat}{c:Cmd}{u:Value}(f:x.a=some ⟨b,d,none⟩)(e:l[j]?=some c)(i:(cmV c)[q]?=some u):w.cell? ⟨b,d+5*j+q,none⟩=some u:=by
 rcases h.ex with rfl|⟨b',off',h1,h2,h3,_⟩
 .cases e
 .rw[f]at h1
  simp only[P',Addr.mk.injEq,and_true]at h1;obtain⟨rfl,rfl⟩:=h1;rw[nP];exact h3 _ u (O9 e i)
theorem RdC.cellAt(h:RdC w x l){b d j q:Nat}{c:Cmd}{u:Value}(f:x.a=some ⟨b,d,none⟩)(e:l[j]?=some c)(g:(cmV c)[q]?=some u):w.cell? ⟨b,d+5*j+q,none⟩=some u:=by
 rcases h.ex with rfl|⟨b',off',h1,h2,h3⟩
 .cases e
 .rw[f]at h1
  simp only[P',Addr.mk.injEq,and_true]at h1;obtain⟨rfl,rfl⟩:=h1;rw[nP];exact h3 _ u (O9 e g)
theorem RdC.addr(h:RdC w x l){k:Nat}(c:k<l.length):∃ b off,x.a=some ⟨b,off,none⟩:=by
 rcases h.ex with rfl|⟨b,off,h2,_⟩
 .simp at c
 .exact⟨b,off,h2⟩
theorem XO(l:List Cmd)(k:Nat){j:Nat}{u:Value}(h:(cmL (l.take k))[j]?=some u):(cmL l)[j]?=some u:=by
 have a:cmL l=cmL (l.take k)++cmL (l.drop k):=by rw[<- BY,oq]
 rw[a,mP (Q'.1 h).1];exact h
theorem RdC.take(h:RdC w x l){k:Nat}(g:k<=l.length):RdC w (x.cut 0 k) (l.take k):=by
 have i:=h.len;have f:=h.cap;have c:(x.cut 0 k).a=x.a:=by
  simp only[S3.cut];split
  .rfl
  .cases x.a with
   | none=>rfl
   | some a=>simp[Addr.add]
 refine⟨by simp[S3.cut];omega,by simp only[S3.cut];omega,λd=>?_,?_⟩
 .rw[c]at d
  have:=h.sh d;simp only[S3.cut];omega
 .rcases h.ex with rfl|⟨b,off,h1,h2,h3⟩
  .exact .inl (by simp)
  .exact .inr ⟨b,off,by rw[c];exact h1,h2,λj u e=>h3 j u (XO l k e)⟩
end
section
variable{W:World}
section
theorem sz5:(Go.sizeOf (prog.elem 38)).run prog W=.ok 5 W:=by kernel_rfl
theorem unC:prog.underlying 38=some (.slice (prog.elem 38)):=by kernel_rfl
theorem ja(x:S3)(k:Nat)(a:k<=x.n):(Instr.sliceAt 38 x.v (some (iv (k:Int))) none none).run prog W=.ok (S3.v (x.cut k x.n)) W:=by
 rw[run_sliceAt_slice _ _ _ _ _ _ unC,run_slice_l (P:=prog) (w:=W) _ _ _ _ unC .i64 k (by omega) (by omega),sz5];simp[Result.andThen,sliced,S3.cut]
theorem l9(x:S3)(k:Nat)(a:k<=x.c):(Instr.sliceAt 38 x.v none (some (iv (k:Int))) none).run prog W=.ok (S3.v (x.cut 0 k)) W:=by
 rw[run_sliceAt_slice _ _ _ _ _ _ unC,run_slice_h (P:=prog) (w:=W) _ _ _ _ unC .i64 k (by omega) (by omega),sz5];simp[Result.andThen,sliced,S3.cut]
variable{b k off:Nat}{x:S3}{y:Operand}
theorem l6(d:x.a=some ⟨b,off,none⟩)(k:Nat)(f:k<x.n)(e:x.n<=x.c):(Instr.sliceAt 38 x.v (some (iv (k:Int))) none none).run prog W=.ok (.slice (some ⟨b,off+5*k,none⟩) (x.n-k) (x.c-k)) W:=by
 rw[ja x k (by omega)];unfold S3.v S3.cut;simp only;rw[if_neg (by omega),d];simp only[nA,Addr.add];split
 .rename_i h0;rw[show k=0 by omega];rfl
 .simp only[ph]
theorem lC{P:Program}{x:Operand}(a b:Nat)(c:P.underlying 3=some (.int .i64))(h:b<=a)(d:a<4611686018427387904):(do Go.eqGuard .sub 3 x y (iv (a:Int)) (iv (b:Int));Go.binOp .sub 3 (iv (a:Int)) (iv (b:Int)):Sem Value).run P W=.ok (iv ((a-b:Nat):Int)) W:=by
 rw[lA _ _ c (by omega)]
 congr 3
 omega
theorem kA{g:Gh}{l:List Cmd}(e:x.a=some ⟨b,off,none⟩)(h:Rc g W x l)(k:Nat)(f:k<l.length):∀ j u,(cmL (l.drop k))[j]?=some u->W.cell? ((⟨b,off+5*k,none⟩:Addr).add j)=some u:=by
 intro j u d;rcases h.ex with rfl|⟨b',off',h1,h2,h3,h4⟩
 .simp at f
 .rw[e]at h1
  simp only[P',Addr.mk.injEq,and_true]at h1;obtain⟨rfl,rfl⟩:=h1;rw[<- Lo,nN]at d
  have:=h3 _ u d;have c:(⟨b,off+5*k,none⟩:Addr).add j=⟨b,off+5*k+j,none⟩:=by unfold Addr.add;split<;>simp_all
  rw[c,show off+5*k+j=off+(5*k+j)by omega];exact this
theorem Mb(c:x.a=some ⟨b,off,none⟩)(j:Nat)(d:j<x.n):(Instr.indexAt 38 x.v (iv (j:Int))).run prog W=.ok (pt b (off+5*j)) W:=by
 unfold S3.v;rw[c];exact MX (P:=prog) (e:=64) (z:=5) underlying38 (by kernel_rfl) (by kernel_rfl) d _ rfl
theorem Pa(c:Cmd)(h:∀ j u,(cmV c)[j]?=some u->W.cell? ⟨b,k+j,none⟩=some u):(Instr.loadAt 64 (pt b k)).run prog W=.ok (.agg #[iv c.k,iv c.c,iv c.s,iv c.n,iv c.v]) W:=by
 have a:=run_loadVar_mid (P:=prog) W b k 64 (cmV c) _ (λj u d=>h j u d) underlying64 rfl (by kernel_rfl);simp only[Instr.loadAt,Instr.sureAddr,Sem.run_bind,Sem.run_pure,Result.andThen_ok];exact a
theorem UM(c:x.a=some ⟨b,off,none⟩)(j:Nat)(d:j<x.n):(Instr.indexAt 124 x.v (iv (j:Int))).run prog W=.ok (pt b (off+8*j)) W:=by
 unfold S3.v;rw[c];exact MX (P:=prog) (e:=184) (z:=8) underlying124 (by kernel_rfl) (by kernel_rfl) d _ rfl
theorem eo(v:Vt)(h:W.rangeAt b k (vtC v)):(Instr.loadAt 184 (pt b k)).run prog W=.ok (.agg #[iv v.an,iv v.b.r,iv v.b.n,iv v.w.k,iv v.w.c,iv v.w.s,iv v.w.n,iv v.w.v]) W:=by
 have a:=run_loadVar_mid (P:=prog) W b k 184 (vtC v) _ h underlying184 rfl (by kernel_rfl);simp only[Instr.loadAt,Instr.sureAddr,Sem.run_bind,Sem.run_pure,Result.andThen_ok];exact a
theorem j7(u v:Vt):decide (u.an=v.an/\u.b.r=v.b.r/\u.b.n=v.b.n/\u.w.k=v.w.k/\u.w.c=v.w.c/\u.w.s=v.w.s/\u.w.n=v.w.n/\u.w.v=v.w.v)=decide (u=v):=by
 apply nK.2;constructor
 .rintro⟨a1,a2,a3,a4,a5,a6,a7,a8⟩;exact(Vt.eq_iff u v).1 ⟨a1,(Bal.eq_iff _ _).1 ⟨a2,a3⟩,(Cmd.eq_iff _ _).1 ⟨a4,a5,a6,a7,a8⟩⟩
 .rintro rfl;exact⟨rfl,rfl,rfl,rfl,rfl,rfl,rfl,rfl⟩
theorem kQ{x:Operand}(a b:Vt):(do Go.eqGuard .eql 184 x y (.agg #[iv a.an,iv a.b.r,iv a.b.n,iv a.w.k,iv a.w.c,iv a.w.s,iv a.w.n,iv a.w.v]) (.agg #[iv b.an,iv b.b.r,iv b.b.n,iv b.w.k,iv b.w.c,iv b.w.s,iv b.w.n,iv b.w.v]);Go.binOp .eql 184 (.agg #[iv a.an,iv a.b.r,iv a.b.n,iv a.w.k,iv a.w.c,iv a.w.s,iv a.w.n,iv a.w.v]) (.agg #[iv b.an,iv b.b.r,iv b.b.n,iv b.w.k,iv b.w.c,iv b.w.s,iv b.w.n,iv b.w.v]):Sem Value).run prog W=.ok (.bool (decide (a=b))) W:=by
 have d:=Yl a.an a.b.r a.b.n a.w.k a.w.c a.w.s a.w.n a.w.v b.an b.b.r b.b.n b.w.k b.w.c b.w.s b.w.n b.w.v W;rw[j7]at d
 have e:(Go.eqGuard .eql 184 x y (.agg #[iv a.an,iv a.b.r,iv a.b.n,iv a.w.k,iv a.w.c,iv a.w.s,iv a.w.n,iv a.w.v]) (.agg #[iv b.an,iv b.b.r,iv b.b.n,iv b.w.k,iv b.w.c,iv b.w.s,iv b.w.n,iv b.w.v])).run prog W=.ok () W:=by kernel_rfl
 rw[Sem.run_bind,e,Result.andThen_ok];exact d
end
end
section
variable{B sz:Nat}{P:Program}{T:List Tg}{W w w':World}{e:TypeId}{g g':Gh}{l:List Cmd}{vs:List Value}{x:S3}
theorem BW{ty:TypeId}{c:TypeDesc}{b k:Nat}{v:Value}(g:prog.underlying ty=some c)(d:c.isRow=false)(e:W.cell? ⟨b,k,none⟩=some v):(Instr.loadAt ty (pt b k)).run prog W=.ok v W:=by
 have a:(isAgg ty).run prog W=.ok false W:=by
  unfold isAgg;rw[Sem.run_bind,run_underlying g W];cases c<;>first|rfl|(simp only[TypeDesc.isRow]at d;cases d)
 have f:(loadVar ty ⟨b,k,none⟩).run prog W=.ok v W:=by simp[loadVar,a,e,go_sem]
 simp only[Instr.loadAt,Instr.sureAddr,Sem.run_bind,Sem.run_pure,Result.andThen_ok,f]
theorem Kn.sN{L:List Sh}(h:Kn B g w L)(k b:Nat)(o:Obj)(r i:Nat)(v:Bool)(c:L[k]?=some ⟨b,o,.n r i,v⟩):w.heap[b]?=some o/\g.t b=.n r i/\g.k b=0 :=
 have a:=h.row _ (nm c)
 ⟨a.1,a.2.1,a.2.2.2 (by simp)⟩
structure RdV(w:World)(x:S3)(sz:Nat)(vs:List Value):Prop where
 len:vs.length=x.n*sz
 cap:x.n<=x.c
 sh:x.a=none->x.c=0
 ex:x.n=0\/∃ b off,x.a=some ⟨b,off,none⟩/\b<w.heap.size/\∀ j u,vs[j]?=some u->w.cell? ⟨b,off+j,none⟩=some u
theorem RdC.rv(h:RdC w x l):RdV w x 5 (cmL l) :=
 ⟨by rw[Bz,h.len],h.cap,h.sh,h.ex.imp (λe=>by rw[h.len,e];rfl) id⟩
theorem RdV.rc(h:RdV w x 5 (cmL l)):RdC w x l :=
 have a:x.n=l.length:=by have:=h.len;rw[Bz]at this;omega
 ⟨a,h.cap,h.sh,h.ex.imp (λe=>mG (by omega)) id⟩
theorem RdV.ab(h:RdV w x sz vs)(b:Bw w w'):RdV w' x sz vs :=
 ⟨h.len,h.cap,h.sh,h.ex.imp id λ⟨k,a,d,c,e⟩=>⟨k,a,d,X' c b.size,λj u f=>(b.cell (p:=⟨k,a+j,none⟩) c).trans (e j u f)⟩⟩
theorem OwnS.rv{τ:Tg}{f:Bool}(h:OwnS g w τ f e sz x vs):RdV w x sz vs:=by
 rcases h.ex with⟨h1,h2,h3⟩|⟨b,cur,h1,h2,h3,h4,h5,h6,h7,h8⟩
 .exact⟨h.len,by omega,λ_=>h3,.inl h2⟩
 .refine⟨h.len,h3,λh=>(by rw[h1]at h;cases h),.inr ⟨b,0,h1,rl h2,λj u d=>?_⟩⟩;obtain⟨i,a,_,c⟩:=h.cell d;rw[h1]at a
  simp only[P',Addr.mk.injEq,and_true]at a;subst a;rw[nn];exact c
theorem ep{t:TypeId}{x y:Operand}{z:S3}{b:Bool}(f:z.a.isNone=b)(h:P.underlying t=some (.slice e))(g:(Go.eqGuard .eql t x y z.v (.slice none 0 0)).run P W=.ok () W):(do Go.eqGuard .eql t x y z.v (.slice none 0 0);Go.binOp .eql t z.v (.slice none 0 0):Sem Value).run P W=.ok (.bool b) W:=by
 subst f;rw[Sem.run_bind,g,Result.andThen_ok];have d:=run_equal_slice_nil (P:=P) (w:=W) t e z.a z.n z.c h;simp only[S3.v,binOp,Sem.run_bind,d,Result.andThen_ok];rfl
theorem fZ(t h e:TypeId)(i:TypeInfo)(g:P.underlying t=some (.slice e))(f:P.info? e=some i)(b:Nat)(a:Addr)(c:Nat):(Builtin.append_ #[t,t] h #[.slice (some ⟨b,0,none⟩) 0 0,.slice (some a) 0 c]).run P W=.ok (.slice (some ⟨b,0,none⟩) 0 0) W:=by
 have d:=run_firstCells_some (P:=P) W i.size 0 a 0 c [] (by simp) (by simp);simp[Builtin.append_,run_underlying g,sizeOf,typeInfo,f,Builtin.lenOf,d,storeCells]
structure FzV(g:Gh)(w:World)(x:S3)(sz:Nat)(vs:List Value):Prop where
 rd:RdV w x sz vs
 z:vs≠[]->Frz g x
theorem FzV.ch(h:FzV g w x sz vs)(c:Cg B T g w g' w')(v:Tg.z∉T:=by simp):FzV g' w' x sz vs:=by
 obtain⟨⟨k,q,r,i⟩,s⟩:=h;by_cases p:vs=[]
 .subst p;exact⟨⟨k,q,r,i.imp id λ⟨b,d,e,f,_⟩=>⟨b,d,e,X' f c.size,λj u o=>(by cases o)⟩⟩,λh=>absurd rfl h⟩
 .rcases i with i|⟨b,d,e,f,e3⟩
  .exact absurd (mG (by rw[k,i,Nat.zero_mul])) p
  .have hb:g.t b=.z:=s p _ e;refine⟨⟨k,q,r,.inr ⟨b,d,e,X' f c.size,λj u o=>?_⟩⟩,λ_ a m=>?_⟩
   .rw[World.cell?_of_block (w:=w) (c.zc v f hb)];exact e3 j u o
   .rw[e]at m;simp only[P']at m;subst m
    rw[c.tag f (by rw[hb];intro h;cases h)];exact hb
structure Fa where
 ro:Option Nat
 p:Gh->World->Prop
 st:∀ {B:Nat} {T:List Tg} {g g':Gh} {w w':World},Tg.z∉T->(∀ r,ro=some r->Tg.n 60 r∉T)->Cg B T g w g' w'->p g w->p g' w'
@[reducible] def AllF (g:Gh) (w:World):List Fa->Prop
 | []=>True
 | f::l=>f.p g w/\AllF g w l
variable{Φ:List Fa}
theorem AllF.ch(h:AllF g w Φ)(c:Cg B T g w g' w')(d:Tg.z∉T:=by simp)(a:∀ f∈Φ,∀ r,f.ro=some r->Tg.n 60 r∉T):AllF g' w' Φ:=by
 induction Φ with
 | nil=>trivial
 | cons f l ih=>exact⟨f.st d (a f j') c h.1,ih h.2 λf b=>a f (V' _ b)⟩
theorem AllF.lp(h:AllF g w Φ)(c:Cg B [] g w g' w'):AllF g' w' Φ:=h.ch c O' λ_ _ _ _=>O'
def Fa.zv(x:S3)(sz:Nat)(vs:List Value):Fa:=⟨none,λg w=>FzV g w x sz vs,λhz _ c h=>h.ch c hz⟩
def Fa.sl(x:S3)(l:List Int):Fa:=⟨none,λg w=>FSl g w x l,λhz _ c h=>h.ch c hz⟩
def Fa.ow(r:Nat)(e:TypeId)(sz:Nat)(x:S3)(vs:List Value):Fa:=⟨some r,λg w=>OwnS g w (.n 60 r) true e sz x vs,λ_ hr c h=>h.ch c (hr r rfl) (by simp)⟩
def TQ:List Tg:=[.n 60 0,.n 60 1,.n 60 2,.n 60 3]
theorem ma:Tg.z∉TQ:=by simp[TQ]
end
section
variable{P:Program}{fn:Func}{R:Ending->World->Prop}{w0:World}{Φ:List Fa}{g:Gh}{w:World}
section
structure GT(P:Program)(fn:Func)(R:Ending->World->Prop)(w0:World)(Φ:List Fa)(s:Xs)(g:Gh)(w:World):Prop where
 ex:AllF g w Φ->Cg w0.heap.size TQ gS w0 g w->GG P fn R w0.heap.size TQ s g w
theorem CgQ.ab(c:Cg w0.heap.size TQ gS w0 g w):Bw w0 w:=Cg.ab c λ_ _=>ma
variable{J:Act->World->Prop}{f:FuncId}{n:Nat}{s:Xs}
theorem tIn{a:Array Value}(Φ:List Fa)(e:P.funcs[f]?=some fn)(b:AllF gS w0 Φ)(h:GT P fn R w0 Φ ⟨[.c (P3 fn)],⟨fn.ntmps,O2 0 a.toList,λ_=>undef⟩,[]⟩ gS w0)(d:fn.body.isSome=true:=by kernel_rfl)(g:Nat.ble a.size fn.ntmps=true:=by kernel_rfl):Calls P f a w0 R :=
 gIn TQ gS e d g (λ_ _=>⟨rfl,rfl⟩) (h.ex b (Cg.refl _ _ _ _))
theorem tX(h:AllF g w Φ->Cg w0.heap.size TQ gS w0 g w->GG P fn R w0.heap.size TQ s g w):GT P fn R w0 Φ s g w:=⟨h⟩
theorem tF(h:AllF g w Φ->Cg w0.heap.size TQ gS w0 g w->GT P fn R w0 Φ s g w):GT P fn R w0 Φ s g w:=⟨λF C=>(h F C).ex F C⟩
theorem tR(m:Nat)(h:List Nat)(b:∀ gs g' w',GT P fn R w0 Φ (rn0 P [] gs m s h).s g' w')(a:∀ gs,(rn0 P [] gs m s h).o.map Ob.l'=(rn0 P [] gs m s h).o.map Ob.r':=by intro _;kernel_rfl):GT P fn R w0 Φ s g w :=
 ⟨λF C=>dc [] m h a λgs g' w' c=>(b gs g' w').ex (F.lp c) (C.n c)⟩
theorem tV(i:Nat)(v:Value){S:Sem Value}(c:AllF g w Φ->Cg w0.heap.size TQ gS w0 g w->S.run P w=.ok v w)(b:GT P fn R w0 Φ (nxt s i v s.L).s g w)(d:Dw s i=some (S>>=λv=>pure (.value v)):=by kernel_rfl)(a:(nxt s i undef s.L).o.map Ob.l'=(nxt s i undef s.L).o.map Ob.r':=by kernel_rfl):GT P fn R w0 Φ s g w:=⟨λF C=>qV i v (c F C) (b.ex F C) d a⟩
theorem tT(i:Nat)(v:Value){S:Sem Value}(c:∀ W,S.run P W=.ok v W)(b:GT P fn R w0 Φ (tkN s i v false).s g w)(d:Dw s i=some (S>>=λv=>pure (.value v)):=by kernel_rfl)(a:(tkN s i undef false).o.map Ob.l'=(tkN s i undef false).o.map Ob.r':=by kernel_rfl):GT P fn R w0 Φ s g w:=⟨λF C=>qT i v c (b.ex F C) d a⟩
theorem tI(b t:Bool)(a:b=t)(h:GT P fn R w0 Φ (Lq s t) g w)(c:PK s=.bool b:=by kernel_rfl):GT P fn R w0 Φ s g w:=⟨λF C=>qI b t a (h.ex F C) c⟩
theorem tC(i:Nat){f:FuncId}{c:Array Value}{K:Ending->World->Prop}(k:AllF g w Φ->Cg w0.heap.size TQ gS w0 g w->Calls P f c w K)(m:(∀ b,w.heap.size<=b->g.t b=.z)->∀ e w',K e w'->∃ v Ψ,e=.returned v/\Bw w w'/\(AllF g w' Φ->AllF g w' Ψ)/\GT P fn R w0 Ψ (nxt s i v s.L).s g w')(n:∀ W,CO P s i W=some (.ok (.enter f c) W):=by intro _;kernel_rfl)(l:Lt s i=true:=by kernel_rfl)(a:(nxt s i undef s.L).o.map Ob.l'=(nxt s i undef s.L).o.map Ob.r':=by kernel_rfl):GT P fn R w0 Φ s g w :=
 ⟨λF C=>Ad λd=>qC i (k F C) (λe w' h=>let ⟨v,Ψ,h1,h2,h3,h4⟩:=m (λb j=>(d.new b j).1) e w' h;⟨v,h1,h2,h4.ex (h3 (F.lp (Cg.au (B:=w0.heap.size) h2))) (C.trans (Cg.au h2))⟩) n l a⟩
theorem tC1(i:Nat){f:FuncId}{b:Array Value}{v:Value}(c:AllF g w Φ->Cg w0.heap.size TQ gS w0 g w->Calls P f b w λe w'=>e=.returned v/\Bw w w')(j:∀ w',GT P fn R w0 Φ (nxt s i v s.L).s g w')(k:∀ W,CO P s i W=some (.ok (.enter f b) W):=by intro _;kernel_rfl)(d:Lt s i=true:=by kernel_rfl)(a:(nxt s i undef s.L).o.map Ob.l'=(nxt s i undef s.L).o.map Ob.r':=by kernel_rfl):GT P fn R w0 Φ s g w:=tC i c (λ_ e w' h=>⟨v,Φ,h.1,h.2,id,j w'⟩) k d a
theorem tE(v:Value)(h:AllF g w Φ->Bw w0 w->R (.returned v) w)(a:Kn w0.heap.size g w s.L->(results fn s.f.act.tmps).run P w=.ok v w:=by intro _;kernel_rfl)(b:MJ s.K=true:=by kernel_rfl):GT P fn R w0 Φ s g w:=⟨λF C=>qE v (λ_=>h F (CgQ.ab C)) a b⟩
def JT(P:Program)(w0:World)(n:Nat)(Inv:Nat->List (Nat × Value)->List Sh->List Fa->Prop)(k:Nat)(J:Act->World->Prop):Prop:=∀ k' e' L' Φ' g' w' z',k'<k->Inv k' e' L' Φ'->AllF g' w' Φ'->Cg w0.heap.size TQ gS w0 g' w'->Kn w0.heap.size g' w' L'->J (⟨n,e',z'⟩:Fm).act w'
theorem GU(n:Nat)(d:List (Nat × Value))(m:List Bool)(q:List Sh)(c:List Fa)(a:Nat->List (Nat × Value)->List Sh->List Fa->Prop)(y:Nat)(G:a y d q c)(u:AllF g w Φ->AllF g w c)(b:∀ k e L Φ,a k e L Φ->∀ z g w J,JT P w0 n a k J->GT P fn R w0 Φ (eB s n J e z L) g w)(Q:S6 s.K=true:=by kernel_rfl)(S:s.f.n=n:=by kernel_rfl)(N:d.map (λp=>lk s.f.z s.f.e p.1)=d.map (·.2):=by kernel_rfl)(M:B2 (AE m s.L)=q:=by kernel_rfl):GT P fn R w0 Φ s g w :=
 ⟨λF C=>BJ n d m q (λk h i e L=>∃ Ψ,a k e L Ψ/\AllF h i Ψ/\Cg w0.heap.size TQ gS w0 h i) Q S N M y (λ_=>⟨c,G,u F,C⟩) λk h i e z L ⟨Ψ,H,B,A⟩ J I=>(b k e L Ψ H z h i J λT E D x r v U O t o j K=>I T r v E U D O ⟨x,t,o,j⟩ K).ex B A⟩
theorem tB{k:Nat}{b:Nat->List (Nat × Value)->List Sh->List Fa->Prop}(i:JT P w0 n b k J)(d:Nat)(t:d<k){e:List (Nat × Value)}(m:List Bool){L':List Sh}{a:List Fa}(h:b d e L' a)(c:AllF g w Φ->AllF g w a)(q:isJ s.K=true:=by kernel_rfl)(r:jK s.K=J:=by kernel_rfl)(u:s.f.n=n:=by kernel_rfl)(o:e.map (λp=>lk s.f.z s.f.e p.1)=e.map (·.2):=by kernel_rfl)(j:B2 (AE m s.L)=L':=by kernel_rfl):GT P fn R w0 Φ s g w :=
 ⟨λF C=>qB m (λz _ K=>i d e L' a g w z t h (c F) C K) q r u o j⟩
def JC(P:Program)(w0:World)(n:Nat)(Inv:List (Nat × Value)->List Sh->List Fa->Prop)(J:Act->World->Prop):Prop:=∀ e' L' Φ' g' w' z',Inv e' L' Φ'->AllF g' w' Φ'->Cg w0.heap.size TQ gS w0 g' w'->Kn w0.heap.size g' w' L'->J (⟨n,e',z'⟩:Fm).act w'
theorem K7(n:Nat)(a:List (Nat × Value)->List Sh->List Fa->Prop)(m:∀ J,JC P w0 n a J->GT P fn R w0 Φ (XS s J) g w)(o:∀ e L Φ,a e L Φ->∀ z g w,GT P fn R w0 Φ ⟨s.K.tail,⟨n,e,z⟩,L⟩ g w)(q:s.K.isEmpty=false:=by kernel_rfl):GT P fn R w0 Φ s g w :=
 ⟨λF C=>BT n (λb c e L=>∃ Ψ,a e L Ψ/\AllF b c Ψ/\Cg w0.heap.size TQ gS w0 b c) q (λJ p=>(m J λk j i b c r h f d K=>p b c k r j ⟨i,h,f,d⟩ K).ex F C) λb c e z L ⟨Ψ,h,f,d⟩=>(o e L Ψ h z b c).ex f d⟩
theorem tD{b:List (Nat × Value)->List Sh->List Fa->Prop}(i:JC P w0 n b J){e:List (Nat × Value)}(m:List Bool){c:List Sh}{a:List Fa}(h:b e c a)(d:AllF g w Φ->AllF g w a)(o:isJ s.K=true:=by kernel_rfl)(q:jK s.K=J:=by kernel_rfl)(r:s.f.n=n:=by kernel_rfl)(k:e.map (λp=>lk s.f.z s.f.e p.1)=e.map (·.2):=by kernel_rfl)(j:B2 (AE m s.L)=c:=by kernel_rfl):GT P fn R w0 Φ s g w :=
 ⟨λF C=>qB m (λz _ K=>i e c a g w z h (d F) C K) o q r k j⟩
theorem K8(i j:Nat)(a:GT P fn R w0 Φ (JA s i) g w)(b:GT P fn R w0 Φ (JA s j) g w)(c:fd s i j=true:=by kernel_rfl):GT P fn R w0 Φ s g w:=⟨λF C=>CR i j c (a.ex F C) (b.ex F C)⟩
theorem eV(i:Nat)(r:Nat){x:S3}{S:List Value}(t Q e:TypeId)(A d:Nat)(z:Value)(a:Addr)(m c:Nat)(b:List Value)(hx:AllF g w Φ->OwnS g w (.n 60 r) true e A x S)(Ψ:List Fa)(N:AllF g w Φ->AllF g w Ψ)(J:Ψ.all (λf=>f.ro != some r)=true)(I:Tg.n 60 r∈TQ)(Z:b.length=m*A)(T:∀ u∈b,u.oneCell'=true)(p:AllF g w Φ->Kn w0.heap.size g w s.L->∀ j u,b[j]?=some u->w.cell? (a.add j)=some u)(E:x.n+m<=maxLen)(h:(x.n+m)*d<=140737488355328)(Y:∀ x' g' w',x'.n=x.n+m->GT P fn R w0 (Fa.ow r e A x' (S++b)::Ψ) (nxt s i (S3.v x') s.L).s g' w')(G:0<m:=by decide)(K:0<A:=by decide)(ht:P.underlying t=some (.slice e):=by kernel_rfl)(k:(P.info? e).map (λi=>(i.zero,i.size,i.bytes))=some (some z,A,d):=by kernel_rfl)(M:Nat.beq z.cells.size A=true:=by kernel_rfl)(B:Dw s i=some (Builtin.append_ #[t,t] Q #[x.v,.slice (some a) m c]>>=λv=>pure (.value v)):=by kernel_rfl)(H:(nxt s i undef s.L).o.map Ob.l'=(nxt s i undef s.L).o.map Ob.r':=by kernel_rfl)(W:s.L.all (λy=>[Tg.n 60 r].all λt=>y.t.ne t)=true:=by kernel_rfl):GT P fn R w0 Φ s g w:=by
 refine⟨λF C=>Kv i t Q e A d z a m c b (hx F) B H W ht k M K G Z T (p F) E h λx' g' w' V hn O hG=>?_⟩;refine(Y x' g' w' hn).ex ⟨V,(N F).ch (O w0.heap.size [.n 60 r] (U'.2 rfl)) (by simp) λf X q hq G=>?_⟩ (C.trans (O _ _ I));have D:=nV.1 J f X;rw[hq]at D
 have U:q=r:=by simpa using G
 rw[U]at D
 simp at D
end
end
end
section
section
structure Plc(l:List Vt)(s:Int)(p:Nat):Prop where
 le:p<=l.length
 lo:∀ (i:Nat) (v:Vt),i<p->l[i]?=some v->v.an<s
 hi:∀ (i:Nat) (v:Vt),p<=i->l[i]?=some v->s<=v.an
theorem NH(a b:List Vt)(v:Vt)(h:∀ u∈a,u.an<v.an):BA (a++b) v=a++BA b v:=by
 induction a with
 | nil=>rfl
 | cons x a ih =>
  show BA (x::(a++b)) v=x::(a++BA b v);rw[BA,if_pos (h x j'),ih (λu c=>h u (V' _ c))]
variable{l:List Vt}{m p:Nat}{s:Int}{u v x:Vt}
theorem Plc.front(h:Plc l s p):∀ u∈l.take p,u.an<s:=by
 intro u b;obtain⟨i,a⟩:=nS.1 b;rw[nQ]at a
 split at a
 .rename_i hip;exact h.lo i u hip a
 .cases a
theorem Plc.has(h:Plc l v.an p)(f:l[p]?=some u)(c:u.an=v.an):BA l v=l.take p++(v::l.drop (p+1)):=by
 obtain⟨d,e⟩:=Q'.1 f;have b:l.drop p=u::l.drop (p+1):=by rw[<- e];exact nz d
 have a:=NH (l.take p) (l.drop p) v h.front;rw[oq]at a
 rw[a,b,BA,if_neg (by omega),if_pos c]
theorem Plc.no(h:Plc l v.an p)(c:∀ u,l[p]?=some u->u.an≠v.an):BA l v=l.take p++(v::l.drop p):=by
 have a:=NH (l.take p) (l.drop p) v h.front;rw[oq]at a
 rw[a];rcases nO p l.length with hp|hp
 .have hd:l.drop p=l[p]::l.drop (p+1):=nz hp;have d:=h.hi p l[p] (A' _) (H' hp);have b:=c l[p] (H' hp);rw[hd,BA,if_neg (by omega),if_neg b]
 .rw[nu hp,BA]
theorem Plc.rT(d:BH l)(e:l[p]?=some u)(c:u.an=s):Am l s=[u]:=by
 have b:=Jm d s;have a:u∈Am l s:=Dj.2 ⟨nS.2 ⟨p,e⟩,c⟩
 match hl:Am l s with
 | []=>rw[hl]at a;cases a
 | [x]=>rw[hl]at a;rw[U'.1 a]
 | x::y::r=>rw[hl]at b;simp at b
theorem Plc.rJ(b:BH l)(h:Plc l s p)(f:∀ u,l[p]?=some u->u.an≠s):Am l s=[]:=by
 rw[List.eq_nil_iff_forall_not_mem];intro u a;obtain⟨a,e⟩:=Dj.1 a;obtain⟨i,c⟩:=nS.1 a;rcases pR i p with hip|rfl|hip
 .have:=h.lo i u hip c;omega
 .exact f u c e
 .have hip':i<l.length:=(Q'.1 c).1;have d:p<l.length:=by omega
  have g:=h.hi p l[p] (A' _) (H' d);have k:=rise_lt b hip (H' d) c;omega
where
 rise_lt:∀ {l:List Vt} (b:BH l) {i j:Nat} (hij:i<j) {u v:Vt} (a:l[i]?=some u) (hv:l[j]?=some v),u.an<v.an
  | x::xs,b,0,j+1,_,u,v,a,hv=>by
   simp at a hv;subst a;exact b.1 v (nS.2 ⟨j,hv⟩)
  | x::xs,b,i+1,j+1,hij,u,v,a,hv=>rise_lt (l:=xs) b.2 (i:=i) (j:=j) (by omega) (by simpa using a) (by simpa using hv)
  | [],_,i,j,_,u,v,a,hv=>by simp at a
theorem BH.get(b:BH l){i j:Nat}(a:i<j){u v:Vt}(c:l[i]?=some u)(d:l[j]?=some v):u.an<v.an:=Plc.rJ.rise_lt b a c d
theorem Plc.half(b:BH l){s:Int}{i j h:Nat}{u:Vt}(a:l[h]?=some u)(d:∀ (k:Nat) (v:Vt),k<i->l[k]?=some v->v.an<s)(c:∀ (k:Nat) (v:Vt),j<=k->l[k]?=some v->s<=v.an) :
  (u.an<s->∀ (k:Nat) (v:Vt),k<h+1->l[k]?=some v->v.an<s)/\(s<=u.an->∀ (k:Nat) (v:Vt),h<=k->l[k]?=some v->s<=v.an):=by
 constructor
 .intro g k v hk hv;rcases nO k h with hkh|hkh
  .have:=b.get hkh hv a;omega
  .obtain rfl:k=h:=by omega
   rw[a]at hv;cases hv;exact g
 .intro g k v hk hv;rcases nO h k with hkh|hkh
  .have:=b.get hkh a hv;omega
  .obtain rfl:k=h:=by omega
   rw[a]at hv;cases hv;exact g
def Qx(o:Option Vt)(v:Vt):Option Vt:=match o with
 | none=>some v
 | some u=>if u.b.lt v.b then some v else some u
theorem RA(l:List Vt)(v:Vt)(o:Option Vt):CZ (l++[v]) o=Qx (CZ l o) v:=by
 induction l generalizing o with
 | nil =>
  cases o with
  | none=>rfl
  | some u =>
   show CZ [v] (some u)=Qx (some u) v;rw[CZ,Qx];split<;>rfl
 | cons x l ih =>
  cases o with
  | none=>exact ih _
  | some u =>
   show CZ (x::(l++[v])) (some u)=Qx (CZ (x::l) (some u)) v;rw[CZ,CZ];split
   .exact ih _
   .exact ih _
def vt0:Vt:=⟨0,⟨0,0⟩,⟨0,0,0,0,0⟩⟩
def E8(o:Option Vt)(x:Vt):Prop:=(o=none/\x=vt0)\/(o=some x/\Ac x.b)
theorem E8.next{o:Option Vt}(h:E8 o x)(a:Ac v.b):E8 (Qx o v) (if x.b.lt v.b then v else x):=by
 rcases h with⟨rfl,rfl⟩|⟨rfl,hx⟩
 .rw[if_pos (by unfold Ac at a;unfold Bal.lt;simp[vt0];omega)];exact .inr ⟨rfl,a⟩
 .show E8 (if x.b.lt v.b then some v else some x) _;split
  .exact .inr ⟨rfl,a⟩
  .exact .inr ⟨rfl,hx⟩
theorem E8.pick{a:List (List Vt)}(d:0<=s/\s<=39)(c:∀ l∈a,∀ v∈l,Al v)(h:E8 (QD a s) x):(if CW a s=0 then((QD a s).map (·.w)).getD ⟨0,0,0,0,0⟩else⟨0,0,0,0,0⟩)=x.w/\(if CW a s=0 then(QD a s).isSome else false)=!decide (x.b.r=0/\x.b.n=0)/\CW a s=0:=by
 have e:CW a s=0:=by unfold CW;rw[if_neg (λg=>g d),if_pos c]
 rw[if_pos e,if_pos e];rcases h with⟨h1,rfl⟩|⟨h1,h2⟩
 .rw[h1];exact⟨rfl,rfl,e⟩
 .rw[h1];refine⟨rfl,?_,e⟩;rw[G' (by unfold Ac at h2;omega)];rfl
theorem Zn(l:List Vt){u v:Vt}(h:u≠v):CU l u+CU l v<=l.length:=by
 induction l with
 | nil=>simp[CU]
 | cons x l ih =>
  unfold CU at ih ⊢;rw[List.countP_cons,List.countP_cons,mR];by_cases a:x=u
  .subst a;rw[if_pos (by simp),if_neg (by simp[h])];omega
  .by_cases hy:x=v
   .subst hy;rw[if_neg (by simp[a]),if_pos (by simp)];omega
   .rw[if_neg (by simp[a]),if_neg (by simp[hy])];omega
theorem Zm(h:0<CU l v):v∈l:=by
 unfold CU at h;obtain⟨u,a,e⟩:=List.countP_pos_iff.1 h;rw[<- nX e];exact a
theorem dS(a b:List Vt)(v:Vt):CU a v<=CU (a++b) v:=by
 unfold CU;rw[List.countP_append];omega
theorem RI(b:l.length<=m)(h:m<2*CU l v):IZ l m=some v:=by
 cases hf:IZ l m with
 | none =>
  have:=oG.1 hf v (Zm (by omega));simp at this;omega
 | some u =>
  have a:=List.find?_some hf;simp at a;by_cases e:u=v
  .rw[e]
  .have:=Zn l e;omega
theorem XJ(h:∀ v,2*CU l v<=m):IZ l m=none:=by
 unfold IZ;rw[oG];intro v _;have:=h v;simp;omega
end
end
section
open Go.RowKit
section
variable{b p:Bal}{l:List Vt}{r:Bool}{v:Vt}{w:World}{x:S3}
theorem NTab.sZ(h:NTab w):w.cell? ⟨3,1*3+2,none⟩=some (.int .i64 1073741824):=h.cell 5 (by omega)
theorem NTab.value(h:NTab w)(k:Nat)(a:1<=k)(b:k<=3):w.cell? ⟨3,k*3+2,none⟩=some (.int .i64 (if k=1 then 1073741824 else 0)):=by
 rcases(by omega:k=1\/k=2\/k=3)with rfl|rfl|rfl
 .exact h.cell 5 (by omega)
 .exact h.cell 8 (by omega)
 .exact h.cell 11 (by omega)
theorem DP(k c s n v:Int)(w:World)(E:NTab w) :
  Calls prog 105 #[.agg (cmA k c s n v)] w λe w'=>e=.returned (.int .i64 (Bb k c s n v))/\Bw w w':=by
 have b:Bw w (w.alloc (.cells (cmA k c s n v) 64)):=(Below.refl _ _).alloc (A' _) _;have h:=Bc.made w k c s n v;have t:=E.ab b;have D:=Gt k c s n v;generalize C:w.alloc (.cells (cmA k c s n v) 64)=W at b h t;have u:w.alloc (.cells #[.int .i64 k,.int .i64 c,.int .i64 s,.int .i64 n,.int .i64 v] 64)=W:=C;obtain⟨c0,c1,x,y,z⟩:=EC h.row;clear E;go_enter func105,ntmps105
 go_wp2_with fail
 clear C u;refine(S5 k _).mono ?_;rintro e I ⟨rfl,rfl⟩;by_cases o:0<=k/\k<=3
 .rw[N' o];by_cases A:k=0
  .subst A;go_wp2_with (refine wpList_load_row rfl 64 _ rfl w.heap.size rfl 64 _ (0,0) _ h.row underlying64 rfl D ?_)
   refine(Zk c s n v _).mono ?_;rintro e f ⟨rfl,g⟩;have j:Bw w f:=b.trans (g.mono b.size);go_wp2
   go_ret;exact⟨rfl,j⟩
  .obtain⟨m,rfl⟩:=nh o.1;have r:1<=(m:Int)/\(m:Int)<=3:=by omega
   go_wp2_with (refine wpList_load_row rfl 64 _ rfl w.heap.size rfl 64 _ (0,0) _ h.row underlying64 rfl D ?_)
   refine(OH (m:Int) c s n v _ r t).mono ?_;rintro e f ⟨rfl,g⟩;have j:Bw w f:=b.trans (g.mono b.size);have i:=h.ab g;have q:=t.ab g;clear c0 c1 x y z h t g b;by_cases a:InC c s n v
   .rw[N' a];obtain⟨c0,c1,x,y,z⟩:=EC i.row;have B:=q.value m (by omega) (by omega);have F:(0:Int)<=(m:Int):=by omega
    have G:(m:Int)<4:=by omega
    have H:m<4:=by omega
    clear i q o A;by_cases p:v<=(if m=1 then 1073741824 else 0)
    .have d:Hid (0=Bb (m:Int) c s n v):=by
      refine(Un r a ?_).symm;unfold InC at a;split at p<;>omega
     clear a r;generalize (if m=1 then(1073741824:Int)else 0)=V at B p;go_wp2_with fail
     go_quiet (fail)
     have l:Bw w (f.drewN nq):=Ak j nq;generalize f.drewN nq=w3 at l ⊢;go_wp2
     go_ret;exact⟨Bu d.out,l⟩
    .have d:Hid (3=Bb (m:Int) c s n v):=by
      unfold InC at a;refine(V1 ⟨?_,by omega⟩ (by unfold InC;omega) ?_).symm
      .split at p<;>omega
      .split at p<;>omega
     clear a r;generalize (if m=1 then(1073741824:Int)else 0)=V at B p;go_wp2_with fail
     go_quiet (fail)
     have l:Bw w (f.drewN nq):=Ak j nq;generalize f.drewN nq=w3 at l ⊢;go_wp2
     go_ret;exact⟨Bu d.out,l⟩
   .rw[G' a];have d:Hid (2=Bb (m:Int) c s n v):=(RP r a).symm;clear a;go_wp2
    go_ret;exact⟨Bu d.out,j⟩
 .rw[G' o];have d:Hid (4=Bb k c s n v):=(V2 o).symm;go_wp2
  go_ret;exact⟨Bu d.out,b⟩
def KX(l:List Vt)(n:Int):Prop:=0<=n/\n<=40/\∀ s:Int,0<=s->(n<=s↔∀ u∈l,u.an<s)
theorem KX.nil:KX [] 0:=⟨by omega,by omega,λs a=>⟨λ_ u b=>(O' b).elim,λ_=>a⟩⟩
theorem KX.snoc{n:Int}(h:KX l n){v:Vt}(b:0<=v.an)(c:v.an<=39)(d:n<=v.an):KX (l++[v]) (v.an+1):=by
 refine⟨by omega,by omega,λs a=>⟨λg u hu=>?_,λg=>?_⟩⟩
 .rcases Z'.1 hu with hu|hu
  .exact(h.2.2 s a).1 (by omega) u hu
  .obtain rfl:u=v:=by simpa using hu
   omega
 .have:=g v (by simp);omega
theorem kM(h:p≠Bv):(!decide (Ac p))=!decide (Bq p):=by
 have:Ac p↔Bq p:=⟨.inl,λg=>g.resolve_right λe=>h ((Bal.eq_iff p Bv).1 e)⟩;simp[this]
theorem jJ{P Q:Prop}[Decidable P][Decidable Q](h:Q↔¬ P):decide P=!decide Q:=by by_cases g:P<;>simp[h,g]
theorem WD(h:BH l)(k:Nat):BH (l.take k):=by
 induction k with
 | zero=>exact trivial
 | succ k ih =>
  cases hh:l[k]? with
  | none=>rw[mV (by have:=List.getElem?_eq_none_iff.1 hh;omega)];exact h
  | some v =>
   rw[F1 l k v hh,Oc];refine⟨ih,λu b=>?_⟩;obtain⟨i,a⟩:=nS.1 b;rw[nQ]at a
   split at a
   .rename_i hk;exact h.get hk a hh
   .cases a
theorem DG{s:Int}(b:decide (0<=s/\s<=39)=r) :
  Calls prog 203 #[iv s] w λe w'=>e=.returned (.bool r)/\Bw w w':=by
 subst b;refine tIn [] func203 trivial (tR 7 [] λc _ _=>?_);by_cases a:0<=s
 .refine tV 1 (.bool true) (λF C=>(rGe (t:=3) (m:=s) (n:=0) (x:=(.tmp 3)) (y:=(.const (iv 0))) (N' a))) (tR 6 [] λd _ _=>tE (.bool (decide (s<40))) λ_ B=>⟨by rw[nK.2 (show s<40↔0<=s/\s<=39 by omega)],B⟩)
 .refine tV 1 (.bool false) (λF C=>(rGe (t:=3) (m:=s) (n:=0) (x:=(.tmp 3)) (y:=(.const (iv 0))) (G' a))) (tR 6 [] λf _ _=>tE (.bool false) λ_ B=>⟨by rw[G' (show ¬ (0<=s/\s<=39)by omega)],B⟩)
theorem It(f:decide (Ac b)=r) :
  Calls prog 178 #[.agg #[iv b.r,iv b.n]] w λe w'=>e=.returned (.bool r)/\Bw w w':=by
 subst f;refine tIn [] func178 trivial (tR 9 [0,0,0] λg _ _=>?_);by_cases a:1<=b.r
 .refine tV 2 (.bool true) (λF C=>(rGe (t:=3) (m:=b.r) (n:=1) (x:=(.tmp 4)) (y:=(.const (iv 1))) (N' a))) (tR 3 [0] λh _ _=>?_);by_cases c:b.r<=65536
  .refine tV 6 (.bool true) (λF C=>(rLe (t:=3) (m:=b.r) (n:=65536) (x:=(.tmp 8)) (y:=(.const (iv 65536))) (N' c))) (tR 4 [0] λi _ _=>?_);by_cases d:0<=b.n
   .refine tV 11 (.bool true) (λF C=>(rGe (t:=3) (m:=b.n) (n:=0) (x:=(.tmp 13)) (y:=(.const (iv 0))) (N' d))) (tR 8 [0] λj _ _=>tE (.bool (decide (b.n<5))) λ_ B=>⟨by rw[nK.2 (show b.n<5↔Ac b by unfold Ac;omega)],B⟩)
   .refine tV 11 (.bool false) (λF C=>(rGe (t:=3) (m:=b.n) (n:=0) (x:=(.tmp 13)) (y:=(.const (iv 0))) (G' d))) (tR 8 [] λk _ _=>tE (.bool false) λ_ B=>⟨by rw[G' (show ¬ Ac b by unfold Ac;omega)],B⟩)
  .refine tV 6 (.bool false) (λF C=>(rLe (t:=3) (m:=b.r) (n:=65536) (x:=(.tmp 8)) (y:=(.const (iv 65536))) (G' c))) (tR 13 [] λl _ _=>tE (.bool false) λ_ B=>⟨by rw[G' (show ¬ Ac b by unfold Ac;omega)],B⟩)
 .refine tV 2 (.bool false) (λF C=>(rGe (t:=3) (m:=b.r) (n:=1) (x:=(.tmp 4)) (y:=(.const (iv 1))) (G' a))) (tR 17 [] λo _ _=>tE (.bool false) λ_ B=>⟨by rw[G' (show ¬ Ac b by unfold Ac;omega)],B⟩)
theorem DL{a:Bal}(d:decide (a.lt b)=r) :
  Calls prog 179 #[.agg #[iv a.r,iv a.n],.agg #[iv b.r,iv b.n]] w λe w'=>e=.returned (.bool r)/\Bw w w':=by
 subst d;refine tIn [] func179 trivial (tR 15 [0,0,0,0,0,1] λf _ _=>?_);by_cases c:a.r≠b.r
 .refine tI ((a.r != b.r)) true (by simpa using c) (tR 9 [0,1] λg _ _=>tE (.bool (decide (a.r<b.r))) λ_ B=>⟨by rw[nK.2 (show a.r<b.r↔a.lt b by unfold Bal.lt;omega)],B⟩)
 .refine tI ((a.r != b.r)) false (by simpa using c) (tR 10 [0,1] λh _ _=>tE (.bool (decide (a.n<b.n))) λ_ B=>⟨by rw[nK.2 (show a.n<b.n↔a.lt b by unfold Bal.lt;omega)],B⟩)
theorem G0(i:NTab w){r:Bool}(h:decide (Al v)=r) :
  Calls prog 184 #[.agg #[iv v.an,iv v.b.r,iv v.b.n,iv v.w.k,iv v.w.c,iv v.w.s,iv v.w.n,iv v.w.v]] w λe w'=>e=.returned (.bool r)/\Bw w w':=by
 subst h;refine tIn [] func184 trivial (tR 9 [0,0,0] λj _ _=>?_);by_cases a:0<=v.an/\v.an<=39
 .refine tC1 2 (λF C=>DG (r:=true) (N' a)) λ_=>tR 3 [0] λl _ _=>?_;by_cases d:Ac v.b
  .refine tC1 6 (λF C=>It (b:=v.b) (r:=true) (N' d)) λ_=>tR 4 [0] λm _ _=>tC1 11 (λF C=>DP v.w.k v.w.c v.w.s v.w.n v.w.v _ (i.ab (CgQ.ab C))) λ_=>tR 4 [] λo _ _=>tE (.bool (Bb v.w.k v.w.c v.w.s v.w.n v.w.v==0)) λ_ B=>⟨by rw[show(Bb v.w.k v.w.c v.w.s v.w.n v.w.v==0)=decide (Al v)from by rw[show(Bb v.w.k v.w.c v.w.s v.w.n v.w.v==0)=decide (v.w.e=0)from rfl];exact nK.2 ⟨λg=>⟨a,d,g⟩,λg=>g.2.2⟩],B⟩
  .refine tC1 6 (λF C=>It (b:=v.b) (r:=false) (G' d)) λ_=>tR 9 [] λp _ _=>tE (.bool false) λ_ B=>⟨by rw[G' (show ¬ Al v from λg=>d g.2.1)],B⟩
 .refine tC1 2 (λF C=>DG (r:=false) (G' a)) λ_=>tR 13 [] λf _ _=>tE (.bool false) λ_ B=>⟨by rw[G' (show ¬ Al v from λg=>a g.1)],B⟩
theorem Hy{u:Vt}:Av ⟨p,l++[u]⟩↔Av ⟨p,l⟩/\(Al u/\¬ p.lt u.b)/\∀ x∈l,x.an<u.an:=by
 unfold Av;simp only[Oc,Z',U'];exact⟨λh=>⟨⟨h.1,λv a=>h.2.1 v (.inl a),h.2.2.1⟩,h.2.1 u (.inr rfl),h.2.2.2⟩,λh=>⟨h.1.1,λv a=>a.elim (h.1.2.1 v) λe=>by rw[e];exact h.2.1,h.1.2.2,h.2.2⟩⟩
theorem Xu(h:Av ⟨p,l⟩)(k:Nat):Av ⟨p,l.take k⟩:=⟨h.1,λv a=>h.2.1 v (mY a),(WD h.2.2 k)⟩
theorem Sv.op(h:Sv w x.v l):x.n=l.length/\(l=[]\/∃ b off,x.a=some ⟨b,off,none⟩/\∀ i v,l[i]?=some v->w.rangeAt b (off+8*i) (vtC v)):=by
 obtain⟨j,m,k⟩:=x;obtain⟨⟨a,c,e,_,_,d⟩,_⟩:=h;simp only[S3.v,Value.slice.injEq]at e;obtain⟨rfl,rfl,rfl⟩:=e;exact⟨rfl,d.imp id λ⟨b,off,f,_,g⟩=>⟨b,off,f,g⟩⟩
theorem Sv.at_(h:Sv w x.v l){b c i:Nat}{v:Vt}(e:x.a=some ⟨b,c,none⟩)(d:l[i]?=some v):w.rangeAt b (c+8*i) (vtC v):=by
 rcases h.op.2 with rfl|⟨b',off',ha,hc⟩
 .simp at d
 .rw[e]at ha;cases ha;exact hc i v d
theorem Sv.ad(h:Sv w x.v l){i:Nat}(c:i<l.length):∃ b off,x.a=some ⟨b,off,none⟩:=by
 rcases h.op.2 with rfl|⟨b',off',ha,hc⟩
 .exact absurd c (ri _)
 .exact⟨b',off',ha⟩
theorem Sv.s3{x:Value}(h:Sv w x l):∃ y:S3,x=y.v:=by
 obtain⟨⟨a,b,e,_,_,c⟩,_⟩:=h;exact⟨⟨a,l.length,b⟩,e⟩
theorem IY(p:Bal)(x:Value)(l:List Vt)(w:World)(h:Sv w x l)(S:NTab w) :
  Calls prog 177 #[.agg (acA p x)] w λe w'=>e=.returned (.int .i64 (Fb ⟨p,l⟩))/\Bw w w':=by
 obtain⟨y,rfl⟩:=h.s3;have hn:=h.op.1;have a7:=h.len;show Calls prog 177 #[.agg #[iv p.r,iv p.n,S3.v y]] w _;refine tIn [] func177 trivial (tR 7 [0,0] λf _ _=>K7 43 (λL K d=>∃ (v:Bool),L=[(1,pt (f 0) 0),(15,.bool v)]/\K=[⟨(f 0),.cells #[iv p.r,iv p.n,S3.v y] 126,.z,false⟩]/\d=[]/\v=!decide (Bq p)) (λJ u=>?_) ?_)
 .refine tR 4 [0] λa8 _ _=>?_;by_cases q:p=Bv
  .refine tV 3 (.bool false) (λF C=>(I2 (x:=(.tmp 7)) (y:=(.tmp 8)) p Bv q)) (tR 7 [] λa9 _ _=>tD u [true] ⟨false,rfl,rfl,rfl,by rw[q];rfl⟩ (λF=>trivial))
  .refine tV 3 (.bool true) (λF C=>(I3 (x:=(.tmp 7)) (y:=(.tmp 8)) p Bv q)) (tR 3 [0] λb0 _ _=>tC1 7 (λF C=>It (b:=p) rfl) λ_=>tR 3 [] λb1 _ _=>tD u [true] ⟨_,rfl,rfl,rfl,kM q⟩ (λF=>trivial))
 rintro _ _ _ ⟨v,rfl,rfl,rfl,H⟩ _ _ _;by_cases q:v=true
 .refine tI (v) true q (tR 4 [] λb2 _ _=>tE (iv 5) λ_ B=>⟨by rw[Fb,if_neg λg:Av _=>absurd g.1 (by simpa[q]using H.symm)],B⟩)
 .refine tI (v) false (by simpa using q) ?_;have hp:Bq p:=by simpa[q]using H.symm
  refine tR 14 [0] λb3 _ _=>GU 43 [(1,pt (f 0) 0),(3,iv 0),(17,S3.v y),(18,iv (y.n:Int)),(19,iv 0)] [true] [⟨(f 0),.cells #[iv p.r,iv p.n,S3.v y] 126,.z,false⟩] [] (λkk L K d=>∃ (j:Nat) (n:Int),kk=y.n-j/\L=[(1,pt (f 0) 0),(3,iv n),(17,S3.v y),(18,iv (y.n:Int)),(19,iv (j:Int))]/\K=[⟨(f 0),.cells #[iv p.r,iv p.n,S3.v y] 126,.z,false⟩]/\d=[]/\j<=y.n/\Av ⟨p,l.take j⟩/\KX (l.take j) n) (y.n) ⟨0,0,rfl,rfl,rfl,rfl,by omega,⟨hp,λv H=>(by cases H),trivial⟩,KX.nil⟩ (λF=>trivial) ?_;rintro k _ _ _ ⟨j,n,rfl,rfl,rfl,rfl,hj,E,G⟩ _ _ _ J u;refine tR 5 [] λU _ _=>?_;by_cases I:j<y.n
  .refine tI ((decide ((j:Int)<(y.n:Int)))) true (N' (by omega)) ?_;obtain⟨v,H⟩:∃ v,l[j]?=some v:=⟨_,H' (by omega)⟩;obtain⟨b,O,Q⟩:=h.ad (i:=j) (by omega);have N:l.take (j+1)=l.take j++[v]:=F1 l j v H;refine tR 5 [] λV _ _=>tV 0 (pt b (O+8*j)) (λF C=>(UM Q j (by omega))) (tV 1 (.agg #[iv v.an,iv v.b.r,iv v.b.n,iv v.w.k,iv v.w.c,iv v.w.s,iv v.w.n,iv v.w.v]) (λF C=>(eo v ((h.ab (CgQ.ab C)).at_ Q H))) (tR 5 [0,0,1,0] λD _ _=>K7 43 (λL K d=>∃ (z:Bool),L=[(1,pt (f 0) 0),(3,iv n),(5,pt (D 0) 0),(17,S3.v y),(18,iv (y.n:Int)),(19,iv (j:Int)),(38,.bool z)]/\K=[⟨(f 0),.cells #[iv p.r,iv p.n,S3.v y] 126,.z,false⟩,⟨(D 0),.cells #[iv v.an,iv v.b.r,iv v.b.n,iv v.w.k,iv v.w.c,iv v.w.s,iv v.w.n,iv v.w.v] 184,.z,false⟩]/\d=[]/\z=!decide (Av ⟨p,l.take j++[v]⟩)) (λJ u=>?_) ?_))
   .refine tR 2 [1] λW _ _=>?_;by_cases I:Al v
    .refine tC1 1 (λF C=>G0 (v:=v) (S.ab (CgQ.ab C)) (r:=true) (N' I)) λ_=>tR 5 [1] λX _ _=>?_;have R:=G.2.2 v.an I.1.1;by_cases P:v.an<n
     .refine tV 7 (.bool true) (λF C=>(rLt (t:=3) (m:=v.an) (n:=n) (x:=(.tmp 28)) (y:=(.tmp 29)) (N' P))) (tR 9 [] λY _ _=>tD u [true,true] ⟨true,rfl,rfl,rfl,by rw[G' λg=>absurd (R.2 (Hy.1 g).2.2) (by omega)];rfl⟩ (λF=>trivial))
     .refine tV 7 (.bool false) (λF C=>(rLt (t:=3) (m:=v.an) (n:=n) (x:=(.tmp 28)) (y:=(.tmp 29)) (G' P))) (tR 6 [0,1] λZ _ _=>tC1 14 (λF C=>DL (a:=p) (b:=v.b) rfl) λ_=>tR 2 [] λa0 _ _=>tD u [true,true] ⟨_,rfl,rfl,rfl,jJ (Hy.trans ⟨λg=>g.2.1.2,λg=>⟨E,⟨I,g⟩,R.1 (by omega)⟩⟩)⟩ (λF=>trivial))
    .refine tC1 1 (λF C=>G0 (v:=v) (S.ab (CgQ.ab C)) (r:=false) (G' I)) λ_=>tR 15 [] λa1 _ _=>tD u [true,true] ⟨true,rfl,rfl,rfl,by rw[G' λg=>I (Hy.1 g).2.1.1];rfl⟩ (λF=>trivial)
   rintro _ _ _ ⟨z,rfl,rfl,rfl,T⟩ _ _ _;by_cases M:z=true
   .refine tI (z) true M (tR 4 [] λa2 _ _=>tE (iv 5) λ_ B=>⟨by rw[Fb,if_neg λg=>absurd (N▸Xu g (j+1)) (by simpa[M]using T.symm)],B⟩)
   .refine tI (z) false (by simpa using M) ?_;have A:Av ⟨p,l.take j++[v]⟩:=by simpa[M]using T.symm
    have o:=(Hy.1 A).2;refine tR 4 [1] λa3 _ _=>tV 2 (iv (v.an+1)) (λF C=>(AZ 40 v.an underlying3 (by have:=o.1.1.1;omega))) (tR 4 [] λa4 _ _=>tV 0 (iv ((j:Int)+1)) (λF C=>(AZ 19 (j:Int) underlying3 (by omega))) (tR 2 [] λa5 _ _=>tB u (y.n-(j+1)) (by omega) [true,false] ⟨j+1,v.an+1,rfl,rfl,rfl,rfl,by omega,by rw[N];exact A,by rw[N];exact G.snoc o.1.1.1.1 o.1.1.1.2 ((G.2.2 v.an o.1.1.1.1).2 o.2)⟩ (λF=>trivial)))
  .refine tI ((decide ((j:Int)<(y.n:Int)))) false (G' (by omega)) ?_;rw[mV (by omega)]at E
   refine tR 5 [] λa6 _ _=>tE (iv 0) λ_ B=>⟨by rw[Fb,if_pos E],B⟩
end
end
end Go.Proofs.YtdjfdfpkkenjbabGreatDoor
