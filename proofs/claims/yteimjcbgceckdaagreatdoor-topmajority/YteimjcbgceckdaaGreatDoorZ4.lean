/- Part 4 of the walk. -/
import Derived.Laws.Cover3
import Derived.Test.YteimjcbgceckdaaGreatDoorZ3
set_option maxRecDepth 100000
set_option maxHeartbeats 4000000
open Go.Proofs.Tryz
set_option linter.unusedVariables false
namespace Go.Proofs.YteimjcbgceckdaaGreatDoor
section
open Go.RowKit
section
variable{P:Program}{fn:Func}{R:Ending->World->Prop}{B:Nat}{T:List Tg}{g:Gh}{w:World}
section
def Sf:List Kt->Bool|.c (.loop _)::_=>true|_=>false
def j6:List Kt->Code|.c (.loop b)::_=>b|_=>.skip
def isJ:List Kt->Bool|.j _::_=>true|_=>false
def jK:List Kt->Act->World->Prop|.j J::_=>J|_=>λ_ _=>False
def dI(s:Xs)(n:Nat)(J:Act->World->Prop)(e:List (Nat × Value))(z:Nat->Value)(L:List Sh):Xs:=⟨.c (j6 s.K)::.j J::s.K.tail,⟨n,e,z⟩,L⟩
variable{s:Xs}
theorem BV(n:Nat)(d:List (Nat × Value))(m:List Bool)(i:List Sh)(a:Nat->Gh->World->List (Nat × Value)->List Sh->Prop)(q:Sf s.K=true)(r:s.f.n=n)(D:d.map (λp=>lk s.f.z s.f.e p.1)=d.map (·.2))(A:BH (AE m s.L)=i)(k:Nat)(u:Kn B g w s.L->a k g w d i)(round:∀ k g w e z L,a k g w e L->∀ J:Act->World->Prop,(∀ k' g' w' e' z' L',k'<k->a k' g' w' e' L'->Kn B g' w' L'->J (⟨n,e',z'⟩:Fm).act w')->GG P fn R B T (dI s n J e z L) g w):GG P fn R B T s g w:=by
 refine Af λj=>gFm d D λz=>?_;obtain⟨K,f,L⟩:=s;simp only at r;subst r;have o:BH (AE m L)=i:=A;have C:GG P fn R B T ⟨K,⟨f.n,d,z⟩,BH (AE m L)⟩ g w->GG P fn R B T ⟨K,⟨f.n,d,z⟩,L⟩ g w:=λh=>⟨λj=>h.ex (j.sub (Dx m L)).sm⟩;refine C ?_;rw[o];cases K with
 | nil=>cases q
 | cons t K =>
  cases t with
  | c x =>
   cases x with
   | loop b=>exact jt a (λk g w e z L v J y=>round k g w e z L v J y) (u j)
   | _=>cases q
  | _=>cases q
theorem Ey(J:Act->World->Prop)(n:Nat)(e:List (Nat × Value))(m:List Bool)(b:List Sh)(i:isJ s.K=true)(c:jK s.K=J)(o:s.f.n=n)(r:e.map (λp=>lk s.f.z s.f.e p.1)=e.map (·.2))(k:BH (AE m s.L)=b)(h:∀ z,Kn B g w s.L->Kn B g w b->J (⟨n,e,z⟩:Fm).act w):GG P fn R B T s g w:=by
 refine Af λa=>gFm e r λz=>⟨λq=>?_⟩;obtain⟨K,f,L⟩:=s;simp only at o c k i a;subst o;have d:Kn B g w b:=by rw[<- k];exact(q.sub (Dx m L)).sm
 cases K with
 | nil=>cases i
 | cons t K =>
  cases t with
  | j J'=>simp only[jK]at c;rw[c];exact h z a d
  | _=>cases i
def J9(s:Xs)(i:Nat):Xs:=match s.K with|.x ops (u+1) Ld e L0::K=>⟨.y ops u Ld e L0 i::K,s.f,s.L⟩|_=>s
def el(s:Xs)(i j:Nat):Bool:=match s.K with|.x ops (_+1) Ld _ _::_=>(match Region.ready .any ops Ld with|[k,l]=>Nat.beq k i&&Nat.beq l j|_=>false)|_=>false
theorem DG(i j:Nat)(a:el s i j=true)(h:GG P fn R B T (J9 s i) g w)(m:GG P fn R B T (J9 s j) g w):GG P fn R B T s g w:=by
 refine⟨λd=>?_⟩;obtain⟨K,f,L⟩:=s;have b:=h.ex;have c:=m.ex;unfold J9 at b c;unfold el at a;cases K with
 | nil=>cases a
 | cons t K =>
  cases t with
  | x ops u Ld e L0 =>
   cases u with
   | zero=>cases a
   | succ u =>
    simp only at b c a;have n:Region.ready .any ops Ld=[i,j]:=by
     split at a
     .rename_i k l hk
      simp only[mr]at a;rw[hk,mw a.1,mw a.2]
     .cases a
    exact lQ n (b d) (c d)
  | _=>cases a
def X6(s:Xs)(J:Act->World->Prop):Xs:=match s.K with|t::K=>⟨t::.j J::K,s.f,s.L⟩|[]=>s
theorem Ee(Q:Exit->Act->World->Prop):Exit.then (Q .normal) Q=Q:=by
 funext e a w
 cases e<;>rfl
theorem DL(n:Nat)(d:Gh->World->List (Nat × Value)->List Sh->Prop)(u:s.K.isEmpty=false)(k:∀ J:Act->World->Prop,(∀ g' w' e z L,d g' w' e L->Kn B g' w' L->J (⟨n,e,z⟩:Fm).act w')->GG P fn R B T (X6 s J) g w)(p:∀ g' w' e z L,d g' w' e L->GG P fn R B T ⟨s.K.tail,⟨n,e,z⟩,L⟩ g' w'):GG P fn R B T s g w:=by
 obtain⟨K,f,L⟩:=s;cases K with
 | nil=>cases u
 | cons t K =>
  have q:=k (Kq P (bodyPost P fn R) K .normal) (λg' w' e z L r h=>(p g' w' e z L r).ex h);refine⟨λh=>?_⟩;have a:=q.ex h;unfold X6 at a;simp only at a;cases t with
  | c x=>simp only[Kq,Ee]at a ⊢;exact a
  | b id=>simp only[Kq,Ee]at a ⊢;exact a
  | o ops is=>simp only[Kq,Ee]at a ⊢;exact a
  | x ops m Ld e L0=>simp only[Kq,Ee]at a ⊢;exact a
  | y ops m Ld e L0 i=>simp only[Kq,Ee]at a ⊢;exact a
  | j J=>simp only[Kq,Ee]at a ⊢;exact a
def zL(L:List Sh)(k:Nat):List Sh:=L.set k { L.getD k default with t:=.z,w:=false }
theorem jx(k:Nat)(b:Nat)(A:(BH s.L)[k]?.map (λx=>(x.g,x.t))=some (b,.l))(h:∀ g',Cg B [] g w g' w->GG P fn R B T ⟨s.K,s.f,zL (BH s.L) k⟩ g' w):GG P fn R B T s g w:=by
 refine⟨λF=>?_⟩;have q:=F.sm;generalize O:BH s.L=L at *;have V:∀ x∈L,x.w=false:=λx e=>by rw[<- O]at e;obtain⟨y,_,rfl⟩:=mt.1 e;rfl
 have m:k<L.length:=by
  cases e:L[k]? with
  | none=>rw[e]at A;cases A
  | some x=>exact(V'.1 e).1
 have N:L.getD k default=L[k]:=by rw[mo,G' m];rfl
 rw[G' m]at A
 simp only[mO,X',mQ]at A;obtain⟨r,I⟩:=A;have d:=q.row _ (mE m);have G:∀ n (D:n<L.length),n≠k->L[n].g≠b:=λn D o a=>by
  have:=q.two D m o (by rw[r];exact a);rw[I]at this
  cases this.2.1
 let g':Gh:=⟨λc=>if c=b then .z else g.t c,g.k⟩
 have H:g.t b=.l:=by rw[<- r,d.2.1];exact I
 have E:B<=b:=by rw[<- r];exact d.2.2.1 I
 refine(h g' ⟨rfl,rfl,rfl,A' _,λc M=>?_,λ_ _=>A' _,λ_ _ _ _=>rfl,λ_ _ _ _=>rfl,λ_ _ _ _=>rfl⟩).ex ⟨λx e=>?_,?_,λc M=>?_,q.base⟩
 .show(if c=b then _ else _)=_\/(_/\_/\(if c=b then _ else _)=_);by_cases a:c=b
  .subst a;right;exact⟨H,E,if_pos rfl⟩
  .left;exact if_neg a
 .unfold zL at e;simp only at e;rw[N]at e
  obtain⟨n,D,rfl⟩:=og e;have C:n<L.length:=by simpa using D
  rw[nM];split
  .refine⟨d.1,?_,λh=>(by cases h),λh=>absurd rfl h⟩;show(if L[k].g=b then _ else _)=_;rw[if_pos r]
  .rename_i o
   have p:=q.row _ (mE C);refine⟨p.1,?_,p.2.2⟩;show(if L[n].g=b then _ else _)=_;rw[if_neg (G n C (λh=>o h.symm))];exact p.2.1
 .show(zL L k).Pairwise _;unfold zL;rw[N,mS];intro i j Q U S a;have u:i<L.length:=by simpa using Q
  have v:j<L.length:=by simpa using U
  rw[nM,nM]at a ⊢
  by_cases p:k=i
  .rw[if_pos p]at a ⊢
   rw[if_neg (by omega)]at a ⊢
   exact absurd a.symm (by show L[j].g≠L[k].g;rw[r];exact G j v (by omega))
  .rw[if_neg p]at a ⊢
   by_cases J:k=j
   .rw[if_pos J]at a ⊢
    exact absurd a (by show L[i].g≠L[k].g;rw[r];exact G i u (by omega))
   .rw[if_neg J]at a ⊢
    exact q.two u v (by omega) a
 .have:=q.new c M;show(if c=b then _ else _)=_/\_;refine⟨?_,this.2⟩;split
  .rfl
  .exact this.1
end
end
def gS:Gh:=⟨λ_=>.z,λ_=>0⟩
section
variable{P:Program}{fn:Func}{R:Ending->World->Prop}{B:Nat}{T:List Tg}{g:Gh}{w:World}
def kG(s:Xs)(i j l:Nat):Bool:=match s.K with|.x ops (_+1) Ld _ _::_=>(match Region.ready .any ops Ld with|[a,b,c]=>Nat.beq a i&&(Nat.beq b j&&Nat.beq c l)|_=>false)|_=>false
theorem Yd{s:Xs}(i j l:Nat)(d:kG s i j l=true)(r:GG P fn R B T (J9 s i) g w)(v:GG P fn R B T (J9 s j) g w)(y:GG P fn R B T (J9 s l) g w):GG P fn R B T s g w:=by
 refine⟨λn=>?_⟩;obtain⟨K,f,L⟩:=s;have h:=r.ex;have k:=v.ex;have m:=y.ex;unfold J9 at h k m;unfold kG at d;cases K with
 | nil=>cases d
 | cons t K =>
  cases t with
  | x ops u Ld e L0 =>
   cases u with
   | zero=>cases d
   | succ u =>
    simp only at h k m d;have o:Region.ready .any ops Ld=[i,j,l]:=by
     split at d
     .rename_i a b c hk
      simp only[mr]at d;rw[hk,mw d.1,mw d.2.1,mw d.2.2]
     .cases d
    refine⟨λp=>absurd (o▸p) (by simp),o▸(λq z=>?_)⟩;rcases(show q=i\/q=j\/q=l by simpa using z)with rfl|rfl|rfl
    .exact h n
    .exact k n
    .exact m n
  | _=>cases d
def Uw:List Sh->List Sh
 | [a,b]=>[b,a]
 | a::l=>a::Uw l
 | []=>[]
theorem Hx:∀ L:List Sh,(Uw L).Perm L
 | []=>.refl _
 | [a]=>by simp[Uw]
 | [a,b]=>.swap _ _ _
 | a::b::c::l=>(Hx (b::c::l)).cons a
theorem Ns{s:Xs}(h:GG P fn R B T ⟨s.K,s.f,Uw s.L⟩ g w):GG P fn R B T s g w:=by
 refine⟨λa=>h.ex ⟨λx c=>a.row x ((Hx s.L).mem_iff.1 c),?_,a.new,a.base⟩⟩;refine(Hx s.L).symm.pairwise a.ry ?_;intro x y b e;have:=b e.symm;exact⟨this.2,this.1⟩
theorem lw{s:Xs}{r i:Nat}{e:TypeId}{p:Nat}{x:S3}{m:List Value}(c:OwnS g w (.n r i) false e p x m)(q:s.L.all (λy=>y.t.ne (.n r i))=true)(h:∀ g',Cg B [.n r i] g w g' w->OwnS g' w (.n r i) true e p x m->GG P fn R B T s g' w):GG P fn R B T s g w:=by
 refine⟨λa=>?_⟩;rcases c.ex with h1|⟨b,cur,h1,h2,h3,h4,h5,h6,h7,h8⟩
 .exact(h g (Cg.refl _ _ _ _) ⟨c.len,.inl h1⟩).ex a
 .have h80:g.k b=0:=h8;have u:b<w.heap.size:=(Q'.1 h2).1;refine(h (js g b m.length) ⟨rfl,rfl,rfl,A' _,λ_ _=>.inl rfl,λd f=>?_,λd f j _=>if_neg (λe=>j (by rw[e,h7];exact D'.2 rfl)),λ_ _ _ _=>rfl,λ_ _ _ _=>rfl⟩ ⟨c.len,.inr ⟨b,cur,h1,h2,h3,h4,h5,h6,h7,if_pos rfl⟩⟩).ex ⟨λy o=>?_,a.ry,λd f=>?_,a.base⟩
  .show g.k d<=(if d=b then _ else g.k d);split
   .rename_i e;rw[e,h80];exact mA _
   .exact A' _
  .obtain⟨k1,k2,k3,k4⟩:=a.row y o;refine⟨k1,k2,k3,λv=>?_⟩;show(if y.g=b then _ else g.k y.g)=0;rw[if_neg (λe=>Tg.rV (nm.1 q y o) (by rw[<- k2,e,h7]))];exact k4 v
  .have:=a.new d f;refine⟨this.1,?_⟩;show(if d=b then _ else g.k d)=0;rw[if_neg (by omega)];exact this.2
end
theorem Xl{P:Program}{s:Xs}{a:Nat}{S:Sem Value}{v:Value}{W:World}(h:D2 s a=some (S>>=λv=>pure (.value v)))(b:S.run P W=.ok v W):CV P s a W=some (.ok (.value v) W):=by
 unfold CV;unfold D2 at h;cases hx:opN s a with
 | none=>rw[hx]at h;cases h
 | some x =>
  rw[hx]at h
  simp only[mO,X']at h ⊢;rw[h,Sem.run_bind,b,Result.andThen_ok];rfl
section
variable{P:Program}{W:World}
section
theorem jR(d:Array TypeId)(t:TypeId)(a b:Int):(Builtin.max_ d t #[iv a,iv b]).run P W=.ok (iv (max a b)) W:=by
 rw[run_max_int2]
 congr 2
 rw[Int.max_def];by_cases h:a<b
 .rw[if_pos h,if_pos (by omega)]
 .rw[if_neg h];by_cases c:a<=b
  .rw[if_pos c];omega
  .rw[if_neg c]
theorem iu(c:Array TypeId)(t:TypeId)(a b:Int):(Builtin.min_ c t #[iv a,iv b]).run P W=.ok (iv (min a b)) W:=by
 rw[run_min_int2]
 congr 2
 rw[Int.min_def];by_cases h:b<a
 .rw[if_pos h,if_neg (by omega)]
 .rw[if_neg h,if_pos (by omega)]
variable{t:TypeId}{x y:Operand}
theorem Q8(a b:Int)(d:P.underlying t=some (.int .i64))(h:-9223372036854775808<=a+b/\a+b<=9223372036854775807):(do Go.eqGuard .add t x y (iv a) (iv b);Go.binOp .add t (iv a) (iv b):Sem Value).run P W=.ok (iv (a+b)) W:=by
 have c:IntKind.i64.wrap (a+b)=a+b:=by rw[IntKind.wrap_i64];omega
 simp[Go.eqGuard,Go.binOp,go_sem,c]
theorem Bd(k:Nat)(a:Int)(b:P.underlying 3=some (.int .i64))(h:-9223372036854775808<=a+1/\a+1<=9223372036854775807):(do Go.eqGuard .add 3 (.tmp k) (.const (iv 1)) (iv a) (iv 1);Go.binOp .add 3 (iv a) (iv 1):Sem Value).run P W=.ok (iv (a+1)) W:=Q8 a 1 b h
theorem Zm(a b:Int)(d:P.underlying t=some (.int .i64))(h:-9223372036854775808<=a-b/\a-b<=9223372036854775807):(do Go.eqGuard .sub t x y (iv a) (iv b);Go.binOp .sub t (iv a) (iv b):Sem Value).run P W=.ok (iv (a-b)) W:=by
 have c:IntKind.i64.wrap (a-b)=a-b:=by rw[IntKind.wrap_i64];omega
 simp[Go.eqGuard,Go.binOp,go_sem,c]
end
end
section
theorem T8(a b:Bal):decide (a.r=b.r/\a.n=b.n)=decide (a=b):=mW.2 (Bal.eq_iff a b)
variable{W:World}{x y:Operand}
theorem l7(a b:Bal):(do Go.eqGuard .eql 101 x y (.agg #[iv a.r,iv a.n]) (.agg #[iv b.r,iv b.n]);Go.binOp .eql 101 (.agg #[iv a.r,iv a.n]) (.agg #[iv b.r,iv b.n]):Sem Value).run prog W=.ok (.bool (decide (a=b))) W:=by
 have c:=bK a.r a.n b.r b.n W;rw[T8]at c
 have d:(Go.eqGuard .eql 101 x y (.agg #[iv a.r,iv a.n]) (.agg #[iv b.r,iv b.n])).run prog W=.ok () W:=by kernel_rfl
 rw[Sem.run_bind,d,Result.andThen_ok];exact c
theorem gQ(a b c d:Int):∀ w,(binOp .neq 101 (.agg #[.int .i64 a,.int .i64 b]) (.agg #[.int .i64 c,.int .i64 d])).run prog w=.ok (.bool (!decide (a=c/\b=d))) w:=by
 intro w;rw[run_neq_struct,run_equalIn_agg w 9999 _ _ _ (by kernel_rfl) (by kernel_rfl)];unfold Program.fieldsOf;rw[underlying101];have e:=underlying3;simp[Op.eqFields,go_sem,e]
 repeat' split
 all_goals simp_all
theorem jT(a b:Bal):(do Go.eqGuard .neq 101 x y (.agg #[iv a.r,iv a.n]) (.agg #[iv b.r,iv b.n]);Go.binOp .neq 101 (.agg #[iv a.r,iv a.n]) (.agg #[iv b.r,iv b.n]):Sem Value).run prog W=.ok (.bool (!decide (a=b))) W:=by
 have c:=gQ a.r a.n b.r b.n W;rw[T8]at c
 have d:(Go.eqGuard .neq 101 x y (.agg #[iv a.r,iv a.n]) (.agg #[iv b.r,iv b.n])).run prog W=.ok () W:=by kernel_rfl
 rw[Sem.run_bind,d,Result.andThen_ok];exact c
theorem TC(a b:Cmd):decide (a.k=b.k/\a.c=b.c/\a.s=b.s/\a.n=b.n/\a.v=b.v)=decide (a=b):=mW.2 (Cmd.eq_iff a b)
theorem jL(a b:Cmd):(do Go.eqGuard .eql 30 x y (.agg #[iv a.k,iv a.c,iv a.s,iv a.n,iv a.v]) (.agg #[iv b.k,iv b.c,iv b.s,iv b.n,iv b.v]);Go.binOp .eql 30 (.agg #[iv a.k,iv a.c,iv a.s,iv a.n,iv a.v]) (.agg #[iv b.k,iv b.c,iv b.s,iv b.n,iv b.v]):Sem Value).run prog W=.ok (.bool (decide (a=b))) W:=by
 have d:=TL a.k a.c a.s a.n a.v b.k b.c b.s b.n b.v W;rw[TC]at d
 have e:(Go.eqGuard .eql 30 x y (.agg #[iv a.k,iv a.c,iv a.s,iv a.n,iv a.v]) (.agg #[iv b.k,iv b.c,iv b.s,iv b.n,iv b.v])).run prog W=.ok () W:=by kernel_rfl
 rw[Sem.run_bind,e,Result.andThen_ok];exact d
theorem I4(a b:Bal)(h:a≠b):(do Go.eqGuard .neq 101 x y (.agg #[iv a.r,iv a.n]) (.agg #[iv b.r,iv b.n]);Go.binOp .neq 101 (.agg #[iv a.r,iv a.n]) (.agg #[iv b.r,iv b.n]):Sem Value).run prog W=.ok (.bool true) W:=by rw[jT,E' h];rfl
theorem I3(a b:Bal)(h:a=b):(do Go.eqGuard .neq 101 x y (.agg #[iv a.r,iv a.n]) (.agg #[iv b.r,iv b.n]);Go.binOp .neq 101 (.agg #[iv a.r,iv a.n]) (.agg #[iv b.r,iv b.n]):Sem Value).run prog W=.ok (.bool false) W:=by rw[jT,O' h];rfl
theorem qm{j:Nat}(h:j<5):j=0\/j=1\/j=2\/j=3\/j=4:=by omega
theorem Gr:∀ ts:List Tol,(ts.flatMap FD).length=ts.length*5
 | []=>rfl
 | t::r=>by rw[nX,H',Gr r,mH];show 5+_=_;omega
end
section
variable{P:Program}{fn:Func}{R:Ending->World->Prop}{B:Nat}{T:List Tg}{g:Gh}{w:World}
section
variable{B' i nb ob:Nat}{L:List Sh}{T':List Tg}{g0:Gh}{ls:List Let}{lt tl:S3}{p p0:Nod}{s:Xs}{ts:List Tol}{v:Value}{w0:World}{x x0:NX}
theorem qR(a:List Tg)(m:Nat)(h:List Nat)(c:∀ gs g' w',Cg B a g w g' w'->GG P fn R B T (rn0 P a gs m s h).s g' w')(b:∀ gs,(rn0 P a gs m s h).o.map Ob.l'=(rn0 P a gs m s h).o.map Ob.r':=by intro _;kernel_rfl):GG P fn R B T s g w:=bW a m h b c
theorem qV(i:Nat)(v:Value){S:Sem Value}(c:S.run P w=.ok v w)(b:GG P fn R B T (nxt s i v s.L).s g w)(d:D2 s i=some (S>>=λv=>pure (.value v)):=by kernel_rfl)(a:(nxt s i undef s.L).o.map Ob.l'=(nxt s i undef s.L).o.map Ob.r':=by kernel_rfl):GG P fn R B T s g w:=bX i v (λ_=>Xl d c) a b
theorem qT(i:Nat)(v:Value){S:Sem Value}(c:∀ W,S.run P W=.ok v W)(b:GG P fn R B T (tkN s i v false).s g w)(d:D2 s i=some (S>>=λv=>pure (.value v)):=by kernel_rfl)(a:(tkN s i undef false).o.map Ob.l'=(tkN s i undef false).o.map Ob.r':=by kernel_rfl):GG P fn R B T s g w:=PT i v false (λW _=>Xl d (c W)) a b
theorem qU(i:Nat)(v:Value){S:Sem Value}(c:∀ W,(true=true->AR (Zu s) W)->S.run P W=.ok v W)(b:GG P fn R B T (tkN s i v true).s g w)(d:D2 s i=some (S>>=λv=>pure (.value v)):=by kernel_rfl)(a:(tkN s i undef true).o.map Ob.l'=(tkN s i undef true).o.map Ob.r':=by kernel_rfl):GG P fn R B T s g w:=PT i v true (λW h=>Xl d (c W h)) a b
theorem qI(b t:Bool)(a:b=t)(h:GG P fn R B T (Le s t) g w)(c:PA s=.bool b:=by kernel_rfl):GG P fn R B T s g w:=gIf b t a c h
theorem qC(i:Nat){f:FuncId}{a:Array Value}{C:Ending->World->Prop}(c:Calls P f a w C)(h:∀ e w',C e w'->∃ v,e=.returned v/\Bw w w'/\GG P fn R B T (nxt s i v s.L).s g w')(j:∀ W,CV P s i W=some (.ok (.enter f a) W):=by intro _;kernel_rfl)(d:Kl s i=true:=by kernel_rfl)(b:(nxt s i undef s.L).o.map Ob.l'=(nxt s i undef s.L).o.map Ob.r':=by kernel_rfl):GG P fn R B T s g w:=go i f a j d b c h
theorem qG(i:Nat)(a:List Tg)(m:List Bool){f:FuncId}{c:Array Value}{C:Ending->World->Prop}(j:Calls P f c w C)(q:∀ e w',C e w'->∃ v g',e=.returned v/\Cg w.heap.size a g w g' w'/\(∀ b,w'.heap.size<=b->g'.t b=.z/\g'.k b=0)/\GG P fn R B T (nxt s i v (AE m s.L)).s g' w')(r:∀ W,CV P s i W=some (.ok (.enter f c) W):=by intro _;kernel_rfl)(p:Kl s i=true:=by kernel_rfl)(d:(nxt s i undef (AE m s.L)).o.map Ob.l'=(nxt s i undef (AE m s.L)).o.map Ob.r':=by kernel_rfl)(h:(AE m s.L).all (λx=>a.all λt=>x.t.ne t)=true:=by kernel_rfl):GG P fn R B T s g w:=RS i f c a m r p d h j q
theorem qE(v:Value)(h:Kn B g w s.L->R (.returned v) w)(a:Kn B g w s.L->(results fn s.f.act.tmps).run P w=.ok v w:=by intro _;kernel_rfl)(b:MG s.K=true:=by kernel_rfl):GG P fn R B T s g w:=Vu v b a h
theorem qB{J:Act->World->Prop}{n:Nat}{e:List (Nat × Value)}(m:List Bool){a:List Sh}(h:∀ z,Kn B g w s.L->Kn B g w a->J (⟨n,e,z⟩:Fm).act w)(i:isJ s.K=true:=by kernel_rfl)(b:jK s.K=J:=by kernel_rfl)(j:s.f.n=n:=by kernel_rfl)(d:e.map (λp=>lk s.f.z s.f.e p.1)=e.map (·.2):=by kernel_rfl)(c:BH (AE m s.L)=a:=by kernel_rfl):GG P fn R B T s g w:=Ey J n e m a i b j d c h
theorem Kn.si(h:Kn B g w L){i b:Nat}{d:Array Value}(a:(L[i]?).map (λx=>(x.g,CM x.o,Ep x.o))=some (b,d,true)):∃ e,w.heap[b]?=some (.cells d e (0,0)):=by
 cases hi:L[i]? with
 | none=>rw[hi]at a;cases a
 | some x =>
  rw[hi]at a
  have f:=(h.row x (ml hi)).1;obtain⟨j,k,m,p⟩:=x;simp only[mO,X',mQ]at a f;obtain⟨rfl,rfl,c⟩:=a;rw[f];unfold Ep at c;split at c
  .exact⟨_,rfl⟩
  .cases c
theorem Ht{a:TypeId}(h:Gm P a=true):∃ d,P.underlying a=some d/\d.isRow=true:=by
 unfold Gm at h;split at h
 .rename_i d hd
  exact⟨d,hd,h⟩
 .cases h
theorem qE1(p:Tmp)(c:TypeId)(i b:Nat)(a:Array Value)(h:Kn B g w s.L->R (.returned (.agg a)) w)(t:(s.L[i]?).map (λx=>(x.g,CM x.o,Ep x.o))=some (b,a,true):=by kernel_rfl)(j:fn.results=#[.cell p c]:=by kernel_rfl)(m:s.f.act.tmps.getD p undef=pt b 0:=by kernel_rfl)(r:Gm P c=true:=by kernel_rfl)(k:(P.info? c).map (·.size)=some a.size:=by kernel_rfl)(q:MG s.K=true:=by kernel_rfl):GG P fn R B T s g w :=
 Vu _ q (λK=>let ⟨e,he⟩:=K.si t;let ⟨d,h1,h2⟩:=Ht r;ZS j _ _ b e a (0,0) d m he h1 (by cases d<;>first|rfl|cases h2) k) h
theorem qE2(p u:Tmp)(c:TypeId)(i b:Nat)(a:Array Value)(v:Value)(h:Kn B g w s.L->R (.returned (.tuple #[.agg a,v])) w)(y:(s.L[i]?).map (λx=>(x.g,CM x.o,Ep x.o))=some (b,a,true):=by kernel_rfl)(j:fn.results=#[.cell p c,.tmp u]:=by kernel_rfl)(m:s.f.act.tmps.getD p undef=pt b 0:=by kernel_rfl)(t:s.f.act.tmps.getD u undef=v:=by kernel_rfl)(r:Gm P c=true:=by kernel_rfl)(k:(P.info? c).map (·.size)=some a.size:=by kernel_rfl)(q:MG s.K=true:=by kernel_rfl):GG P fn R B T s g w :=
 Vu _ q (λK=>let ⟨e,he⟩:=K.si y;let ⟨d,h1,h2⟩:=Ht r;by rw[<- t];exact Ux j _ _ b e a (0,0) d m he h1 (by cases d<;>first|rfl|cases h2) k) h
theorem qE3(p u k:Tmp)(j:TypeId)(i b:Nat)(a:Array Value)(v m:Value)(h:Kn B g w s.L->R (.returned (.tuple #[.agg a,v,m])) w)(D:(s.L[i]?).map (λx=>(x.g,CM x.o,Ep x.o))=some (b,a,true):=by kernel_rfl)(q:fn.results=#[.cell p j,.tmp u,.tmp k]:=by kernel_rfl)(t:s.f.act.tmps.getD p undef=pt b 0:=by kernel_rfl)(C:s.f.act.tmps.getD u undef=v:=by kernel_rfl)(c:s.f.act.tmps.getD k undef=m:=by kernel_rfl)(A:Gm P j=true:=by kernel_rfl)(r:(P.info? j).map (·.size)=some a.size:=by kernel_rfl)(y:MG s.K=true:=by kernel_rfl):GG P fn R B T s g w :=
 Vu _ y (λK=>let ⟨e,he⟩:=K.si D;let ⟨d,h1,h2⟩:=Ht A;by rw[<- C,<- c];exact jF q _ _ b e a (0,0) d t he h1 (by cases d<;>first|rfl|cases h2) r) h
theorem qE4(p y:Tmp)(v c:TypeId)(i b j m:Nat)(k a:Array Value)(h:Kn B g w s.L->R (.returned (.tuple #[.agg k,.agg a])) w)(G:(s.L[i]?).map (λx=>(x.g,CM x.o,Ep x.o))=some (b,k,true):=by kernel_rfl)(u:(s.L[j]?).map (λx=>(x.g,CM x.o,Ep x.o))=some (m,a,true):=by kernel_rfl)(A:fn.results=#[.cell p v,.cell y c]:=by kernel_rfl)(D:s.f.act.tmps.getD p undef=pt b 0:=by kernel_rfl)(r:s.f.act.tmps.getD y undef=pt m 0:=by kernel_rfl)(F:Gm P v=true:=by kernel_rfl)(t:Gm P c=true:=by kernel_rfl)(C:(P.info? v).map (·.size)=some k.size:=by kernel_rfl)(q:(P.info? c).map (·.size)=some a.size:=by kernel_rfl)(E:MG s.K=true:=by kernel_rfl):GG P fn R B T s g w :=
 Vu _ E (λK=>let ⟨e,he⟩:=K.si G;let ⟨e',he'⟩:=K.si u;let ⟨d,h1,h2⟩:=Ht F;let ⟨d',h3,h4⟩:=Ht t;jk A _ _ b m e e' k a (0,0) (0,0) d d' D he h1 (by cases d<;>first|rfl|cases h2) C r he' h3 (by cases d'<;>first|rfl|cases h4) q) h
theorem qE5(p C u:Tmp)(A c:TypeId)(i b j m:Nat)(k a:Array Value)(v:Value)(h:Kn B g w s.L->R (.returned (.tuple #[.agg k,.agg a,v])) w)(J:(s.L[i]?).map (λx=>(x.g,CM x.o,Ep x.o))=some (b,k,true):=by kernel_rfl)(y:(s.L[j]?).map (λx=>(x.g,CM x.o,Ep x.o))=some (m,a,true):=by kernel_rfl)(D:fn.results=#[.cell p A,.cell C c,.tmp u]:=by kernel_rfl)(F:s.f.act.tmps.getD p undef=pt b 0:=by kernel_rfl)(r:s.f.act.tmps.getD C undef=pt m 0:=by kernel_rfl)(I:s.f.act.tmps.getD u undef=v:=by kernel_rfl)(H:Gm P A=true:=by kernel_rfl)(t:Gm P c=true:=by kernel_rfl)(E:(P.info? A).map (·.size)=some k.size:=by kernel_rfl)(q:(P.info? c).map (·.size)=some a.size:=by kernel_rfl)(G:MG s.K=true:=by kernel_rfl):GG P fn R B T s g w :=
 Vu _ G (λK=>let ⟨e,he⟩:=K.si J;let ⟨e',he'⟩:=K.si y;let ⟨d,h1,h2⟩:=Ht H;let ⟨d',h3,h4⟩:=Ht t;by rw[<- I];exact jl D _ _ b m e e' k a (0,0) (0,0) d d' F he h1 (by cases d<;>first|rfl|cases h2) E r he' h3 (by cases d'<;>first|rfl|cases h4) q) h
theorem qN(h:NodeAt g w i nb ob x p)(b:GG P fn R B T ⟨s.K,s.f,BH s.L++[⟨nb,.cells (AD i ob p x) 122,.n 0 i,false⟩]⟩ g w)(a:s.L.all (λy=>(Tg.n 0 i).ne y.t)=true:=by kernel_rfl):GG P fn R B T s g w:=Ik nb _ 0 i h.row h.tag h.ra a b
theorem qO(h:OutAt g w ob lt tl ls ts)(b:GG P fn R B T ⟨s.K,s.f,BH s.L++[⟨ob,.cells #[lt.v,tl.v] 93,.n 50 0,false⟩]⟩ g w)(a:s.L.all (λy=>(Tg.n 50 0).ne y.t)=true:=by kernel_rfl):GG P fn R B T s g w:=Ik ob _ 50 0 h.row h.tag h.ra a b
theorem qS0(n:Nat)(m:List Bool){f:FuncId}{j:Array Value}{i nb a:Nat}{v:Value}{p:Nod}{k:List Let}{q:List Tol}(u:Calls P f j w (NP i nb a g w v p k q))(C:∀ g' w' x lt tl,NodeAt g' w' i nb a x p->OutAt g' w' a lt tl k q->Cg B (TN i) g w g' w'->GG P fn R B T ⟨(nxt s n v (AE m s.L)).s.K,(nxt s n v (AE m s.L)).s.f,BH (BH (nxt s n v (AE m s.L)).s.L++[⟨nb,.cells (AD i a p x) 122,.n 0 i,false⟩])++[⟨a,.cells #[lt.v,tl.v] 93,.n 50 0,false⟩]⟩ g' w')(D:∀ W,CV P s n W=some (.ok (.enter f j) W):=by intro _;kernel_rfl)(A:Kl s n=true:=by kernel_rfl)(h:(nxt s n undef (AE m s.L)).o.map Ob.l'=(nxt s n undef (AE m s.L)).o.map Ob.r':=by kernel_rfl)(r:(AE m s.L).all (λx=>(TN i).all λt=>x.t.ne t)=true:=by kernel_rfl)(b:(nxt s n v (AE m s.L)).s.L.all (λy=>(Tg.n 0 i).ne y.t)=true:=by kernel_rfl)(d:∀ x:NX,(BH (nxt s n v (AE m s.L)).s.L++[(⟨nb,.cells (AD i a p x) 122,.n 0 i,false⟩:Sh)]).all (λy=>(Tg.n 50 0).ne y.t)=true:=by intro _;kernel_rfl):GG P fn R B T s g w :=
 qG n (TN i) m u (λ_ w' ⟨g',e,M,c⟩=>⟨v,g',e,c,M.new,let ⟨x,lt,tl,hN,hO,_⟩:=M;qN hN (qO hO (C g' w' x lt tl hN hO c.ret) (d x)) b⟩) D A h r
theorem qS(n:Nat)(m:List Bool){f:FuncId}{D:Array Value}{i nb a H:Nat}{d:List Tg}{e:Gh}{A:World}{Y:NX}{q u:S3}{v:Value}{F p:Nod}{b E:List Let}{c G:List Tol}(I:NodeAt e A i nb a Y F)(J:OutAt e A a q u b c)(C:Cg H d e A g w)(N:NS i nb a g w F b c->Calls P f D w (NP i nb a g w v p E G))(Q:∀ g' w' x lt tl,NodeAt g' w' i nb a x p->OutAt g' w' a lt tl E G->Cg B (TN i) g w g' w'->GG P fn R B T ⟨(nxt s n v (AE m s.L)).s.K,(nxt s n v (AE m s.L)).s.f,BH (BH (nxt s n v (AE m s.L)).s.L++[⟨nb,.cells (AD i a p x) 122,.n 0 i,false⟩])++[⟨a,.cells #[lt.v,tl.v] 93,.n 50 0,false⟩]⟩ g' w')(X:Tg.z∉d:=by simp)(S:∀ r,r<6->Tg.n r i∉d:=by simp)(U:∀ r,50<=r->Tg.n r 0∉d:=by simp)(V:∀ W,CV P s n W=some (.ok (.enter f D) W):=by intro _;kernel_rfl)(O:Kl s n=true:=by kernel_rfl)(k:(nxt s n undef (AE m s.L)).o.map Ob.l'=(nxt s n undef (AE m s.L)).o.map Ob.r':=by kernel_rfl)(M:(AE m s.L).all (λx=>(TN i).all λt=>x.t.ne t)=true:=by kernel_rfl)(h:(nxt s n v (AE m s.L)).s.L.all (λy=>(Tg.n 0 i).ne y.t)=true:=by kernel_rfl)(j:∀ x:NX,(BH (nxt s n v (AE m s.L)).s.L++[(⟨nb,.cells (AD i a p x) 122,.n 0 i,false⟩:Sh)]).all (λy=>(Tg.n 50 0).ne y.t)=true:=by intro _;kernel_rfl):GG P fn R B T s g w :=
 Af λK=>qS0 n m (N (nsC I J C K X S U)) Q V O k M h j
theorem qF{a:Gh}{b:World}(d:NodeAt a b i nb ob x p)(e:OutAt a b ob lt tl ls ts)(c:Cg B' T' a b g w)(C:Cg w0.heap.size (TN i) g0 w0 g w)(o:Tg.z∉T':=by simp)(h:∀ r,r<6->Tg.n r i∉T':=by simp)(j:∀ r,50<=r->Tg.n r 0∉T':=by simp)(k:Kn w0.heap.size g w s.L->(results fn s.f.act.tmps).run P w=.ok v w:=by intro _;kernel_rfl)(m:MG s.K=true:=by kernel_rfl):GG P fn (NP i nb ob g0 w0 v p ls ts) w0.heap.size T s g w :=
 qE v (λK=>⟨_,rfl,nsC d e c K o h j,C⟩) k m
theorem Kn.nd(h:Kn B g w L)(k:Nat)(a:FSl g w x.tape p.d)(c:FSv g w x.ni p.vo.vs)(e:∀ j,j<5->FSv g w (x.hv j) (p.bn.an j).vs)(f:∃ vs,OwnS g w (.n 1 i) true 1 1 x.synced vs/\Pends g w nb vs p.bu)(m:OwnS g w (.n 2 i) false 30 5 x.fv (cmL p.bn.fv))(o:OwnS g w (.n 3 i) true 30 5 x.ae (cmL p.ae))(r:OwnS g w (.n 4 i) false 30 5 x.au (cmL p.au))(s:WU g w i p.bN x.bN)(t:p.up=true->∃ b,x.bN=some b)(u:L[k]?=some ⟨nb,.cells (AD i ob p x) 122,.n 0 i,false⟩:=by kernel_rfl):NodeAt g w i nb ob x p :=
 have q:=h.qY k nb _ 0 i u
 ⟨q.1,q.2.1,q.2.2,a,c,e,f,m,o,r,s,t⟩
theorem Kn.so{C:Nat}{f:List Tg}(h:Kn B g w L)(k:Nat)(a:NodeAt g0 w0 i nb ob x0 p0)(c:Cg C f g0 w0 g w)(I:L[k]?=some ⟨nb,.cells (AD i ob p x) 122,.n 0 i,false⟩:=by kernel_rfl)(e:Tg.z∉f:=by simp)(b:∀ r,1<=r->r<6->Tg.n r i∉f:=by simp;try omega)(o:x=x0:=by rfl)(s:p.d=p0.d:=by rfl)(t:p.vo.vs=p0.vo.vs:=by rfl)(u:p.bn.an=p0.bn.an:=by rfl)(v:p.bu=p0.bu:=by rfl)(y:p.bn.fv=p0.bn.fv:=by rfl)(A:p.ae=p0.ae:=by rfl)(D:p.au=p0.au:=by rfl)(E:p.bN=p0.bN:=by rfl)(m:p.up=p0.up:=by rfl):NodeAt g w i nb ob x p:=by
 have q:=h.qY k nb _ 0 i I;subst o;obtain⟨vs,F,G⟩:=a.bu;exact⟨q.1,q.2.1,q.2.2,by rw[s];exact a.tape.ch c e,by rw[t];exact a.ni.ch c e,by rw[u];exact λj H=>(a.an j H).ch c e,by rw[v];exact⟨vs,F.ch c (b 1 (by omega) (by omega)) (by simp),G.ch c e⟩,by rw[y];exact a.fv.ch c (b 2 (by omega) (by omega)) (by simp),by rw[A];exact a.ae.ch c (b 3 (by omega) (by omega)) (by simp),by rw[D];exact a.au.ch c (b 4 (by omega) (by omega)) (by simp),by rw[E];exact a.bN.ch c (b 5 (by omega) (by omega)),by rw[m];exact a.rp⟩
theorem Kn.od(h:Kn B g w L)(k:Nat)(a:∃ bs:List Nat,OwnS g w (.n 51 0) false 167 1 lt (bs.map (pt · 0))/\Lets g w bs ls)(b:OwnS g w (.n 52 0) false 128 5 tl (ts.flatMap FD))(c:L[k]?=some ⟨ob,.cells #[lt.v,tl.v] 93,.n 50 0,false⟩:=by kernel_rfl):OutAt g w ob lt tl ls ts :=
 have q:=h.qY k ob _ 50 0 c
 ⟨q.1,q.2.1,q.2.2,a,b⟩
end
end
section
structure RdC(w:World)(x:S3)(l:List Cmd):Prop where
 len:x.n=l.length
 cap:x.n<=x.c
 rO:x.a=none->x.c=0
 ex:l=[]\/∃ b off,x.a=some ⟨b,off,none⟩/\b<w.heap.size/\∀ j u,(cmL l)[j]?=some u->w.cell? ⟨b,off+j,none⟩=some u
variable{g:Gh}{l:List Cmd}{w:World}{x:S3}
theorem OwnS.rd{τ:Tg}{i:Bool}{e:TypeId}(h:OwnS g w τ i e 5 x (cmL l)):RdC w x l:=by
 have c:=h.num;rcases h.ex with⟨h1,h2,h3⟩|⟨b,cur,h1,h2,h3,h4,h5,h6,h7,h8⟩
 .exact⟨c,by omega,λ_=>h3,.inl (Y' (by omega))⟩
 .refine⟨c,h3,λh=>(by rw[h1]at h;cases h),.inr ⟨b,0,h1,rl h2,λj u f=>?_⟩⟩;obtain⟨k,a,_,d⟩:=h.cell f;rw[h1]at a
  simp only[X',Addr.mk.injEq,and_true]at a;subst a;rw[mJ];exact d
theorem RdC.af{d:World}(h:RdC w x l)(b:Bw w d):RdC d x l :=
 ⟨h.len,h.cap,h.rO,h.ex.imp id λ⟨k,a,e,c,f⟩=>⟨k,a,e,j' c b.size,λj u g=>(b.cell (p:=⟨k,a+j,none⟩) c).trans (f j u g)⟩⟩
def S3.cut(x:S3)(l h:Nat):S3:=⟨if x.c=l then x.a else x.a.map (·.add (l*5)),h-l,x.c-l⟩
theorem Rc.drop(h:Rc g w x l){k:Nat}(i:k<=l.length):Rc g w (x.cut k x.n) (l.drop k):=by
 have e:=h.len;have f:=h.cap;refine⟨by simp[S3.cut,e],by simp only[S3.cut];omega,λc=>?_,?_⟩
 .simp only[S3.cut]at c ⊢;split at c
  .omega
  .cases ha:x.a with
   | none=>have:=h.rO ha;omega
   | some a=>rw[ha]at c;cases c
 .rcases h.ex with rfl|⟨b,off,h1,h2,h3,h4⟩
  .exact .inl (by simp)
  .by_cases he:k=l.length
   .exact .inl (by rw[he];simp)
   .refine .inr ⟨b,off+k*5,?_,h2,λj u d=>?_,?_⟩
    .simp only[S3.cut];rw[if_neg (by omega),h1];simp only[mO,X'];unfold Addr.add;split
     .rename_i h0;rw[show k=0 by omega];simp
     .simp
    .rw[<- Lb,mX]at d
     have:=h3 _ u d;rw[show off+k*5+j=off+(5*k+j)by omega];exact this
    .rcases h4 with h4|h4
     .exact .inl h4
     .right;rw[lZ];omega
theorem Rc.addr(h:Rc g w x l){k:Nat}(c:k<l.length):∃ b off,x.a=some ⟨b,off,none⟩:=by
 rcases h.ex with rfl|⟨b,off,h2,_⟩
 .simp at c
 .exact⟨b,off,h2⟩
theorem Rc.cellAt(h:Rc g w x l){b d j q:Nat}{c:Cmd}{u:Value}(f:x.a=some ⟨b,d,none⟩)(e:l[j]?=some c)(i:(cmV c)[q]?=some u):w.cell? ⟨b,d+5*j+q,none⟩=some u:=by
 rcases h.ex with rfl|⟨b',off',h1,h2,h3,_⟩
 .cases e
 .rw[f]at h1
  simp only[X',Addr.mk.injEq,and_true]at h1;obtain⟨rfl,rfl⟩:=h1;rw[mV];exact h3 _ u (O0 e i)
theorem RdC.cellAt(h:RdC w x l){b d j q:Nat}{c:Cmd}{u:Value}(f:x.a=some ⟨b,d,none⟩)(e:l[j]?=some c)(g:(cmV c)[q]?=some u):w.cell? ⟨b,d+5*j+q,none⟩=some u:=by
 rcases h.ex with rfl|⟨b',off',h1,h2,h3⟩
 .cases e
 .rw[f]at h1
  simp only[X',Addr.mk.injEq,and_true]at h1;obtain⟨rfl,rfl⟩:=h1;rw[mV];exact h3 _ u (O0 e g)
theorem RdC.addr(h:RdC w x l){k:Nat}(c:k<l.length):∃ b off,x.a=some ⟨b,off,none⟩:=by
 rcases h.ex with rfl|⟨b,off,h2,_⟩
 .simp at c
 .exact⟨b,off,h2⟩
theorem Xx(l:List Cmd)(k:Nat){j:Nat}{u:Value}(h:(cmL (l.take k))[j]?=some u):(cmL l)[j]?=some u:=by
 have a:cmL l=cmL (l.take k)++cmL (l.drop k):=by rw[<- Cm,m9]
 rw[a,mg (V'.1 h).1];exact h
theorem RdC.take(h:RdC w x l){k:Nat}(g:k<=l.length):RdC w (x.cut 0 k) (l.take k):=by
 have i:=h.len;have f:=h.cap;have c:(x.cut 0 k).a=x.a:=by
  simp only[S3.cut];split
  .rfl
  .cases x.a with
   | none=>rfl
   | some a=>simp[Addr.add]
 refine⟨by simp[S3.cut];omega,by simp only[S3.cut];omega,λd=>?_,?_⟩
 .rw[c]at d
  have:=h.rO d;simp only[S3.cut];omega
 .rcases h.ex with rfl|⟨b,off,h1,h2,h3⟩
  .exact .inl (by simp)
  .exact .inr ⟨b,off,by rw[c];exact h1,h2,λj u e=>h3 j u (Xx l k e)⟩
end
section
variable{W:World}
section
theorem sz5:(Go.sizeOf (prog.elem 46)).run prog W=.ok 5 W:=by kernel_rfl
theorem unC:prog.underlying 46=some (.slice (prog.elem 46)):=by kernel_rfl
theorem ix(x:S3)(k:Nat)(a:k<=x.n):(Instr.sliceAt 46 x.v (some (iv (k:Int))) none none).run prog W=.ok (S3.v (x.cut k x.n)) W:=by
 rw[run_sliceAt_slice _ _ _ _ _ _ unC,run_slice_l (P:=prog) (w:=W) _ _ _ _ unC .i64 k (by omega) (by omega),sz5];simp[Result.andThen,sliced,S3.cut]
theorem kg(x:S3)(k:Nat)(a:k<=x.c):(Instr.sliceAt 46 x.v none (some (iv (k:Int))) none).run prog W=.ok (S3.v (x.cut 0 k)) W:=by
 rw[run_sliceAt_slice _ _ _ _ _ _ unC,run_slice_h (P:=prog) (w:=W) _ _ _ _ unC .i64 k (by omega) (by omega),sz5];simp[Result.andThen,sliced,S3.cut]
variable{b k off:Nat}{x:S3}{y:Operand}
theorem jY(d:x.a=some ⟨b,off,none⟩)(k:Nat)(f:k<x.n)(e:x.n<=x.c):(Instr.sliceAt 46 x.v (some (iv (k:Int))) none none).run prog W=.ok (.slice (some ⟨b,off+5*k,none⟩) (x.n-k) (x.c-k)) W:=by
 rw[ix x k (by omega)];unfold S3.v S3.cut;simp only;rw[if_neg (by omega),d];simp only[mO,Addr.add];split
 .rename_i h0;rw[show k=0 by omega];rfl
 .simp only[oJ]
theorem ki{P:Program}{x:Operand}(a b:Nat)(c:P.underlying 3=some (.int .i64))(h:b<=a)(d:a<4611686018427387904):(do Go.eqGuard .sub 3 x y (iv (a:Int)) (iv (b:Int));Go.binOp .sub 3 (iv (a:Int)) (iv (b:Int)):Sem Value).run P W=.ok (iv ((a-b:Nat):Int)) W:=by
 rw[Zm _ _ c (by omega)]
 congr 3
 omega
theorem jA{g:Gh}{l:List Cmd}(e:x.a=some ⟨b,off,none⟩)(h:Rc g W x l)(k:Nat)(f:k<l.length):∀ j u,(cmL (l.drop k))[j]?=some u->W.cell? ((⟨b,off+5*k,none⟩:Addr).add j)=some u:=by
 intro j u d;rcases h.ex with rfl|⟨b',off',h1,h2,h3,h4⟩
 .simp at f
 .rw[e]at h1
  simp only[X',Addr.mk.injEq,and_true]at h1;obtain⟨rfl,rfl⟩:=h1;rw[<- Lb,mX]at d
  have:=h3 _ u d;have c:(⟨b,off+5*k,none⟩:Addr).add j=⟨b,off+5*k+j,none⟩:=by unfold Addr.add;split<;>simp_all
  rw[c,show off+5*k+j=off+(5*k+j)by omega];exact this
theorem NT(c:x.a=some ⟨b,off,none⟩)(j:Nat)(d:j<x.n):(Instr.indexAt 46 x.v (iv (j:Int))).run prog W=.ok (pt b (off+5*j)) W:=by
 unfold S3.v;rw[c];exact MR (P:=prog) (e:=30) (z:=5) underlying46 (by kernel_rfl) (by kernel_rfl) d _ rfl
theorem Wd(c:Cmd)(h:∀ j u,(cmV c)[j]?=some u->W.cell? ⟨b,k+j,none⟩=some u):(Instr.loadAt 30 (pt b k)).run prog W=.ok (.agg #[iv c.k,iv c.c,iv c.s,iv c.n,iv c.v]) W:=by
 have a:=run_loadVar_mid (P:=prog) W b k 30 (cmV c) _ (λj u d=>h j u d) underlying30 rfl (by kernel_rfl);simp only[Instr.loadAt,Instr.sureAddr,Sem.run_bind,Sem.run_pure,Result.andThen_ok];exact a
theorem Ur(c:x.a=some ⟨b,off,none⟩)(j:Nat)(d:j<x.n):(Instr.indexAt 102 x.v (iv (j:Int))).run prog W=.ok (pt b (off+8*j)) W:=by
 unfold S3.v;rw[c];exact MR (P:=prog) (e:=164) (z:=8) underlying102 (by kernel_rfl) (by kernel_rfl) d _ rfl
theorem dB(v:Vt)(h:W.rangeAt b k (vtC v)):(Instr.loadAt 164 (pt b k)).run prog W=.ok (.agg #[iv v.bt,iv v.b.r,iv v.b.n,iv v.w.k,iv v.w.c,iv v.w.s,iv v.w.n,iv v.w.v]) W:=by
 have a:=run_loadVar_mid (P:=prog) W b k 164 (vtC v) _ h underlying164 rfl (by kernel_rfl);simp only[Instr.loadAt,Instr.sureAddr,Sem.run_bind,Sem.run_pure,Result.andThen_ok];exact a
theorem iR(u v:Vt):decide (u.bt=v.bt/\u.b.r=v.b.r/\u.b.n=v.b.n/\u.w.k=v.w.k/\u.w.c=v.w.c/\u.w.s=v.w.s/\u.w.n=v.w.n/\u.w.v=v.w.v)=decide (u=v):=by
 apply mW.2;constructor
 .rintro⟨a1,a2,a3,a4,a5,a6,a7,a8⟩;exact(Vt.eq_iff u v).1 ⟨a1,(Bal.eq_iff _ _).1 ⟨a2,a3⟩,(Cmd.eq_iff _ _).1 ⟨a4,a5,a6,a7,a8⟩⟩
 .rintro rfl;exact⟨rfl,rfl,rfl,rfl,rfl,rfl,rfl,rfl⟩
theorem jM{x:Operand}(a b:Vt):(do Go.eqGuard .eql 164 x y (.agg #[iv a.bt,iv a.b.r,iv a.b.n,iv a.w.k,iv a.w.c,iv a.w.s,iv a.w.n,iv a.w.v]) (.agg #[iv b.bt,iv b.b.r,iv b.b.n,iv b.w.k,iv b.w.c,iv b.w.s,iv b.w.n,iv b.w.v]);Go.binOp .eql 164 (.agg #[iv a.bt,iv a.b.r,iv a.b.n,iv a.w.k,iv a.w.c,iv a.w.s,iv a.w.n,iv a.w.v]) (.agg #[iv b.bt,iv b.b.r,iv b.b.n,iv b.w.k,iv b.w.c,iv b.w.s,iv b.w.n,iv b.w.v]):Sem Value).run prog W=.ok (.bool (decide (a=b))) W:=by
 have d:=XP a.bt a.b.r a.b.n a.w.k a.w.c a.w.s a.w.n a.w.v b.bt b.b.r b.b.n b.w.k b.w.c b.w.s b.w.n b.w.v W;rw[iR]at d
 have e:(Go.eqGuard .eql 164 x y (.agg #[iv a.bt,iv a.b.r,iv a.b.n,iv a.w.k,iv a.w.c,iv a.w.s,iv a.w.n,iv a.w.v]) (.agg #[iv b.bt,iv b.b.r,iv b.b.n,iv b.w.k,iv b.w.c,iv b.w.s,iv b.w.n,iv b.w.v])).run prog W=.ok () W:=by kernel_rfl
 rw[Sem.run_bind,e,Result.andThen_ok];exact d
end
end
section
variable{B sz:Nat}{P:Program}{T:List Tg}{W w w':World}{e:TypeId}{g g':Gh}{l:List Cmd}{vs:List Value}{x:S3}
theorem CQ{ty:TypeId}{c:TypeDesc}{b k:Nat}{v:Value}(g:prog.underlying ty=some c)(d:c.isRow=false)(e:W.cell? ⟨b,k,none⟩=some v):(Instr.loadAt ty (pt b k)).run prog W=.ok v W:=by
 have a:(isAgg ty).run prog W=.ok false W:=by
  unfold isAgg;rw[Sem.run_bind,run_underlying g W];cases c<;>first|rfl|(simp only[TypeDesc.isRow]at d;cases d)
 have f:(loadVar ty ⟨b,k,none⟩).run prog W=.ok v W:=by simp[loadVar,a,e,go_sem]
 simp only[Instr.loadAt,Instr.sureAddr,Sem.run_bind,Sem.run_pure,Result.andThen_ok,f]
theorem Kn.sI{L:List Sh}(h:Kn B g w L)(k b:Nat)(o:Obj)(r i:Nat)(v:Bool)(c:L[k]?=some ⟨b,o,.n r i,v⟩):w.heap[b]?=some o/\g.t b=.n r i/\g.k b=0 :=
 have a:=h.row _ (ml c)
 ⟨a.1,a.2.1,a.2.2.2 (by simp)⟩
structure RdV(w:World)(x:S3)(sz:Nat)(vs:List Value):Prop where
 len:vs.length=x.n*sz
 cap:x.n<=x.c
 rO:x.a=none->x.c=0
 ex:x.n=0\/∃ b off,x.a=some ⟨b,off,none⟩/\b<w.heap.size/\∀ j u,vs[j]?=some u->w.cell? ⟨b,off+j,none⟩=some u
theorem RdC.rv(h:RdC w x l):RdV w x 5 (cmL l) :=
 ⟨by rw[BD,h.len],h.cap,h.rO,h.ex.imp (λe=>by rw[h.len,e];rfl) id⟩
theorem RdV.rc(h:RdV w x 5 (cmL l)):RdC w x l :=
 have a:x.n=l.length:=by have:=h.len;rw[BD]at this;omega
 ⟨a,h.cap,h.rO,h.ex.imp (λe=>Y' (by omega)) id⟩
theorem RdV.af(h:RdV w x sz vs)(b:Bw w w'):RdV w' x sz vs :=
 ⟨h.len,h.cap,h.rO,h.ex.imp id λ⟨k,a,d,c,e⟩=>⟨k,a,d,j' c b.size,λj u f=>(b.cell (p:=⟨k,a+j,none⟩) c).trans (e j u f)⟩⟩
theorem OwnS.rv{τ:Tg}{f:Bool}(h:OwnS g w τ f e sz x vs):RdV w x sz vs:=by
 rcases h.ex with⟨h1,h2,h3⟩|⟨b,cur,h1,h2,h3,h4,h5,h6,h7,h8⟩
 .exact⟨h.len,by omega,λ_=>h3,.inl h2⟩
 .refine⟨h.len,h3,λh=>(by rw[h1]at h;cases h),.inr ⟨b,0,h1,rl h2,λj u d=>?_⟩⟩;obtain⟨i,a,_,c⟩:=h.cell d;rw[h1]at a
  simp only[X',Addr.mk.injEq,and_true]at a;subst a;rw[mJ];exact c
theorem dC{t:TypeId}{x y:Operand}{z:S3}{b:Bool}(f:z.a.isNone=b)(h:P.underlying t=some (.slice e))(g:(Go.eqGuard .eql t x y z.v (.slice none 0 0)).run P W=.ok () W):(do Go.eqGuard .eql t x y z.v (.slice none 0 0);Go.binOp .eql t z.v (.slice none 0 0):Sem Value).run P W=.ok (.bool b) W:=by
 subst f;rw[Sem.run_bind,g,Result.andThen_ok];have d:=run_equal_slice_nil (P:=P) (w:=W) t e z.a z.n z.c h;simp only[S3.v,binOp,Sem.run_bind,d,Result.andThen_ok];rfl
theorem fs(t h e:TypeId)(i:TypeInfo)(g:P.underlying t=some (.slice e))(f:P.info? e=some i)(b:Nat)(a:Addr)(c:Nat):(Builtin.append_ #[t,t] h #[.slice (some ⟨b,0,none⟩) 0 0,.slice (some a) 0 c]).run P W=.ok (.slice (some ⟨b,0,none⟩) 0 0) W:=by
 have d:=run_firstCells_some (P:=P) W i.size 0 a 0 c [] (by simp) (by simp);simp[Builtin.append_,run_underlying g,sizeOf,typeInfo,f,Builtin.lenOf,d,storeCells]
structure FzV(g:Gh)(w:World)(x:S3)(sz:Nat)(vs:List Value):Prop where
 rd:RdV w x sz vs
 z:vs≠[]->Frz g x
theorem FzV.ch(h:FzV g w x sz vs)(c:Cg B T g w g' w')(v:Tg.z∉T:=by simp):FzV g' w' x sz vs:=by
 obtain⟨⟨k,q,r,i⟩,s⟩:=h;by_cases p:vs=[]
 .subst p;exact⟨⟨k,q,r,i.imp id λ⟨b,d,e,f,_⟩=>⟨b,d,e,j' f c.size,λj u o=>(by cases o)⟩⟩,λh=>absurd rfl h⟩
 .rcases i with i|⟨b,d,e,f,e3⟩
  .exact absurd (Y' (by rw[k,i,p9])) p
  .have hb:g.t b=.z:=s p _ e;refine⟨⟨k,q,r,.inr ⟨b,d,e,j' f c.size,λj u o=>?_⟩⟩,λ_ a m=>?_⟩
   .rw[World.cell?_of_block (w:=w) (c.zc v f hb)];exact e3 j u o
   .rw[e]at m;simp only[X']at m;subst m
    rw[c.tag f (by rw[hb];intro h;cases h)];exact hb
structure Fa where
 ro:Option Nat
 p:Gh->World->Prop
 st:∀ {B:Nat} {T:List Tg} {g g':Gh} {w w':World},Tg.z∉T->(∀ r,ro=some r->Tg.n 60 r∉T)->Cg B T g w g' w'->p g w->p g' w'
@[reducible] def AllF (g:Gh) (w:World):List Fa->Prop
 | []=>True
 | f::l=>f.p g w/\AllF g w l
variable{Φ:List Fa}
theorem AllF.ch(h:AllF g w Φ)(c:Cg B T g w g' w')(d:Tg.z∉T:=by simp)(a:∀ f∈Φ,∀ r,f.ro=some r->Tg.n 60 r∉T):AllF g' w' Φ:=by
 induction Φ with
 | nil=>trivial
 | cons f l ih=>exact⟨f.st d (a f M') c h.1,ih h.2 λf b=>a f (I' _ b)⟩
theorem AllF.qy(h:AllF g w Φ)(c:Cg B [] g w g' w'):AllF g' w' Φ:=h.ch c P' λ_ _ _ _=>P'
def Fa.zv(x:S3)(sz:Nat)(vs:List Value):Fa:=⟨none,λg w=>FzV g w x sz vs,λhz _ c h=>h.ch c hz⟩
def Fa.sl(x:S3)(l:List Int):Fa:=⟨none,λg w=>FSl g w x l,λhz _ c h=>h.ch c hz⟩
def Fa.ow(r:Nat)(e:TypeId)(sz:Nat)(x:S3)(vs:List Value):Fa:=⟨some r,λg w=>OwnS g w (.n 60 r) true e sz x vs,λ_ hr c h=>h.ch c (hr r rfl) (by simp)⟩
def TQ:List Tg:=[.n 60 0,.n 60 1,.n 60 2,.n 60 3]
theorem kW:Tg.z∉TQ:=by simp[TQ]
end
section
variable{P:Program}{fn:Func}{R:Ending->World->Prop}{w0:World}{Φ:List Fa}{g:Gh}{w:World}
section
structure GT(P:Program)(fn:Func)(R:Ending->World->Prop)(w0:World)(Φ:List Fa)(s:Xs)(g:Gh)(w:World):Prop where
 ex:AllF g w Φ->Cg w0.heap.size TQ gS w0 g w->GG P fn R w0.heap.size TQ s g w
theorem CgQ.af(c:Cg w0.heap.size TQ gS w0 g w):Bw w0 w:=Cg.af c λ_ _=>kW
variable{J:Act->World->Prop}{f:FuncId}{n:Nat}{s:Xs}
theorem tIn{a:Array Value}(Φ:List Fa)(e:P.funcs[f]?=some fn)(b:AllF gS w0 Φ)(h:GT P fn R w0 Φ ⟨[.c (Pv fn)],⟨fn.ntmps,Ov 0 a.toList,λ_=>undef⟩,[]⟩ gS w0)(d:fn.body.isSome=true:=by kernel_rfl)(g:Nat.ble a.size fn.ntmps=true:=by kernel_rfl):Calls P f a w0 R :=
 gIn TQ gS e d g (λ_ _=>⟨rfl,rfl⟩) (h.ex b (Cg.refl _ _ _ _))
theorem tX(h:AllF g w Φ->Cg w0.heap.size TQ gS w0 g w->GG P fn R w0.heap.size TQ s g w):GT P fn R w0 Φ s g w:=⟨h⟩
theorem tF(h:AllF g w Φ->Cg w0.heap.size TQ gS w0 g w->GT P fn R w0 Φ s g w):GT P fn R w0 Φ s g w:=⟨λF C=>(h F C).ex F C⟩
theorem tCv(Ψ:List Fa)(a:AllF g w Φ->AllF g w Ψ)(h:GT P fn R w0 Ψ s g w):GT P fn R w0 Φ s g w:=⟨λF C=>h.ex (a F) C⟩
theorem tR(m:Nat)(h:List Nat)(b:∀ gs g' w',GT P fn R w0 Φ (rn0 P [] gs m s h).s g' w')(a:∀ gs,(rn0 P [] gs m s h).o.map Ob.l'=(rn0 P [] gs m s h).o.map Ob.r':=by intro _;kernel_rfl):GT P fn R w0 Φ s g w :=
 ⟨λF C=>bW [] m h a λgs g' w' c=>(b gs g' w').ex (F.qy c) (C.n c)⟩
theorem tV(i:Nat)(v:Value){S:Sem Value}(c:AllF g w Φ->Cg w0.heap.size TQ gS w0 g w->S.run P w=.ok v w)(b:GT P fn R w0 Φ (nxt s i v s.L).s g w)(d:D2 s i=some (S>>=λv=>pure (.value v)):=by kernel_rfl)(a:(nxt s i undef s.L).o.map Ob.l'=(nxt s i undef s.L).o.map Ob.r':=by kernel_rfl):GT P fn R w0 Φ s g w:=⟨λF C=>qV i v (c F C) (b.ex F C) d a⟩
theorem tT(i:Nat)(v:Value){S:Sem Value}(c:∀ W,S.run P W=.ok v W)(b:GT P fn R w0 Φ (tkN s i v false).s g w)(d:D2 s i=some (S>>=λv=>pure (.value v)):=by kernel_rfl)(a:(tkN s i undef false).o.map Ob.l'=(tkN s i undef false).o.map Ob.r':=by kernel_rfl):GT P fn R w0 Φ s g w:=⟨λF C=>qT i v c (b.ex F C) d a⟩
theorem tI(b t:Bool)(a:b=t)(h:GT P fn R w0 Φ (Le s t) g w)(c:PA s=.bool b:=by kernel_rfl):GT P fn R w0 Φ s g w:=⟨λF C=>qI b t a (h.ex F C) c⟩
theorem tC(i:Nat){f:FuncId}{c:Array Value}{K:Ending->World->Prop}(k:AllF g w Φ->Cg w0.heap.size TQ gS w0 g w->Calls P f c w K)(m:(∀ b,w.heap.size<=b->g.t b=.z)->∀ e w',K e w'->∃ v Ψ,e=.returned v/\Bw w w'/\(AllF g w' Φ->AllF g w' Ψ)/\GT P fn R w0 Ψ (nxt s i v s.L).s g w')(n:∀ W,CV P s i W=some (.ok (.enter f c) W):=by intro _;kernel_rfl)(l:Kl s i=true:=by kernel_rfl)(a:(nxt s i undef s.L).o.map Ob.l'=(nxt s i undef s.L).o.map Ob.r':=by kernel_rfl):GT P fn R w0 Φ s g w :=
 ⟨λF C=>Af λd=>qC i (k F C) (λe w' h=>let ⟨v,Ψ,h1,h2,h3,h4⟩:=m (λb j=>(d.new b j).1) e w' h;⟨v,h1,h2,h4.ex (h3 (F.qy (Cg.dT (B:=w0.heap.size) h2))) (C.trans (Cg.dT h2))⟩) n l a⟩
theorem tC1(i:Nat){f:FuncId}{b:Array Value}{v:Value}(c:AllF g w Φ->Cg w0.heap.size TQ gS w0 g w->Calls P f b w λe w'=>e=.returned v/\Bw w w')(j:∀ w',GT P fn R w0 Φ (nxt s i v s.L).s g w')(k:∀ W,CV P s i W=some (.ok (.enter f b) W):=by intro _;kernel_rfl)(d:Kl s i=true:=by kernel_rfl)(a:(nxt s i undef s.L).o.map Ob.l'=(nxt s i undef s.L).o.map Ob.r':=by kernel_rfl):GT P fn R w0 Φ s g w:=tC i c (λ_ e w' h=>⟨v,Φ,h.1,h.2,id,j w'⟩) k d a
theorem tE(v:Value)(h:AllF g w Φ->Bw w0 w->R (.returned v) w)(a:Kn w0.heap.size g w s.L->(results fn s.f.act.tmps).run P w=.ok v w:=by intro _;kernel_rfl)(b:MG s.K=true:=by kernel_rfl):GT P fn R w0 Φ s g w:=⟨λF C=>qE v (λ_=>h F (CgQ.af C)) a b⟩
def JT(P:Program)(w0:World)(n:Nat)(Inv:Nat->List (Nat × Value)->List Sh->List Fa->Prop)(k:Nat)(J:Act->World->Prop):Prop:=∀ k' e' L' Φ' g' w' z',k'<k->Inv k' e' L' Φ'->AllF g' w' Φ'->Cg w0.heap.size TQ gS w0 g' w'->Kn w0.heap.size g' w' L'->J (⟨n,e',z'⟩:Fm).act w'
theorem EY(n:Nat)(c:List (Nat × Value))(m:List Bool)(o:List Sh)(b:List Fa)(a:Nat->List (Nat × Value)->List Sh->List Fa->Prop)(x:Nat)(E:a x c o b)(t:AllF g w Φ->AllF g w b)(round:∀ k e L Φ,a k e L Φ->∀ z g w J,JT P w0 n a k J->GT P fn R w0 Φ (dI s n J e z L) g w)(O:Sf s.K=true:=by kernel_rfl)(Q:s.f.n=n:=by kernel_rfl)(M:c.map (λp=>lk s.f.z s.f.e p.1)=c.map (·.2):=by kernel_rfl)(I:BH (AE m s.L)=o:=by kernel_rfl):GT P fn R w0 Φ s g w :=
 ⟨λF C=>BV n c m o (λk d h e L=>∃ Ψ,a k e L Ψ/\AllF d h Ψ/\Cg w0.heap.size TQ gS w0 d h) O Q M I x (λ_=>⟨b,E,t F,C⟩) λk d h e z L ⟨Ψ,G,A,y⟩ J H=>(round k e L Ψ G z d h J λS D B v q u T N r j i K=>H S q u D T B N ⟨v,r,j,i⟩ K).ex A y⟩
theorem tB{k:Nat}{b:Nat->List (Nat × Value)->List Sh->List Fa->Prop}(i:JT P w0 n b k J)(d:Nat)(t:d<k){e:List (Nat × Value)}(m:List Bool){L':List Sh}{a:List Fa}(h:b d e L' a)(c:AllF g w Φ->AllF g w a)(q:isJ s.K=true:=by kernel_rfl)(r:jK s.K=J:=by kernel_rfl)(u:s.f.n=n:=by kernel_rfl)(o:e.map (λp=>lk s.f.z s.f.e p.1)=e.map (·.2):=by kernel_rfl)(j:BH (AE m s.L)=L':=by kernel_rfl):GT P fn R w0 Φ s g w :=
 ⟨λF C=>qB m (λz _ K=>i d e L' a g w z t h (c F) C K) q r u o j⟩
def JC(P:Program)(w0:World)(n:Nat)(Inv:List (Nat × Value)->List Sh->List Fa->Prop)(J:Act->World->Prop):Prop:=∀ e' L' Φ' g' w' z',Inv e' L' Φ'->AllF g' w' Φ'->Cg w0.heap.size TQ gS w0 g' w'->Kn w0.heap.size g' w' L'->J (⟨n,e',z'⟩:Fm).act w'
theorem Jy(n:Nat)(a:List (Nat × Value)->List Sh->List Fa->Prop)(m:∀ J,JC P w0 n a J->GT P fn R w0 Φ (X6 s J) g w)(o:∀ e L Φ,a e L Φ->∀ z g w,GT P fn R w0 Φ ⟨s.K.tail,⟨n,e,z⟩,L⟩ g w)(q:s.K.isEmpty=false:=by kernel_rfl):GT P fn R w0 Φ s g w :=
 ⟨λF C=>DL n (λb c e L=>∃ Ψ,a e L Ψ/\AllF b c Ψ/\Cg w0.heap.size TQ gS w0 b c) q (λJ p=>(m J λk j i b c r h f d K=>p b c k r j ⟨i,h,f,d⟩ K).ex F C) λb c e z L ⟨Ψ,h,f,d⟩=>(o e L Ψ h z b c).ex f d⟩
theorem tD{b:List (Nat × Value)->List Sh->List Fa->Prop}(i:JC P w0 n b J){e:List (Nat × Value)}(m:List Bool){c:List Sh}{a:List Fa}(h:b e c a)(d:AllF g w Φ->AllF g w a)(o:isJ s.K=true:=by kernel_rfl)(q:jK s.K=J:=by kernel_rfl)(r:s.f.n=n:=by kernel_rfl)(k:e.map (λp=>lk s.f.z s.f.e p.1)=e.map (·.2):=by kernel_rfl)(j:BH (AE m s.L)=c:=by kernel_rfl):GT P fn R w0 Φ s g w :=
 ⟨λF C=>qB m (λz _ K=>i e c a g w z h (d F) C K) o q r k j⟩
theorem ID(i j:Nat)(a:GT P fn R w0 Φ (J9 s i) g w)(b:GT P fn R w0 Φ (J9 s j) g w)(c:el s i j=true:=by kernel_rfl):GT P fn R w0 Φ s g w:=⟨λF C=>DG i j c (a.ex F C) (b.ex F C)⟩
theorem Tp(i:Nat)(r:Nat){x:S3}{xs:List Value}(t O e:TypeId)(p b:Nat)(z:Value)(a:Addr)(m c:Nat)(news:List Value)(hx:AllF g w Φ->OwnS g w (.n 60 r) true e p x xs)(Ψ:List Fa)(M:AllF g w Φ->AllF g w Ψ)(I:Ψ.all (λf=>f.ro != some r)=true)(H:Tg.n 60 r∈TQ)(X:news.length=m*p)(Q:∀ u∈news,u.oneCell'=true)(k:AllF g w Φ->Kn w0.heap.size g w s.L->∀ j u,news[j]?=some u->w.cell? (a.add j)=some u)(D:x.n+m<=maxLen)(d:(x.n+m)*b<=140737488355328)(W:∀ x' g' w',x'.n=x.n+m->GT P fn R w0 (Fa.ow r e p x' (xs++news)::Ψ) (nxt s i (S3.v x') s.L).s g' w')(E:0<m:=by decide)(J:0<p:=by decide)(ht:P.underlying t=some (.slice e):=by kernel_rfl)(h:(P.info? e).map (λi=>(i.zero,i.size,i.bytes))=some (some z,p,b):=by kernel_rfl)(K:Nat.beq z.cells.size p=true:=by kernel_rfl)(A:D2 s i=some (Builtin.append_ #[t,t] O #[x.v,.slice (some a) m c]>>=λv=>pure (.value v)):=by kernel_rfl)(G:(nxt s i undef s.L).o.map Ob.l'=(nxt s i undef s.L).o.map Ob.r':=by kernel_rfl)(U:s.L.all (λy=>[Tg.n 60 r].all λt=>y.t.ne t)=true:=by kernel_rfl):GT P fn R w0 Φ s g w:=by
 refine⟨λF C=>Km i t O e p b z a m c news (hx F) A G U ht h K J E X Q (k F) D d λx' g' w' T Y N hG=>?_⟩;refine(W x' g' w' Y).ex ⟨T,(M F).ch (N w0.heap.size [.n 60 r] (D'.2 rfl)) (by simp) λf V q Z E=>?_⟩ (C.trans (N _ _ H));have B:=nm.1 I f V;rw[Z]at B
 have S:q=r:=by simpa using E
 rw[S]at B
 simp at B
end
end
end
section
section
structure Plc(l:List Vt)(s:Int)(p:Nat):Prop where
 le:p<=l.length
 lo:∀ (i:Nat) (v:Vt),i<p->l[i]?=some v->v.bt<s
 hi:∀ (i:Nat) (v:Vt),p<=i->l[i]?=some v->s<=v.bt
theorem NC(a b:List Vt)(v:Vt)(h:∀ u∈a,u.bt<v.bt):Bi (a++b) v=a++Bi b v:=by
 induction a with
 | nil=>rfl
 | cons x a ih =>
  show Bi (x::(a++b)) v=x::(a++Bi b v);rw[Bi,if_pos (h x M'),ih (λu c=>h u (I' _ c))]
variable{l:List Vt}{m p:Nat}{s:Int}{u v x:Vt}
theorem Plc.front(h:Plc l s p):∀ u∈l.take p,u.bt<s:=by
 intro u b;obtain⟨i,a⟩:=na.1 b;rw[mY]at a
 split at a
 .rename_i hip;exact h.lo i u hip a
 .cases a
theorem Plc.has(h:Plc l v.bt p)(f:l[p]?=some u)(c:u.bt=v.bt):Bi l v=l.take p++(v::l.drop (p+1)):=by
 obtain⟨d,e⟩:=V'.1 f;have b:l.drop p=u::l.drop (p+1):=by rw[<- e];exact mT d
 have a:=NC (l.take p) (l.drop p) v h.front;rw[m9]at a
 rw[a,b,Bi,if_neg (by omega),if_pos c]
theorem Plc.no(h:Plc l v.bt p)(c:∀ u,l[p]?=some u->u.bt≠v.bt):Bi l v=l.take p++(v::l.drop p):=by
 have a:=NC (l.take p) (l.drop p) v h.front;rw[m9]at a
 rw[a];rcases mN p l.length with hp|hp
 .have hd:l.drop p=l[p]::l.drop (p+1):=mT hp;have d:=h.hi p l[p] (A' _) (G' hp);have b:=c l[p] (G' hp);rw[hd,Bi,if_neg (by omega),if_neg b]
 .rw[mU hp,Bi]
theorem Plc.rA(d:BG l)(e:l[p]?=some u)(c:u.bt=s):Ae l s=[u]:=by
 have b:=Jn d s;have a:u∈Ae l s:=AH.2 ⟨na.2 ⟨p,e⟩,c⟩
 match hl:Ae l s with
 | []=>rw[hl]at a;cases a
 | [x]=>rw[hl]at a;rw[D'.1 a]
 | x::y::r=>rw[hl]at b;simp at b
theorem Plc.ri(b:BG l)(h:Plc l s p)(f:∀ u,l[p]?=some u->u.bt≠s):Ae l s=[]:=by
 rw[oc];intro u a;obtain⟨a,e⟩:=AH.1 a;obtain⟨i,c⟩:=na.1 a;rcases o8 i p with hip|rfl|hip
 .have:=h.lo i u hip c;omega
 .exact f u c e
 .have hip':i<l.length:=(V'.1 c).1;have d:p<l.length:=by omega
  have g:=h.hi p l[p] (A' _) (G' d);have k:=rise_lt b hip (G' d) c;omega
where
 rise_lt:∀ {l:List Vt} (b:BG l) {i j:Nat} (hij:i<j) {u v:Vt} (a:l[i]?=some u) (hv:l[j]?=some v),u.bt<v.bt
  | x::xs,b,0,j+1,_,u,v,a,hv=>by
   simp at a hv;subst a;exact b.1 v (na.2 ⟨j,hv⟩)
  | x::xs,b,i+1,j+1,hij,u,v,a,hv=>rise_lt (l:=xs) b.2 (i:=i) (j:=j) (by omega) (by simpa using a) (by simpa using hv)
  | [],_,i,j,_,u,v,a,hv=>by simp at a
theorem BG.get(b:BG l){i j:Nat}(a:i<j){u v:Vt}(c:l[i]?=some u)(d:l[j]?=some v):u.bt<v.bt:=Plc.ri.rise_lt b a c d
theorem Plc.half(b:BG l){s:Int}{i j h:Nat}{u:Vt}(a:l[h]?=some u)(d:∀ (k:Nat) (v:Vt),k<i->l[k]?=some v->v.bt<s)(c:∀ (k:Nat) (v:Vt),j<=k->l[k]?=some v->s<=v.bt) :
  (u.bt<s->∀ (k:Nat) (v:Vt),k<h+1->l[k]?=some v->v.bt<s)/\(s<=u.bt->∀ (k:Nat) (v:Vt),h<=k->l[k]?=some v->s<=v.bt):=by
 constructor
 .intro g k v hk hv;rcases mN k h with hkh|hkh
  .have:=b.get hkh hv a;omega
  .obtain rfl:k=h:=by omega
   rw[a]at hv;cases hv;exact g
 .intro g k v hk hv;rcases mN h k with hkh|hkh
  .have:=b.get hkh a hv;omega
  .obtain rfl:k=h:=by omega
   rw[a]at hv;cases hv;exact g
def Qk(o:Option Vt)(v:Vt):Option Vt:=match o with
 | none=>some v
 | some u=>if u.b.lt v.b then some v else some u
theorem Ru(l:List Vt)(v:Vt)(o:Option Vt):BM (l++[v]) o=Qk (BM l o) v:=by
 induction l generalizing o with
 | nil =>
  cases o with
  | none=>rfl
  | some u =>
   show BM [v] (some u)=Qk (some u) v;rw[BM,Qk];split<;>rfl
 | cons x l ih =>
  cases o with
  | none=>exact ih _
  | some u =>
   show BM (x::(l++[v])) (some u)=Qk (BM (x::l) (some u)) v;rw[BM,BM];split
   .exact ih _
   .exact ih _
def vt0:Vt:=⟨0,⟨0,0⟩,⟨0,0,0,0,0⟩⟩
def EG(o:Option Vt)(x:Vt):Prop:=(o=none/\x=vt0)\/(o=some x/\Ab x.b)
theorem EG.next{o:Option Vt}(h:EG o x)(a:Ab v.b):EG (Qk o v) (if x.b.lt v.b then v else x):=by
 rcases h with⟨rfl,rfl⟩|⟨rfl,hx⟩
 .rw[if_pos (by unfold Ab at a;unfold Bal.lt;simp[vt0];omega)];exact .inr ⟨rfl,a⟩
 .show EG (if x.b.lt v.b then some v else some x) _;split
  .exact .inr ⟨rfl,a⟩
  .exact .inr ⟨rfl,hx⟩
theorem EG.pick{a:List (List Vt)}(d:0<=s/\s<=39)(c:∀ l∈a,∀ v∈l,Ah v)(h:EG (DP a s) x):(if BR a s=0 then((DP a s).map (·.w)).getD ⟨0,0,0,0,0⟩else⟨0,0,0,0,0⟩)=x.w/\(if BR a s=0 then(DP a s).isSome else false)=!decide (x.b.r=0/\x.b.n=0)/\BR a s=0:=by
 have e:BR a s=0:=by unfold BR;rw[if_neg (λg=>g d),if_pos c]
 rw[if_pos e,if_pos e];rcases h with⟨h1,rfl⟩|⟨h1,h2⟩
 .rw[h1];exact⟨rfl,rfl,e⟩
 .rw[h1];refine⟨rfl,?_,e⟩;rw[E' (by unfold Ab at h2;omega)];rfl
theorem YQ(l:List Vt){u v:Vt}(h:u≠v):BE l u+BE l v<=l.length:=by
 induction l with
 | nil=>simp[BE]
 | cons x l ih =>
  unfold BE at ih ⊢;rw[pq,pq,mH];by_cases a:x=u
  .subst a;rw[if_pos (by simp),if_neg (by simp[h])];omega
  .by_cases hy:x=v
   .subst hy;rw[if_neg (by simp[a]),if_pos (by simp)];omega
   .rw[if_neg (by simp[a]),if_neg (by simp[hy])];omega
theorem YO(h:0<BE l v):v∈l:=by
 unfold BE at h;obtain⟨u,a,e⟩:=pC.1 h;rw[<- my e];exact a
theorem db(a b:List Vt)(v:Vt):BE a v<=BE (a++b) v:=by
 unfold BE;rw[nP];omega
theorem R1(b:l.length<=m)(h:m<2*BE l v):GQ l m=some v:=by
 cases hf:GQ l m with
 | none =>
  have:=nk.1 hf v (YO (by omega));simp at this;omega
 | some u =>
  have a:=qb hf;simp at a;by_cases e:u=v
  .rw[e]
  .have:=YQ l e;omega
theorem Xr(h:∀ v,2*BE l v<=m):GQ l m=none:=by
 unfold GQ;rw[nk];intro v _;have:=h v;simp;omega
end
end
section
open Go.RowKit
section
variable{B cap e n p sz:Nat}{P:Program}{a:Option Addr}{b:Bal}{l:List Vt}{r:Bool}{s:Int}{v:Vt}{w:World}{x:S3}{xs:List Value}{y:Value}
theorem NTab.te(h:NTab w):w.cell? ⟨0,1*3+2,none⟩=some (.int .i64 1073741824):=h.cell 5 (by omega)
theorem NTab.value(h:NTab w)(k:Nat)(a:1<=k)(b:k<=3):w.cell? ⟨0,k*3+2,none⟩=some (.int .i64 (if k=1 then 1073741824 else 0)):=by
 rcases(by omega:k=1\/k=2\/k=3)with rfl|rfl|rfl
 .exact h.cell 5 (by omega)
 .exact h.cell 8 (by omega)
 .exact h.cell 11 (by omega)
theorem Em(k c s n v:Int)(w:World)(G:NTab w) :
  Calls prog 21 #[.agg (cmA k c s n v)] w λe w'=>e=.returned (.int .i64 (Bb k c s n v))/\Bw w w':=by
 have b:Bw w (w.alloc (.cells (cmA k c s n v) 30)):=(Below.refl _ _).alloc (A' _) _;have h:=Bc.made w k c s n v;have t:=G.af b;have F:=G9 k c s n v;generalize E:w.alloc (.cells (cmA k c s n v) 30)=W at b h t;have u:w.alloc (.cells #[.int .i64 k,.int .i64 c,.int .i64 s,.int .i64 n,.int .i64 v] 30)=W:=E;obtain⟨x,y,z,A,B⟩:=EL h.row;clear G;go_enter func21,ntmps21
 go_wp2_with fail
 clear E u;refine(Se k _).mono ?_;rintro e K ⟨rfl,rfl⟩;by_cases o:0<=k/\k<=3
 .rw[O' o];by_cases C:k=0
  .subst C;go_wp2_with (refine wpList_load_row rfl 30 _ rfl w.heap.size rfl 30 _ (0,0) _ h.row underlying30 rfl F ?_)
   refine(YN c s n v _).mono ?_;rintro e f ⟨rfl,g⟩;have j:Bw w f:=b.trans (g.mono b.size);go_wp2
   go_ret;exact⟨rfl,j⟩
  .obtain⟨m,rfl⟩:=mG o.1;have r:1<=(m:Int)/\(m:Int)<=3:=by omega
   go_wp2_with (refine wpList_load_row rfl 30 _ rfl w.heap.size rfl 30 _ (0,0) _ h.row underlying30 rfl F ?_)
   refine(O9 (m:Int) c s n v _ r t).mono ?_;rintro e f ⟨rfl,g⟩;have j:Bw w f:=b.trans (g.mono b.size);have i:=h.af g;have q:=t.af g;clear x y z A B h t g b;by_cases a:InC c s n v
   .rw[O' a];obtain⟨x,y,z,A,B⟩:=EL i.row;have D:=q.value m (by omega) (by omega);have H:(0:Int)<=(m:Int):=by omega
    have I:(m:Int)<4:=by omega
    have J:m<4:=by omega
    clear i q o C;by_cases p:v<=(if m=1 then 1073741824 else 0)
    .have d:Hid (0=Bb (m:Int) c s n v):=by
      refine(TE r a ?_).symm;unfold InC at a;split at p<;>omega
     clear a r;generalize (if m=1 then(1073741824:Int)else 0)=V at D p;go_wp2_with fail
     go_quiet (fail)
     have l:Bw w (f.drewN nq):=Ap j nq;generalize f.drewN nq=w3 at l ⊢;go_wp2
     go_ret;exact⟨CL d.out,l⟩
    .have d:Hid (3=Bb (m:Int) c s n v):=by
      unfold InC at a;refine(Vi ⟨?_,by omega⟩ (by unfold InC;omega) ?_).symm
      .split at p<;>omega
      .split at p<;>omega
     clear a r;generalize (if m=1 then(1073741824:Int)else 0)=V at D p;go_wp2_with fail
     go_quiet (fail)
     have l:Bw w (f.drewN nq):=Ap j nq;generalize f.drewN nq=w3 at l ⊢;go_wp2
     go_ret;exact⟨CL d.out,l⟩
   .rw[E' a];have d:Hid (2=Bb (m:Int) c s n v):=(R7 r a).symm;clear a;go_wp2
    go_ret;exact⟨CL d.out,j⟩
 .rw[E' o];have d:Hid (4=Bb k c s n v):=(Vj o).symm;go_wp2
  go_ret;exact⟨CL d.out,b⟩
def KL(l:List Vt)(n:Int):Prop:=0<=n/\n<=40/\∀ s:Int,0<=s->(n<=s↔∀ u∈l,u.bt<s)
theorem KL.nil:KL [] 0:=⟨by omega,by omega,λs a=>⟨λ_ u b=>(P' b).elim,λ_=>a⟩⟩
theorem KL.snoc{n:Int}(h:KL l n){v:Vt}(b:0<=v.bt)(c:v.bt<=39)(d:n<=v.bt):KL (l++[v]) (v.bt+1):=by
 refine⟨by omega,by omega,λs a=>⟨λg u hu=>?_,λg=>?_⟩⟩
 .rcases U'.1 hu with hu|hu
  .exact(h.2.2 s a).1 (by omega) u hu
  .obtain rfl:u=v:=by simpa using hu
   omega
 .have:=g v (by simp);omega
theorem jH{p:Bal}(h:p≠AY):(!decide (Ab p))=!decide (Ao p):=by
 have:Ab p↔Ao p:=⟨.inl,λg=>g.resolve_right λe=>h ((Bal.eq_iff p AY).1 e)⟩;simp[this]
theorem jb{P Q:Prop}[Decidable P][Decidable Q](h:Q↔¬ P):decide P=!decide Q:=by by_cases g:P<;>simp[h,g]
theorem Wj(h:BG l)(k:Nat):BG (l.take k):=by
 induction k with
 | zero=>exact trivial
 | succ k ih =>
  cases hh:l[k]? with
  | none=>rw[mc (by have:=List.getElem?_eq_none_iff.1 hh;omega)];exact h
  | some v =>
   rw[FC l k v hh,NY];refine⟨ih,λu b=>?_⟩;obtain⟨i,a⟩:=na.1 b;rw[mY]at a
   split at a
   .rename_i hk;exact h.get hk a hh
   .cases a
theorem Ec(b:decide (0<=s/\s<=39)=r) :
  Calls prog 175 #[iv s] w λe w'=>e=.returned (.bool r)/\Bw w w':=by
 subst b;refine tIn [] func175 trivial (tR 7 [] λc _ _=>?_);by_cases a:0<=s
 .refine tV 1 (.bool true) (λF C=>(rGe (t:=3) (m:=s) (n:=0) (x:=(.tmp 3)) (y:=(.const (iv 0))) (O' a))) (tR 6 [] λd _ _=>tE (.bool (decide (s<40))) λ_ B=>⟨by rw[mW.2 (show s<40↔0<=s/\s<=39 by omega)],B⟩)
 .refine tV 1 (.bool false) (λF C=>(rGe (t:=3) (m:=s) (n:=0) (x:=(.tmp 3)) (y:=(.const (iv 0))) (E' a))) (tR 6 [] λf _ _=>tE (.bool false) λ_ B=>⟨by rw[E' (show ¬ (0<=s/\s<=39)by omega)],B⟩)
theorem Iu(f:decide (Ab b)=r) :
  Calls prog 155 #[.agg #[iv b.r,iv b.n]] w λe w'=>e=.returned (.bool r)/\Bw w w':=by
 subst f;refine tIn [] func155 trivial (tR 9 [0,0,0] λg _ _=>?_);by_cases a:1<=b.r
 .refine tV 2 (.bool true) (λF C=>(rGe (t:=3) (m:=b.r) (n:=1) (x:=(.tmp 4)) (y:=(.const (iv 1))) (O' a))) (tR 3 [0] λh _ _=>?_);by_cases c:b.r<=65536
  .refine tV 6 (.bool true) (λF C=>(rLe (t:=3) (m:=b.r) (n:=65536) (x:=(.tmp 8)) (y:=(.const (iv 65536))) (O' c))) (tR 4 [0] λi _ _=>?_);by_cases d:0<=b.n
   .refine tV 11 (.bool true) (λF C=>(rGe (t:=3) (m:=b.n) (n:=0) (x:=(.tmp 13)) (y:=(.const (iv 0))) (O' d))) (tR 8 [0] λj _ _=>tE (.bool (decide (b.n<5))) λ_ B=>⟨by rw[mW.2 (show b.n<5↔Ab b by unfold Ab;omega)],B⟩)
   .refine tV 11 (.bool false) (λF C=>(rGe (t:=3) (m:=b.n) (n:=0) (x:=(.tmp 13)) (y:=(.const (iv 0))) (E' d))) (tR 8 [] λk _ _=>tE (.bool false) λ_ B=>⟨by rw[E' (show ¬ Ab b by unfold Ab;omega)],B⟩)
  .refine tV 6 (.bool false) (λF C=>(rLe (t:=3) (m:=b.r) (n:=65536) (x:=(.tmp 8)) (y:=(.const (iv 65536))) (E' c))) (tR 13 [] λl _ _=>tE (.bool false) λ_ B=>⟨by rw[E' (show ¬ Ab b by unfold Ab;omega)],B⟩)
 .refine tV 2 (.bool false) (λF C=>(rGe (t:=3) (m:=b.r) (n:=1) (x:=(.tmp 4)) (y:=(.const (iv 1))) (E' a))) (tR 17 [] λo _ _=>tE (.bool false) λ_ B=>⟨by rw[E' (show ¬ Ab b by unfold Ab;omega)],B⟩)
theorem Ei{a:Bal}(d:decide (a.lt b)=r) :
  Calls prog 156 #[.agg #[iv a.r,iv a.n],.agg #[iv b.r,iv b.n]] w λe w'=>e=.returned (.bool r)/\Bw w w':=by
 subst d;refine tIn [] func156 trivial (tR 15 [0,0,0,0,0,1] λf _ _=>?_);by_cases c:a.r≠b.r
 .refine tI ((a.r != b.r)) true (by simpa using c) (tR 9 [0,1] λg _ _=>tE (.bool (decide (a.r<b.r))) λ_ B=>⟨by rw[mW.2 (show a.r<b.r↔a.lt b by unfold Bal.lt;omega)],B⟩)
 .refine tI ((a.r != b.r)) false (by simpa using c) (tR 10 [0,1] λh _ _=>tE (.bool (decide (a.n<b.n))) λ_ B=>⟨by rw[mW.2 (show a.n<b.n↔a.lt b by unfold Bal.lt;omega)],B⟩)
theorem GF(i:NTab w){r:Bool}(h:decide (Ah v)=r) :
  Calls prog 161 #[.agg #[iv v.bt,iv v.b.r,iv v.b.n,iv v.w.k,iv v.w.c,iv v.w.s,iv v.w.n,iv v.w.v]] w λe w'=>e=.returned (.bool r)/\Bw w w':=by
 subst h;refine tIn [] func161 trivial (tR 9 [0,0,0] λj _ _=>?_);by_cases a:0<=v.bt/\v.bt<=39
 .refine tC1 2 (λF C=>Ec (r:=true) (O' a)) λ_=>tR 3 [0] λl _ _=>?_;by_cases d:Ab v.b
  .refine tC1 6 (λF C=>Iu (b:=v.b) (r:=true) (O' d)) λ_=>tR 4 [0] λm _ _=>tC1 11 (λF C=>Em v.w.k v.w.c v.w.s v.w.n v.w.v _ (i.af (CgQ.af C))) λ_=>tR 4 [] λo _ _=>tE (.bool (Bb v.w.k v.w.c v.w.s v.w.n v.w.v==0)) λ_ B=>⟨by rw[show(Bb v.w.k v.w.c v.w.s v.w.n v.w.v==0)=decide (Ah v)from by rw[show(Bb v.w.k v.w.c v.w.s v.w.n v.w.v==0)=decide (v.w.e=0)from rfl];exact mW.2 ⟨λg=>⟨a,d,g⟩,λg=>g.2.2⟩],B⟩
  .refine tC1 6 (λF C=>Iu (b:=v.b) (r:=false) (E' d)) λ_=>tR 9 [] λp _ _=>tE (.bool false) λ_ B=>⟨by rw[E' (show ¬ Ah v from λg=>d g.2.1)],B⟩
 .refine tC1 2 (λF C=>Ec (r:=false) (E' a)) λ_=>tR 13 [] λf _ _=>tE (.bool false) λ_ B=>⟨by rw[E' (show ¬ Ah v from λg=>a g.1)],B⟩
theorem H9{p:Bal}{u:Vt}:Ag ⟨p,l++[u]⟩↔Ag ⟨p,l⟩/\(Ah u/\¬ p.lt u.b)/\∀ x∈l,x.bt<u.bt:=by
 unfold Ag;simp only[NY,U',D'];exact⟨λh=>⟨⟨h.1,λv a=>h.2.1 v (.inl a),h.2.2.1⟩,h.2.1 u (.inr rfl),h.2.2.2⟩,λh=>⟨h.1.1,λv a=>a.elim (h.1.2.1 v) λe=>by rw[e];exact h.2.1,h.1.2.2,h.2.2⟩⟩
theorem WW{p:Bal}(h:Ag ⟨p,l⟩)(k:Nat):Ag ⟨p,l.take k⟩:=⟨h.1,λv a=>h.2.1 v (mh a),(Wj h.2.2 k)⟩
theorem Sv.op(h:Sv w x.v l):x.n=l.length/\(l=[]\/∃ b off,x.a=some ⟨b,off,none⟩/\∀ i v,l[i]?=some v->w.rangeAt b (off+8*i) (vtC v)):=by
 obtain⟨j,m,k⟩:=x;obtain⟨⟨a,c,e,_,_,d⟩,_⟩:=h;simp only[S3.v,Value.slice.injEq]at e;obtain⟨rfl,rfl,rfl⟩:=e;exact⟨rfl,d.imp id λ⟨b,off,f,_,g⟩=>⟨b,off,f,g⟩⟩
theorem Sv.at_(h:Sv w x.v l){b c i:Nat}{v:Vt}(e:x.a=some ⟨b,c,none⟩)(d:l[i]?=some v):w.rangeAt b (c+8*i) (vtC v):=by
 rcases h.op.2 with rfl|⟨b',off',ha,hc⟩
 .simp at d
 .rw[e]at ha;cases ha;exact hc i v d
theorem Sv.ad(h:Sv w x.v l){i:Nat}(c:i<l.length):∃ b off,x.a=some ⟨b,off,none⟩:=by
 rcases h.op.2 with rfl|⟨b',off',ha,hc⟩
 .exact absurd c (nY _)
 .exact⟨b',off',ha⟩
theorem Sv.s3{x:Value}(h:Sv w x l):∃ y:S3,x=y.v:=by
 obtain⟨⟨a,b,e,_,_,c⟩,_⟩:=h;exact⟨⟨a,l.length,b⟩,e⟩
theorem IY(p:Bal)(x:Value)(l:List Vt)(w:World)(h:Sv w x l)(S:NTab w) :
  Calls prog 154 #[.agg (acA p x)] w λe w'=>e=.returned (.int .i64 (Fe ⟨p,l⟩))/\Bw w w':=by
 obtain⟨y,rfl⟩:=h.s3;have hn:=h.op.1;have a7:=h.len;show Calls prog 154 #[.agg #[iv p.r,iv p.n,S3.v y]] w _;refine tIn [] func154 trivial (tR 7 [0,0] λf _ _=>Jy 43 (λL K d=>∃ (v:Bool),L=[(1,pt (f 0) 0),(15,.bool v)]/\K=[⟨(f 0),.cells #[iv p.r,iv p.n,S3.v y] 104,.z,false⟩]/\d=[]/\v=!decide (Ao p)) (λJ u=>?_) ?_)
 .refine tR 4 [0] λa8 _ _=>?_;by_cases q:p=AY
  .refine tV 3 (.bool false) (λF C=>(I3 (x:=(.tmp 7)) (y:=(.tmp 8)) p AY q)) (tR 7 [] λa9 _ _=>tD u [true] ⟨false,rfl,rfl,rfl,by rw[q];rfl⟩ (λF=>trivial))
  .refine tV 3 (.bool true) (λF C=>(I4 (x:=(.tmp 7)) (y:=(.tmp 8)) p AY q)) (tR 3 [0] λb0 _ _=>tC1 7 (λF C=>Iu (b:=p) rfl) λ_=>tR 3 [] λb1 _ _=>tD u [true] ⟨_,rfl,rfl,rfl,jH q⟩ (λF=>trivial))
 rintro _ _ _ ⟨v,rfl,rfl,rfl,H⟩ _ _ _;by_cases q:v=true
 .refine tI (v) true q (tR 4 [] λb2 _ _=>tE (iv 5) λ_ B=>⟨by rw[Fe,if_neg λg:Ag _=>absurd g.1 (by simpa[q]using H.symm)],B⟩)
 .refine tI (v) false (by simpa using q) ?_;have hp:Ao p:=by simpa[q]using H.symm
  refine tR 14 [0] λb3 _ _=>EY 43 [(1,pt (f 0) 0),(3,iv 0),(17,S3.v y),(18,iv (y.n:Int)),(19,iv 0)] [true] [⟨(f 0),.cells #[iv p.r,iv p.n,S3.v y] 104,.z,false⟩] [] (λkk L K d=>∃ (j:Nat) (n:Int),kk=y.n-j/\L=[(1,pt (f 0) 0),(3,iv n),(17,S3.v y),(18,iv (y.n:Int)),(19,iv (j:Int))]/\K=[⟨(f 0),.cells #[iv p.r,iv p.n,S3.v y] 104,.z,false⟩]/\d=[]/\j<=y.n/\Ag ⟨p,l.take j⟩/\KL (l.take j) n) (y.n) ⟨0,0,rfl,rfl,rfl,rfl,by omega,⟨hp,λv H=>(by cases H),trivial⟩,KL.nil⟩ (λF=>trivial) ?_;rintro k _ _ _ ⟨j,n,rfl,rfl,rfl,rfl,hj,E,G⟩ _ _ _ J u;refine tR 5 [] λU _ _=>?_;by_cases I:j<y.n
  .refine tI ((decide ((j:Int)<(y.n:Int)))) true (O' (by omega)) ?_;obtain⟨v,H⟩:∃ v,l[j]?=some v:=⟨_,G' (by omega)⟩;obtain⟨b,O,Q⟩:=h.ad (i:=j) (by omega);have N:l.take (j+1)=l.take j++[v]:=FC l j v H;refine tR 5 [] λV _ _=>tV 0 (pt b (O+8*j)) (λF C=>(Ur Q j (by omega))) (tV 1 (.agg #[iv v.bt,iv v.b.r,iv v.b.n,iv v.w.k,iv v.w.c,iv v.w.s,iv v.w.n,iv v.w.v]) (λF C=>(dB v ((h.af (CgQ.af C)).at_ Q H))) (tR 5 [0,0,1,0] λD _ _=>Jy 43 (λL K d=>∃ (z:Bool),L=[(1,pt (f 0) 0),(3,iv n),(5,pt (D 0) 0),(17,S3.v y),(18,iv (y.n:Int)),(19,iv (j:Int)),(38,.bool z)]/\K=[⟨(f 0),.cells #[iv p.r,iv p.n,S3.v y] 104,.z,false⟩,⟨(D 0),.cells #[iv v.bt,iv v.b.r,iv v.b.n,iv v.w.k,iv v.w.c,iv v.w.s,iv v.w.n,iv v.w.v] 164,.z,false⟩]/\d=[]/\z=!decide (Ag ⟨p,l.take j++[v]⟩)) (λJ u=>?_) ?_))
   .refine tR 2 [1] λW _ _=>?_;by_cases I:Ah v
    .refine tC1 1 (λF C=>GF (v:=v) (S.af (CgQ.af C)) (r:=true) (O' I)) λ_=>tR 5 [1] λX _ _=>?_;have R:=G.2.2 v.bt I.1.1;by_cases P:v.bt<n
     .refine tV 7 (.bool true) (λF C=>(rLt (t:=3) (m:=v.bt) (n:=n) (x:=(.tmp 28)) (y:=(.tmp 29)) (O' P))) (tR 9 [] λY _ _=>tD u [true,true] ⟨true,rfl,rfl,rfl,by rw[E' λg=>absurd (R.2 (H9.1 g).2.2) (by omega)];rfl⟩ (λF=>trivial))
     .refine tV 7 (.bool false) (λF C=>(rLt (t:=3) (m:=v.bt) (n:=n) (x:=(.tmp 28)) (y:=(.tmp 29)) (E' P))) (tR 6 [0,1] λZ _ _=>tC1 14 (λF C=>Ei (a:=p) (b:=v.b) rfl) λ_=>tR 2 [] λa0 _ _=>tD u [true,true] ⟨_,rfl,rfl,rfl,jb (H9.trans ⟨λg=>g.2.1.2,λg=>⟨E,⟨I,g⟩,R.1 (by omega)⟩⟩)⟩ (λF=>trivial))
    .refine tC1 1 (λF C=>GF (v:=v) (S.af (CgQ.af C)) (r:=false) (E' I)) λ_=>tR 15 [] λa1 _ _=>tD u [true,true] ⟨true,rfl,rfl,rfl,by rw[E' λg=>I (H9.1 g).2.1.1];rfl⟩ (λF=>trivial)
   rintro _ _ _ ⟨z,rfl,rfl,rfl,T⟩ _ _ _;by_cases M:z=true
   .refine tI (z) true M (tR 4 [] λa2 _ _=>tE (iv 5) λ_ B=>⟨by rw[Fe,if_neg λg=>absurd (N▸WW g (j+1)) (by simpa[M]using T.symm)],B⟩)
   .refine tI (z) false (by simpa using M) ?_;have A:Ag ⟨p,l.take j++[v]⟩:=by simpa[M]using T.symm
    have o:=(H9.1 A).2;refine tR 4 [1] λa3 _ _=>tV 2 (iv (v.bt+1)) (λF C=>(Bd 40 v.bt underlying3 (by have:=o.1.1.1;omega))) (tR 4 [] λa4 _ _=>tV 0 (iv ((j:Int)+1)) (λF C=>(Bd 19 (j:Int) underlying3 (by omega))) (tR 2 [] λa5 _ _=>tB u (y.n-(j+1)) (by omega) [true,false] ⟨j+1,v.bt+1,rfl,rfl,rfl,rfl,by omega,by rw[N];exact A,by rw[N];exact G.snoc o.1.1.1.1 o.1.1.1.2 ((G.2.2 v.bt o.1.1.1.1).2 o.2)⟩ (λF=>trivial)))
  .refine tI ((decide ((j:Int)<(y.n:Int)))) false (E' (by omega)) ?_;rw[mc (by omega)]at E
   refine tR 5 [] λa6 _ _=>tE (iv 0) λ_ B=>⟨by rw[Fe,if_pos E],B⟩
theorem Sv.cells{ad:Addr}{m:List Vt}(h:Sv w (.slice (some ad) n cap) m):∀ j u,(vtL m)[j]?=some u->w.cell? (ad.add j)=some u:=by
 intro j u d;obtain⟨⟨a,l,e,o,p,f⟩,_⟩:=h;simp only[Value.slice.injEq]at e;obtain⟨rfl,rfl,rfl⟩:=e;rcases f with rfl|⟨b,off,hab,_,hcell⟩
 .simp[vtL]at d
 .obtain rfl:ad=⟨b,off,none⟩:=by simpa using hab
  obtain⟨v,g,i⟩:=aM m j u d;have c:(⟨b,off,none⟩:Addr).add j=⟨b,off+j,none⟩:=by unfold Addr.add;split<;>simp_all
  rw[c];have k:=hcell (j/8) v g (j%8) u i
  rwa [show off+8*(j/8)+j%8=off+j by omega]at k
theorem QG(w:World)(b s B C e:Nat)(t:P.underlying s=some (.slice e))(o:(P.info? e).map (·.size)=some 8)(g n:Nat)(D:List Value)(f:w.ownsRow b e 8 (.slice (some ⟨g,0,none⟩) n n) n D)(u:Value)(m:List Vt)(c:m.length=n)(v:Sv w u m) :
  ∃ w',(Builtin.copy_ #[s,B] C #[.slice (some ⟨g,0,none⟩) n n,u]).run P w=.ok (goInt n) w'/\w'.ownsRow b e 8 (.slice (some ⟨g,0,none⟩) n n) n (vtL m)/\Below g w w':=by
 obtain⟨i,h,y⟩:∃ i,P.info? e=some i/\i.size=8:=by
  cases h:P.info? e with
  | none=>rw[h]at o;cases o
  | some i=>rw[h]at o;exact⟨i,rfl,by simpa using o⟩
 rcases f.2 with⟨h0,_⟩|⟨g',cap,cur,hvv,hbg,hg,hnc,hcm,hcs,ht⟩
 .cases h0
 .simp only[Value.slice.injEq,X',Addr.mk.injEq]at hvv;obtain⟨⟨rfl,_⟩,_,rfl⟩:=hvv;have l:=v;obtain⟨⟨a,x,rfl,F,A,E⟩,_⟩:=v;rw[c]at l ⊢
  cases a with
  | none =>
   have p:=A rfl;subst p;have q:n=0:=by omega
   subst q;have r:m=[]:=Y' c;subst r;refine⟨w,?_,⟨rfl,.inr ⟨g,0,cur,rfl,hbg,hg,hnc,hcm,hcs,by simp[vtL]⟩⟩,Below.refl _ _⟩;simp[Builtin.copy_,run_underlying t,Builtin.lenOf,Builtin.firstCells,sizeOf,typeInfo,h,storeCells]
  | some ad =>
   have z:=run_firstCells_some (P:=P) w 8 n ad n x (vtL m) (by rw[CU,c]) l.cells;have j:=run_storeCells_at P g 0 e (vtL m) 0 cur w hg (by rw[CU,c];omega) (UK m);have d:(cur.toList.take (0+0)++vtL m++cur.toList.drop (0+0+(vtL m).length))=vtL m:=by
    rw[CU,c,mU (by rw[nr];omega)];simp
   rw[d]at j
   refine⟨w.setRow g (vtL m).toArray,?_,⟨by rw[CU,c],.inr ⟨g,n,(vtL m).toArray,rfl,hbg,setRow_heap w g cur _ e _ hg,A' _,hcm,by simp[CU,c],?_⟩⟩,?_⟩
   .simp[Builtin.copy_,run_underlying t,Builtin.lenOf,sizeOf,typeInfo,h,y,z,j]
   .rw[mc (by simp[CU,c])]
   .exact⟨rfl,rfl,rfl,by simp,λk G=>setRow_other w g k _ (by omega)⟩
theorem Mz(w:World){j:Array Oper}{c:List Oper}{o:Oper}{a:Act}{Q:Exit->Act->World->Prop}(l:o.guard=none)(d s:Operand)(k q:TypeId)(y:o.op=.call { callee:=.builtin .copy,args:=#[d,s],argTypes:=#[k,q] })(b e:Nat)(A:P.underlying k=some (.slice e))(z:(P.info? e).map (·.size)=some 8)(g n:Nat)(r:List Value)(v:a.eval d=.slice (some ⟨g,0,none⟩) n n)(f:w.ownsRow b e 8 (.slice (some ⟨g,0,none⟩) n n) n r)(u:Value)(p:a.eval s=u)(m:List Vt)(x:m.length=n)(B:Sv w u m)(h:∀ w',w'.ownsRow b e 8 (.slice (some ⟨g,0,none⟩) n n) n (vtL m)->Below g w w'->wpList P j Q c (a.put o.dst (goInt n)) w'):wpList P j Q (o::c) a w:=by
 refine wpList_plain l λK t=>?_;obtain⟨w',i,C,D⟩:=QG (P:=P) w b k q o.type e A z g n r f u m x B;unfold Oper.wp execOp;simp only[y,resolve,invoke,builtin,Sem.run_bind,Sem.run_pure,Result.andThen_ok,oF,mF,nt,v,p,i];exact t _ _ (h w' C D)
theorem MA(w:World){g:Array Oper}{d:List Oper}{o:Oper}{a:Act}{Q:Exit->Act->World->Prop}(v:o.guard=none)(l c:Operand)(t:TypeId)(h:o.op=Op.makeSlice t l c)(b:Nat)(e:TypeId)(r:P.underlying t=some (.slice e))(f:(P.info? e).map (λi=>(i.zero,i.size,i.bytes))=some (some zVt,8,64))(n:Nat)(y:a.eval l=.int .i64 (n:Int))(u:a.eval c=.int .i64 (n:Int))(B:n<=2199023255488)(p:b<=w.heap.size)(s:∀ w',Hid (∃ xs,w'.ownsRow b e 8 (.slice (some ⟨w.heap.size,0,none⟩) n n) n xs)->w.grownBy w' none->wpList P g Q d (a.put o.dst (.slice (some ⟨w.heap.size,0,none⟩) n n)) w'):wpList P g Q (o::d) a w:=by
 obtain⟨z,x,j,k,m⟩:=info_parts f;refine wpList_make_full w v l c t h b e z zVt 8 r x j k _ _ _ _ n y u rfl rfl (by rw[m];omega) (by unfold maxLen;omega) p (λw' A q=>s w' ⟨_,A⟩ q)
theorem Fy{b a c:Nat}{v:Value}(h:w.ownsRow b e c v n xs)(d:a<=b):w.ownsRow a e c v n xs:=by
 refine⟨h.1,?_⟩;rcases h.2 with h2|⟨g,cap,cur,hv,hbg,hr⟩
 .exact .inl h2
 .exact .inr ⟨g,cap,cur,hv,lS d hbg,hr⟩
theorem vt8:(prog.info? 164).map (·.size)=some 8:=by kernel_rfl
theorem R9(x:Value)(l:List Vt)(w:World)(h:Sv w x l) :
  Calls prog 157 #[x] w λe w'=>∃ x',e=.returned x'/\w'.ownsRow w.heap.size 164 8 x' l.length (vtL l)/\Bw w w':=by
 have b:=h.len;obtain⟨a,v,rfl⟩:=h.shape;obtain⟨N,f⟩:∃ N,l.length=N:=⟨_,rfl⟩;have n:Hid (l.length=N):=f;rw[f]at h b ⊢
 clear f;go_enter func157,ntmps157
 go_wp2_with ((with_reducible (refine CP ?_));at_make;refine MA _ rfl _ _ 102 rfl w.heap.size 164 underlying102 EC N rfl rfl b (A' _) ?_)
 intro m c q;have i:Bw w m:=(Below.refl _ _).grown q (A' _) (λk s=>by cases s);have r:=h.af i;obtain⟨u,c⟩:=c.out;have g:Hid (m.ownsRow w.heap.size 164 8 (.slice (some ⟨w.heap.size,0,none⟩) N N) N u):=c;clear c;go_wp2_with ((with_reducible (refine CP ?_));refine Mz _ rfl _ _ 102 102 rfl w.heap.size 164 underlying102 vt8 w.heap.size N _ rfl g.out _ rfl l n.out r ?_)
 intro t j o;have d:Hid (t.ownsRow w.heap.size 164 8 (.slice (some ⟨w.heap.size,0,none⟩) N N) N (vtL l)):=j;have p:=i.trans o;clear j g;go_wp2
 go_ret;exact⟨_,rfl,d.out,p⟩
theorem Sv.first(h:Sv w (.slice a n cap) l)(i:Nat)(v:Vt)(e:l[i]?=some v):∃ b off,a=some ⟨b,off,none⟩/\b<w.heap.size/\w.cell? ⟨b,off+8*i,none⟩=some (.int .i64 v.bt):=by
 obtain⟨b,off,c,d,f⟩:=h.spot i v e;exact⟨b,off,c,d,f 0 _ rfl⟩
theorem SW(f g:Nat)(a:Option Addr)(n c:Nat)(l:List Vt)(s:Int)(i:Nat)(v:Vt)(w:World)(u:l.length=n)(j:l[i]?=some v)(h:Sv w (.slice a n c) l)(p:w.cell? ⟨f,0,none⟩=some (.slice a n c))(q:w.cell? ⟨g,0,none⟩=some (.int .i64 s)) :
  Calls prog 197 #[.int .i64 (i:Int),.pointer (some ⟨f,0,none⟩),.pointer (some ⟨g,0,none⟩)] w λe w'=>e=.returned (.bool (decide (s<=v.bt)))/\Bw w w':=by
 obtain⟨b,d,rfl,t,r⟩:=h.first i v j;have hin:i<n:=by have:=(V'.1 j).1;omega
 have o:=Jt b d n c i hin;have k:=Below.refl w.heap.size w;go_enter func197,ntmps197
 go_wp2_with fail
 go_quiet (fail)
 have m:Bw w (w.drewN nq):=Ap k nq;go_wp2
 go_ret;exact⟨Aw (by simp),m⟩
theorem Te(o q:Nat)(a:Option Addr)(n f:Nat)(l:List Vt)(s:Int)(w:World)(B:l.length=n)(M:BG l)(h:Sv w (.slice a n f) l)(N:o<w.heap.size)(O:q<w.heap.size)(G:w.cell? ⟨o,0,none⟩=some (.slice a n f))(H:w.cell? ⟨q,0,none⟩=some (.int .i64 s)) :
  Calls prog 196 #[.int .i64 (n:Int),.func (.func 197) #[] #[.pointer (some ⟨o,0,none⟩),.pointer (some ⟨q,0,none⟩)]] w λe w'=>∃ p:Nat,e=.returned (.int .i64 (p:Int))/\Plc l s p/\Bw w w':=by
 have t:=h.len;rw[B]at t
 have y:Hid (l.length=n):=B;clear B;go_enter func196,ntmps196
 go_wp2_with fail
 go_loopw [5,6] (λiv C wr=>∃ i j:Nat,i<=j/\j<=n/\iv=.int .i64 (i:Int)/\C=.int .i64 (j:Int)/\(∀ (k:Nat) (v:Vt),k<i->l[k]?=some v->v.bt<s)/\(∀ (k:Nat) (v:Vt),j<=k->l[k]?=some v->s<=v.bt)/\Bw w wr) (λiv C _=>(intOf C-intOf iv).toNat)
 case atStart=>exact⟨0,n,by omega,by omega,rfl,rfl,λk v K=>by omega,λk v K g=>by have:=(V'.1 g).1;have:=y.out;omega,Below.refl _ _⟩
 case round =>
  obtain⟨i,j,I,J,rfl,rfl,u,r,b⟩:=hrel;have d:Hid (∀ (k:Nat) (v:Vt),k<i->l[k]?=some v->v.bt<s):=u;have c:Hid (∀ (k:Nat) (v:Vt),j<=k->l[k]?=some v->s<=v.bt):=r;clear u r;by_cases L:i<j
  .have hlt':(i:Int)<(j:Int):=by omega
   go_wp2_with fail
   obtain⟨m,E⟩:∃ m:Nat,((i:Int)+(j:Int))/2=(m:Int):=⟨(i+j)/2,by omega⟩;rw[E];have P:i<=m:=by omega
   have Q:m<j:=by omega
   clear E;obtain⟨v,g⟩:∃ v,l[m]?=some v:=⟨_,G' (by have:=y.out;omega)⟩;refine(SW o q a n f l s m v wr y.out g (h.af b) ((b.cell (p:=⟨o,0,none⟩) N).trans G) ((b.cell (p:=⟨q,0,none⟩) O).trans H)).mono ?_;rintro e R ⟨rfl,F⟩;have D:=b.trans (F.mono b.size);obtain⟨P1,A⟩:=Plc.half M g d.out c.out;by_cases x:s<=v.bt
   .rw[O' x];have z:Hid (∀ (k:Nat) (v:Vt),m<=k->l[k]?=some v->s<=v.bt):=A x;clear P1 A g x;go_wp2
    go_roundw
    case rel=>exact⟨i,m,by omega,by omega,rfl,rfl,d.out,z.out,D⟩
    case measure=>simp[intOf];omega
   .rw[E' x];have z:Hid (∀ (k:Nat) (v:Vt),k<m+1->l[k]?=some v->v.bt<s):=P1 (by omega);clear P1 A g x;go_wp2
    go_roundw
    case rel=>exact⟨m+1,j,by omega,by omega,by go_num,rfl,z.out,c.out,D⟩
    case measure=>simp[intOf];omega
  .obtain rfl:i=j:=by omega
   go_wp2
   go_ret;exact⟨i,rfl,⟨by have:=y.out;omega,d.out,c.out⟩,b⟩
theorem JS(x:Value)(l:List Vt)(s:Int)(w:World)(v:BG l)(h:Sv w x l) :
  Calls prog 186 #[x,.int .i64 s] w λe w'=>∃ p:Nat,e=.returned (.int .i64 (p:Int))/\Plc l s p/\Bw w w':=by
 obtain⟨a,b,rfl⟩:=h.shape;obtain⟨n,f⟩:∃ n,l.length=n:=⟨_,rfl⟩;rw[f]at h ⊢
 have m:Hid (l.length=n):=f;clear f;have j:=heap_alloc2_old w (.cells #[.slice a n b] 102) (.cells #[.int .i64 s] 3);have k:=heap_alloc2_new w (.cells #[.slice a n b] 102) (.cells #[.int .i64 s] 3);have c:Bw w ((w.alloc (.cells #[.slice a n b] 102)).alloc (.cells #[.int .i64 s] 3)):=((Below.refl _ _).alloc (A' _) _).alloc (by simp) _;generalize g:(w.alloc (.cells #[.slice a n b] 102)).alloc (.cells #[.int .i64 s] 3)=W at j k c;have z:W.heap.size=w.heap.size+2:=by rw[<- g];simp
 have r:W.cell? ⟨w.heap.size,0,none⟩=some (.slice a n b):=cell_of_row _ _ 0 _ _ _ j;have t:W.cell? ⟨w.heap.size+1,0,none⟩=some (.int .i64 s):=cell_of_row _ _ 0 _ _ _ k;have d:=h.af c;go_enter func186,ntmps186
 go_wp2_with fail
 clear g;refine(Te w.heap.size (w.heap.size+1) a n b l s W m.out v d (by omega) (by omega) r t).mono ?_;rintro e y ⟨p,rfl,i,q⟩;have u:=c.trans (q.mono c.size);have o:Hid (Plc l s p):=i;clear i;go_wp2
 go_ret;exact⟨p,rfl,o.out,u⟩
def Lw(l:List Vt)(p:Nat)(s:Int):Bool:=match l[p]? with|some v=>decide (v.bt=s)|none=>false
theorem Jg(h:l[p]?=some v):Lw l p s=decide (v.bt=s):=by unfold Lw;rw[h]
theorem Nu(h:l[p]?=none):Lw l p s=false:=by unfold Lw;rw[h]
theorem Nv(h:Lw l p s=true):∃ v,l[p]?=some v/\v.bt=s:=by
 cases hu:l[p]? with
 | none=>rw[Nu hu]at h;cases h
 | some v=>rw[Jg hu]at h;exact⟨v,rfl,my h⟩
theorem Lx(h:Lw l p s=false):∀ v,l[p]?=some v->v.bt≠s:=by
 intro v a;rw[Jg a]at h
 exact of_decide_eq_false h
theorem JL(x:Value)(l:List Vt)(p:Nat)(s:Int)(w:World)(h:Sv w x l) :
  Calls prog 187 #[x,.int .i64 (p:Int),.int .i64 s] w λe w'=>e=.returned (.bool (Lw l p s))/\w'=w:=by
 obtain⟨a,g,rfl⟩:=h.shape;obtain⟨n,c⟩:∃ n,l.length=n:=⟨_,rfl⟩;rw[c]at h ⊢
 by_cases j:p<n
 .obtain⟨v,hv⟩:∃ v,l[p]?=some v:=⟨_,G' (by omega)⟩;obtain⟨b,f,rfl,m,k⟩:=h.first p v hv;have i:=Jt b f n g p j;have d:(p:Int)<(n:Int):=by omega
  rw[Jg hv];clear c hv h;go_enter func187,ntmps187
  go_wp2
  go_ret;exact⟨Aw (by first|rfl|simp),rfl⟩
 .have hv:l[p]?=none:=nC (by omega);have d:¬ (p:Int)<(n:Int):=by omega
  rw[Nu hv];clear c hv h;go_enter func187,ntmps187
  go_wp2
  go_ret;exact⟨rfl,rfl⟩
theorem Sv.qM(h:Sv w (.slice a n cap) l)(d f:Nat)(j:d<=f)(g:f<=l.length):Sv w (sliced a d f cap 8) ((l.take f).drop d):=by
 obtain⟨⟨s,k,e,u,r,p⟩,q⟩:=h;simp only[Value.slice.injEq]at e;obtain⟨rfl,rfl,rfl⟩:=e;have m:((l.take f).drop d).length=f-d:=by rw[lZ,Z'];omega
 cases a with
 | none =>
  have o:=r rfl;subst o;have t:l.length=0:=by omega
  refine⟨⟨_,_,by rw[m];rfl,by omega,λ_=>by omega,.inl (Y' (by omega))⟩,by omega⟩
 | some ad =>
  refine⟨⟨_,_,by rw[m];rfl,by omega,(by intro h;split at h<;>simp at h),?_⟩,by omega⟩;rcases Nat.eq_or_lt_of_le j with he|hlt
  .exact .inl (Y' (by omega))
  .rcases p with rfl|⟨b,off,e2,hbs,hcell⟩
   .simp at g;omega
   .simp only[X']at e2;subst e2;refine .inr ⟨b,off+d*8,?_,hbs,λi v c=>?_⟩
    .rw[if_neg (by omega)];simp[Addr.add]
    .rw[mX,mY]at c
     split at c
     .have:=hcell (d+i) v c
      rwa [show off+8*(d+i)=off+d*8+8*i by omega]at this
     .cases c
theorem Sv.qo(h:Sv w (.slice a n cap) l)(b:Nat)(c:b<=l.length) :
  ∃ a' c',(∀ W,(Instr.slice 102 (.slice a n cap) none (some (.int .i64 (b:Int))) none).run prog W=.ok (.slice a' b c') W)/\Sv w (.slice a' b c') (l.take b):=by
 have g:=h.qM 0 b (by omega) c;obtain⟨⟨a',d,e,j,k,i⟩,f⟩:=h;simp only[Value.slice.injEq]at e;obtain⟨rfl,rfl,rfl⟩:=e;refine⟨_,_,λW=>?_,by simpa[sliced]using g⟩;rw[run_slice_h (P:=prog) W 102 a _ cap underlying102 .i64 _ (by omega) (by omega)];rw[RJ,Th];simp[Result.andThen,sliced]
theorem Sv.from(h:Sv w (.slice a n cap) l)(b:Nat)(c:b<=l.length) :
  ∃ a' c',(∀ W,(Instr.slice 102 (.slice a n cap) (some (.int .i64 (b:Int))) none none).run prog W=.ok (.slice a' (n-b) c') W)/\Sv w (.slice a' (n-b) c') (l.drop b):=by
 have g:=h.qM b l.length c (A' _);obtain⟨⟨a',d,e,j,k,i⟩,f⟩:=h;simp only[Value.slice.injEq]at e;obtain⟨rfl,rfl,rfl⟩:=e;refine⟨_,_,λW=>?_,by simpa[sliced]using g⟩;rw[run_slice_l (P:=prog) W 102 a _ cap underlying102 .i64 _ (by omega) (by omega)];rw[RJ,Th];simp[Result.andThen,sliced]
theorem Fb(w:World){g:Array Oper}{d:List Oper}{o:Oper}{a:Act}{Q:Exit->Act->World->Prop}(x:o.guard=none)(l c:Operand)(t:TypeId)(h:o.op=Op.makeSlice t l c)(b:Nat)(e:TypeId)(r:P.underlying t=some (.slice e))(f:(P.info? e).map (λi=>(i.zero,i.size,i.bytes))=some (some zVt,8,64))(C:Int)(n:Nat)(z:a.eval l=.int .i64 0)(v:a.eval c=.int .i64 C)(s:C=(n:Int))(D:n<=2199023255500)(p:b<=w.heap.size)(u:∀ w',Hid (w'.ownsRow b e 8 (.slice (some ⟨w.heap.size,0,none⟩) 0 n) ([]:List Vt).length (vtL []))->w.grownBy w' none->wpList P g Q d (a.put o.dst (.slice (some ⟨w.heap.size,0,none⟩) 0 n)) w'):wpList P g Q (o::d) a w:=by
 obtain⟨A,y,j,k,m⟩:=info_parts f;exact wpList_make_own w x l c t h b e A zVt 8 r y j k _ _ C n z v s (by rw[m];omega) (by unfold maxLen;omega) p (λw' B q=>u w' B q)
theorem Pp(x:Value)(l:List Vt)(v:Vt)(w:World)(hr:BG l)(h:Sv w x l) :
  Calls prog 162 #[x,.agg (vtA v)] w λe w'=>∃ x',e=.returned x'/\w'.ownsRow w.heap.size 164 8 x' (Bi l v).length (vtL (Bi l v))/\Bw w w':=by
 have Z:=h.len;obtain⟨a,cp,rfl⟩:=h.shape;obtain⟨n,hn⟩:∃ n,l.length=n:=⟨_,rfl⟩;rw[hn]at h Z ⊢
 have R:Hid (l.length=n):=hn;clear hn;have P:Bw w (w.alloc (.cells (vtA v) 164)):=(Below.refl _ _).alloc (A' _) _;have B:=heap_alloc_new w (.cells (vtA v) 164);have M:=iQ v;have HU:Hid (∀ p,Plc l v.bt p->Lw l p v.bt=true->Bi l v=l.take p++[v]++l.drop (p+1)/\p+1<=l.length):=λp E D=>by
  obtain⟨u,hu,he⟩:=Nv D;exact⟨by rw[E.has hu he];simp,by have:=(V'.1 hu).1;omega⟩
 have HN:Hid (∀ p,Plc l v.bt p->Lw l p v.bt=false->Bi l v=l.take p++[v]++l.drop p/\p<=l.length):=λp E D=>⟨by rw[E.no (Lx D)];simp,E.le⟩;obtain⟨c,⟨m,i⟩,⟨f,d,j,g,o⟩⟩:=v;simp only[vtA,vtC]at P B M ⊢;generalize hW:w.alloc (.cells [.int .i64 c,.int .i64 m,.int .i64 i,.int .i64 f,.int .i64 d,.int .i64 j,.int .i64 g,.int .i64 o].toArray 164)=W at P B;have a3:w.heap.size<W.heap.size:=(Q'.1 B).1;have c0:W.cell? ⟨w.heap.size,0,none⟩=some (.int .i64 c):=cell_of_row _ _ 0 _ _ _ B;go_enter func162,ntmps162
 go_wp2_with fail
 clear hW;refine(JS _ l c W hr (h.af P)).mono ?_;rintro e w1 ⟨p,rfl,E,b1⟩;have C:=P.trans (b1.mono P.size);have F:w.heap.size<w1.heap.size:=j' a3 b1.size;replace B:=(b1.block _ a3).trans B;have c0:w1.cell? ⟨w.heap.size,0,none⟩=some (.int .i64 c):=cell_of_row _ _ 0 _ _ _ B;have Q:=h.af C;have a5:p<=n:=by have:=E.le;have:=R.out;omega
 have HP:Hid (Plc l c p):=E;clear b1 P E;go_wp2_with fail
 refine(JL _ l p c w1 Q).mono ?_;rintro e b ⟨rfl,rfl⟩;obtain⟨a1,k1,u1,su⟩:=Q.qo p HP.out.le;have a0:(l.take p).length<=n:=by rw[Z'];omega
 have hz:=C.size;generalize D:Lw l p c=bh;cases bh
 .obtain⟨HI0,hk0⟩:=HN.out p HP.out D;have G:Hid (Bi l ⟨c,⟨m,i⟩,⟨f,d,j,g,o⟩⟩=l.take p++([⟨c,⟨m,i⟩,⟨f,d,j,g,o⟩⟩]:List Vt)++l.drop (p)):=HI0;obtain⟨a2,k2,u2,sd⟩:=Q.from (p) hk0;have t:(l.take p).length+(l.drop (p)).length<=n:=by rw[Z',lZ];have:=R.out;omega
  have T:Hid (∀ w',Bw b w'->Sv w' (.slice a1 p k1) (l.take p)):=λw' L=>su.af L;have S:Hid (∀ w',Bw b w'->Sv w' (.slice a2 (n-(p)) k2) (l.drop (p))):=λw' L=>sd.af L;clear HI0 HU HN D su sd Q h hr;generalize l.take p=LP at G T a0 t;generalize l.drop (p)=LD at G S t;have a4:(p)<=n:=by have:=R.out;omega
  go_wp2_with ((with_reducible (refine CP ?_));at_make;refine Fb _ rfl _ _ 102 rfl b.heap.size 164 underlying102 EC _ (n+1) rfl rfl (by first|rfl|omega) (by omega) (A' _) ?_)
  intro w3 N U;have I:Bw b w3:=(Below.refl _ _).grown U (A' _) (λk s=>by cases s);have z3:=I.size;clear U;go_wp2_with ((with_reducible (refine CP ?_));at_builtin;refine Br _ rfl _ _ 102 rfl b.heap.size 164 zVt underlying102 EC rfl _ _ rfl rfl [] (LP) N.out (T.out w3 I) (by simp;omega) (by omega) ?_)
  intro v4 w4 o4 V;have J:Bw b w4:=I.grown V (by omega) (λk s=>(N.out.lt k s).1);have z4:=J.size;have q:Hid (w4.ownsRow b.heap.size 164 8 v4 (LP).length (vtL (LP))):=by unfold Hid;simpa using o4
  have y:=q.out.lt;have A:=(J.block _ F).trans B;clear o4 V N;go_wp2_with ((with_reducible (refine CP ?_));first|(refine wpList_load_row rfl 164 _ rfl w.heap.size rfl 164 _ (0,0) _ A underlying164 rfl M ?_)|(at_builtin;refine Br _ rfl _ _ 102 rfl b.heap.size 164 zVt underlying102 EC rfl _ _ rfl rfl (LP) ([⟨c,⟨m,i⟩,⟨f,d,j,g,o⟩⟩]:List Vt) (q.out.alloc _) (Sv.one _ ⟨c,⟨m,i⟩,⟨f,d,j,g,o⟩⟩ _ rfl) (by simp;omega) (by simp;omega) ?_))
  intro v5 O o5 X;have K:Bw b O:=(J.alloc (by omega) _).grown X (by simp;omega) (λk s=>(y k s).1);have z5:=K.size;have r:Hid (O.ownsRow b.heap.size 164 8 v5 (LP++([⟨c,⟨m,i⟩,⟨f,d,j,g,o⟩⟩]:List Vt)).length (vtL (LP++([⟨c,⟨m,i⟩,⟨f,d,j,g,o⟩⟩]:List Vt)))):=by unfold Hid;rw[H'];exact o5
  have z:=r.out.lt;clear o5 X q y A;go_wp2_with ((with_reducible (refine CP ?_));at_builtin;refine Br _ rfl _ _ 102 rfl b.heap.size 164 zVt underlying102 EC rfl _ _ rfl rfl (LP++([⟨c,⟨m,i⟩,⟨f,d,j,g,o⟩⟩]:List Vt)) (LD) r.out (S.out O K) (by rw[H'];simp;omega) (by omega) ?_)
  intro v6 w6 o6 Y;have b6:Bw b w6:=K.grown Y (by omega) (λk s=>(z k s).1);have H:Hid (w6.ownsRow b.heap.size 164 8 v6 (LP++([⟨c,⟨m,i⟩,⟨f,d,j,g,o⟩⟩]:List Vt)++LD).length (vtL (LP++([⟨c,⟨m,i⟩,⟨f,d,j,g,o⟩⟩]:List Vt)++LD))):=by unfold Hid;simpa using o6
  have d6:=C.trans (b6.mono C.size);clear o6 Y r z;go_wp2
  go_ret;refine⟨v6,rfl,?_,d6⟩;rw[G.out];exact Fy H.out C.size
 .obtain⟨HI0,hk0⟩:=HU.out p HP.out D;have G:Hid (Bi l ⟨c,⟨m,i⟩,⟨f,d,j,g,o⟩⟩=l.take p++([⟨c,⟨m,i⟩,⟨f,d,j,g,o⟩⟩]:List Vt)++l.drop (p+1)):=HI0;obtain⟨a2,k2,u2,sd⟩:=Q.from (p+1) hk0;rw[show((p+1:Nat):Int)=(p:Int)+1 by omega]at u2
  have t:(l.take p).length+(l.drop (p+1)).length<=n:=by rw[Z',lZ];have:=R.out;omega
  have T:Hid (∀ w',Bw b w'->Sv w' (.slice a1 p k1) (l.take p)):=λw' L=>su.af L;have S:Hid (∀ w',Bw b w'->Sv w' (.slice a2 (n-(p+1)) k2) (l.drop (p+1))):=λw' L=>sd.af L;clear HI0 HU HN D su sd Q h hr;generalize l.take p=LP at G T a0 t;generalize l.drop (p+1)=LD at G S t;have a4:(p+1)<=n:=by have:=R.out;omega
  go_wp2_with ((with_reducible (refine CP ?_));at_make;refine Fb _ rfl _ _ 102 rfl b.heap.size 164 underlying102 EC _ (n+1) rfl rfl (by first|rfl|omega) (by omega) (A' _) ?_)
  intro w3 N U;have I:Bw b w3:=(Below.refl _ _).grown U (A' _) (λk s=>by cases s);have z3:=I.size;clear U;go_wp2_with ((with_reducible (refine CP ?_));at_builtin;refine Br _ rfl _ _ 102 rfl b.heap.size 164 zVt underlying102 EC rfl _ _ rfl rfl [] (LP) N.out (T.out w3 I) (by simp;omega) (by omega) ?_)
  intro v4 w4 o4 V;have J:Bw b w4:=I.grown V (by omega) (λk s=>(N.out.lt k s).1);have z4:=J.size;have q:Hid (w4.ownsRow b.heap.size 164 8 v4 (LP).length (vtL (LP))):=by unfold Hid;simpa using o4
  have y:=q.out.lt;have A:=(J.block _ F).trans B;clear o4 V N;go_wp2_with ((with_reducible (refine CP ?_));first|(refine wpList_load_row rfl 164 _ rfl w.heap.size rfl 164 _ (0,0) _ A underlying164 rfl M ?_)|(at_builtin;refine Br _ rfl _ _ 102 rfl b.heap.size 164 zVt underlying102 EC rfl _ _ rfl rfl (LP) ([⟨c,⟨m,i⟩,⟨f,d,j,g,o⟩⟩]:List Vt) (q.out.alloc _) (Sv.one _ ⟨c,⟨m,i⟩,⟨f,d,j,g,o⟩⟩ _ rfl) (by simp;omega) (by simp;omega) ?_))
  intro v5 O o5 X;have K:Bw b O:=(J.alloc (by omega) _).grown X (by simp;omega) (λk s=>(y k s).1);have z5:=K.size;have r:Hid (O.ownsRow b.heap.size 164 8 v5 (LP++([⟨c,⟨m,i⟩,⟨f,d,j,g,o⟩⟩]:List Vt)).length (vtL (LP++([⟨c,⟨m,i⟩,⟨f,d,j,g,o⟩⟩]:List Vt)))):=by unfold Hid;rw[H'];exact o5
  have z:=r.out.lt;clear o5 X q y A;go_wp2_with ((with_reducible (refine CP ?_));at_builtin;refine Br _ rfl _ _ 102 rfl b.heap.size 164 zVt underlying102 EC rfl _ _ rfl rfl (LP++([⟨c,⟨m,i⟩,⟨f,d,j,g,o⟩⟩]:List Vt)) (LD) r.out (S.out O K) (by rw[H'];simp;omega) (by omega) ?_)
  intro v6 w6 o6 Y;have b6:Bw b w6:=K.grown Y (by omega) (λk s=>(z k s).1);have H:Hid (w6.ownsRow b.heap.size 164 8 v6 (LP++([⟨c,⟨m,i⟩,⟨f,d,j,g,o⟩⟩]:List Vt)++LD).length (vtL (LP++([⟨c,⟨m,i⟩,⟨f,d,j,g,o⟩⟩]:List Vt)++LD))):=by unfold Hid;simpa using o6
  have d6:=C.trans (b6.mono C.size);clear o6 Y r z;go_wp2
  go_ret;refine⟨v6,rfl,?_,d6⟩;rw[G.out];exact Fy H.out C.size
def Fa.fo(B:Nat)(e:TypeId)(sz:Nat)(x:Value)(n:Nat)(vs:List Value):Fa:=⟨none,λg w=>w.ownsRow B e sz x n vs/\∀ k,x.ownBlock=some k->k<w.heap.size/\g.t k=.z,λhz _ c h=>⟨SF h.1 λk hk=>c.zc hz (h.2 k hk).1 (h.2 k hk).2,λk hk=>⟨j' (h.2 k hk).1 c.size,(c.tag (h.2 k hk).1 λe=>by rw[(h.2 k hk).2]at e;cases e).trans (h.2 k hk).2⟩⟩⟩
theorem XY{g:Gh}{a:Nat}(h:w.ownsRow B e sz y n xs)(d:a<=B)(G:∀ b,B<=b->g.t b=.z):w.ownsRow a e sz y n xs/\∀ k,y.ownBlock=some k->k<w.heap.size/\g.t k=.z:=by
 refine⟨Fy h d,λk c=>?_⟩;rcases h.2 with⟨rfl,_⟩|⟨b,cap,cur,rfl,hb,hh,_⟩
 .cases c
 .cases c;exact⟨(Q'.1 hh).1,G _ hb⟩
theorem YX(h:w.ownsRow B e sz y n xs):∃ z:S3,y=z.v:=by
 rcases h.2 with⟨rfl,_⟩|⟨b,cap,cur,rfl,_⟩
 .exact⟨s30,rfl⟩
 .exact⟨⟨some ⟨b,0,none⟩,n,cap⟩,rfl⟩
theorem TG{y:S3}(h:Sv w y.v l) :
  Calls prog 157 #[y.v] w λe w'=>∃ z:S3,e=.returned z.v/\w'.ownsRow w.heap.size 164 8 z.v l.length (vtL l)/\Bw w w' :=
 (R9 y.v l w h).mono λe w' ⟨x,b,a,c⟩=>by obtain⟨z,rfl⟩:=YX a;exact⟨z,b,a,c⟩
theorem eQ{y:S3}(g:BG l)(h:Sv w y.v l) :
  Calls prog 162 #[y.v,.agg #[iv v.bt,iv v.b.r,iv v.b.n,iv v.w.k,iv v.w.c,iv v.w.s,iv v.w.n,iv v.w.v]] w λe w'=>∃ z:S3,e=.returned z.v/\w'.ownsRow w.heap.size 164 8 z.v (Bi l v).length (vtL (Bi l v))/\Bw w w' :=
 (Pp y.v l v w g h).mono λe w' ⟨x,d,a,f⟩=>by obtain⟨z,rfl⟩:=YX a;exact⟨z,d,a,f⟩
end
section
variable{p:Bal}{l:List Vt}{w w':World}
theorem OP{b:Bal}{E:Int}(a:Ck ⟨p,l⟩ b=E)(c:E≠0)(f:Bw w w'):∃ y z,(Ending.returned (.tuple #[.agg #[iv 0,iv 0,sn],sn,iv E]):Ending)=.returned (.tuple #[.agg (acA (ET ⟨p,l⟩ b) y),z,.int .i64 (Ck ⟨p,l⟩ b)])/\w'.ownsRow w.heap.size 164 8 y (DJ ⟨p,l⟩ b).length (vtL (DJ ⟨p,l⟩ b))/\w'.ownsRow w.heap.size 164 8 z (DJ ⟨p,l⟩ b).length (vtL (DJ ⟨p,l⟩ b))/\Bw w w':=by
 have d:ET ⟨p,l⟩ b=⟨0,0⟩:=if_neg (by rw[a];exact c);have e:DJ ⟨p,l⟩ b=[]:=if_neg (by rw[a];exact c);rw[d,e,a];exact⟨sn,sn,rfl,World.ownsRow_nil _ _ _ _,World.ownsRow_nil _ _ _ _,f⟩
theorem dy{b:Bal}{y z:S3}(e:Ag ⟨p,l⟩)(f:Ab b)(h:¬ b.lt p)(j:w'.ownsRow w.heap.size 164 8 y.v l.length (vtL l))(k:w'.ownsRow w.heap.size 164 8 z.v l.length (vtL l))(i:Bw w w'):∃ y' z',(Ending.returned (.tuple #[.agg #[iv b.r,iv b.n,y.v],z.v,iv 0]):Ending)=.returned (.tuple #[.agg (acA (ET ⟨p,l⟩ b) y'),z',.int .i64 (Ck ⟨p,l⟩ b)])/\w'.ownsRow w.heap.size 164 8 y' (DJ ⟨p,l⟩ b).length (vtL (DJ ⟨p,l⟩ b))/\w'.ownsRow w.heap.size 164 8 z' (DJ ⟨p,l⟩ b).length (vtL (DJ ⟨p,l⟩ b))/\Bw w w':=by
 have a:Ck ⟨p,l⟩ b=0:=(if_neg (λg=>g e)).trans ((if_neg (λg=>g f)).trans (if_neg h));have c:ET ⟨p,l⟩ b=b:=if_pos a;have d:DJ ⟨p,l⟩ b=l:=if_pos a;rw[c,d,a];exact⟨y.v,z.v,rfl,j,k,i⟩
end
theorem Dc(p:Bal)(x:Value)(l:List Vt)(b:Bal)(w:World)(h:Sv w x l)(J:NTab w) :
  Calls prog 126 #[.agg (acA p x),.agg (baA b)] w λe w'=>∃ y z,e=.returned (.tuple #[.agg (acA (ET ⟨p,l⟩ b) y),z,.int .i64 (Ck ⟨p,l⟩ b)])/\w'.ownsRow w.heap.size 164 8 y (DJ ⟨p,l⟩ b).length (vtL (DJ ⟨p,l⟩ b))/\w'.ownsRow w.heap.size 164 8 z (DJ ⟨p,l⟩ b).length (vtL (DJ ⟨p,l⟩ b))/\Bw w w':=by
 obtain⟨y,rfl⟩:=h.s3;show Calls prog 126 #[.agg #[iv p.r,iv p.n,S3.v y],.agg #[iv b.r,iv b.n]] w _;refine tIn [] func126 trivial (tR 12 [0,0,0,0,1,0,0] λc _ _=>tC1 1 (λF C=>IY p y.v l _ (h.af (CgQ.af C)) (J.af (CgQ.af C))) λ_=>tR 7 [] λK _ _=>?_);by_cases d:Ag ⟨p,l⟩
 .have hE:Fe ⟨p,l⟩=0:=if_pos d;refine tI (((Fe ⟨p,l⟩) != 0)) false (by rw[hE];decide) (tR 5 [1] λL _ _=>?_);by_cases f:Ab b
  .refine tC1 1 (λF C=>Iu (b:=b) (r:=true) (O' f)) λ_=>tR 10 [1,0] λM _ _=>?_;by_cases k:b.lt p
   .refine tC1 3 (λF C=>Ei (a:=b) (b:=p) (r:=true) (O' k)) λ_=>tR 9 [2,0] λN _ _=>tX λF C=>qE3 4 5 6 104 2 (c 2) #[iv 0,iv 0,sn] sn (iv 7) λ_=>OP ((if_neg (λg=>g d)).trans ((if_neg (λg=>g f)).trans (if_pos k))) (by decide) (CgQ.af C)
   .refine tC1 3 (λF C=>Ei (a:=b) (b:=p) (r:=false) (E' k)) λ_=>tR 10 [8,0,1,2,4,0,10,12,0] λD _ _=>tF λ_ m=>?_;have i:=m.size;refine tC 3 (λF C=>TG (h.af (CgQ.af C))) λo=>?_;rintro _ _ ⟨A,rfl,t,q⟩;refine⟨_,Fa.fo w.heap.size 164 8 A.v l.length (vtL l)::_,rfl,q,λF=>⟨XY t i o,F⟩,?_⟩;refine tR 1 [8] λE _ _=>tF λ_ m=>?_;have j:=m.size;refine tC 7 (λF C=>TG (h.af (CgQ.af C))) λo=>?_;rintro _ _ ⟨B,rfl,u,s⟩;refine⟨_,Fa.fo w.heap.size 164 8 B.v l.length (vtL l)::_,rfl,s,λF=>⟨XY u j o,F⟩,?_⟩;refine tR 4 [17,2,0,18,20] λG _ _=>tX λF C=>qE3 4 5 6 104 2 (c 2) #[iv b.r,iv b.n,S3.v A] (S3.v B) (iv 0) λ_=>dy d f k F.2.1.1 F.1.1 (CgQ.af C)
  .refine tC1 1 (λF C=>Iu (b:=b) (r:=false) (E' f)) λ_=>tR 10 [2,0] λH _ _=>tX λF C=>qE3 4 5 6 104 2 (c 2) #[iv 0,iv 0,sn] sn (iv 2) λ_=>OP ((if_neg (λg=>g d)).trans (if_pos f)) (by decide) (CgQ.af C)
 .have hE:Fe ⟨p,l⟩=5:=if_neg d;refine tI (((Fe ⟨p,l⟩) != 0)) true (by rw[hE];decide) ?_;refine tR 8 [2,0] λI _ _=>tX λF C=>qE3 4 5 6 104 2 (c 2) #[iv 0,iv 0,sn] sn (iv (Fe ⟨p,l⟩)) λ_=>by rw[hE];exact OP (if_pos d) (by decide) (CgQ.af C)
theorem CK(a:Acc)(b:Bal):(DJ a b).length<=a.vs.length:=by unfold DJ;split<;>simp
theorem Qz(p:Bal)(x:Value)(l:List Vt)(b:Bal)(w:World)(h:Sv w x l)(d:NTab w) :
  Calls prog 126 #[.agg (acA p x),.agg (baA b)] w λe w'=>∃ y z,e=.returned (.tuple #[.agg (acA (ET ⟨p,l⟩ b) y),z,.int .i64 (Ck ⟨p,l⟩ b)])/\Sv w' y (DJ ⟨p,l⟩ b)/\Sv w' z (DJ ⟨p,l⟩ b)/\Bw w w' :=
 (Dc p x l b w h d).mono λe w' ⟨y,z,c,f,g,a⟩=>⟨y,z,c,Sv.qi f (lS (CK ⟨p,l⟩ b) h.len),Sv.qi g (lS (CK ⟨p,l⟩ b) h.len),a⟩
section
variable{p:Bal}{l:List Vt}{w w':World}{v:Vt}
theorem gy{p:Bal}{l:List Vt}{v:Vt}(a:Ag ⟨p,l⟩)(b:Ah v):(Bi l v).length<=40:=by
 rw[<- bZ 40 a.2.2 (λu c=>by have:=(a.2.1 u c).1.1;omega) (by have:=b.1;omega)];exact Yf _ a.2.2 40
theorem Oq{E:Int}(a:AT ⟨p,l⟩ v=E)(b:E≠0)(e:Bw w w'):∃ y,(Ending.returned (.tuple #[.agg #[iv 0,iv 0,sn],iv E]):Ending)=.returned (.tuple #[.agg (acA (BC ⟨p,l⟩ v) y),.int .i64 (AT ⟨p,l⟩ v)])/\w'.ownsRow w.heap.size 164 8 y (Bl ⟨p,l⟩ v).length (vtL (Bl ⟨p,l⟩ v))/\(Bl ⟨p,l⟩ v).length<=40/\Bw w w':=by
 have c:BC ⟨p,l⟩ v=⟨0,0⟩:=if_neg (by rw[a];exact b);have d:Bl ⟨p,l⟩ v=[]:=if_neg (by rw[a];exact b);rw[c,d,a];exact⟨sn,rfl,World.ownsRow_nil _ _ _ _,by simp,e⟩
theorem aS{y:S3}(c:Ag ⟨p,l⟩)(d:Ah v)(h:¬ v.b.lt p)(j:w'.ownsRow w.heap.size 164 8 y.v (Bi l v).length (vtL (Bi l v)))(i:Bw w w'):∃ y',(Ending.returned (.tuple #[.agg #[iv v.b.r,iv v.b.n,y.v],iv 0]):Ending)=.returned (.tuple #[.agg (acA (BC ⟨p,l⟩ v) y'),.int .i64 (AT ⟨p,l⟩ v)])/\w'.ownsRow w.heap.size 164 8 y' (Bl ⟨p,l⟩ v).length (vtL (Bl ⟨p,l⟩ v))/\(Bl ⟨p,l⟩ v).length<=40/\Bw w w':=by
 have a:AT ⟨p,l⟩ v=0:=(if_neg (λg=>g c)).trans ((if_neg (λg=>g d)).trans (if_neg h));have e:BC ⟨p,l⟩ v=v.b:=if_pos a;have f:Bl ⟨p,l⟩ v=Bi l v:=if_pos a;rw[e,f,a];exact⟨y.v,rfl,j,gy c d,i⟩
end
section
theorem Cl(p:Bal)(x:Value)(l:List Vt)(v:Vt)(w:World)(h:Sv w x l)(q:NTab w) :
  Calls prog 128 #[.agg (acA p x),.agg (vtA v)] w λe w'=>∃ y,e=.returned (.tuple #[.agg (acA (BC ⟨p,l⟩ v) y),.int .i64 (AT ⟨p,l⟩ v)])/\w'.ownsRow w.heap.size 164 8 y (Bl ⟨p,l⟩ v).length (vtL (Bl ⟨p,l⟩ v))/\(Bl ⟨p,l⟩ v).length<=40/\Bw w w':=by
 obtain⟨y,rfl⟩:=h.s3;show Calls prog 128 #[.agg #[iv p.r,iv p.n,S3.v y],.agg #[iv v.bt,iv v.b.r,iv v.b.n,iv v.w.k,iv v.w.c,iv v.w.s,iv v.w.n,iv v.w.v]] w _;refine tIn [] func128 trivial (tR 11 [0,0,0,0,1,0,0] λd _ _=>tC1 1 (λF C=>IY p y.v l _ (h.af (CgQ.af C)) (q.af (CgQ.af C))) λ_=>tR 7 [] λH _ _=>?_);by_cases f:Ag ⟨p,l⟩
 .have hE:Fe ⟨p,l⟩=0:=if_pos f;refine tI (((Fe ⟨p,l⟩) != 0)) false (by rw[hE];decide) (tR 5 [1] λI _ _=>?_);by_cases i:Ah v
  .refine tC1 1 (λF C=>GF (v:=v) (q.af (CgQ.af C)) (r:=true) (O' i)) λ_=>tR 11 [1,0] λJ _ _=>?_;by_cases m:v.b.lt p
   .refine tC1 4 (λF C=>Ei (a:=v.b) (b:=p) (r:=true) (O' m)) λ_=>tR 8 [2,0] λK _ _=>tX λF C=>qE2 4 5 104 2 (d 2) #[iv 0,iv 0,sn] (iv 7) λ_=>Oq ((if_neg (λg=>g f)).trans ((if_neg (λg=>g i)).trans (if_pos m))) (by decide) (CgQ.af C)
   .refine tC1 4 (λF C=>Ei (a:=v.b) (b:=p) (r:=false) (E' m)) λ_=>tR 10 [7,0,2,1,4,6,0,8,1] λz _ _=>tF λ_ E=>?_;have j:=E.size;refine tC 5 (λF C=>eQ (v:=v) f.2.2 (h.af (CgQ.af C))) λG=>?_;rintro _ _ ⟨u,rfl,t,o⟩;refine⟨_,Fa.fo w.heap.size 164 8 u.v (Bi l v).length (vtL (Bi l v))::_,rfl,o,λF=>⟨XY t j G,F⟩,?_⟩;refine tR 4 [12,15,2,0,16] λA _ _=>tX λF C=>qE2 4 5 104 2 (d 2) #[iv v.b.r,iv v.b.n,S3.v u] (iv 0) λ_=>aS f i m F.1.1 (CgQ.af C)
  .refine tC1 1 (λF C=>GF (v:=v) (q.af (CgQ.af C)) (r:=false) (E' i)) λ_=>tR 9 [2,0] λB _ _=>tX λF C=>qE2 4 5 104 2 (d 2) #[iv 0,iv 0,sn] (iv 2) λ_=>Oq ((if_neg (λg=>g f)).trans (if_pos i)) (by decide) (CgQ.af C)
 .have hE:Fe ⟨p,l⟩=5:=if_neg f;refine tI (((Fe ⟨p,l⟩) != 0)) true (by rw[hE];decide) ?_;refine tR 7 [2,0] λD _ _=>tX λF C=>qE2 4 5 104 2 (d 2) #[iv 0,iv 0,sn] (iv (Fe ⟨p,l⟩)) λ_=>by rw[hE];exact Oq (if_pos f) (by decide) (CgQ.af C)
theorem Rq(p:Bal)(x:Value)(l:List Vt)(v:Vt)(w:World)(h:Sv w x l)(c:NTab w) :
  Calls prog 128 #[.agg (acA p x),.agg (vtA v)] w λe w'=>∃ y,e=.returned (.tuple #[.agg (acA (BC ⟨p,l⟩ v) y),.int .i64 (AT ⟨p,l⟩ v)])/\Sv w' y (Bl ⟨p,l⟩ v)/\Bw w w' :=
 (Cl p x l v w h c).mono λe w' ⟨y,b,d,f,a⟩=>⟨y,b,Sv.qi d (by omega),a⟩
structure Base(w0:World)(g:Gh)(w:World):Prop where
 b:Bw w0 w
 z:∀ k,k<w0.heap.size->g.t k=.z
variable{B:Nat}{a:Acc}{g:Gh}{w w' w0:World}{y:Value}
theorem Base.ch{T:List Tg}{d:Gh}(h:Base w0 g w)(c:Cg B T g w d w')(f:Tg.z∉T:=by simp):Base w0 d w' :=
 have e:∀ k,k<w0.heap.size->k<w.heap.size:=λk a=>j' a h.b.size
 ⟨⟨c.os.trans h.b.os,c.tape.trans h.b.tape,c.output.trans h.b.output,lS h.b.size c.size,λk a=>(c.zc f (e k a) (h.z k a)).trans (h.b.block k a)⟩,λk a=>(c.tag (e k a) (by rw[h.z k a];intro h;cases h)).trans (h.z k a)⟩
structure Tabs(w:World):Prop where
 t:AG w
 n:NTab w
 q:Df w
theorem Base.tt(h:Base w0 g w)(t:Tabs w0):AG w:=t.t.af h.b
theorem Base.tn(h:Base w0 g w)(t:Tabs w0):NTab w:=t.n.af h.b
theorem Base.tq(h:Base w0 g w)(t:Tabs w0):Df w:=t.q.af t.q.pos h.b
theorem DW{l:List Vt}(h:w'.ownsRow B 164 8 y l.length (vtL l))(e:∀ b,B<=b->g.t b=.z)(f:l.length<=2199023255488):∃ y3:S3,y=y3.v/\y3.n=l.length/\FSv g w' y3 l:=by
 have d:=Sv.qi h f;rcases h.2 with⟨rfl,h0⟩|⟨b,cap,cur,rfl,hb,_⟩
 .exact⟨s30,rfl,h0.symm,d,λi=>absurd (Y' h0) i⟩
 .exact⟨⟨some ⟨b,0,none⟩,l.length,cap⟩,rfl,rfl,d,λ_ a c=>by simp only[X']at c;subst c;exact e b hb⟩
theorem dk{l:List Int}(h:w'.ownsRow B 5 1 y l.length (l.map (Value.int .u8)))(k:∀ b,B<=b->g.t b=.z)(m:l.length<=140737488351232)(j:∀ x∈l,0<=x/\x<256):∃ y3:S3,y=y3.v/\y3.n=l.length/\FSl g w' y3 l:=by
 rcases h.2 with⟨rfl,h0⟩|⟨b,cap,cur,rfl,hbb,hh,hc,_,hcs,ht⟩
 .have d:l=[]:=Y' h0;subst d;exact⟨s30,rfl,rfl,⟨⟨none,0,rfl,A' _,λ_=>rfl,.inl rfl⟩,by simp,by simp⟩,λd=>absurd rfl d⟩
 .refine⟨⟨some ⟨b,0,none⟩,l.length,cap⟩,rfl,rfl,⟨⟨_,_,rfl,hc,λh=>(by cases h),.inr ⟨b,0,rfl,rl hh,λi f=>?_⟩⟩,m,j⟩,λ_ a e=>by simp only[X']at e;subst e;exact k b hbb⟩;have c:(l.map (Value.int .u8))[i]?=some (.int .u8 (l.getD i 0)):=by rw[mD,G' f,mo,G' f];rfl
  rw[<- ht,mY]at c
  split at c
  .rw[cell_of_row _ _ _ _ _ _ hh,mJ];simpa using c
  .cases c
theorem JD{d:List Int}{s:Int}{may:Prop}[Decidable may]{b:List Int}(h:Cx d s may b=0):Be d s/\d.length+(b.length+5)<=100000/\may:=by
 unfold Cx at h;by_cases c:Gl d s (b.length+5)≠0
 .rw[if_pos c]at h;exact absurd h c
 .rw[if_neg c]at h
  have e:may:=mK λe=>by rw[if_neg e]at h;cases h
  have a:Gl d s (b.length+5)=0:=by simpa using c
  unfold Gl at a;by_cases f:Be d s
  .rw[if_neg (λg=>g f)]at a
   refine⟨f,?_,e⟩;rcases mN 100000 (d.length+(b.length+5))with h2|h2
   .rw[if_pos h2]at a;cases a
   .exact h2
  .rw[if_pos f]at a;cases a
theorem il{b:Bal}(h:Ck a b=0):ET a b=b/\DJ a b=a.vs:=⟨if_pos h,if_pos h⟩
theorem D6{v:Vt}(h:AT a v=0):BC a v=v.b/\Bl a v=Bi a.vs v:=⟨if_pos h,if_pos h⟩
end
end
section
open Go.ChangeShapes Go.WideShapes Go.ChangeAt Go.RowKit
theorem lK{W:World}(h:laidMetH prog Rows.topMajorityRow.laid W):Tabs W/\LWTab W/\LBTab W:=by
 have u:laidMet prog Rows.topMajorityRow.laid W:=h;obtain⟨B,⟨w,F,r,d,z,C,k,n,a,g,⟨x,G,s,e,p1,D,l,o,b,i,⟨y,H,t,f,A,E,m,p,c,j,v,_⟩,_⟩,_⟩,_⟩:=u;have q:=ec v;obtain rfl:=mI (Yb.symm.trans k);obtain rfl:=mI (RT.symm.trans n);obtain rfl:=mI (jw.symm.trans l);obtain rfl:=mI (Yc.symm.trans o);obtain rfl:=mI (fc.symm.trans m);obtain rfl:=mI (Vv.symm.trans p);exact⟨⟨Zt b i,cY c j,Zj a g⟩,q.1,q.2⟩
def IT(os:Os)(W:World):Prop :=
 W={ World.holding prog os ⟨#[],#[],[]⟩with heap:=(((((World.holding prog os ⟨#[],#[],[]⟩).heap.modify 4 (Y0 Wb)).modify 3 (Y0 (Si.map (Value.int .u32)).toArray)).modify 0 (Y0 (NK.map (Value.int .i64)).toArray)).modify 2 (Yw P3)).modify 1 (Yw Ry) }
theorem bL(a:Os):∃ W,IT a W:=⟨_,rfl⟩
end
section
open Go.RowKit
section
def Nb(B:Nat)(y:S3)(l:List Int):Prop:=l≠[]->∀ a,y.a=some a->B<=a.block
variable{B sz:Nat}{e:TypeId}{g:Gh}{l:List Int}{w:World}{x:S3}{xs:List Value}
theorem Jp{y:Value}(h:w.ownsRow B 5 1 y l.length (l.map (Value.int .u8)))(f:l.length<=140737488351232)(e:∀ x∈l,0<=x/\x<256):∃ z:S3,y=z.v/\Sl w z.v l/\Nb B z l:=by
 have d:=Sl.qi h f e;rcases h.2 with⟨rfl,h0⟩|⟨b,cap,cur,rfl,hbb,_⟩
 .exact⟨s30,rfl,d,λg=>absurd (Y' h0) g⟩
 .exact⟨⟨some ⟨b,0,none⟩,l.length,cap⟩,rfl,d,λ_ a c=>by simp only[X']at c;subst c;exact hbb⟩
theorem XZ(g:Gh)(w:World):FSl g w s30 []:=⟨⟨⟨none,0,rfl,A' _,λ_=>rfl,.inl rfl⟩,by simp,by simp⟩,λh=>absurd rfl h⟩
theorem Dy{y:S3}(h:Sl w y.v l)(n:Nb B y l)(G:∀ b,B<=b->g.t b=.z):FSl g w y l:=⟨h,λd a c=>G _ (n d a c)⟩
structure OwN(B:Nat)(w:World)(e:TypeId)(sz:Nat)(x:S3)(xs:List Value):Prop where
 len:xs.length=x.n*sz
 ex:(x.a=none/\x.n=0/\x.c=0)\/∃ b cur,B<=b/\x.a=some ⟨b,0,none⟩/\w.heap[b]?=some (.cells cur e (0,0))/\x.n<=x.c/\x.c<=maxLen/\cur.size=x.c*sz/\cur.toList.take (x.n*sz)=xs
theorem OwnS.own{c:World}{r:Nat}{p:Bool}(h:OwnS g w (.n 60 r) p e sz x xs)(C:Cg c.heap.size TQ gS c g w):OwN c.heap.size w e sz x xs:=by
 refine⟨h.len,h.ex.imp id λ⟨b,a,f,i,j,k,l,m,o,q⟩=>⟨b,a,?_,f,i,j,k,l,m⟩⟩;refine pm λd=>?_;have:=C.tag d (λ_=>d);rw[o]at this
 cases this
theorem OwN.rv(h:OwN B w e sz x xs):RdV w x sz xs:=by
 rcases h.ex with⟨h1,h2,h3⟩|⟨b,cur,h0,h1,h2,h3,h4,h5,h6⟩
 .exact⟨h.len,by omega,λ_=>h3,.inl h2⟩
 .refine⟨h.len,h3,λh=>(by rw[h1]at h;cases h),.inr ⟨b,0,h1,rl h2,λj u a=>?_⟩⟩;rw[mJ,cell_of_row _ _ _ _ _ _ h2];rw[<- h6,mY]at a
  split at a
  .simpa using a
  .cases a
theorem RdV.fz(h:RdV w x sz xs):FzV gS w x sz xs:=⟨h,λ_ _ _=>rfl⟩
theorem RdV.spot(h:RdV w x sz xs){i:Nat}(d:i<x.n):∃ b off,x.a=some ⟨b,off,none⟩/\b<w.heap.size/\∀ j u,xs[sz*i+j]?=some u->w.cell? ⟨b,off+sz*i+j,none⟩=some u:=by
 rcases h.ex with h1|⟨b,off,h1,h2,h3⟩
 .omega
 .exact⟨b,off,h1,h2,λj u c=>by rw[mV];exact h3 _ u c⟩
theorem OwN.take{l:World}(h:OwN w.heap.size l e sz x xs)(b:Bw w l)(G:∀ b,w.heap.size<=b->g.t b=.z/\g.k b=0)(r:Nat):∃ g',(∀ B,Cg B [] g w g' l)/\(∀ b,l.heap.size<=b->g'.t b=.z/\g'.k b=0)/\OwnS g' l (.n 60 r) true e sz x xs/\∀ b,w.heap.size<=b->(∀ a,x.a=some a->b≠a.block)->g'.t b=.z:=by
 have m:=b.size;rcases h.ex with h1|⟨c,cur,h0,h1,h2,h3,h4,h5,h6⟩
 .exact⟨g,λ_=>Cg.dT b,λd f=>G d (lS m f),⟨h.len,.inl h1⟩,λd f _=>(G d f).1⟩
 .have hc:c<l.heap.size:=rl h2;have i:∀ d,d<w.heap.size->¬ d=c:=λd f e=>by omega
  refine⟨⟨λd=>if d=c then .n 60 r else g.t d,λd=>if d=c then xs.length else g.k d⟩,λ_=>⟨b.os,b.tape,b.output,m,λd f=>.inl (if_neg (i d f)),λd f=>?_,λd f _ _=>if_neg (i d f),λd f _ _=>b.block d f,λd f j _=>World.cell?_of_block (w:=w) (b.block d f)⟩,λd f=>?_,⟨h.len,.inr ⟨c,cur,h1,h2,h3,h4,h5,h6,if_pos rfl,if_pos rfl⟩⟩,λd f o=>(if_neg (o _ h1)).trans (G d f).1⟩
  .show g.k d<=(if d=c then _ else g.k d);rw[if_neg (i d f)];exact A' _
  .have hd2:¬ d=c:=by omega
   show(if d=c then _ else g.t d)=.z/\(if d=c then _ else g.k d)=0;rw[if_neg hd2,if_neg hd2];exact G d (lS m f)
end
section
variable{P:Program}{fn:Func}{R:Ending->World->Prop}{w0:World}{Φ:List Fa}{g:Gh}{w:World}
theorem tG{s:Xs}(i:Nat)(m:List Bool)(r:Nat){f:FuncId}{j:Array Value}{K:Ending->World->Prop}(B:AllF g w Φ->Cg w0.heap.size TQ gS w0 g w->Calls P f j w K)(E:(∀ b,w.heap.size<=b->g.t b=.z)->∀ e w',K e w'->∃ v Ψ et sz x xs,e=.returned v/\Bw w w'/\OwN w.heap.size w' et sz x xs/\∀ g',(AllF g' w' Φ->OwnS g' w' (.n 60 r) true et sz x xs->(∀ b,w.heap.size<=b->(∀ a,x.a=some a->b≠a.block)->g'.t b=.z)->AllF g' w' Ψ)/\GT P fn R w0 Ψ (nxt s i v (AE m s.L)).s g' w')(H:∀ W,CV P s i W=some (.ok (.enter f j) W):=by intro _;kernel_rfl)(D:Kl s i=true:=by kernel_rfl)(d:(nxt s i undef (AE m s.L)).o.map Ob.l'=(nxt s i undef (AE m s.L)).o.map Ob.r':=by kernel_rfl):GT P fn R w0 Φ s g w:=by
 refine⟨λF C=>Af λl=>qG i [] m (B F C) (λe w' h=>?_) H D d (by simp)⟩;obtain⟨v,Ψ,et,sz,x,xs,p,q,u,k⟩:=E (λb A=>(l.new b A).1) e w' h;obtain⟨g',c,G,y,I⟩:=u.take q l.new r;exact⟨v,g',p,c _,G,(k g').2.ex ((k g').1 (F.qy (c w0.heap.size)) y I) (C.trans ((c _).nil TQ))⟩
theorem tW{s:Xs}(i:Nat)(v:Value){S:Sem Value}(c:AllF g w Φ->Kn w0.heap.size g w s.L->S.run P w=.ok v w)(b:GT P fn R w0 Φ (nxt s i v s.L).s g w)(d:D2 s i=some (S>>=λv=>pure (.value v)):=by kernel_rfl)(a:(nxt s i undef s.L).o.map Ob.l'=(nxt s i undef s.L).o.map Ob.r':=by kernel_rfl):GT P fn R w0 Φ s g w:=⟨λF C=>Af λK=>qV i v (c F K) (b.ex F C) d a⟩
end
end
end Go.Proofs.YteimjcbgceckdaaGreatDoor
