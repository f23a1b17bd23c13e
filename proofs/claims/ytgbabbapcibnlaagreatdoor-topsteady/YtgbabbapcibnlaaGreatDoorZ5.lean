/- Part 5 of the walk. -/
import Derived.Laws.Cover3
import Derived.Test.YtgbabbapcibnlaaGreatDoorZ4
set_option maxRecDepth 100000
set_option maxHeartbeats 4000000
open Go.Proofs.Tryz
set_option linter.unusedVariables false
namespace Go.Proofs.YtgbabbapcibnlaaGreatDoor
section
open Go.RowKit
section
variable{P:Program}{fn:Func}{R:Ending->World->Prop}{B:Nat}{T:List Tg}{g:Gh}{w:World}
section
def SR:List Kt->Bool|.c (.loop _)::_=>true|_=>false
def kn:List Kt->Code|.c (.loop b)::_=>b|_=>.skip
def isJ:List Kt->Bool|.j _::_=>true|_=>false
def jK:List Kt->Act->World->Prop|.j J::_=>J|_=>λ_ _=>False
def eN(s:Xs)(n:Nat)(J:Act->World->Prop)(e:List (Nat × Value))(z:Nat->Value)(L:List Sh):Xs:=⟨.c (kn s.K)::.j J::s.K.tail,⟨n,e,z⟩,L⟩
variable{s:Xs}
theorem Cf(n:Nat)(d:List (Nat × Value))(m:List Bool)(i:List Sh)(a:Nat->Gh->World->List (Nat × Value)->List Sh->Prop)(o:SR s.K=true)(q:s.f.n=n)(C:d.map (λp=>lk s.f.z s.f.e p.1)=d.map (·.2))(y:BS (AG m s.L)=i)(k:Nat)(r:Kn B g w s.L->a k g w d i)(round:∀ k g w e z L,a k g w e L->∀ J:Act->World->Prop,(∀ k' g' w' e' z' L',k'<k->a k' g' w' e' L'->Kn B g' w' L'->J (⟨n,e',z'⟩:Fm).act w')->GG P fn R B T (eN s n J e z L) g w):GG P fn R B T s g w:=by
 refine Af λj=>gFm d C λz=>?_;obtain⟨K,f,L⟩:=s;simp only at q;subst q;have l:BS (AG m L)=i:=y;have A:GG P fn R B T ⟨K,⟨f.n,d,z⟩,BS (AG m L)⟩ g w->GG P fn R B T ⟨K,⟨f.n,d,z⟩,L⟩ g w:=λh=>⟨λj=>h.ex (j.sub (D3 m L)).sR⟩;refine A ?_;rw[l];cases K with
 | nil=>cases o
 | cons t K =>
  cases t with
  | c x =>
   cases x with
   | loop b=>exact jZ a (λk g w e z L u J v=>round k g w e z L u J v) (r j)
   | _=>cases o
  | _=>cases o
theorem ED(J:Act->World->Prop)(n:Nat)(e:List (Nat × Value))(m:List Bool)(b:List Sh)(i:isJ s.K=true)(c:jK s.K=J)(l:s.f.n=n)(q:e.map (λp=>lk s.f.z s.f.e p.1)=e.map (·.2))(k:BS (AG m s.L)=b)(h:∀ z,Kn B g w s.L->Kn B g w b->J (⟨n,e,z⟩:Fm).act w):GG P fn R B T s g w:=by
 refine Af λa=>gFm e q λz=>⟨λo=>?_⟩;obtain⟨K,f,L⟩:=s;simp only at l c k i a;subst l;have d:Kn B g w b:=by rw[<- k];exact(o.sub (D3 m L)).sR
 cases K with
 | nil=>cases i
 | cons t K =>
  cases t with
  | j J'=>simp only[jK]at c;rw[c];exact h z a d
  | _=>cases i
def JY(s:Xs)(i:Nat):Xs:=match s.K with|.x ops (u+1) Ld e L0::K=>⟨.y ops u Ld e L0 i::K,s.f,s.L⟩|_=>s
def fB(s:Xs)(i j:Nat):Bool:=match s.K with|.x ops (_+1) Ld _ _::_=>(match Region.ready .any ops Ld with|[k,l]=>Nat.beq k i&&Nat.beq l j|_=>false)|_=>false
theorem Dr(i j:Nat)(a:fB s i j=true)(h:GG P fn R B T (JY s i) g w)(m:GG P fn R B T (JY s j) g w):GG P fn R B T s g w:=by
 refine⟨λd=>?_⟩;obtain⟨K,f,L⟩:=s;have b:=h.ex;have c:=m.ex;unfold JY at b c;unfold fB at a;cases K with
 | nil=>cases a
 | cons t K =>
  cases t with
  | x ops u Ld e L0 =>
   cases u with
   | zero=>cases a
   | succ u =>
    simp only at b c a;have n:Region.ready .any ops Ld=[i,j]:=by
     split at a
     .rename_i k l hk
      simp only[mU]at a;rw[hk,mY a.1,mY a.2]
     .cases a
    exact m6 n (b d) (c d)
  | _=>cases a
def Ye(s:Xs)(J:Act->World->Prop):Xs:=match s.K with|t::K=>⟨t::.j J::K,s.f,s.L⟩|[]=>s
theorem Eh(Q:Exit->Act->World->Prop):Exit.then (Q .normal) Q=Q:=by
 funext e a w
 cases e<;>rfl
theorem Cu(n:Nat)(d:Gh->World->List (Nat × Value)->List Sh->Prop)(r:s.K.isEmpty=false)(k:∀ J:Act->World->Prop,(∀ g' w' e z L,d g' w' e L->Kn B g' w' L->J (⟨n,e,z⟩:Fm).act w')->GG P fn R B T (Ye s J) g w)(l:∀ g' w' e z L,d g' w' e L->GG P fn R B T ⟨s.K.tail,⟨n,e,z⟩,L⟩ g' w'):GG P fn R B T s g w:=by
 obtain⟨K,f,L⟩:=s;cases K with
 | nil=>cases r
 | cons t K =>
  have p:=k (Kq P (bodyPost P fn R) K .normal) (λg' w' e z L q h=>(l g' w' e z L q).ex h);refine⟨λh=>?_⟩;have a:=p.ex h;unfold Ye at a;simp only at a;cases t with
  | c x=>simp only[Kq,Eh]at a ⊢;exact a
  | b id=>simp only[Kq,Eh]at a ⊢;exact a
  | o ops is=>simp only[Kq,Eh]at a ⊢;exact a
  | x ops m Ld e L0=>simp only[Kq,Eh]at a ⊢;exact a
  | y ops m Ld e L0 i=>simp only[Kq,Eh]at a ⊢;exact a
  | j J=>simp only[Kq,Eh]at a ⊢;exact a
def zL(L:List Sh)(k:Nat):List Sh:=L.set k { L.getD k default with t:=.z,w:=false }
theorem ke(k:Nat)(b:Nat)(A:(BS s.L)[k]?.map (λx=>(x.g,x.t))=some (b,.l))(h:∀ g',Cg B [] g w g' w->GG P fn R B T ⟨s.K,s.f,zL (BS s.L) k⟩ g' w):GG P fn R B T s g w:=by
 refine⟨λF=>?_⟩;have q:=F.sR;generalize O:BS s.L=L at *;have V:∀ x∈L,x.w=false:=λx e=>by rw[<- O]at e;obtain⟨y,_,rfl⟩:=mS.1 e;rfl
 have m:k<L.length:=by
  cases e:L[k]? with
  | none=>rw[e]at A;cases A
  | some x=>exact(V'.1 e).1
 have N:L.getD k default=L[k]:=by rw[nu,G' m];rfl
 rw[G' m]at A
 simp only[nD,X',nF]at A;obtain⟨r,I⟩:=A;have d:=q.row _ (np m);have G:∀ n (D:n<L.length),n≠k->L[n].g≠b:=λn D o a=>by
  have:=q.two D m o (by rw[r];exact a);rw[I]at this
  cases this.2.1
 let g':Gh:=⟨λc=>if c=b then .z else g.t c,g.k⟩
 have H:g.t b=.l:=by rw[<- r,d.2.1];exact I
 have E:B<=b:=by rw[<- r];exact d.2.2.1 I
 refine(h g' ⟨rfl,rfl,rfl,A' _,λc M=>?_,λ_ _=>A' _,λ_ _ _ _=>rfl,λ_ _ _ _=>rfl,λ_ _ _ _=>rfl⟩).ex ⟨λx e=>?_,?_,λc M=>?_,q.base⟩
 .show(if c=b then _ else _)=_\/(_/\_/\(if c=b then _ else _)=_);by_cases a:c=b
  .subst a;right;exact⟨H,E,if_pos rfl⟩
  .left;exact if_neg a
 .unfold zL at e;simp only at e;rw[N]at e
  obtain⟨n,D,rfl⟩:=oU e;have C:n<L.length:=by simpa using D
  rw[oE];split
  .refine⟨d.1,?_,λh=>(by cases h),λh=>absurd rfl h⟩;show(if L[k].g=b then _ else _)=_;rw[if_pos r]
  .rename_i o
   have p:=q.row _ (np C);refine⟨p.1,?_,p.2.2⟩;show(if L[n].g=b then _ else _)=_;rw[if_neg (G n C (λh=>o h.symm))];exact p.2.1
 .show(zL L k).Pairwise _;unfold zL;rw[N,oe];intro i j Q U S a;have u:i<L.length:=by simpa using Q
  have v:j<L.length:=by simpa using U
  rw[oE,oE]at a ⊢
  by_cases p:k=i
  .rw[if_pos p]at a ⊢
   rw[if_neg (by omega)]at a ⊢
   exact absurd a.symm (by show L[j].g≠L[k].g;rw[r];exact G j v (by omega))
  .rw[if_neg p]at a ⊢
   by_cases J:k=j
   .rw[if_pos J]at a ⊢
    exact absurd a (by show L[i].g≠L[k].g;rw[r];exact G i u (by omega))
   .rw[if_neg J]at a ⊢
    exact q.two u v (by omega) a
 .have:=q.new c M;show(if c=b then _ else _)=_/\_;refine⟨?_,this.2⟩;split
  .rfl
  .exact this.1
end
end
def gS:Gh:=⟨λ_=>.z,λ_=>0⟩
section
variable{P:Program}{fn:Func}{R:Ending->World->Prop}{B:Nat}{T:List Tg}{g:Gh}{w:World}
def lG(s:Xs)(i j l:Nat):Bool:=match s.K with|.x ops (_+1) Ld _ _::_=>(match Region.ready .any ops Ld with|[a,b,c]=>Nat.beq a i&&(Nat.beq b j&&Nat.beq c l)|_=>false)|_=>false
theorem YA{s:Xs}(i j l:Nat)(d:lG s i j l=true)(r:GG P fn R B T (JY s i) g w)(v:GG P fn R B T (JY s j) g w)(y:GG P fn R B T (JY s l) g w):GG P fn R B T s g w:=by
 refine⟨λn=>?_⟩;obtain⟨K,f,L⟩:=s;have h:=r.ex;have k:=v.ex;have m:=y.ex;unfold JY at h k m;unfold lG at d;cases K with
 | nil=>cases d
 | cons t K =>
  cases t with
  | x ops u Ld e L0 =>
   cases u with
   | zero=>cases d
   | succ u =>
    simp only at h k m d;have o:Region.ready .any ops Ld=[i,j,l]:=by
     split at d
     .rename_i a b c hk
      simp only[mU]at d;rw[hk,mY d.1,mY d.2.1,mY d.2.2]
     .cases d
    refine⟨λp=>absurd (o▸p) (by simp),o▸(λq z=>?_)⟩;rcases(show q=i\/q=j\/q=l by simpa using z)with rfl|rfl|rfl
    .exact h n
    .exact k n
    .exact m n
  | _=>cases d
def Vb:List Sh->List Sh
 | [a,b]=>[b,a]
 | a::l=>a::Vb l
 | []=>[]
theorem Iz:∀ L:List Sh,(Vb L).Perm L
 | []=>.refl _
 | [a]=>by simp[Vb]
 | [a,b]=>.swap _ _ _
 | a::b::c::l=>(Iz (b::c::l)).cons a
theorem Om{s:Xs}(h:GG P fn R B T ⟨s.K,s.f,Vb s.L⟩ g w):GG P fn R B T s g w:=by
 refine⟨λa=>h.ex ⟨λx c=>a.row x ((Iz s.L).mem_iff.1 c),?_,a.new,a.base⟩⟩;refine(Iz s.L).symm.pairwise a.sA ?_;intro x y b e;have:=b e.symm;exact⟨this.2,this.1⟩
theorem lY{s:Xs}{r i:Nat}{e:TypeId}{p:Nat}{x:S3}{m:List Value}(c:OwnS g w (.n r i) false e p x m)(q:s.L.all (λy=>y.t.ne (.n r i))=true)(h:∀ g',Cg B [.n r i] g w g' w->OwnS g' w (.n r i) true e p x m->GG P fn R B T s g' w):GG P fn R B T s g w:=by
 refine⟨λa=>?_⟩;rcases c.ex with h1|⟨b,cur,h1,h2,h3,h4,h5,h6,h7,h8⟩
 .exact(h g (Cg.refl _ _ _ _) ⟨c.len,.inl h1⟩).ex a
 .have h80:g.k b=0:=h8;have u:b<w.heap.size:=(Q'.1 h2).1;refine(h (jY g b m.length) ⟨rfl,rfl,rfl,A' _,λ_ _=>.inl rfl,λd f=>?_,λd f j _=>if_neg (λe=>j (by rw[e,h7];exact D'.2 rfl)),λ_ _ _ _=>rfl,λ_ _ _ _=>rfl⟩ ⟨c.len,.inr ⟨b,cur,h1,h2,h3,h4,h5,h6,h7,if_pos rfl⟩⟩).ex ⟨λy o=>?_,a.sA,λd f=>?_,a.base⟩
  .show g.k d<=(if d=b then _ else g.k d);split
   .rename_i e;rw[e,h80];exact mW _
   .exact A' _
  .obtain⟨k1,k2,k3,k4⟩:=a.row y o;refine⟨k1,k2,k3,λv=>?_⟩;show(if y.g=b then _ else g.k y.g)=0;rw[if_neg (λe=>Tg.sE (nP.1 q y o) (by rw[<- k2,e,h7]))];exact k4 v
  .have:=a.new d f;refine⟨this.1,?_⟩;show(if d=b then _ else g.k d)=0;rw[if_neg (by omega)];exact this.2
end
theorem XM{P:Program}{s:Xs}{a:Nat}{S:Sem Value}{v:Value}{W:World}(h:Dz s a=some (S>>=λv=>pure (.value v)))(b:S.run P W=.ok v W):Dh P s a W=some (.ok (.value v) W):=by
 unfold Dh;unfold Dz at h;cases hx:opN s a with
 | none=>rw[hx]at h;cases h
 | some x =>
  rw[hx]at h
  simp only[nD,X']at h ⊢;rw[h,Sem.run_bind,b,Result.andThen_ok];rfl
section
variable{P:Program}{W:World}
section
theorem kL(d:Array TypeId)(t:TypeId)(a b:Int):(Builtin.max_ d t #[iv a,iv b]).run P W=.ok (iv (max a b)) W:=by
 rw[run_max_int2]
 congr 2
 rw[Int.max_def];by_cases h:a<b
 .rw[if_pos h,if_pos (by omega)]
 .rw[if_neg h];by_cases c:a<=b
  .rw[if_pos c];omega
  .rw[if_neg c]
theorem jd(c:Array TypeId)(t:TypeId)(a b:Int):(Builtin.min_ c t #[iv a,iv b]).run P W=.ok (iv (min a b)) W:=by
 rw[run_min_int2]
 congr 2
 rw[Int.min_def];by_cases h:b<a
 .rw[if_pos h,if_neg (by omega)]
 .rw[if_neg h,if_pos (by omega)]
variable{t:TypeId}{x y:Operand}
theorem Mw(a b:Int)(d:P.underlying t=some (.int .i64))(h:-9223372036854775808<=a+b/\a+b<=9223372036854775807):(do Go.eqGuard .add t x y (iv a) (iv b);Go.binOp .add t (iv a) (iv b):Sem Value).run P W=.ok (iv (a+b)) W:=by
 have c:IntKind.i64.wrap (a+b)=a+b:=by rw[IntKind.wrap_i64];omega
 simp[Go.eqGuard,Go.binOp,go_sem,c]
theorem Bg(k:Nat)(a:Int)(b:P.underlying 3=some (.int .i64))(h:-9223372036854775808<=a+1/\a+1<=9223372036854775807):(do Go.eqGuard .add 3 (.tmp k) (.const (iv 1)) (iv a) (iv 1);Go.binOp .add 3 (iv a) (iv 1):Sem Value).run P W=.ok (iv (a+1)) W:=Mw a 1 b h
theorem kY(a b:Int)(d:P.underlying t=some (.int .i64))(h:-9223372036854775808<=a-b/\a-b<=9223372036854775807):(do Go.eqGuard .sub t x y (iv a) (iv b);Go.binOp .sub t (iv a) (iv b):Sem Value).run P W=.ok (iv (a-b)) W:=by
 have c:IntKind.i64.wrap (a-b)=a-b:=by rw[IntKind.wrap_i64];omega
 simp[Go.eqGuard,Go.binOp,go_sem,c]
end
end
section
theorem Uo(a b:Bal):decide (a.r=b.r/\a.n=b.n)=decide (a=b):=nI.2 (Bal.eq_iff a b)
variable{W:World}{x y:Operand}
theorem me(a b:Bal):(do Go.eqGuard .eql 73 x y (.agg #[iv a.r,iv a.n]) (.agg #[iv b.r,iv b.n]);Go.binOp .eql 73 (.agg #[iv a.r,iv a.n]) (.agg #[iv b.r,iv b.n]):Sem Value).run prog W=.ok (.bool (decide (a=b))) W:=by
 have c:=de a.r a.n b.r b.n W;rw[Uo]at c
 have d:(Go.eqGuard .eql 73 x y (.agg #[iv a.r,iv a.n]) (.agg #[iv b.r,iv b.n])).run prog W=.ok () W:=by kernel_rfl
 rw[Sem.run_bind,d,Result.andThen_ok];exact c
theorem iK(a b c d:Int):∀ w,(binOp .neq 73 (.agg #[.int .i64 a,.int .i64 b]) (.agg #[.int .i64 c,.int .i64 d])).run prog w=.ok (.bool (!decide (a=c/\b=d))) w:=by
 intro w;rw[run_neq_struct,run_equalIn_agg w 9999 _ _ _ (by kernel_rfl) (by kernel_rfl)];unfold Program.fieldsOf;rw[underlying73];have e:=underlying3;simp[Op.eqFields,go_sem,e]
 repeat' split
 all_goals simp_all
theorem kM(a b:Bal):(do Go.eqGuard .neq 73 x y (.agg #[iv a.r,iv a.n]) (.agg #[iv b.r,iv b.n]);Go.binOp .neq 73 (.agg #[iv a.r,iv a.n]) (.agg #[iv b.r,iv b.n]):Sem Value).run prog W=.ok (.bool (!decide (a=b))) W:=by
 have c:=iK a.r a.n b.r b.n W;rw[Uo]at c
 have d:(Go.eqGuard .neq 73 x y (.agg #[iv a.r,iv a.n]) (.agg #[iv b.r,iv b.n])).run prog W=.ok () W:=by kernel_rfl
 rw[Sem.run_bind,d,Result.andThen_ok];exact c
theorem Ut(a b:Cmd):decide (a.k=b.k/\a.c=b.c/\a.s=b.s/\a.n=b.n/\a.v=b.v)=decide (a=b):=nI.2 (Cmd.eq_iff a b)
theorem mf(a b:Cmd):(do Go.eqGuard .eql 53 x y (.agg #[iv a.k,iv a.c,iv a.s,iv a.n,iv a.v]) (.agg #[iv b.k,iv b.c,iv b.s,iv b.n,iv b.v]);Go.binOp .eql 53 (.agg #[iv a.k,iv a.c,iv a.s,iv a.n,iv a.v]) (.agg #[iv b.k,iv b.c,iv b.s,iv b.n,iv b.v]):Sem Value).run prog W=.ok (.bool (decide (a=b))) W:=by
 have d:=U6 a.k a.c a.s a.n a.v b.k b.c b.s b.n b.v W;rw[Ut]at d
 have e:(Go.eqGuard .eql 53 x y (.agg #[iv a.k,iv a.c,iv a.s,iv a.n,iv a.v]) (.agg #[iv b.k,iv b.c,iv b.s,iv b.n,iv b.v])).run prog W=.ok () W:=by kernel_rfl
 rw[Sem.run_bind,e,Result.andThen_ok];exact d
theorem IZ(a b:Bal)(h:a≠b):(do Go.eqGuard .neq 73 x y (.agg #[iv a.r,iv a.n]) (.agg #[iv b.r,iv b.n]);Go.binOp .neq 73 (.agg #[iv a.r,iv a.n]) (.agg #[iv b.r,iv b.n]):Sem Value).run prog W=.ok (.bool true) W:=by rw[kM,E' h];rfl
theorem IY(a b:Bal)(h:a=b):(do Go.eqGuard .neq 73 x y (.agg #[iv a.r,iv a.n]) (.agg #[iv b.r,iv b.n]);Go.binOp .neq 73 (.agg #[iv a.r,iv a.n]) (.agg #[iv b.r,iv b.n]):Sem Value).run prog W=.ok (.bool false) W:=by rw[kM,O' h];rfl
theorem rk{j:Nat}(h:j<5):j=0\/j=1\/j=2\/j=3\/j=4:=by omega
theorem GJ:∀ ts:List Tol,(ts.flatMap FY).length=ts.length*5
 | []=>rfl
 | t::r=>by rw[oM,H',GJ r,m7];show 5+_=_;omega
end
section
variable{P:Program}{fn:Func}{R:Ending->World->Prop}{B:Nat}{T:List Tg}{g:Gh}{w:World}
section
variable{B' i nb ob:Nat}{L:List Sh}{T':List Tg}{g0:Gh}{ls:List Let}{lt tl:S3}{p p0:Nod}{s:Xs}{ts:List Tol}{v:Value}{w0:World}{x x0:NX}
theorem qR(a:List Tg)(m:Nat)(h:List Nat)(c:∀ gs g' w',Cg B a g w g' w'->GG P fn R B T (rn0 P a gs m s h).s g' w')(b:∀ gs,(rn0 P a gs m s h).o.map Ob.l'=(rn0 P a gs m s h).o.map Ob.r':=by intro _;kernel_rfl):GG P fn R B T s g w:=du a m h b c
theorem qV(i:Nat)(v:Value){S:Sem Value}(c:S.run P w=.ok v w)(b:GG P fn R B T (nxt s i v s.L).s g w)(d:Dz s i=some (S>>=λv=>pure (.value v)):=by kernel_rfl)(a:(nxt s i undef s.L).o.map Ob.l'=(nxt s i undef s.L).o.map Ob.r':=by kernel_rfl):GG P fn R B T s g w:=dw i v (λ_=>XM d c) a b
theorem qT(i:Nat)(v:Value){S:Sem Value}(c:∀ W,S.run P W=.ok v W)(b:GG P fn R B T (tkN s i v false).s g w)(d:Dz s i=some (S>>=λv=>pure (.value v)):=by kernel_rfl)(a:(tkN s i undef false).o.map Ob.l'=(tkN s i undef false).o.map Ob.r':=by kernel_rfl):GG P fn R B T s g w:=Q5 i v false (λW _=>XM d (c W)) a b
theorem qU(i:Nat)(v:Value){S:Sem Value}(c:∀ W,(true=true->AU (aE s) W)->S.run P W=.ok v W)(b:GG P fn R B T (tkN s i v true).s g w)(d:Dz s i=some (S>>=λv=>pure (.value v)):=by kernel_rfl)(a:(tkN s i undef true).o.map Ob.l'=(tkN s i undef true).o.map Ob.r':=by kernel_rfl):GG P fn R B T s g w:=Q5 i v true (λW h=>XM d (c W h)) a b
theorem qI(b t:Bool)(a:b=t)(h:GG P fn R B T (LE s t) g w)(c:Qn s=.bool b:=by kernel_rfl):GG P fn R B T s g w:=gIf b t a c h
theorem qC(i:Nat){f:FuncId}{a:Array Value}{C:Ending->World->Prop}(c:Calls P f a w C)(h:∀ e w',C e w'->∃ v,e=.returned v/\Bw w w'/\GG P fn R B T (nxt s i v s.L).s g w')(j:∀ W,Dh P s i W=some (.ok (.enter f a) W):=by intro _;kernel_rfl)(d:KI s i=true:=by kernel_rfl)(b:(nxt s i undef s.L).o.map Ob.l'=(nxt s i undef s.L).o.map Ob.r':=by kernel_rfl):GG P fn R B T s g w:=ix i f a j d b c h
theorem qG(i:Nat)(a:List Tg)(m:List Bool){f:FuncId}{c:Array Value}{C:Ending->World->Prop}(j:Calls P f c w C)(q:∀ e w',C e w'->∃ v g',e=.returned v/\Cg w.heap.size a g w g' w'/\(∀ b,w'.heap.size<=b->g'.t b=.z/\g'.k b=0)/\GG P fn R B T (nxt s i v (AG m s.L)).s g' w')(r:∀ W,Dh P s i W=some (.ok (.enter f c) W):=by intro _;kernel_rfl)(p:KI s i=true:=by kernel_rfl)(d:(nxt s i undef (AG m s.L)).o.map Ob.l'=(nxt s i undef (AG m s.L)).o.map Ob.r':=by kernel_rfl)(h:(AG m s.L).all (λx=>a.all λt=>x.t.ne t)=true:=by kernel_rfl):GG P fn R B T s g w:=SG i f c a m r p d h j q
theorem qE(v:Value)(h:Kn B g w s.L->R (.returned v) w)(a:Kn B g w s.L->(results fn s.f.act.tmps).run P w=.ok v w:=by intro _;kernel_rfl)(b:Ns s.K=true:=by kernel_rfl):GG P fn R B T s g w:=VM v b a h
theorem qB{J:Act->World->Prop}{n:Nat}{e:List (Nat × Value)}(m:List Bool){a:List Sh}(h:∀ z,Kn B g w s.L->Kn B g w a->J (⟨n,e,z⟩:Fm).act w)(i:isJ s.K=true:=by kernel_rfl)(b:jK s.K=J:=by kernel_rfl)(j:s.f.n=n:=by kernel_rfl)(d:e.map (λp=>lk s.f.z s.f.e p.1)=e.map (·.2):=by kernel_rfl)(c:BS (AG m s.L)=a:=by kernel_rfl):GG P fn R B T s g w:=ED J n e m a i b j d c h
theorem Kn.sP(h:Kn B g w L){i b:Nat}{d:Array Value}(a:(L[i]?).map (λx=>(x.g,CY x.o,Ew x.o))=some (b,d,true)):∃ e,w.heap[b]?=some (.cells d e (0,0)):=by
 cases hi:L[i]? with
 | none=>rw[hi]at a;cases a
 | some x =>
  rw[hi]at a
  have f:=(h.row x (m8 hi)).1;obtain⟨j,k,q,m⟩:=x;simp only[nD,X',nF]at a f;obtain⟨rfl,rfl,c⟩:=a;rw[f];unfold Ew at c;split at c
  .exact⟨_,rfl⟩
  .cases c
theorem It{a:TypeId}(h:GE P a=true):∃ d,P.underlying a=some d/\d.isRow=true:=by
 unfold GE at h;split at h
 .rename_i d hd
  exact⟨d,hd,h⟩
 .cases h
theorem qE1(p:Tmp)(c:TypeId)(i b:Nat)(a:Array Value)(h:Kn B g w s.L->R (.returned (.agg a)) w)(q:(s.L[i]?).map (λx=>(x.g,CY x.o,Ew x.o))=some (b,a,true):=by kernel_rfl)(j:fn.results=#[.cell p c]:=by kernel_rfl)(l:s.f.act.tmps.getD p undef=pt b 0:=by kernel_rfl)(n:GE P c=true:=by kernel_rfl)(k:(P.info? c).map (·.size)=some a.size:=by kernel_rfl)(m:Ns s.K=true:=by kernel_rfl):GG P fn R B T s g w :=
 VM _ m (λK=>let ⟨e,he⟩:=K.sP q;let ⟨d,h1,h2⟩:=It n;bv j _ _ b e a (0,0) d l he h1 (by cases d<;>first|rfl|cases h2) k) h
theorem qE2(p u:Tmp)(c:TypeId)(i b:Nat)(a:Array Value)(v:Value)(h:Kn B g w s.L->R (.returned (.tuple #[.agg a,v])) w)(r:(s.L[i]?).map (λx=>(x.g,CY x.o,Ew x.o))=some (b,a,true):=by kernel_rfl)(j:fn.results=#[.cell p c,.tmp u]:=by kernel_rfl)(l:s.f.act.tmps.getD p undef=pt b 0:=by kernel_rfl)(q:s.f.act.tmps.getD u undef=v:=by kernel_rfl)(n:GE P c=true:=by kernel_rfl)(k:(P.info? c).map (·.size)=some a.size:=by kernel_rfl)(m:Ns s.K=true:=by kernel_rfl):GG P fn R B T s g w :=
 VM _ m (λK=>let ⟨e,he⟩:=K.sP r;let ⟨d,h1,h2⟩:=It n;by rw[<- q];exact Vc j _ _ b e a (0,0) d l he h1 (by cases d<;>first|rfl|cases h2) k) h
theorem qE3(p u k:Tmp)(j:TypeId)(i b:Nat)(a:Array Value)(v l:Value)(h:Kn B g w s.L->R (.returned (.tuple #[.agg a,v,l])) w)(z:(s.L[i]?).map (λx=>(x.g,CY x.o,Ew x.o))=some (b,a,true):=by kernel_rfl)(m:fn.results=#[.cell p j,.tmp u,.tmp k]:=by kernel_rfl)(q:s.f.act.tmps.getD p undef=pt b 0:=by kernel_rfl)(y:s.f.act.tmps.getD u undef=v:=by kernel_rfl)(c:s.f.act.tmps.getD k undef=l:=by kernel_rfl)(t:GE P j=true:=by kernel_rfl)(n:(P.info? j).map (·.size)=some a.size:=by kernel_rfl)(r:Ns s.K=true:=by kernel_rfl):GG P fn R B T s g w :=
 VM _ r (λK=>let ⟨e,he⟩:=K.sP z;let ⟨d,h1,h2⟩:=It t;by rw[<- y,<- c];exact ky m _ _ b e a (0,0) d q he h1 (by cases d<;>first|rfl|cases h2) n) h
theorem qE4(p u:Tmp)(t c:TypeId)(i b j l:Nat)(k a:Array Value)(h:Kn B g w s.L->R (.returned (.tuple #[.agg k,.agg a])) w)(D:(s.L[i]?).map (λx=>(x.g,CY x.o,Ew x.o))=some (b,k,true):=by kernel_rfl)(r:(s.L[j]?).map (λx=>(x.g,CY x.o,Ew x.o))=some (l,a,true):=by kernel_rfl)(v:fn.results=#[.cell p t,.cell u c]:=by kernel_rfl)(z:s.f.act.tmps.getD p undef=pt b 0:=by kernel_rfl)(n:s.f.act.tmps.getD u undef=pt l 0:=by kernel_rfl)(C:GE P t=true:=by kernel_rfl)(q:GE P c=true:=by kernel_rfl)(y:(P.info? t).map (·.size)=some k.size:=by kernel_rfl)(m:(P.info? c).map (·.size)=some a.size:=by kernel_rfl)(A:Ns s.K=true:=by kernel_rfl):GG P fn R B T s g w :=
 VM _ A (λK=>let ⟨e,he⟩:=K.sP D;let ⟨e',he'⟩:=K.sP r;let ⟨d,h1,h2⟩:=It C;let ⟨d',h3,h4⟩:=It q;jQ v _ _ b l e e' k a (0,0) (0,0) d d' z he h1 (by cases d<;>first|rfl|cases h2) y n he' h3 (by cases d'<;>first|rfl|cases h4) m) h
theorem qE5(p y u:Tmp)(t c:TypeId)(i b j l:Nat)(k a:Array Value)(v:Value)(h:Kn B g w s.L->R (.returned (.tuple #[.agg k,.agg a,v])) w)(G:(s.L[i]?).map (λx=>(x.g,CY x.o,Ew x.o))=some (b,k,true):=by kernel_rfl)(r:(s.L[j]?).map (λx=>(x.g,CY x.o,Ew x.o))=some (l,a,true):=by kernel_rfl)(z:fn.results=#[.cell p t,.cell y c,.tmp u]:=by kernel_rfl)(C:s.f.act.tmps.getD p undef=pt b 0:=by kernel_rfl)(n:s.f.act.tmps.getD y undef=pt l 0:=by kernel_rfl)(F:s.f.act.tmps.getD u undef=v:=by kernel_rfl)(E:GE P t=true:=by kernel_rfl)(q:GE P c=true:=by kernel_rfl)(A:(P.info? t).map (·.size)=some k.size:=by kernel_rfl)(m:(P.info? c).map (·.size)=some a.size:=by kernel_rfl)(D:Ns s.K=true:=by kernel_rfl):GG P fn R B T s g w :=
 VM _ D (λK=>let ⟨e,he⟩:=K.sP G;let ⟨e',he'⟩:=K.sP r;let ⟨d,h1,h2⟩:=It E;let ⟨d',h3,h4⟩:=It q;by rw[<- F];exact jR z _ _ b l e e' k a (0,0) (0,0) d d' C he h1 (by cases d<;>first|rfl|cases h2) A n he' h3 (by cases d'<;>first|rfl|cases h4) m) h
theorem qN(h:NodeAt g w i nb ob x p)(b:GG P fn R B T ⟨s.K,s.f,BS s.L++[⟨nb,.cells (AF i ob p x) 95,.n 0 i,false⟩]⟩ g w)(a:s.L.all (λy=>(Tg.n 0 i).ne y.t)=true:=by kernel_rfl):GG P fn R B T s g w:=IG nb _ 0 i h.row h.tag h.sa a b
theorem qO(h:OutAt g w ob lt tl ls ts)(b:GG P fn R B T ⟨s.K,s.f,BS s.L++[⟨ob,.cells #[lt.v,tl.v] 65,.n 50 0,false⟩]⟩ g w)(a:s.L.all (λy=>(Tg.n 50 0).ne y.t)=true:=by kernel_rfl):GG P fn R B T s g w:=IG ob _ 50 0 h.row h.tag h.sa a b
theorem qS0(n:Nat)(m:List Bool){f:FuncId}{j:Array Value}{i nb a:Nat}{v:Value}{p:Nod}{k:List Let}{q:List Tol}(u:Calls P f j w (NP i nb a g w v p k q))(C:∀ g' w' x lt tl,NodeAt g' w' i nb a x p->OutAt g' w' a lt tl k q->Cg B (TN i) g w g' w'->GG P fn R B T ⟨(nxt s n v (AG m s.L)).s.K,(nxt s n v (AG m s.L)).s.f,BS (BS (nxt s n v (AG m s.L)).s.L++[⟨nb,.cells (AF i a p x) 95,.n 0 i,false⟩])++[⟨a,.cells #[lt.v,tl.v] 65,.n 50 0,false⟩]⟩ g' w')(D:∀ W,Dh P s n W=some (.ok (.enter f j) W):=by intro _;kernel_rfl)(A:KI s n=true:=by kernel_rfl)(h:(nxt s n undef (AG m s.L)).o.map Ob.l'=(nxt s n undef (AG m s.L)).o.map Ob.r':=by kernel_rfl)(r:(AG m s.L).all (λx=>(TN i).all λt=>x.t.ne t)=true:=by kernel_rfl)(b:(nxt s n v (AG m s.L)).s.L.all (λy=>(Tg.n 0 i).ne y.t)=true:=by kernel_rfl)(d:∀ x:NX,(BS (nxt s n v (AG m s.L)).s.L++[(⟨nb,.cells (AF i a p x) 95,.n 0 i,false⟩:Sh)]).all (λy=>(Tg.n 50 0).ne y.t)=true:=by intro _;kernel_rfl):GG P fn R B T s g w :=
 qG n (TN i) m u (λ_ w' ⟨g',e,M,c⟩=>⟨v,g',e,c,M.new,let ⟨x,lt,tl,hN,hO,_⟩:=M;qN hN (qO hO (C g' w' x lt tl hN hO c.ret) (d x)) b⟩) D A h r
theorem qS(n:Nat)(m:List Bool){f:FuncId}{D:Array Value}{i nb a H:Nat}{d:List Tg}{e:Gh}{A:World}{Y:NX}{q u:S3}{v:Value}{F p:Nod}{b E:List Let}{c G:List Tol}(I:NodeAt e A i nb a Y F)(J:OutAt e A a q u b c)(C:Cg H d e A g w)(N:NS i nb a g w F b c->Calls P f D w (NP i nb a g w v p E G))(Q:∀ g' w' x lt tl,NodeAt g' w' i nb a x p->OutAt g' w' a lt tl E G->Cg B (TN i) g w g' w'->GG P fn R B T ⟨(nxt s n v (AG m s.L)).s.K,(nxt s n v (AG m s.L)).s.f,BS (BS (nxt s n v (AG m s.L)).s.L++[⟨nb,.cells (AF i a p x) 95,.n 0 i,false⟩])++[⟨a,.cells #[lt.v,tl.v] 65,.n 50 0,false⟩]⟩ g' w')(X:Tg.z∉d:=by simp)(S:∀ r,r<6->Tg.n r i∉d:=by simp)(U:∀ r,50<=r->Tg.n r 0∉d:=by simp)(V:∀ W,Dh P s n W=some (.ok (.enter f D) W):=by intro _;kernel_rfl)(O:KI s n=true:=by kernel_rfl)(k:(nxt s n undef (AG m s.L)).o.map Ob.l'=(nxt s n undef (AG m s.L)).o.map Ob.r':=by kernel_rfl)(M:(AG m s.L).all (λx=>(TN i).all λt=>x.t.ne t)=true:=by kernel_rfl)(h:(nxt s n v (AG m s.L)).s.L.all (λy=>(Tg.n 0 i).ne y.t)=true:=by kernel_rfl)(j:∀ x:NX,(BS (nxt s n v (AG m s.L)).s.L++[(⟨nb,.cells (AF i a p x) 95,.n 0 i,false⟩:Sh)]).all (λy=>(Tg.n 50 0).ne y.t)=true:=by intro _;kernel_rfl):GG P fn R B T s g w :=
 Af λK=>qS0 n m (N (nsC I J C K X S U)) Q V O k M h j
theorem qF{a:Gh}{b:World}(d:NodeAt a b i nb ob x p)(e:OutAt a b ob lt tl ls ts)(c:Cg B' T' a b g w)(C:Cg w0.heap.size (TN i) g0 w0 g w)(o:Tg.z∉T':=by simp)(h:∀ r,r<6->Tg.n r i∉T':=by simp)(j:∀ r,50<=r->Tg.n r 0∉T':=by simp)(k:Kn w0.heap.size g w s.L->(results fn s.f.act.tmps).run P w=.ok v w:=by intro _;kernel_rfl)(m:Ns s.K=true:=by kernel_rfl):GG P fn (NP i nb ob g0 w0 v p ls ts) w0.heap.size T s g w :=
 qE v (λK=>⟨_,rfl,nsC d e c K o h j,C⟩) k m
theorem Kn.nd(h:Kn B g w L)(k:Nat)(a:FSl g w x.tape p.d)(c:FSv g w x.mv p.vo.vs)(e:∀ j,j<5->FSv g w (x.hv j) (p.av.an j).vs)(f:∃ vs,OwnS g w (.n 1 i) true 1 1 x.synced vs/\Pends g w nb vs p.bu)(l:OwnS g w (.n 2 i) false 53 5 x.fa (cmL p.av.fa))(m:OwnS g w (.n 3 i) true 53 5 x.ab (cmL p.ab))(o:OwnS g w (.n 4 i) false 53 5 x.bn (cmL p.bn))(r:X0 g w i p.bN x.bN)(s:p.up=true->∃ b,x.bN=some b)(t:L[k]?=some ⟨nb,.cells (AF i ob p x) 95,.n 0 i,false⟩:=by kernel_rfl):NodeAt g w i nb ob x p :=
 have q:=h.rV k nb _ 0 i t
 ⟨q.1,q.2.1,q.2.2,a,c,e,f,l,m,o,r,s⟩
theorem Kn.sS{C:Nat}{f:List Tg}(h:Kn B g w L)(k:Nat)(a:NodeAt g0 w0 i nb ob x0 p0)(c:Cg C f g0 w0 g w)(I:L[k]?=some ⟨nb,.cells (AF i ob p x) 95,.n 0 i,false⟩:=by kernel_rfl)(e:Tg.z∉f:=by simp)(b:∀ r,1<=r->r<6->Tg.n r i∉f:=by simp;try omega)(o:x=x0:=by rfl)(s:p.d=p0.d:=by rfl)(t:p.vo.vs=p0.vo.vs:=by rfl)(u:p.av.an=p0.av.an:=by rfl)(v:p.bu=p0.bu:=by rfl)(y:p.av.fa=p0.av.fa:=by rfl)(A:p.ab=p0.ab:=by rfl)(D:p.bn=p0.bn:=by rfl)(E:p.bN=p0.bN:=by rfl)(m:p.up=p0.up:=by rfl):NodeAt g w i nb ob x p:=by
 have q:=h.rV k nb _ 0 i I;subst o;obtain⟨vs,F,G⟩:=a.bu;exact⟨q.1,q.2.1,q.2.2,by rw[s];exact a.tape.ch c e,by rw[t];exact a.mv.ch c e,by rw[u];exact λj H=>(a.an j H).ch c e,by rw[v];exact⟨vs,F.ch c (b 1 (by omega) (by omega)) (by simp),G.ch c e⟩,by rw[y];exact a.fa.ch c (b 2 (by omega) (by omega)) (by simp),by rw[A];exact a.ab.ch c (b 3 (by omega) (by omega)) (by simp),by rw[D];exact a.bn.ch c (b 4 (by omega) (by omega)) (by simp),by rw[E];exact a.bN.ch c (b 5 (by omega) (by omega)),by rw[m];exact a.se⟩
theorem Kn.od(h:Kn B g w L)(k:Nat)(a:∃ bs:List Nat,OwnS g w (.n 51 0) false 141 1 lt (bs.map (pt · 0))/\Lets g w bs ls)(b:OwnS g w (.n 52 0) false 101 5 tl (ts.flatMap FY))(c:L[k]?=some ⟨ob,.cells #[lt.v,tl.v] 65,.n 50 0,false⟩:=by kernel_rfl):OutAt g w ob lt tl ls ts :=
 have q:=h.rV k ob _ 50 0 c
 ⟨q.1,q.2.1,q.2.2,a,b⟩
end
end
section
structure RdC(w:World)(x:S3)(l:List Cmd):Prop where
 len:x.n=l.length
 cap:x.n<=x.c
 sF:x.a=none->x.c=0
 ex:l=[]\/∃ b off,x.a=some ⟨b,off,none⟩/\b<w.heap.size/\∀ j u,(cmL l)[j]?=some u->w.cell? ⟨b,off+j,none⟩=some u
variable{g:Gh}{l:List Cmd}{w:World}{x:S3}
theorem OwnS.rd{τ:Tg}{i:Bool}{e:TypeId}(h:OwnS g w τ i e 5 x (cmL l)):RdC w x l:=by
 have c:=h.num;rcases h.ex with⟨h1,h2,h3⟩|⟨b,cur,h1,h2,h3,h4,h5,h6,h7,h8⟩
 .exact⟨c,by omega,λ_=>h3,.inl (Z' (by omega))⟩
 .refine⟨c,h3,λh=>(by rw[h1]at h;cases h),.inr ⟨b,0,h1,rl h2,λj u f=>?_⟩⟩;obtain⟨k,a,_,d⟩:=h.cell f;rw[h1]at a
  simp only[X',Addr.mk.injEq,and_true]at a;subst a;rw[nt];exact d
theorem RdC.af{d:World}(h:RdC w x l)(b:Bw w d):RdC d x l :=
 ⟨h.len,h.cap,h.sF,h.ex.imp id λ⟨k,a,e,c,f⟩=>⟨k,a,e,j' c b.size,λj u g=>(b.cell (p:=⟨k,a+j,none⟩) c).trans (f j u g)⟩⟩
def S3.cut(x:S3)(l h:Nat):S3:=⟨if x.c=l then x.a else x.a.map (·.add (l*5)),h-l,x.c-l⟩
theorem Rc.drop(h:Rc g w x l){k:Nat}(i:k<=l.length):Rc g w (x.cut k x.n) (l.drop k):=by
 have e:=h.len;have f:=h.cap;refine⟨by simp[S3.cut,e],by simp only[S3.cut];omega,λc=>?_,?_⟩
 .simp only[S3.cut]at c ⊢;split at c
  .omega
  .cases ha:x.a with
   | none=>have:=h.sF ha;omega
   | some a=>rw[ha]at c;cases c
 .rcases h.ex with rfl|⟨b,off,h1,h2,h3,h4⟩
  .exact .inl (by simp)
  .by_cases he:k=l.length
   .exact .inl (by rw[he];simp)
   .refine .inr ⟨b,off+k*5,?_,h2,λj u d=>?_,?_⟩
    .simp only[S3.cut];rw[if_neg (by omega),h1];simp only[nD,X'];unfold Addr.add;split
     .rename_i h0;rw[show k=0 by omega];simp
     .simp
    .rw[<- LB,nC]at d
     have:=h3 _ u d;rw[show off+k*5+j=off+(5*k+j)by omega];exact this
    .rcases h4 with h4|h4
     .exact .inl h4
     .right;rw[mI];omega
theorem Rc.addr(h:Rc g w x l){k:Nat}(c:k<l.length):∃ b off,x.a=some ⟨b,off,none⟩:=by
 rcases h.ex with rfl|⟨b,off,h2,_⟩
 .simp at c
 .exact⟨b,off,h2⟩
theorem Rc.cellAt(h:Rc g w x l){b d j q:Nat}{c:Cmd}{u:Value}(f:x.a=some ⟨b,d,none⟩)(e:l[j]?=some c)(i:(cmV c)[q]?=some u):w.cell? ⟨b,d+5*j+q,none⟩=some u:=by
 rcases h.ex with rfl|⟨b',off',h1,h2,h3,_⟩
 .cases e
 .rw[f]at h1
  simp only[X',Addr.mk.injEq,and_true]at h1;obtain⟨rfl,rfl⟩:=h1;rw[nH];exact h3 _ u (OZ e i)
theorem RdC.cellAt(h:RdC w x l){b d j q:Nat}{c:Cmd}{u:Value}(f:x.a=some ⟨b,d,none⟩)(e:l[j]?=some c)(g:(cmV c)[q]?=some u):w.cell? ⟨b,d+5*j+q,none⟩=some u:=by
 rcases h.ex with rfl|⟨b',off',h1,h2,h3⟩
 .cases e
 .rw[f]at h1
  simp only[X',Addr.mk.injEq,and_true]at h1;obtain⟨rfl,rfl⟩:=h1;rw[nH];exact h3 _ u (OZ e g)
theorem RdC.addr(h:RdC w x l){k:Nat}(c:k<l.length):∃ b off,x.a=some ⟨b,off,none⟩:=by
 rcases h.ex with rfl|⟨b,off,h2,_⟩
 .simp at c
 .exact⟨b,off,h2⟩
theorem XY(l:List Cmd)(k:Nat){j:Nat}{u:Value}(h:(cmL (l.take k))[j]?=some u):(cmL l)[j]?=some u:=by
 have a:cmL l=cmL (l.take k)++cmL (l.drop k):=by rw[<- Cx,nN]
 rw[a,mM (V'.1 h).1];exact h
theorem RdC.take(h:RdC w x l){k:Nat}(g:k<=l.length):RdC w (x.cut 0 k) (l.take k):=by
 have i:=h.len;have f:=h.cap;have c:(x.cut 0 k).a=x.a:=by
  simp only[S3.cut];split
  .rfl
  .cases x.a with
   | none=>rfl
   | some a=>simp[Addr.add]
 refine⟨by simp[S3.cut];omega,by simp only[S3.cut];omega,λd=>?_,?_⟩
 .rw[c]at d
  have:=h.sF d;simp only[S3.cut];omega
 .rcases h.ex with rfl|⟨b,off,h1,h2,h3⟩
  .exact .inl (by simp)
  .exact .inr ⟨b,off,by rw[c];exact h1,h2,λj u e=>h3 j u (XY l k e)⟩
end
section
variable{W:World}
section
theorem sz5:(Go.sizeOf (prog.elem 35)).run prog W=.ok 5 W:=by kernel_rfl
theorem unC:prog.underlying 35=some (.slice (prog.elem 35)):=by kernel_rfl
theorem jf(x:S3)(k:Nat)(a:k<=x.n):(Instr.sliceAt 35 x.v (some (iv (k:Int))) none none).run prog W=.ok (S3.v (x.cut k x.n)) W:=by
 rw[run_sliceAt_slice _ _ _ _ _ _ unC,run_slice_l (P:=prog) (w:=W) _ _ _ _ unC .i64 k (by omega) (by omega),sz5];simp[Result.andThen,sliced,S3.cut]
theorem kX(x:S3)(k:Nat)(a:k<=x.c):(Instr.sliceAt 35 x.v none (some (iv (k:Int))) none).run prog W=.ok (S3.v (x.cut 0 k)) W:=by
 rw[run_sliceAt_slice _ _ _ _ _ _ unC,run_slice_h (P:=prog) (w:=W) _ _ _ _ unC .i64 k (by omega) (by omega),sz5];simp[Result.andThen,sliced,S3.cut]
variable{b k off:Nat}{x:S3}{y:Operand}
theorem kS(d:x.a=some ⟨b,off,none⟩)(k:Nat)(f:k<x.n)(e:x.n<=x.c):(Instr.sliceAt 35 x.v (some (iv (k:Int))) none none).run prog W=.ok (.slice (some ⟨b,off+5*k,none⟩) (x.n-k) (x.c-k)) W:=by
 rw[jf x k (by omega)];unfold S3.v S3.cut;simp only;rw[if_neg (by omega),d];simp only[nD,Addr.add];split
 .rename_i h0;rw[show k=0 by omega];rfl
 .simp only[pB]
theorem kZ{P:Program}{x:Operand}(a b:Nat)(c:P.underlying 3=some (.int .i64))(h:b<=a)(d:a<4611686018427387904):(do Go.eqGuard .sub 3 x y (iv (a:Int)) (iv (b:Int));Go.binOp .sub 3 (iv (a:Int)) (iv (b:Int)):Sem Value).run P W=.ok (iv ((a-b:Nat):Int)) W:=by
 rw[kY _ _ c (by omega)]
 congr 3
 omega
theorem kt{g:Gh}{l:List Cmd}(e:x.a=some ⟨b,off,none⟩)(h:Rc g W x l)(k:Nat)(f:k<l.length):∀ j u,(cmL (l.drop k))[j]?=some u->W.cell? ((⟨b,off+5*k,none⟩:Addr).add j)=some u:=by
 intro j u d;rcases h.ex with rfl|⟨b',off',h1,h2,h3,h4⟩
 .simp at f
 .rw[e]at h1
  simp only[X',Addr.mk.injEq,and_true]at h1;obtain⟨rfl,rfl⟩:=h1;rw[<- LB,nC]at d
  have:=h3 _ u d;have c:(⟨b,off+5*k,none⟩:Addr).add j=⟨b,off+5*k+j,none⟩:=by unfold Addr.add;split<;>simp_all
  rw[c,show off+5*k+j=off+(5*k+j)by omega];exact this
theorem Rm(c:x.a=some ⟨b,off,none⟩)(j:Nat)(d:j<x.n):(Instr.indexAt 35 x.v (iv (j:Int))).run prog W=.ok (pt b (off+5*j)) W:=by
 unfold S3.v;rw[c];exact NG (P:=prog) (e:=53) (z:=5) underlying35 (by kernel_rfl) (by kernel_rfl) d _ rfl
theorem ZX(c:Cmd)(h:∀ j u,(cmV c)[j]?=some u->W.cell? ⟨b,k+j,none⟩=some u):(Instr.loadAt 53 (pt b k)).run prog W=.ok (.agg #[iv c.k,iv c.c,iv c.s,iv c.n,iv c.v]) W:=by
 have a:=run_loadVar_mid (P:=prog) W b k 53 (cmV c) _ (λj u d=>h j u d) underlying53 rfl (by kernel_rfl);simp only[Instr.loadAt,Instr.sureAddr,Sem.run_bind,Sem.run_pure,Result.andThen_ok];exact a
theorem UU(c:x.a=some ⟨b,off,none⟩)(j:Nat)(d:j<x.n):(Instr.indexAt 74 x.v (iv (j:Int))).run prog W=.ok (pt b (off+8*j)) W:=by
 unfold S3.v;rw[c];exact NG (P:=prog) (e:=138) (z:=8) underlying74 (by kernel_rfl) (by kernel_rfl) d _ rfl
theorem eH(v:Vt)(h:W.rangeAt b k (vtC v)):(Instr.loadAt 138 (pt b k)).run prog W=.ok (.agg #[iv v.bt,iv v.b.r,iv v.b.n,iv v.w.k,iv v.w.c,iv v.w.s,iv v.w.n,iv v.w.v]) W:=by
 have a:=run_loadVar_mid (P:=prog) W b k 138 (vtC v) _ h underlying138 rfl (by kernel_rfl);simp only[Instr.loadAt,Instr.sureAddr,Sem.run_bind,Sem.run_pure,Result.andThen_ok];exact a
theorem j6(u v:Vt):decide (u.bt=v.bt/\u.b.r=v.b.r/\u.b.n=v.b.n/\u.w.k=v.w.k/\u.w.c=v.w.c/\u.w.s=v.w.s/\u.w.n=v.w.n/\u.w.v=v.w.v)=decide (u=v):=by
 apply nI.2;constructor
 .rintro⟨a1,a2,a3,a4,a5,a6,a7,a8⟩;exact(Vt.eq_iff u v).1 ⟨a1,(Bal.eq_iff _ _).1 ⟨a2,a3⟩,(Cmd.eq_iff _ _).1 ⟨a4,a5,a6,a7,a8⟩⟩
 .rintro rfl;exact⟨rfl,rfl,rfl,rfl,rfl,rfl,rfl,rfl⟩
theorem kD{x:Operand}(a b:Vt):(do Go.eqGuard .eql 138 x y (.agg #[iv a.bt,iv a.b.r,iv a.b.n,iv a.w.k,iv a.w.c,iv a.w.s,iv a.w.n,iv a.w.v]) (.agg #[iv b.bt,iv b.b.r,iv b.b.n,iv b.w.k,iv b.w.c,iv b.w.s,iv b.w.n,iv b.w.v]);Go.binOp .eql 138 (.agg #[iv a.bt,iv a.b.r,iv a.b.n,iv a.w.k,iv a.w.c,iv a.w.s,iv a.w.n,iv a.w.v]) (.agg #[iv b.bt,iv b.b.r,iv b.b.n,iv b.w.k,iv b.w.c,iv b.w.s,iv b.w.n,iv b.w.v]):Sem Value).run prog W=.ok (.bool (decide (a=b))) W:=by
 have d:=Yy a.bt a.b.r a.b.n a.w.k a.w.c a.w.s a.w.n a.w.v b.bt b.b.r b.b.n b.w.k b.w.c b.w.s b.w.n b.w.v W;rw[j6]at d
 have e:(Go.eqGuard .eql 138 x y (.agg #[iv a.bt,iv a.b.r,iv a.b.n,iv a.w.k,iv a.w.c,iv a.w.s,iv a.w.n,iv a.w.v]) (.agg #[iv b.bt,iv b.b.r,iv b.b.n,iv b.w.k,iv b.w.c,iv b.w.s,iv b.w.n,iv b.w.v])).run prog W=.ok () W:=by kernel_rfl
 rw[Sem.run_bind,e,Result.andThen_ok];exact d
end
end
section
variable{B sz:Nat}{P:Program}{T:List Tg}{W w w':World}{e:TypeId}{g g':Gh}{l:List Cmd}{vs:List Value}{x:S3}
theorem Dc{ty:TypeId}{c:TypeDesc}{b k:Nat}{v:Value}(g:prog.underlying ty=some c)(d:c.isRow=false)(e:W.cell? ⟨b,k,none⟩=some v):(Instr.loadAt ty (pt b k)).run prog W=.ok v W:=by
 have a:(isAgg ty).run prog W=.ok false W:=by
  unfold isAgg;rw[Sem.run_bind,run_underlying g W];cases c<;>first|rfl|(simp only[TypeDesc.isRow]at d;cases d)
 have f:(loadVar ty ⟨b,k,none⟩).run prog W=.ok v W:=by simp[loadVar,a,e,go_sem]
 simp only[Instr.loadAt,Instr.sureAddr,Sem.run_bind,Sem.run_pure,Result.andThen_ok,f]
theorem Kn.ti{L:List Sh}(h:Kn B g w L)(k b:Nat)(o:Obj)(r i:Nat)(v:Bool)(c:L[k]?=some ⟨b,o,.n r i,v⟩):w.heap[b]?=some o/\g.t b=.n r i/\g.k b=0 :=
 have a:=h.row _ (m8 c)
 ⟨a.1,a.2.1,a.2.2.2 (by simp)⟩
structure RdV(w:World)(x:S3)(sz:Nat)(vs:List Value):Prop where
 len:vs.length=x.n*sz
 cap:x.n<=x.c
 sF:x.a=none->x.c=0
 ex:x.n=0\/∃ b off,x.a=some ⟨b,off,none⟩/\b<w.heap.size/\∀ j u,vs[j]?=some u->w.cell? ⟨b,off+j,none⟩=some u
theorem RdC.rv(h:RdC w x l):RdV w x 5 (cmL l) :=
 ⟨by rw[BO,h.len],h.cap,h.sF,h.ex.imp (λe=>by rw[h.len,e];rfl) id⟩
theorem RdV.rc(h:RdV w x 5 (cmL l)):RdC w x l :=
 have a:x.n=l.length:=by have:=h.len;rw[BO]at this;omega
 ⟨a,h.cap,h.sF,h.ex.imp (λe=>Z' (by omega)) id⟩
theorem RdV.af(h:RdV w x sz vs)(b:Bw w w'):RdV w' x sz vs :=
 ⟨h.len,h.cap,h.sF,h.ex.imp id λ⟨k,a,d,c,e⟩=>⟨k,a,d,j' c b.size,λj u f=>(b.cell (p:=⟨k,a+j,none⟩) c).trans (e j u f)⟩⟩
theorem OwnS.rv{τ:Tg}{f:Bool}(h:OwnS g w τ f e sz x vs):RdV w x sz vs:=by
 rcases h.ex with⟨h1,h2,h3⟩|⟨b,cur,h1,h2,h3,h4,h5,h6,h7,h8⟩
 .exact⟨h.len,by omega,λ_=>h3,.inl h2⟩
 .refine⟨h.len,h3,λh=>(by rw[h1]at h;cases h),.inr ⟨b,0,h1,rl h2,λj u d=>?_⟩⟩;obtain⟨i,a,_,c⟩:=h.cell d;rw[h1]at a
  simp only[X',Addr.mk.injEq,and_true]at a;subst a;rw[nt];exact c
theorem eI{t:TypeId}{x y:Operand}{z:S3}{b:Bool}(f:z.a.isNone=b)(h:P.underlying t=some (.slice e))(g:(Go.eqGuard .eql t x y z.v (.slice none 0 0)).run P W=.ok () W):(do Go.eqGuard .eql t x y z.v (.slice none 0 0);Go.binOp .eql t z.v (.slice none 0 0):Sem Value).run P W=.ok (.bool b) W:=by
 subst f;rw[Sem.run_bind,g,Result.andThen_ok];have d:=run_equal_slice_nil (P:=P) (w:=W) t e z.a z.n z.c h;simp only[S3.v,binOp,Sem.run_bind,d,Result.andThen_ok];rfl
theorem gi(t h e:TypeId)(i:TypeInfo)(g:P.underlying t=some (.slice e))(f:P.info? e=some i)(b:Nat)(a:Addr)(c:Nat):(Builtin.append_ #[t,t] h #[.slice (some ⟨b,0,none⟩) 0 0,.slice (some a) 0 c]).run P W=.ok (.slice (some ⟨b,0,none⟩) 0 0) W:=by
 have d:=run_firstCells_some (P:=P) W i.size 0 a 0 c [] (by simp) (by simp);simp[Builtin.append_,run_underlying g,sizeOf,typeInfo,f,Builtin.lenOf,d,storeCells]
structure FzV(g:Gh)(w:World)(x:S3)(sz:Nat)(vs:List Value):Prop where
 rd:RdV w x sz vs
 z:vs≠[]->Frz g x
theorem FzV.ch(h:FzV g w x sz vs)(c:Cg B T g w g' w')(v:Tg.z∉T:=by simp):FzV g' w' x sz vs:=by
 obtain⟨⟨k,q,r,i⟩,s⟩:=h;by_cases p:vs=[]
 .subst p;exact⟨⟨k,q,r,i.imp id λ⟨b,d,e,f,_⟩=>⟨b,d,e,j' f c.size,λj u o=>(by cases o)⟩⟩,λh=>absurd rfl h⟩
 .rcases i with i|⟨b,d,e,f,e3⟩
  .exact absurd (Z' (by rw[k,i,qX])) p
  .have hb:g.t b=.z:=s p _ e;refine⟨⟨k,q,r,.inr ⟨b,d,e,j' f c.size,λj u o=>?_⟩⟩,λ_ a m=>?_⟩
   .rw[World.cell?_of_block (w:=w) (c.zc v f hb)];exact e3 j u o
   .rw[e]at m;simp only[X']at m;subst m
    rw[c.tag f (by rw[hb];intro h;cases h)];exact hb
structure Fa where
 ro:Option Nat
 p:Gh->World->Prop
 st:∀ {B:Nat} {T:List Tg} {g g':Gh} {w w':World},Tg.z∉T->(∀ r,ro=some r->Tg.n 60 r∉T)->Cg B T g w g' w'->p g w->p g' w'
@[reducible] def AllF (g:Gh) (w:World):List Fa->Prop
 | []=>True
 | f::l=>f.p g w/\AllF g w l
variable{Φ:List Fa}
theorem AllF.ch(h:AllF g w Φ)(c:Cg B T g w g' w')(d:Tg.z∉T:=by simp)(a:∀ f∈Φ,∀ r,f.ro=some r->Tg.n 60 r∉T):AllF g' w' Φ:=by
 induction Φ with
 | nil=>trivial
 | cons f l ih=>exact⟨f.st d (a f M') c h.1,ih h.2 λf b=>a f (I' _ b)⟩
theorem AllF.rE(h:AllF g w Φ)(c:Cg B [] g w g' w'):AllF g' w' Φ:=h.ch c P' λ_ _ _ _=>P'
def Fa.zv(x:S3)(sz:Nat)(vs:List Value):Fa:=⟨none,λg w=>FzV g w x sz vs,λhz _ c h=>h.ch c hz⟩
def Fa.sl(x:S3)(l:List Int):Fa:=⟨none,λg w=>FSl g w x l,λhz _ c h=>h.ch c hz⟩
def Fa.ow(r:Nat)(e:TypeId)(sz:Nat)(x:S3)(vs:List Value):Fa:=⟨some r,λg w=>OwnS g w (.n 60 r) true e sz x vs,λ_ hr c h=>h.ch c (hr r rfl) (by simp)⟩
def TQ:List Tg:=[.n 60 0,.n 60 1,.n 60 2,.n 60 3]
theorem lR:Tg.z∉TQ:=by simp[TQ]
end
section
variable{P:Program}{fn:Func}{R:Ending->World->Prop}{w0:World}{Φ:List Fa}{g:Gh}{w:World}
section
structure GT(P:Program)(fn:Func)(R:Ending->World->Prop)(w0:World)(Φ:List Fa)(s:Xs)(g:Gh)(w:World):Prop where
 ex:AllF g w Φ->Cg w0.heap.size TQ gS w0 g w->GG P fn R w0.heap.size TQ s g w
theorem CgQ.af(c:Cg w0.heap.size TQ gS w0 g w):Bw w0 w:=Cg.af c λ_ _=>lR
variable{J:Act->World->Prop}{f:FuncId}{n:Nat}{s:Xs}
theorem tIn{a:Array Value}(Φ:List Fa)(e:P.funcs[f]?=some fn)(b:AllF gS w0 Φ)(h:GT P fn R w0 Φ ⟨[.c (PY fn)],⟨fn.ntmps,OU 0 a.toList,λ_=>undef⟩,[]⟩ gS w0)(d:fn.body.isSome=true:=by kernel_rfl)(g:Nat.ble a.size fn.ntmps=true:=by kernel_rfl):Calls P f a w0 R :=
 gIn TQ gS e d g (λ_ _=>⟨rfl,rfl⟩) (h.ex b (Cg.refl _ _ _ _))
theorem tX(h:AllF g w Φ->Cg w0.heap.size TQ gS w0 g w->GG P fn R w0.heap.size TQ s g w):GT P fn R w0 Φ s g w:=⟨h⟩
theorem tF(h:AllF g w Φ->Cg w0.heap.size TQ gS w0 g w->GT P fn R w0 Φ s g w):GT P fn R w0 Φ s g w:=⟨λF C=>(h F C).ex F C⟩
theorem tCv(Ψ:List Fa)(a:AllF g w Φ->AllF g w Ψ)(h:GT P fn R w0 Ψ s g w):GT P fn R w0 Φ s g w:=⟨λF C=>h.ex (a F) C⟩
theorem tR(m:Nat)(h:List Nat)(b:∀ gs g' w',GT P fn R w0 Φ (rn0 P [] gs m s h).s g' w')(a:∀ gs,(rn0 P [] gs m s h).o.map Ob.l'=(rn0 P [] gs m s h).o.map Ob.r':=by intro _;kernel_rfl):GT P fn R w0 Φ s g w :=
 ⟨λF C=>du [] m h a λgs g' w' c=>(b gs g' w').ex (F.rE c) (C.n c)⟩
theorem tV(i:Nat)(v:Value){S:Sem Value}(c:AllF g w Φ->Cg w0.heap.size TQ gS w0 g w->S.run P w=.ok v w)(b:GT P fn R w0 Φ (nxt s i v s.L).s g w)(d:Dz s i=some (S>>=λv=>pure (.value v)):=by kernel_rfl)(a:(nxt s i undef s.L).o.map Ob.l'=(nxt s i undef s.L).o.map Ob.r':=by kernel_rfl):GT P fn R w0 Φ s g w:=⟨λF C=>qV i v (c F C) (b.ex F C) d a⟩
theorem tT(i:Nat)(v:Value){S:Sem Value}(c:∀ W,S.run P W=.ok v W)(b:GT P fn R w0 Φ (tkN s i v false).s g w)(d:Dz s i=some (S>>=λv=>pure (.value v)):=by kernel_rfl)(a:(tkN s i undef false).o.map Ob.l'=(tkN s i undef false).o.map Ob.r':=by kernel_rfl):GT P fn R w0 Φ s g w:=⟨λF C=>qT i v c (b.ex F C) d a⟩
theorem tI(b t:Bool)(a:b=t)(h:GT P fn R w0 Φ (LE s t) g w)(c:Qn s=.bool b:=by kernel_rfl):GT P fn R w0 Φ s g w:=⟨λF C=>qI b t a (h.ex F C) c⟩
theorem tC(i:Nat){f:FuncId}{c:Array Value}{K:Ending->World->Prop}(k:AllF g w Φ->Cg w0.heap.size TQ gS w0 g w->Calls P f c w K)(m:(∀ b,w.heap.size<=b->g.t b=.z)->∀ e w',K e w'->∃ v Ψ,e=.returned v/\Bw w w'/\(AllF g w' Φ->AllF g w' Ψ)/\GT P fn R w0 Ψ (nxt s i v s.L).s g w')(n:∀ W,Dh P s i W=some (.ok (.enter f c) W):=by intro _;kernel_rfl)(l:KI s i=true:=by kernel_rfl)(a:(nxt s i undef s.L).o.map Ob.l'=(nxt s i undef s.L).o.map Ob.r':=by kernel_rfl):GT P fn R w0 Φ s g w :=
 ⟨λF C=>Af λd=>qC i (k F C) (λe w' h=>let ⟨v,Ψ,h1,h2,h3,h4⟩:=m (λb j=>(d.new b j).1) e w' h;⟨v,h1,h2,h4.ex (h3 (F.rE (Cg.dW (B:=w0.heap.size) h2))) (C.trans (Cg.dW h2))⟩) n l a⟩
theorem tC1(i:Nat){f:FuncId}{b:Array Value}{v:Value}(c:AllF g w Φ->Cg w0.heap.size TQ gS w0 g w->Calls P f b w λe w'=>e=.returned v/\Bw w w')(j:∀ w',GT P fn R w0 Φ (nxt s i v s.L).s g w')(k:∀ W,Dh P s i W=some (.ok (.enter f b) W):=by intro _;kernel_rfl)(d:KI s i=true:=by kernel_rfl)(a:(nxt s i undef s.L).o.map Ob.l'=(nxt s i undef s.L).o.map Ob.r':=by kernel_rfl):GT P fn R w0 Φ s g w:=tC i c (λ_ e w' h=>⟨v,Φ,h.1,h.2,id,j w'⟩) k d a
theorem tE(v:Value)(h:AllF g w Φ->Bw w0 w->R (.returned v) w)(a:Kn w0.heap.size g w s.L->(results fn s.f.act.tmps).run P w=.ok v w:=by intro _;kernel_rfl)(b:Ns s.K=true:=by kernel_rfl):GT P fn R w0 Φ s g w:=⟨λF C=>qE v (λ_=>h F (CgQ.af C)) a b⟩
def JT(P:Program)(w0:World)(n:Nat)(Inv:Nat->List (Nat × Value)->List Sh->List Fa->Prop)(k:Nat)(J:Act->World->Prop):Prop:=∀ k' e' L' Φ' g' w' z',k'<k->Inv k' e' L' Φ'->AllF g' w' Φ'->Cg w0.heap.size TQ gS w0 g' w'->Kn w0.heap.size g' w' L'->J (⟨n,e',z'⟩:Fm).act w'
theorem EN(n:Nat)(c:List (Nat × Value))(m:List Bool)(l:List Sh)(b:List Fa)(a:Nat->List (Nat × Value)->List Sh->List Fa->Prop)(v:Nat)(D:a v c l b)(r:AllF g w Φ->AllF g w b)(round:∀ k e L Φ,a k e L Φ->∀ z g w J,JT P w0 n a k J->GT P fn R w0 Φ (eN s n J e z L) g w)(N:SR s.K=true:=by kernel_rfl)(O:s.f.n=n:=by kernel_rfl)(I:c.map (λp=>lk s.f.z s.f.e p.1)=c.map (·.2):=by kernel_rfl)(H:BS (AG m s.L)=l:=by kernel_rfl):GT P fn R w0 Φ s g w :=
 ⟨λF C=>Cf n c m l (λk d h e L=>∃ Ψ,a k e L Ψ/\AllF d h Ψ/\Cg w0.heap.size TQ gS w0 d h) N O I H v (λ_=>⟨b,D,r F,C⟩) λk d h e z L ⟨Ψ,E,y,x⟩ J G=>(round k e L Ψ E z d h J λQ B A u o t S M q j i K=>G Q o t B S A M ⟨u,q,j,i⟩ K).ex y x⟩
theorem tB{k:Nat}{b:Nat->List (Nat × Value)->List Sh->List Fa->Prop}(i:JT P w0 n b k J)(d:Nat)(r:d<k){e:List (Nat × Value)}(m:List Bool){L':List Sh}{a:List Fa}(h:b d e L' a)(c:AllF g w Φ->AllF g w a)(o:isJ s.K=true:=by kernel_rfl)(q:jK s.K=J:=by kernel_rfl)(t:s.f.n=n:=by kernel_rfl)(l:e.map (λp=>lk s.f.z s.f.e p.1)=e.map (·.2):=by kernel_rfl)(j:BS (AG m s.L)=L':=by kernel_rfl):GT P fn R w0 Φ s g w :=
 ⟨λF C=>qB m (λz _ K=>i d e L' a g w z r h (c F) C K) o q t l j⟩
def JC(P:Program)(w0:World)(n:Nat)(Inv:List (Nat × Value)->List Sh->List Fa->Prop)(J:Act->World->Prop):Prop:=∀ e' L' Φ' g' w' z',Inv e' L' Φ'->AllF g' w' Φ'->Cg w0.heap.size TQ gS w0 g' w'->Kn w0.heap.size g' w' L'->J (⟨n,e',z'⟩:Fm).act w'
theorem KS(n:Nat)(a:List (Nat × Value)->List Sh->List Fa->Prop)(l:∀ J,JC P w0 n a J->GT P fn R w0 Φ (Ye s J) g w)(m:∀ e L Φ,a e L Φ->∀ z g w,GT P fn R w0 Φ ⟨s.K.tail,⟨n,e,z⟩,L⟩ g w)(p:s.K.isEmpty=false:=by kernel_rfl):GT P fn R w0 Φ s g w :=
 ⟨λF C=>Cu n (λb c e L=>∃ Ψ,a e L Ψ/\AllF b c Ψ/\Cg w0.heap.size TQ gS w0 b c) p (λJ o=>(l J λk j i b c q h f d K=>o b c k q j ⟨i,h,f,d⟩ K).ex F C) λb c e z L ⟨Ψ,h,f,d⟩=>(m e L Ψ h z b c).ex f d⟩
theorem tD{b:List (Nat × Value)->List Sh->List Fa->Prop}(i:JC P w0 n b J){e:List (Nat × Value)}(m:List Bool){c:List Sh}{a:List Fa}(h:b e c a)(d:AllF g w Φ->AllF g w a)(l:isJ s.K=true:=by kernel_rfl)(o:jK s.K=J:=by kernel_rfl)(q:s.f.n=n:=by kernel_rfl)(k:e.map (λp=>lk s.f.z s.f.e p.1)=e.map (·.2):=by kernel_rfl)(j:BS (AG m s.L)=c:=by kernel_rfl):GT P fn R w0 Φ s g w :=
 ⟨λF C=>qB m (λz _ K=>i e c a g w z h (d F) C K) l o q k j⟩
theorem PG(i j:Nat)(a:GT P fn R w0 Φ (JY s i) g w)(b:GT P fn R w0 Φ (JY s j) g w)(c:fB s i j=true:=by kernel_rfl):GT P fn R w0 Φ s g w:=⟨λF C=>Dr i j c (a.ex F C) (b.ex F C)⟩
theorem PF(i:Nat)(r:Nat){x:S3}{xs:List Value}(t O e:TypeId)(p b:Nat)(z:Value)(a:Addr)(m c:Nat)(news:List Value)(hx:AllF g w Φ->OwnS g w (.n 60 r) true e p x xs)(Ψ:List Fa)(M:AllF g w Φ->AllF g w Ψ)(I:Ψ.all (λf=>f.ro != some r)=true)(H:Tg.n 60 r∈TQ)(X:news.length=m*p)(Q:∀ u∈news,u.oneCell'=true)(k:AllF g w Φ->Kn w0.heap.size g w s.L->∀ j u,news[j]?=some u->w.cell? (a.add j)=some u)(D:x.n+m<=maxLen)(d:(x.n+m)*b<=140737488355328)(W:∀ x' g' w',x'.n=x.n+m->GT P fn R w0 (Fa.ow r e p x' (xs++news)::Ψ) (nxt s i (S3.v x') s.L).s g' w')(E:0<m:=by decide)(J:0<p:=by decide)(ht:P.underlying t=some (.slice e):=by kernel_rfl)(h:(P.info? e).map (λi=>(i.zero,i.size,i.bytes))=some (some z,p,b):=by kernel_rfl)(K:Nat.beq z.cells.size p=true:=by kernel_rfl)(A:Dz s i=some (Builtin.append_ #[t,t] O #[x.v,.slice (some a) m c]>>=λv=>pure (.value v)):=by kernel_rfl)(G:(nxt s i undef s.L).o.map Ob.l'=(nxt s i undef s.L).o.map Ob.r':=by kernel_rfl)(U:s.L.all (λy=>[Tg.n 60 r].all λt=>y.t.ne t)=true:=by kernel_rfl):GT P fn R w0 Φ s g w:=by
 refine⟨λF C=>KJ i t O e p b z a m c news (hx F) A G U ht h K J E X Q (k F) D d λx' g' w' T Y N hG=>?_⟩;refine(W x' g' w' Y).ex ⟨T,(M F).ch (N w0.heap.size [.n 60 r] (D'.2 rfl)) (by simp) λf V q Z E=>?_⟩ (C.trans (N _ _ H));have B:=nP.1 I f V;rw[Z]at B
 have S:q=r:=by simpa using E
 rw[S]at B
 simp at B
end
end
end
section
section
structure Plc(l:List Vt)(s:Int)(p:Nat):Prop where
 le:p<=l.length
 lo:∀ (i:Nat) (v:Vt),i<p->l[i]?=some v->v.bt<s
 hi:∀ (i:Nat) (v:Vt),p<=i->l[i]?=some v->s<=v.bt
theorem Ou(a b:List Vt)(v:Vt)(h:∀ u∈a,u.bt<v.bt):Bp (a++b) v=a++Bp b v:=by
 induction a with
 | nil=>rfl
 | cons x a ih =>
  show Bp (x::(a++b)) v=x::(a++Bp b v);rw[Bp,if_pos (h x M'),ih (λu c=>h u (I' _ c))]
variable{l:List Vt}{m p:Nat}{s:Int}{u v x:Vt}
theorem Plc.front(h:Plc l s p):∀ u∈l.take p,u.bt<s:=by
 intro u b;obtain⟨i,a⟩:=nO.1 b;rw[nJ]at a
 split at a
 .rename_i hip;exact h.lo i u hip a
 .cases a
theorem Plc.has(h:Plc l v.bt p)(f:l[p]?=some u)(c:u.bt=v.bt):Bp l v=l.take p++(v::l.drop (p+1)):=by
 obtain⟨d,e⟩:=V'.1 f;have b:l.drop p=u::l.drop (p+1):=by rw[<- e];exact nB d
 have a:=Ou (l.take p) (l.drop p) v h.front;rw[nN]at a
 rw[a,b,Bp,if_neg (by omega),if_pos c]
theorem Plc.no(h:Plc l v.bt p)(c:∀ u,l[p]?=some u->u.bt≠v.bt):Bp l v=l.take p++(v::l.drop p):=by
 have a:=Ou (l.take p) (l.drop p) v h.front;rw[nN]at a
 rw[a];rcases nw p l.length with hp|hp
 .have hd:l.drop p=l[p]::l.drop (p+1):=nB hp;have d:=h.hi p l[p] (A' _) (G' hp);have b:=c l[p] (G' hp);rw[hd,Bp,if_neg (by omega),if_neg b]
 .rw[nA hp,Bp]
theorem Plc.sj(d:BR l)(e:l[p]?=some u)(c:u.bt=s):Ae l s=[u]:=by
 have b:=JH d s;have a:u∈Ae l s:=Bd.2 ⟨nO.2 ⟨p,e⟩,c⟩
 match hl:Ae l s with
 | []=>rw[hl]at a;cases a
 | [x]=>rw[hl]at a;rw[D'.1 a]
 | x::y::r=>rw[hl]at b;simp at b
theorem Plc.rX(b:BR l)(h:Plc l s p)(f:∀ u,l[p]?=some u->u.bt≠s):Ae l s=[]:=by
 rw[pZ];intro u a;obtain⟨a,e⟩:=Bd.1 a;obtain⟨i,c⟩:=nO.1 a;rcases pR i p with hip|rfl|hip
 .have:=h.lo i u hip c;omega
 .exact f u c e
 .have hip':i<l.length:=(V'.1 c).1;have d:p<l.length:=by omega
  have g:=h.hi p l[p] (A' _) (G' d);have k:=rise_lt b hip (G' d) c;omega
where
 rise_lt:∀ {l:List Vt} (b:BR l) {i j:Nat} (hij:i<j) {u v:Vt} (a:l[i]?=some u) (hv:l[j]?=some v),u.bt<v.bt
  | x::xs,b,0,j+1,_,u,v,a,hv=>by
   simp at a hv;subst a;exact b.1 v (nO.2 ⟨j,hv⟩)
  | x::xs,b,i+1,j+1,hij,u,v,a,hv=>rise_lt (l:=xs) b.2 (i:=i) (j:=j) (by omega) (by simpa using a) (by simpa using hv)
  | [],_,i,j,_,u,v,a,hv=>by simp at a
theorem BR.get(b:BR l){i j:Nat}(a:i<j){u v:Vt}(c:l[i]?=some u)(d:l[j]?=some v):u.bt<v.bt:=Plc.rX.rise_lt b a c d
theorem Plc.half(b:BR l){s:Int}{i j h:Nat}{u:Vt}(a:l[h]?=some u)(d:∀ (k:Nat) (v:Vt),k<i->l[k]?=some v->v.bt<s)(c:∀ (k:Nat) (v:Vt),j<=k->l[k]?=some v->s<=v.bt) :
  (u.bt<s->∀ (k:Nat) (v:Vt),k<h+1->l[k]?=some v->v.bt<s)/\(s<=u.bt->∀ (k:Nat) (v:Vt),h<=k->l[k]?=some v->s<=v.bt):=by
 constructor
 .intro g k v hk hv;rcases nw k h with hkh|hkh
  .have:=b.get hkh hv a;omega
  .obtain rfl:k=h:=by omega
   rw[a]at hv;cases hv;exact g
 .intro g k v hk hv;rcases nw h k with hkh|hkh
  .have:=b.get hkh a hv;omega
  .obtain rfl:k=h:=by omega
   rw[a]at hv;cases hv;exact g
def QP(o:Option Vt)(v:Vt):Option Vt:=match o with
 | none=>some v
 | some u=>if u.b.lt v.b then some v else some u
theorem RU(l:List Vt)(v:Vt)(o:Option Vt):BW (l++[v]) o=QP (BW l o) v:=by
 induction l generalizing o with
 | nil =>
  cases o with
  | none=>rfl
  | some u =>
   show BW [v] (some u)=QP (some u) v;rw[BW,QP];split<;>rfl
 | cons x l ih =>
  cases o with
  | none=>exact ih _
  | some u =>
   show BW (x::(l++[v])) (some u)=QP (BW (x::l) (some u)) v;rw[BW,BW];split
   .exact ih _
   .exact ih _
def vt0:Vt:=⟨0,⟨0,0⟩,⟨0,0,0,0,0⟩⟩
def Fe(o:Option Vt)(x:Vt):Prop:=(o=none/\x=vt0)\/(o=some x/\Ab x.b)
theorem Fe.next{o:Option Vt}(h:Fe o x)(a:Ab v.b):Fe (QP o v) (if x.b.lt v.b then v else x):=by
 rcases h with⟨rfl,rfl⟩|⟨rfl,hx⟩
 .rw[if_pos (by unfold Ab at a;unfold Bal.lt;simp[vt0];omega)];exact .inr ⟨rfl,a⟩
 .show Fe (if x.b.lt v.b then some v else some x) _;split
  .exact .inr ⟨rfl,a⟩
  .exact .inr ⟨rfl,hx⟩
theorem Fe.pick{a:List (List Vt)}(d:0<=s/\s<=39)(c:∀ l∈a,∀ v∈l,Ah v)(h:Fe (Ge a s) x):(if Cl a s=0 then((Ge a s).map (·.w)).getD ⟨0,0,0,0,0⟩else⟨0,0,0,0,0⟩)=x.w/\(if Cl a s=0 then(Ge a s).isSome else false)=!decide (x.b.r=0/\x.b.n=0)/\Cl a s=0:=by
 have e:Cl a s=0:=by unfold Cl;rw[if_neg (λg=>g d),if_pos c]
 rw[if_pos e,if_pos e];rcases h with⟨h1,rfl⟩|⟨h1,h2⟩
 .rw[h1];exact⟨rfl,rfl,e⟩
 .rw[h1];refine⟨rfl,?_,e⟩;rw[E' (by unfold Ab at h2;omega)];rfl
theorem Zy(l:List Vt){u v:Vt}(h:u≠v):BQ l u+BQ l v<=l.length:=by
 induction l with
 | nil=>simp[BQ]
 | cons x l ih =>
  unfold BQ at ih ⊢;rw[px,px,m7];by_cases a:x=u
  .subst a;rw[if_pos (by simp),if_neg (by simp[h])];omega
  .by_cases hy:x=v
   .subst hy;rw[if_neg (by simp[a]),if_pos (by simp)];omega
   .rw[if_neg (by simp[a]),if_neg (by simp[hy])];omega
theorem Zw(h:0<BQ l v):v∈l:=by
 unfold BQ at h;obtain⟨u,a,e⟩:=qi.1 h;rw[<- mZ e];exact a
theorem ef(a b:List Vt)(v:Vt):BQ a v<=BQ (a++b) v:=by
 unfold BQ;rw[pL];omega
theorem Sc(b:l.length<=m)(h:m<2*BQ l v):Hj l m=some v:=by
 cases hf:Hj l m with
 | none =>
  have:=nR.1 hf v (Zw (by omega));simp at this;omega
 | some u =>
  have a:=List.find?_some hf;simp at a;by_cases e:u=v
  .rw[e]
  .have:=Zy l e;omega
theorem XT(h:∀ v,2*BQ l v<=m):Hj l m=none:=by
 unfold Hj;rw[nR];intro v _;have:=h v;simp;omega
end
end
section
open Go.RowKit
section
variable{b p:Bal}{l:List Vt}{r:Bool}{v:Vt}{w:World}{x:S3}
theorem NTab.tP(h:NTab w):w.cell? ⟨2,1*3+2,none⟩=some (.int .i64 1073741824):=h.cell 5 (by omega)
theorem NTab.value(h:NTab w)(k:Nat)(a:1<=k)(b:k<=3):w.cell? ⟨2,k*3+2,none⟩=some (.int .i64 (if k=1 then 1073741824 else 0)):=by
 rcases(by omega:k=1\/k=2\/k=3)with rfl|rfl|rfl
 .exact h.cell 5 (by omega)
 .exact h.cell 8 (by omega)
 .exact h.cell 11 (by omega)
theorem Er(k c s n v:Int)(w:World)(E:NTab w) :
  Calls prog 74 #[.agg (cmA k c s n v)] w λe w'=>e=.returned (.int .i64 (Bo k c s n v))/\Bw w w':=by
 have b:Bw w (w.alloc (.cells (cmA k c s n v) 53)):=(Below.refl _ _).alloc (A' _) _;have h:=Bc.made w k c s n v;have t:=E.af b;have D:=GX k c s n v;generalize C:w.alloc (.cells (cmA k c s n v) 53)=W at b h t;have u:w.alloc (.cells #[.int .i64 k,.int .i64 c,.int .i64 s,.int .i64 n,.int .i64 v] 53)=W:=C;obtain⟨c0,c1,x,y,z⟩:=Fh h.row;clear E;go_enter func74,ntmps74
 go_wp2_with fail
 clear C u;refine(SQ k _).mono ?_;rintro e I ⟨rfl,rfl⟩;by_cases o:0<=k/\k<=3
 .rw[O' o];by_cases A:k=0
  .subst A;go_wp2_with (refine wpList_load_row rfl 53 _ rfl w.heap.size rfl 53 _ (0,0) _ h.row underlying53 rfl D ?_)
   refine(Zv c s n v _).mono ?_;rintro e f ⟨rfl,g⟩;have j:Bw w f:=b.trans (g.mono b.size);go_wp2
   go_ret;exact⟨rfl,j⟩
  .obtain⟨m,rfl⟩:=nf o.1;have r:1<=(m:Int)/\(m:Int)<=3:=by omega
   go_wp2_with (refine wpList_load_row rfl 53 _ rfl w.heap.size rfl 53 _ (0,0) _ h.row underlying53 rfl D ?_)
   refine(Pi (m:Int) c s n v _ r t).mono ?_;rintro e f ⟨rfl,g⟩;have j:Bw w f:=b.trans (g.mono b.size);have i:=h.af g;have q:=t.af g;clear c0 c1 x y z h t g b;by_cases a:InC c s n v
   .rw[O' a];obtain⟨c0,c1,x,y,z⟩:=Fh i.row;have B:=q.value m (by omega) (by omega);have F:(0:Int)<=(m:Int):=by omega
    have G:(m:Int)<4:=by omega
    have H:m<4:=by omega
    clear i q o A;by_cases p:v<=(if m=1 then 1073741824 else 0)
    .have d:Hid (0=Bo (m:Int) c s n v):=by
      refine(Uv r a ?_).symm;unfold InC at a;split at p<;>omega
     clear a r;generalize (if m=1 then(1073741824:Int)else 0)=V at B p;go_wp2_with fail
     go_quiet (fail)
     have l:Bw w (f.drewN nq):=Ap j nq;generalize f.drewN nq=w3 at l ⊢;go_wp2
     go_ret;exact⟨BM d.out,l⟩
    .have d:Hid (3=Bo (m:Int) c s n v):=by
      unfold InC at a;refine(VA ⟨?_,by omega⟩ (by unfold InC;omega) ?_).symm
      .split at p<;>omega
      .split at p<;>omega
     clear a r;generalize (if m=1 then(1073741824:Int)else 0)=V at B p;go_wp2_with fail
     go_quiet (fail)
     have l:Bw w (f.drewN nq):=Ap j nq;generalize f.drewN nq=w3 at l ⊢;go_wp2
     go_ret;exact⟨BM d.out,l⟩
   .rw[E' a];have d:Hid (2=Bo (m:Int) c s n v):=(Sm r a).symm;clear a;go_wp2
    go_ret;exact⟨BM d.out,j⟩
 .rw[E' o];have d:Hid (4=Bo k c s n v):=(VB o).symm;go_wp2
  go_ret;exact⟨BM d.out,b⟩
def Lu(l:List Vt)(n:Int):Prop:=0<=n/\n<=40/\∀ s:Int,0<=s->(n<=s↔∀ u∈l,u.bt<s)
theorem Lu.nil:Lu [] 0:=⟨by omega,by omega,λs a=>⟨λ_ u b=>(P' b).elim,λ_=>a⟩⟩
theorem Lu.snoc{n:Int}(h:Lu l n){v:Vt}(b:0<=v.bt)(c:v.bt<=39)(d:n<=v.bt):Lu (l++[v]) (v.bt+1):=by
 refine⟨by omega,by omega,λs a=>⟨λg u hu=>?_,λg=>?_⟩⟩
 .rcases U'.1 hu with hu|hu
  .exact(h.2.2 s a).1 (by omega) u hu
  .obtain rfl:u=v:=by simpa using hu
   omega
 .have:=g v (by simp);omega
theorem kz(h:p≠Ba):(!decide (Ab p))=!decide (Aq p):=by
 have:Ab p↔Aq p:=⟨.inl,λg=>g.resolve_right λe=>h ((Bal.eq_iff p Ba).1 e)⟩;simp[this]
theorem jG{P Q:Prop}[Decidable P][Decidable Q](h:Q↔¬ P):decide P=!decide Q:=by by_cases g:P<;>simp[h,g]
theorem WJ(h:BR l)(k:Nat):BR (l.take k):=by
 induction k with
 | zero=>exact trivial
 | succ k ih =>
  cases hh:l[k]? with
  | none=>rw[mN (by have:=List.getElem?_eq_none_iff.1 hh;omega)];exact h
  | some v =>
   rw[FX l k v hh,OA];refine⟨ih,λu b=>?_⟩;obtain⟨i,a⟩:=nO.1 b;rw[nJ]at a
   split at a
   .rename_i hk;exact h.get hk a hh
   .cases a
theorem Ef{s:Int}(b:decide (0<=s/\s<=39)=r) :
  Calls prog 152 #[iv s] w λe w'=>e=.returned (.bool r)/\Bw w w':=by
 subst b;refine tIn [] func152 trivial (tR 7 [] λc _ _=>?_);by_cases a:0<=s
 .refine tV 1 (.bool true) (λF C=>(rGe (t:=3) (m:=s) (n:=0) (x:=(.tmp 3)) (y:=(.const (iv 0))) (O' a))) (tR 6 [] λd _ _=>tE (.bool (decide (s<40))) λ_ B=>⟨by rw[nI.2 (show s<40↔0<=s/\s<=39 by omega)],B⟩)
 .refine tV 1 (.bool false) (λF C=>(rGe (t:=3) (m:=s) (n:=0) (x:=(.tmp 3)) (y:=(.const (iv 0))) (E' a))) (tR 6 [] λf _ _=>tE (.bool false) λ_ B=>⟨by rw[E' (show ¬ (0<=s/\s<=39)by omega)],B⟩)
theorem IR(f:decide (Ab b)=r) :
  Calls prog 130 #[.agg #[iv b.r,iv b.n]] w λe w'=>e=.returned (.bool r)/\Bw w w':=by
 subst f;refine tIn [] func130 trivial (tR 9 [0,0,0] λg _ _=>?_);by_cases a:1<=b.r
 .refine tV 2 (.bool true) (λF C=>(rGe (t:=3) (m:=b.r) (n:=1) (x:=(.tmp 4)) (y:=(.const (iv 1))) (O' a))) (tR 3 [0] λh _ _=>?_);by_cases c:b.r<=65536
  .refine tV 6 (.bool true) (λF C=>(rLe (t:=3) (m:=b.r) (n:=65536) (x:=(.tmp 8)) (y:=(.const (iv 65536))) (O' c))) (tR 4 [0] λi _ _=>?_);by_cases d:0<=b.n
   .refine tV 11 (.bool true) (λF C=>(rGe (t:=3) (m:=b.n) (n:=0) (x:=(.tmp 13)) (y:=(.const (iv 0))) (O' d))) (tR 8 [0] λj _ _=>tE (.bool (decide (b.n<5))) λ_ B=>⟨by rw[nI.2 (show b.n<5↔Ab b by unfold Ab;omega)],B⟩)
   .refine tV 11 (.bool false) (λF C=>(rGe (t:=3) (m:=b.n) (n:=0) (x:=(.tmp 13)) (y:=(.const (iv 0))) (E' d))) (tR 8 [] λk _ _=>tE (.bool false) λ_ B=>⟨by rw[E' (show ¬ Ab b by unfold Ab;omega)],B⟩)
  .refine tV 6 (.bool false) (λF C=>(rLe (t:=3) (m:=b.r) (n:=65536) (x:=(.tmp 8)) (y:=(.const (iv 65536))) (E' c))) (tR 13 [] λl _ _=>tE (.bool false) λ_ B=>⟨by rw[E' (show ¬ Ab b by unfold Ab;omega)],B⟩)
 .refine tV 2 (.bool false) (λF C=>(rGe (t:=3) (m:=b.r) (n:=1) (x:=(.tmp 4)) (y:=(.const (iv 1))) (E' a))) (tR 17 [] λo _ _=>tE (.bool false) λ_ B=>⟨by rw[E' (show ¬ Ab b by unfold Ab;omega)],B⟩)
theorem Em{a:Bal}(d:decide (a.lt b)=r) :
  Calls prog 131 #[.agg #[iv a.r,iv a.n],.agg #[iv b.r,iv b.n]] w λe w'=>e=.returned (.bool r)/\Bw w w':=by
 subst d;refine tIn [] func131 trivial (tR 15 [0,0,0,0,0,1] λf _ _=>?_);by_cases c:a.r≠b.r
 .refine tI ((a.r != b.r)) true (by simpa using c) (tR 9 [0,1] λg _ _=>tE (.bool (decide (a.r<b.r))) λ_ B=>⟨by rw[nI.2 (show a.r<b.r↔a.lt b by unfold Bal.lt;omega)],B⟩)
 .refine tI ((a.r != b.r)) false (by simpa using c) (tR 10 [0,1] λh _ _=>tE (.bool (decide (a.n<b.n))) λ_ B=>⟨by rw[nI.2 (show a.n<b.n↔a.lt b by unfold Bal.lt;omega)],B⟩)
theorem Hc(i:NTab w){r:Bool}(h:decide (Ah v)=r) :
  Calls prog 136 #[.agg #[iv v.bt,iv v.b.r,iv v.b.n,iv v.w.k,iv v.w.c,iv v.w.s,iv v.w.n,iv v.w.v]] w λe w'=>e=.returned (.bool r)/\Bw w w':=by
 subst h;refine tIn [] func136 trivial (tR 9 [0,0,0] λj _ _=>?_);by_cases a:0<=v.bt/\v.bt<=39
 .refine tC1 2 (λF C=>Ef (r:=true) (O' a)) λ_=>tR 3 [0] λl _ _=>?_;by_cases d:Ab v.b
  .refine tC1 6 (λF C=>IR (b:=v.b) (r:=true) (O' d)) λ_=>tR 4 [0] λm _ _=>tC1 11 (λF C=>Er v.w.k v.w.c v.w.s v.w.n v.w.v _ (i.af (CgQ.af C))) λ_=>tR 4 [] λo _ _=>tE (.bool (Bo v.w.k v.w.c v.w.s v.w.n v.w.v==0)) λ_ B=>⟨by rw[show(Bo v.w.k v.w.c v.w.s v.w.n v.w.v==0)=decide (Ah v)from by rw[show(Bo v.w.k v.w.c v.w.s v.w.n v.w.v==0)=decide (v.w.e=0)from rfl];exact nI.2 ⟨λg=>⟨a,d,g⟩,λg=>g.2.2⟩],B⟩
  .refine tC1 6 (λF C=>IR (b:=v.b) (r:=false) (E' d)) λ_=>tR 9 [] λp _ _=>tE (.bool false) λ_ B=>⟨by rw[E' (show ¬ Ah v from λg=>d g.2.1)],B⟩
 .refine tC1 2 (λF C=>Ef (r:=false) (E' a)) λ_=>tR 13 [] λf _ _=>tE (.bool false) λ_ B=>⟨by rw[E' (show ¬ Ah v from λg=>a g.1)],B⟩
theorem I6{u:Vt}:Ag ⟨p,l++[u]⟩↔Ag ⟨p,l⟩/\(Ah u/\¬ p.lt u.b)/\∀ x∈l,x.bt<u.bt:=by
 unfold Ag;simp only[OA,U',D'];exact⟨λh=>⟨⟨h.1,λv a=>h.2.1 v (.inl a),h.2.2.1⟩,h.2.1 u (.inr rfl),h.2.2.2⟩,λh=>⟨h.1.1,λv a=>a.elim (h.1.2.1 v) λe=>by rw[e];exact h.2.1,h.1.2.2,h.2.2⟩⟩
theorem X3(h:Ag ⟨p,l⟩)(k:Nat):Ag ⟨p,l.take k⟩:=⟨h.1,λv a=>h.2.1 v (mP a),(WJ h.2.2 k)⟩
theorem Sv.op(h:Sv w x.v l):x.n=l.length/\(l=[]\/∃ b off,x.a=some ⟨b,off,none⟩/\∀ i v,l[i]?=some v->w.rangeAt b (off+8*i) (vtC v)):=by
 obtain⟨j,m,k⟩:=x;obtain⟨⟨a,c,e,_,_,d⟩,_⟩:=h;simp only[S3.v,Value.slice.injEq]at e;obtain⟨rfl,rfl,rfl⟩:=e;exact⟨rfl,d.imp id λ⟨b,off,f,_,g⟩=>⟨b,off,f,g⟩⟩
theorem Sv.at_(h:Sv w x.v l){b c i:Nat}{v:Vt}(e:x.a=some ⟨b,c,none⟩)(d:l[i]?=some v):w.rangeAt b (c+8*i) (vtC v):=by
 rcases h.op.2 with rfl|⟨b',off',ha,hc⟩
 .simp at d
 .rw[e]at ha;cases ha;exact hc i v d
theorem Sv.ad(h:Sv w x.v l){i:Nat}(c:i<l.length):∃ b off,x.a=some ⟨b,off,none⟩:=by
 rcases h.op.2 with rfl|⟨b',off',ha,hc⟩
 .exact absurd c (oC _)
 .exact⟨b',off',ha⟩
theorem Sv.s3{x:Value}(h:Sv w x l):∃ y:S3,x=y.v:=by
 obtain⟨⟨a,b,e,_,_,c⟩,_⟩:=h;exact⟨⟨a,l.length,b⟩,e⟩
theorem J0(p:Bal)(x:Value)(l:List Vt)(w:World)(h:Sv w x l)(S:NTab w) :
  Calls prog 129 #[.agg (acA p x)] w λe w'=>e=.returned (.int .i64 (F4 ⟨p,l⟩))/\Bw w w':=by
 obtain⟨y,rfl⟩:=h.s3;have hn:=h.op.1;have a7:=h.len;show Calls prog 129 #[.agg #[iv p.r,iv p.n,S3.v y]] w _;refine tIn [] func129 trivial (tR 7 [0,0] λf _ _=>KS 43 (λL K d=>∃ (v:Bool),L=[(1,pt (f 0) 0),(15,.bool v)]/\K=[⟨(f 0),.cells #[iv p.r,iv p.n,S3.v y] 76,.z,false⟩]/\d=[]/\v=!decide (Aq p)) (λJ u=>?_) ?_)
 .refine tR 4 [0] λa8 _ _=>?_;by_cases q:p=Ba
  .refine tV 3 (.bool false) (λF C=>(IY (x:=(.tmp 7)) (y:=(.tmp 8)) p Ba q)) (tR 7 [] λa9 _ _=>tD u [true] ⟨false,rfl,rfl,rfl,by rw[q];rfl⟩ (λF=>trivial))
  .refine tV 3 (.bool true) (λF C=>(IZ (x:=(.tmp 7)) (y:=(.tmp 8)) p Ba q)) (tR 3 [0] λb0 _ _=>tC1 7 (λF C=>IR (b:=p) rfl) λ_=>tR 3 [] λb1 _ _=>tD u [true] ⟨_,rfl,rfl,rfl,kz q⟩ (λF=>trivial))
 rintro _ _ _ ⟨v,rfl,rfl,rfl,H⟩ _ _ _;by_cases q:v=true
 .refine tI (v) true q (tR 4 [] λb2 _ _=>tE (iv 5) λ_ B=>⟨by rw[F4,if_neg λg:Ag _=>absurd g.1 (by simpa[q]using H.symm)],B⟩)
 .refine tI (v) false (by simpa using q) ?_;have hp:Aq p:=by simpa[q]using H.symm
  refine tR 14 [0] λb3 _ _=>EN 43 [(1,pt (f 0) 0),(3,iv 0),(17,S3.v y),(18,iv (y.n:Int)),(19,iv 0)] [true] [⟨(f 0),.cells #[iv p.r,iv p.n,S3.v y] 76,.z,false⟩] [] (λkk L K d=>∃ (j:Nat) (n:Int),kk=y.n-j/\L=[(1,pt (f 0) 0),(3,iv n),(17,S3.v y),(18,iv (y.n:Int)),(19,iv (j:Int))]/\K=[⟨(f 0),.cells #[iv p.r,iv p.n,S3.v y] 76,.z,false⟩]/\d=[]/\j<=y.n/\Ag ⟨p,l.take j⟩/\Lu (l.take j) n) (y.n) ⟨0,0,rfl,rfl,rfl,rfl,by omega,⟨hp,λv H=>(by cases H),trivial⟩,Lu.nil⟩ (λF=>trivial) ?_;rintro k _ _ _ ⟨j,n,rfl,rfl,rfl,rfl,hj,E,G⟩ _ _ _ J u;refine tR 5 [] λU _ _=>?_;by_cases I:j<y.n
  .refine tI ((decide ((j:Int)<(y.n:Int)))) true (O' (by omega)) ?_;obtain⟨v,H⟩:∃ v,l[j]?=some v:=⟨_,G' (by omega)⟩;obtain⟨b,O,Q⟩:=h.ad (i:=j) (by omega);have N:l.take (j+1)=l.take j++[v]:=FX l j v H;refine tR 5 [] λV _ _=>tV 0 (pt b (O+8*j)) (λF C=>(UU Q j (by omega))) (tV 1 (.agg #[iv v.bt,iv v.b.r,iv v.b.n,iv v.w.k,iv v.w.c,iv v.w.s,iv v.w.n,iv v.w.v]) (λF C=>(eH v ((h.af (CgQ.af C)).at_ Q H))) (tR 5 [0,0,1,0] λD _ _=>KS 43 (λL K d=>∃ (z:Bool),L=[(1,pt (f 0) 0),(3,iv n),(5,pt (D 0) 0),(17,S3.v y),(18,iv (y.n:Int)),(19,iv (j:Int)),(38,.bool z)]/\K=[⟨(f 0),.cells #[iv p.r,iv p.n,S3.v y] 76,.z,false⟩,⟨(D 0),.cells #[iv v.bt,iv v.b.r,iv v.b.n,iv v.w.k,iv v.w.c,iv v.w.s,iv v.w.n,iv v.w.v] 138,.z,false⟩]/\d=[]/\z=!decide (Ag ⟨p,l.take j++[v]⟩)) (λJ u=>?_) ?_))
   .refine tR 2 [1] λW _ _=>?_;by_cases I:Ah v
    .refine tC1 1 (λF C=>Hc (v:=v) (S.af (CgQ.af C)) (r:=true) (O' I)) λ_=>tR 5 [1] λX _ _=>?_;have R:=G.2.2 v.bt I.1.1;by_cases P:v.bt<n
     .refine tV 7 (.bool true) (λF C=>(rLt (t:=3) (m:=v.bt) (n:=n) (x:=(.tmp 28)) (y:=(.tmp 29)) (O' P))) (tR 9 [] λY _ _=>tD u [true,true] ⟨true,rfl,rfl,rfl,by rw[E' λg=>absurd (R.2 (I6.1 g).2.2) (by omega)];rfl⟩ (λF=>trivial))
     .refine tV 7 (.bool false) (λF C=>(rLt (t:=3) (m:=v.bt) (n:=n) (x:=(.tmp 28)) (y:=(.tmp 29)) (E' P))) (tR 6 [0,1] λZ _ _=>tC1 14 (λF C=>Em (a:=p) (b:=v.b) rfl) λ_=>tR 2 [] λa0 _ _=>tD u [true,true] ⟨_,rfl,rfl,rfl,jG (I6.trans ⟨λg=>g.2.1.2,λg=>⟨E,⟨I,g⟩,R.1 (by omega)⟩⟩)⟩ (λF=>trivial))
    .refine tC1 1 (λF C=>Hc (v:=v) (S.af (CgQ.af C)) (r:=false) (E' I)) λ_=>tR 15 [] λa1 _ _=>tD u [true,true] ⟨true,rfl,rfl,rfl,by rw[E' λg=>I (I6.1 g).2.1.1];rfl⟩ (λF=>trivial)
   rintro _ _ _ ⟨z,rfl,rfl,rfl,T⟩ _ _ _;by_cases M:z=true
   .refine tI (z) true M (tR 4 [] λa2 _ _=>tE (iv 5) λ_ B=>⟨by rw[F4,if_neg λg=>absurd (N▸X3 g (j+1)) (by simpa[M]using T.symm)],B⟩)
   .refine tI (z) false (by simpa using M) ?_;have A:Ag ⟨p,l.take j++[v]⟩:=by simpa[M]using T.symm
    have o:=(I6.1 A).2;refine tR 4 [1] λa3 _ _=>tV 2 (iv (v.bt+1)) (λF C=>(Bg 40 v.bt underlying3 (by have:=o.1.1.1;omega))) (tR 4 [] λa4 _ _=>tV 0 (iv ((j:Int)+1)) (λF C=>(Bg 19 (j:Int) underlying3 (by omega))) (tR 2 [] λa5 _ _=>tB u (y.n-(j+1)) (by omega) [true,false] ⟨j+1,v.bt+1,rfl,rfl,rfl,rfl,by omega,by rw[N];exact A,by rw[N];exact G.snoc o.1.1.1.1 o.1.1.1.2 ((G.2.2 v.bt o.1.1.1.1).2 o.2)⟩ (λF=>trivial)))
  .refine tI ((decide ((j:Int)<(y.n:Int)))) false (E' (by omega)) ?_;rw[mN (by omega)]at E
   refine tR 5 [] λa6 _ _=>tE (iv 0) λ_ B=>⟨by rw[F4,if_pos E],B⟩
end
end
end Go.Proofs.YtgbabbapcibnlaaGreatDoor
