/- Part 4 of the walk. -/
import Derived.Laws.Cover3
import Derived.Test.YtcjcngceghfoeaaGreatDoorZ3
set_option maxRecDepth 100000
set_option maxHeartbeats 4000000
open Go.Proofs.Tryz
set_option linter.unusedVariables false
namespace Go.Proofs.YtcjcngceghfoeaaGreatDoor
section
open Go.RowKit
section
variable{P:Program}{fn:Func}{R:Ending->World->Prop}{B:Nat}{T:List Tg}{g:Gh}{w:World}
section
def S4:List Kt->Bool|.c (.loop _)::_=>true|_=>false
def kf:List Kt->Code|.c (.loop b)::_=>b|_=>.skip
def isJ:List Kt->Bool|.j _::_=>true|_=>false
def jK:List Kt->Act->World->Prop|.j J::_=>J|_=>λ_ _=>False
def el(s:Xs)(n:Nat)(J:Act->World->Prop)(e:List (Nat × Value))(z:Nat->Value)(L:List Sh):Xs:=⟨.c (kf s.K)::.j J::s.K.tail,⟨n,e,z⟩,L⟩
variable{s:Xs}
theorem Ca(n:Nat)(d:List (Nat × Value))(m:List Bool)(i:List Sh)(a:Nat->Gh->World->List (Nat × Value)->List Sh->Prop)(q:S4 s.K=true)(r:s.f.n=n)(D:d.map (λp=>lk s.f.z s.f.e p.1)=d.map (·.2))(A:BM (AH m s.L)=i)(k:Nat)(u:Kn B g w s.L->a k g w d i)(round:∀ k g w e z L,a k g w e L->∀ J:Act->World->Prop,(∀ k' g' w' e' z' L',k'<k->a k' g' w' e' L'->Kn B g' w' L'->J (⟨n,e',z'⟩:Fm).act w')->GG P fn R B T (el s n J e z L) g w):GG P fn R B T s g w:=by
 refine Af λj=>gFm d D λz=>?_;obtain⟨K,f,L⟩:=s;simp only at r;subst r;have o:BM (AH m L)=i:=A;have C:GG P fn R B T ⟨K,⟨f.n,d,z⟩,BM (AH m L)⟩ g w->GG P fn R B T ⟨K,⟨f.n,d,z⟩,L⟩ g w:=λh=>⟨λj=>h.ex (j.sub (D6 m L)).sP⟩;refine C ?_;rw[o];cases K with
 | nil=>cases q
 | cons t K =>
  cases t with
  | c x =>
   cases x with
   | loop b=>exact jP a (λk g w e z L v J y=>round k g w e z L v J y) (u j)
   | _=>cases q
  | _=>cases q
theorem ED(J:Act->World->Prop)(n:Nat)(e:List (Nat × Value))(m:List Bool)(b:List Sh)(i:isJ s.K=true)(c:jK s.K=J)(o:s.f.n=n)(r:e.map (λp=>lk s.f.z s.f.e p.1)=e.map (·.2))(k:BM (AH m s.L)=b)(h:∀ z,Kn B g w s.L->Kn B g w b->J (⟨n,e,z⟩:Fm).act w):GG P fn R B T s g w:=by
 refine Af λa=>gFm e r λz=>⟨λq=>?_⟩;obtain⟨K,f,L⟩:=s;simp only at o c k i a;subst o;have d:Kn B g w b:=by rw[<- k];exact(q.sub (D6 m L)).sP
 cases K with
 | nil=>cases i
 | cons t K =>
  cases t with
  | j J'=>simp only[jK]at c;rw[c];exact h z a d
  | _=>cases i
def J8(s:Xs)(i:Nat):Xs:=match s.K with|.x ops (u+1) Ld e L0::K=>⟨.y ops u Ld e L0 i::K,s.f,s.L⟩|_=>s
def eT(s:Xs)(i j:Nat):Bool:=match s.K with|.x ops (_+1) Ld _ _::_=>(match Region.ready .any ops Ld with|[k,l]=>Nat.beq k i&&Nat.beq l j|_=>false)|_=>false
theorem DM(i j:Nat)(a:eT s i j=true)(h:GG P fn R B T (J8 s i) g w)(m:GG P fn R B T (J8 s j) g w):GG P fn R B T s g w:=by
 refine⟨λd=>?_⟩;obtain⟨K,f,L⟩:=s;have b:=h.ex;have c:=m.ex;unfold J8 at b c;unfold eT at a;cases K with
 | nil=>cases a
 | cons t K =>
  cases t with
  | x ops u Ld e L0 =>
   cases u with
   | zero=>cases a
   | succ u =>
    simp only at b c a;have n:Region.ready .any ops Ld=[i,j]:=by
     split at a
     .rename_i k l hk
      simp only[mW]at a;rw[hk,mX a.1,mX a.2]
     .cases a
    exact mw n (b d) (c d)
  | _=>cases a
def XG(s:Xs)(J:Act->World->Prop):Xs:=match s.K with|t::K=>⟨t::.j J::K,s.f,s.L⟩|[]=>s
theorem El(Q:Exit->Act->World->Prop):Exit.then (Q .normal) Q=Q:=by
 funext e a w
 cases e<;>rfl
theorem DS(n:Nat)(d:Gh->World->List (Nat × Value)->List Sh->Prop)(u:s.K.isEmpty=false)(k:∀ J:Act->World->Prop,(∀ g' w' e z L,d g' w' e L->Kn B g' w' L->J (⟨n,e,z⟩:Fm).act w')->GG P fn R B T (XG s J) g w)(p:∀ g' w' e z L,d g' w' e L->GG P fn R B T ⟨s.K.tail,⟨n,e,z⟩,L⟩ g' w'):GG P fn R B T s g w:=by
 obtain⟨K,f,L⟩:=s;cases K with
 | nil=>cases u
 | cons t K =>
  have q:=k (Kq P (bodyPost P fn R) K .normal) (λg' w' e z L r h=>(p g' w' e z L r).ex h);refine⟨λh=>?_⟩;have a:=q.ex h;unfold XG at a;simp only at a;cases t with
  | c x=>simp only[Kq,El]at a ⊢;exact a
  | b id=>simp only[Kq,El]at a ⊢;exact a
  | o ops is=>simp only[Kq,El]at a ⊢;exact a
  | x ops m Ld e L0=>simp only[Kq,El]at a ⊢;exact a
  | y ops m Ld e L0 i=>simp only[Kq,El]at a ⊢;exact a
  | j J=>simp only[Kq,El]at a ⊢;exact a
def zL(L:List Sh)(k:Nat):List Sh:=L.set k { L.getD k default with t:=.z,w:=false }
theorem jR(k:Nat)(b:Nat)(A:(BM s.L)[k]?.map (λx=>(x.g,x.t))=some (b,.l))(h:∀ g',Cg B [] g w g' w->GG P fn R B T ⟨s.K,s.f,zL (BM s.L) k⟩ g' w):GG P fn R B T s g w:=by
 refine⟨λF=>?_⟩;have q:=F.sP;generalize O:BM s.L=L at *;have V:∀ x∈L,x.w=false:=λx e=>by rw[<- O]at e;obtain⟨y,_,rfl⟩:=mQ.1 e;rfl
 have m:k<L.length:=by
  cases e:L[k]? with
  | none=>rw[e]at A;cases A
  | some x=>exact(V'.1 e).1
 have N:L.getD k default=L[k]:=by rw[mU,G' m];rfl
 rw[G' m]at A
 simp only[nm,Y',nw]at A;obtain⟨r,I⟩:=A;have d:=q.row _ (m7 m);have G:∀ n (D:n<L.length),n≠k->L[n].g≠b:=λn D o a=>by
  have:=q.two D m o (by rw[r];exact a);rw[I]at this
  cases this.2.1
 let g':Gh:=⟨λc=>if c=b then .z else g.t c,g.k⟩
 have H:g.t b=.l:=by rw[<- r,d.2.1];exact I
 have E:B<=b:=by rw[<- r];exact d.2.2.1 I
 refine(h g' ⟨rfl,rfl,rfl,A' _,λc M=>?_,λ_ _=>A' _,λ_ _ _ _=>rfl,λ_ _ _ _=>rfl,λ_ _ _ _=>rfl⟩).ex ⟨λx e=>?_,?_,λc M=>?_,q.base⟩
 .show(if c=b then _ else _)=_\/(_/\_/\(if c=b then _ else _)=_);by_cases a:c=b
  .subst a;right;exact⟨H,E,if_pos rfl⟩
  .left;exact if_neg a
 .unfold zL at e;simp only at e;rw[N]at e
  obtain⟨n,D,rfl⟩:=oP e;have C:n<L.length:=by simpa using D
  rw[oA];split
  .refine⟨d.1,?_,λh=>(by cases h),λh=>absurd rfl h⟩;show(if L[k].g=b then _ else _)=_;rw[if_pos r]
  .rename_i o
   have p:=q.row _ (m7 C);refine⟨p.1,?_,p.2.2⟩;show(if L[n].g=b then _ else _)=_;rw[if_neg (G n C (λh=>o h.symm))];exact p.2.1
 .show(zL L k).Pairwise _;unfold zL;rw[N,nW];intro i j Q U S a;have u:i<L.length:=by simpa using Q
  have v:j<L.length:=by simpa using U
  rw[oA,oA]at a ⊢
  by_cases p:k=i
  .rw[if_pos p]at a ⊢
   rw[if_neg (by omega)]at a ⊢
   exact absurd a.symm (by show L[j].g≠L[k].g;rw[r];exact G j v (by omega))
  .rw[if_neg p]at a ⊢
   by_cases J:k=j
   .rw[if_pos J]at a ⊢
    exact absurd a (by show L[i].g≠L[k].g;rw[r];exact G i u (by omega))
   .rw[if_neg J]at a ⊢
    exact q.two u v (by omega) a
 .have:=q.new c M;show(if c=b then _ else _)=_/\_;refine⟨?_,this.2⟩;split
  .rfl
  .exact this.1
end
end
def gS:Gh:=⟨λ_=>.z,λ_=>0⟩
section
variable{P:Program}{fn:Func}{R:Ending->World->Prop}{B:Nat}{T:List Tg}{g:Gh}{w:World}
def l7(s:Xs)(i j l:Nat):Bool:=match s.K with|.x ops (_+1) Ld _ _::_=>(match Region.ready .any ops Ld with|[a,b,c]=>Nat.beq a i&&(Nat.beq b j&&Nat.beq c l)|_=>false)|_=>false
theorem Ym{s:Xs}(i j l:Nat)(d:l7 s i j l=true)(r:GG P fn R B T (J8 s i) g w)(v:GG P fn R B T (J8 s j) g w)(y:GG P fn R B T (J8 s l) g w):GG P fn R B T s g w:=by
 refine⟨λn=>?_⟩;obtain⟨K,f,L⟩:=s;have h:=r.ex;have k:=v.ex;have m:=y.ex;unfold J8 at h k m;unfold l7 at d;cases K with
 | nil=>cases d
 | cons t K =>
  cases t with
  | x ops u Ld e L0 =>
   cases u with
   | zero=>cases d
   | succ u =>
    simp only at h k m d;have o:Region.ready .any ops Ld=[i,j,l]:=by
     split at d
     .rename_i a b c hk
      simp only[mW]at d;rw[hk,mX d.1,mX d.2.1,mX d.2.2]
     .cases d
    refine⟨λp=>absurd (o▸p) (by simp),o▸(λq z=>?_)⟩;rcases(show q=i\/q=j\/q=l by simpa using z)with rfl|rfl|rfl
    .exact h n
    .exact k n
    .exact m n
  | _=>cases d
def UE:List Sh->List Sh
 | [a,b]=>[b,a]
 | a::l=>a::UE l
 | []=>[]
theorem Ie:∀ L:List Sh,(UE L).Perm L
 | []=>.refl _
 | [a]=>by simp[UE]
 | [a,b]=>.swap _ _ _
 | a::b::c::l=>(Ie (b::c::l)).cons a
theorem NE{s:Xs}(h:GG P fn R B T ⟨s.K,s.f,UE s.L⟩ g w):GG P fn R B T s g w:=by
 refine⟨λa=>h.ex ⟨λx c=>a.row x ((Ie s.L).mem_iff.1 c),?_,a.new,a.base⟩⟩;refine(Ie s.L).symm.pairwise a.sj ?_;intro x y b e;have:=b e.symm;exact⟨this.2,this.1⟩
theorem lR{s:Xs}{r i:Nat}{e:TypeId}{p:Nat}{x:S3}{m:List Value}(c:OwnS g w (.n r i) false e p x m)(q:s.L.all (λy=>y.t.ne (.n r i))=true)(h:∀ g',Cg B [.n r i] g w g' w->OwnS g' w (.n r i) true e p x m->GG P fn R B T s g' w):GG P fn R B T s g w:=by
 refine⟨λa=>?_⟩;rcases c.ex with h1|⟨b,cur,h1,h2,h3,h4,h5,h6,h7,h8⟩
 .exact(h g (Cg.refl _ _ _ _) ⟨c.len,.inl h1⟩).ex a
 .have h80:g.k b=0:=h8;have u:b<w.heap.size:=(U'.1 h2).1;refine(h (jO g b m.length) ⟨rfl,rfl,rfl,A' _,λ_ _=>.inl rfl,λd f=>?_,λd f j _=>if_neg (λe=>j (by rw[e,h7];exact D'.2 rfl)),λ_ _ _ _=>rfl,λ_ _ _ _=>rfl⟩ ⟨c.len,.inr ⟨b,cur,h1,h2,h3,h4,h5,h6,h7,if_pos rfl⟩⟩).ex ⟨λy o=>?_,a.sj,λd f=>?_,a.base⟩
  .show g.k d<=(if d=b then _ else g.k d);split
   .rename_i e;rw[e,h80];exact mV _
   .exact A' _
  .obtain⟨k1,k2,k3,k4⟩:=a.row y o;refine⟨k1,k2,k3,λv=>?_⟩;show(if y.g=b then _ else g.k y.g)=0;rw[if_neg (λe=>Tg.sw (nN.1 q y o) (by rw[<- k2,e,h7]))];exact k4 v
  .have:=a.new d f;refine⟨this.1,?_⟩;show(if d=b then _ else g.k d)=0;rw[if_neg (by omega)];exact this.2
end
theorem Xw{P:Program}{s:Xs}{a:Nat}{S:Sem Value}{v:Value}{W:World}(h:Du s a=some (S>>=λv=>pure (.value v)))(b:S.run P W=.ok v W):Db P s a W=some (.ok (.value v) W):=by
 unfold Db;unfold Du at h;cases hx:opN s a with
 | none=>rw[hx]at h;cases h
 | some x =>
  rw[hx]at h
  simp only[nm,Y']at h ⊢;rw[h,Sem.run_bind,b,Result.andThen_ok];rfl
section
variable{P:Program}{W:World}
section
theorem kD(d:Array TypeId)(t:TypeId)(a b:Int):(Builtin.max_ d t #[iv a,iv b]).run P W=.ok (iv (max a b)) W:=by
 rw[run_max_int2]
 congr 2
 rw[Int.max_def];by_cases h:a<b
 .rw[if_pos h,if_pos (by omega)]
 .rw[if_neg h];by_cases c:a<=b
  .rw[if_pos c];omega
  .rw[if_neg c]
theorem iR(c:Array TypeId)(t:TypeId)(a b:Int):(Builtin.min_ c t #[iv a,iv b]).run P W=.ok (iv (min a b)) W:=by
 rw[run_min_int2]
 congr 2
 rw[Int.min_def];by_cases h:b<a
 .rw[if_pos h,if_neg (by omega)]
 .rw[if_neg h,if_pos (by omega)]
variable{t:TypeId}{x y:Operand}
theorem LR(a b:Int)(d:P.underlying t=some (.int .i64))(h:-9223372036854775808<=a+b/\a+b<=9223372036854775807):(do Go.eqGuard .add t x y (iv a) (iv b);Go.binOp .add t (iv a) (iv b):Sem Value).run P W=.ok (iv (a+b)) W:=by
 have c:IntKind.i64.wrap (a+b)=a+b:=by rw[IntKind.wrap_i64];omega
 simp[Go.eqGuard,Go.binOp,go_sem,c]
theorem AO(k:Nat)(a:Int)(b:P.underlying 3=some (.int .i64))(h:-9223372036854775808<=a+1/\a+1<=9223372036854775807):(do Go.eqGuard .add 3 (.tmp k) (.const (iv 1)) (iv a) (iv 1);Go.binOp .add 3 (iv a) (iv 1):Sem Value).run P W=.ok (iv (a+1)) W:=LR a 1 b h
theorem ZC(a b:Int)(d:P.underlying t=some (.int .i64))(h:-9223372036854775808<=a-b/\a-b<=9223372036854775807):(do Go.eqGuard .sub t x y (iv a) (iv b);Go.binOp .sub t (iv a) (iv b):Sem Value).run P W=.ok (iv (a-b)) W:=by
 have c:IntKind.i64.wrap (a-b)=a-b:=by rw[IntKind.wrap_i64];omega
 simp[Go.eqGuard,Go.binOp,go_sem,c]
end
end
section
theorem TT(a b:Bal):decide (a.r=b.r/\a.n=b.n)=decide (a=b):=nC.2 (Bal.eq_iff a b)
variable{W:World}{x y:Operand}
theorem lW(a b:Bal):(do Go.eqGuard .eql 96 x y (.agg #[iv a.r,iv a.n]) (.agg #[iv b.r,iv b.n]);Go.binOp .eql 96 (.agg #[iv a.r,iv a.n]) (.agg #[iv b.r,iv b.n]):Sem Value).run prog W=.ok (.bool (decide (a=b))) W:=by
 have c:=cD a.r a.n b.r b.n W;rw[TT]at c
 have d:(Go.eqGuard .eql 96 x y (.agg #[iv a.r,iv a.n]) (.agg #[iv b.r,iv b.n])).run prog W=.ok () W:=by kernel_rfl
 rw[Sem.run_bind,d,Result.andThen_ok];exact c
theorem iz(a b c d:Int):∀ w,(binOp .neq 96 (.agg #[.int .i64 a,.int .i64 b]) (.agg #[.int .i64 c,.int .i64 d])).run prog w=.ok (.bool (!decide (a=c/\b=d))) w:=by
 intro w;rw[run_neq_struct,run_equalIn_agg w 9999 _ _ _ (by kernel_rfl) (by kernel_rfl)];unfold Program.fieldsOf;rw[underlying96];have e:=underlying3;simp[Op.eqFields,go_sem,e]
 repeat' split
 all_goals simp_all
theorem kH(a b:Bal):(do Go.eqGuard .neq 96 x y (.agg #[iv a.r,iv a.n]) (.agg #[iv b.r,iv b.n]);Go.binOp .neq 96 (.agg #[iv a.r,iv a.n]) (.agg #[iv b.r,iv b.n]):Sem Value).run prog W=.ok (.bool (!decide (a=b))) W:=by
 have c:=iz a.r a.n b.r b.n W;rw[TT]at c
 have d:(Go.eqGuard .neq 96 x y (.agg #[iv a.r,iv a.n]) (.agg #[iv b.r,iv b.n])).run prog W=.ok () W:=by kernel_rfl
 rw[Sem.run_bind,d,Result.andThen_ok];exact c
theorem TY(a b:Cmd):decide (a.k=b.k/\a.c=b.c/\a.s=b.s/\a.n=b.n/\a.v=b.v)=decide (a=b):=nC.2 (Cmd.eq_iff a b)
theorem lX(a b:Cmd):(do Go.eqGuard .eql 51 x y (.agg #[iv a.k,iv a.c,iv a.s,iv a.n,iv a.v]) (.agg #[iv b.k,iv b.c,iv b.s,iv b.n,iv b.v]);Go.binOp .eql 51 (.agg #[iv a.k,iv a.c,iv a.s,iv a.n,iv a.v]) (.agg #[iv b.k,iv b.c,iv b.s,iv b.n,iv b.v]):Sem Value).run prog W=.ok (.bool (decide (a=b))) W:=by
 have d:=Ue a.k a.c a.s a.n a.v b.k b.c b.s b.n b.v W;rw[TY]at d
 have e:(Go.eqGuard .eql 51 x y (.agg #[iv a.k,iv a.c,iv a.s,iv a.n,iv a.v]) (.agg #[iv b.k,iv b.c,iv b.s,iv b.n,iv b.v])).run prog W=.ok () W:=by kernel_rfl
 rw[Sem.run_bind,e,Result.andThen_ok];exact d
theorem ID(a b:Bal)(h:a≠b):(do Go.eqGuard .neq 96 x y (.agg #[iv a.r,iv a.n]) (.agg #[iv b.r,iv b.n]);Go.binOp .neq 96 (.agg #[iv a.r,iv a.n]) (.agg #[iv b.r,iv b.n]):Sem Value).run prog W=.ok (.bool true) W:=by rw[kH,E' h];rfl
theorem IC(a b:Bal)(h:a=b):(do Go.eqGuard .neq 96 x y (.agg #[iv a.r,iv a.n]) (.agg #[iv b.r,iv b.n]);Go.binOp .neq 96 (.agg #[iv a.r,iv a.n]) (.agg #[iv b.r,iv b.n]):Sem Value).run prog W=.ok (.bool false) W:=by rw[kH,M' h];rfl
theorem ri{j:Nat}(h:j<5):j=0\/j=1\/j=2\/j=3\/j=4:=by omega
theorem G9:∀ ts:List Tol,(ts.flatMap Eg).length=ts.length*5
 | []=>rfl
 | t::r=>by rw[oI,H',G9 r,mY];show 5+_=_;omega
end
section
variable{P:Program}{fn:Func}{R:Ending->World->Prop}{B:Nat}{T:List Tg}{g:Gh}{w:World}
section
variable{B' i nb ob:Nat}{L:List Sh}{T':List Tg}{g0:Gh}{ls:List Let}{lt tl:S3}{p p0:Nod}{s:Xs}{ts:List Tol}{v:Value}{w0:World}{x x0:NX}
theorem qR(a:List Tg)(m:Nat)(h:List Nat)(c:∀ gs g' w',Cg B a g w g' w'->GG P fn R B T (rn0 P a gs m s h).s g' w')(b:∀ gs,(rn0 P a gs m s h).o.map Ob.l'=(rn0 P a gs m s h).o.map Ob.r':=by intro _;kernel_rfl):GG P fn R B T s g w:=cQ a m h b c
theorem qV(i:Nat)(v:Value){S:Sem Value}(c:S.run P w=.ok v w)(b:GG P fn R B T (nxt s i v s.L).s g w)(d:Du s i=some (S>>=λv=>pure (.value v)):=by kernel_rfl)(a:(nxt s i undef s.L).o.map Ob.l'=(nxt s i undef s.L).o.map Ob.r':=by kernel_rfl):GG P fn R B T s g w:=cR i v (λ_=>Xw d c) a b
theorem qT(i:Nat)(v:Value){S:Sem Value}(c:∀ W,S.run P W=.ok v W)(b:GG P fn R B T (tkN s i v false).s g w)(d:Du s i=some (S>>=λv=>pure (.value v)):=by kernel_rfl)(a:(tkN s i undef false).o.map Ob.l'=(tkN s i undef false).o.map Ob.r':=by kernel_rfl):GG P fn R B T s g w:=Qf i v false (λW _=>Xw d (c W)) a b
theorem qU(i:Nat)(v:Value){S:Sem Value}(c:∀ W,(true=true->AX (ZL s) W)->S.run P W=.ok v W)(b:GG P fn R B T (tkN s i v true).s g w)(d:Du s i=some (S>>=λv=>pure (.value v)):=by kernel_rfl)(a:(tkN s i undef true).o.map Ob.l'=(tkN s i undef true).o.map Ob.r':=by kernel_rfl):GG P fn R B T s g w:=Qf i v true (λW h=>Xw d (c W h)) a b
theorem qI(b t:Bool)(a:b=t)(h:GG P fn R B T (Lb s t) g w)(c:PN s=.bool b:=by kernel_rfl):GG P fn R B T s g w:=gIf b t a c h
theorem qC(i:Nat){f:FuncId}{a:Array Value}{C:Ending->World->Prop}(c:Calls P f a w C)(h:∀ e w',C e w'->∃ v,e=.returned v/\Bw w w'/\GG P fn R B T (nxt s i v s.L).s g w')(j:∀ W,Db P s i W=some (.ok (.enter f a) W):=by intro _;kernel_rfl)(d:Kl s i=true:=by kernel_rfl)(b:(nxt s i undef s.L).o.map Ob.l'=(nxt s i undef s.L).o.map Ob.r':=by kernel_rfl):GG P fn R B T s g w:=hY i f a j d b c h
theorem qG(i:Nat)(a:List Tg)(m:List Bool){f:FuncId}{c:Array Value}{C:Ending->World->Prop}(j:Calls P f c w C)(q:∀ e w',C e w'->∃ v g',e=.returned v/\Cg w.heap.size a g w g' w'/\(∀ b,w'.heap.size<=b->g'.t b=.z/\g'.k b=0)/\GG P fn R B T (nxt s i v (AH m s.L)).s g' w')(r:∀ W,Db P s i W=some (.ok (.enter f c) W):=by intro _;kernel_rfl)(p:Kl s i=true:=by kernel_rfl)(d:(nxt s i undef (AH m s.L)).o.map Ob.l'=(nxt s i undef (AH m s.L)).o.map Ob.r':=by kernel_rfl)(h:(AH m s.L).all (λx=>a.all λt=>x.t.ne t)=true:=by kernel_rfl):GG P fn R B T s g w:=Sj i f c a m r p d h j q
theorem qE(v:Value)(h:Kn B g w s.L->R (.returned v) w)(a:Kn B g w s.L->(results fn s.f.act.tmps).run P w=.ok v w:=by intro _;kernel_rfl)(b:Lj s.K=true:=by kernel_rfl):GG P fn R B T s g w:=Sm v b a h
theorem qB{J:Act->World->Prop}{n:Nat}{e:List (Nat × Value)}(m:List Bool){a:List Sh}(h:∀ z,Kn B g w s.L->Kn B g w a->J (⟨n,e,z⟩:Fm).act w)(i:isJ s.K=true:=by kernel_rfl)(b:jK s.K=J:=by kernel_rfl)(j:s.f.n=n:=by kernel_rfl)(d:e.map (λp=>lk s.f.z s.f.e p.1)=e.map (·.2):=by kernel_rfl)(c:BM (AH m s.L)=a:=by kernel_rfl):GG P fn R B T s g w:=ED J n e m a i b j d c h
theorem Kn.sG(h:Kn B g w L){i b:Nat}{d:Array Value}(a:(L[i]?).map (λx=>(x.g,CK x.o,DT x.o))=some (b,d,true)):∃ e,w.heap[b]?=some (.cells d e (0,0)):=by
 cases hi:L[i]? with
 | none=>rw[hi]at a;cases a
 | some x =>
  rw[hi]at a
  have f:=(h.row x (mP hi)).1;obtain⟨j,k,m,p⟩:=x;simp only[nm,Y',nw]at a f;obtain⟨rfl,rfl,c⟩:=a;rw[f];unfold DT at c;split at c
  .exact⟨_,rfl⟩
  .cases c
theorem G3{a:TypeId}(h:Ga P a=true):∃ d,P.underlying a=some d/\d.isRow=true:=by
 unfold Ga at h;split at h
 .rename_i d hd
  exact⟨d,hd,h⟩
 .cases h
theorem qE1(p:Tmp)(c:TypeId)(i b:Nat)(a:Array Value)(h:Kn B g w s.L->R (.returned (.agg a)) w)(t:(s.L[i]?).map (λx=>(x.g,CK x.o,DT x.o))=some (b,a,true):=by kernel_rfl)(j:fn.results=#[.cell p c]:=by kernel_rfl)(m:s.f.act.tmps.getD p undef=pt b 0:=by kernel_rfl)(r:Ga P c=true:=by kernel_rfl)(k:(P.info? c).map (·.size)=some a.size:=by kernel_rfl)(q:Lj s.K=true:=by kernel_rfl):GG P fn R B T s g w :=
 Sm _ q (λK=>let ⟨e,he⟩:=K.sG t;let ⟨d,h1,h2⟩:=G3 r;aH j _ _ b e a (0,0) d m he h1 (by cases d<;>first|rfl|cases h2) k) h
theorem qE2(p u:Tmp)(c:TypeId)(i b:Nat)(a:Array Value)(v:Value)(h:Kn B g w s.L->R (.returned (.tuple #[.agg a,v])) w)(y:(s.L[i]?).map (λx=>(x.g,CK x.o,DT x.o))=some (b,a,true):=by kernel_rfl)(j:fn.results=#[.cell p c,.tmp u]:=by kernel_rfl)(m:s.f.act.tmps.getD p undef=pt b 0:=by kernel_rfl)(t:s.f.act.tmps.getD u undef=v:=by kernel_rfl)(r:Ga P c=true:=by kernel_rfl)(k:(P.info? c).map (·.size)=some a.size:=by kernel_rfl)(q:Lj s.K=true:=by kernel_rfl):GG P fn R B T s g w :=
 Sm _ q (λK=>let ⟨e,he⟩:=K.sG y;let ⟨d,h1,h2⟩:=G3 r;by rw[<- t];exact UF j _ _ b e a (0,0) d m he h1 (by cases d<;>first|rfl|cases h2) k) h
theorem qE3(p u k:Tmp)(j:TypeId)(i b:Nat)(a:Array Value)(v m:Value)(h:Kn B g w s.L->R (.returned (.tuple #[.agg a,v,m])) w)(D:(s.L[i]?).map (λx=>(x.g,CK x.o,DT x.o))=some (b,a,true):=by kernel_rfl)(q:fn.results=#[.cell p j,.tmp u,.tmp k]:=by kernel_rfl)(t:s.f.act.tmps.getD p undef=pt b 0:=by kernel_rfl)(C:s.f.act.tmps.getD u undef=v:=by kernel_rfl)(c:s.f.act.tmps.getD k undef=m:=by kernel_rfl)(A:Ga P j=true:=by kernel_rfl)(r:(P.info? j).map (·.size)=some a.size:=by kernel_rfl)(y:Lj s.K=true:=by kernel_rfl):GG P fn R B T s g w :=
 Sm _ y (λK=>let ⟨e,he⟩:=K.sG D;let ⟨d,h1,h2⟩:=G3 A;by rw[<- C,<- c];exact kq q _ _ b e a (0,0) d t he h1 (by cases d<;>first|rfl|cases h2) r) h
theorem qE4(p y:Tmp)(v c:TypeId)(i b j m:Nat)(k a:Array Value)(h:Kn B g w s.L->R (.returned (.tuple #[.agg k,.agg a])) w)(G:(s.L[i]?).map (λx=>(x.g,CK x.o,DT x.o))=some (b,k,true):=by kernel_rfl)(u:(s.L[j]?).map (λx=>(x.g,CK x.o,DT x.o))=some (m,a,true):=by kernel_rfl)(A:fn.results=#[.cell p v,.cell y c]:=by kernel_rfl)(D:s.f.act.tmps.getD p undef=pt b 0:=by kernel_rfl)(r:s.f.act.tmps.getD y undef=pt m 0:=by kernel_rfl)(F:Ga P v=true:=by kernel_rfl)(t:Ga P c=true:=by kernel_rfl)(C:(P.info? v).map (·.size)=some k.size:=by kernel_rfl)(q:(P.info? c).map (·.size)=some a.size:=by kernel_rfl)(E:Lj s.K=true:=by kernel_rfl):GG P fn R B T s g w :=
 Sm _ E (λK=>let ⟨e,he⟩:=K.sG G;let ⟨e',he'⟩:=K.sG u;let ⟨d,h1,h2⟩:=G3 F;let ⟨d',h3,h4⟩:=G3 t;jE A _ _ b m e e' k a (0,0) (0,0) d d' D he h1 (by cases d<;>first|rfl|cases h2) C r he' h3 (by cases d'<;>first|rfl|cases h4) q) h
theorem qE5(p C u:Tmp)(A c:TypeId)(i b j m:Nat)(k a:Array Value)(v:Value)(h:Kn B g w s.L->R (.returned (.tuple #[.agg k,.agg a,v])) w)(J:(s.L[i]?).map (λx=>(x.g,CK x.o,DT x.o))=some (b,k,true):=by kernel_rfl)(y:(s.L[j]?).map (λx=>(x.g,CK x.o,DT x.o))=some (m,a,true):=by kernel_rfl)(D:fn.results=#[.cell p A,.cell C c,.tmp u]:=by kernel_rfl)(F:s.f.act.tmps.getD p undef=pt b 0:=by kernel_rfl)(r:s.f.act.tmps.getD C undef=pt m 0:=by kernel_rfl)(I:s.f.act.tmps.getD u undef=v:=by kernel_rfl)(H:Ga P A=true:=by kernel_rfl)(t:Ga P c=true:=by kernel_rfl)(E:(P.info? A).map (·.size)=some k.size:=by kernel_rfl)(q:(P.info? c).map (·.size)=some a.size:=by kernel_rfl)(G:Lj s.K=true:=by kernel_rfl):GG P fn R B T s g w :=
 Sm _ G (λK=>let ⟨e,he⟩:=K.sG J;let ⟨e',he'⟩:=K.sG y;let ⟨d,h1,h2⟩:=G3 H;let ⟨d',h3,h4⟩:=G3 t;by rw[<- I];exact jF D _ _ b m e e' k a (0,0) (0,0) d d' F he h1 (by cases d<;>first|rfl|cases h2) E r he' h3 (by cases d'<;>first|rfl|cases h4) q) h
theorem qN(h:NodeAt g w i nb ob x p)(b:GG P fn R B T ⟨s.K,s.f,BM s.L++[⟨nb,.cells (AG i ob p x) 111,.n 0 i,false⟩]⟩ g w)(a:s.L.all (λy=>(Tg.n 0 i).ne y.t)=true:=by kernel_rfl):GG P fn R B T s g w:=Iv nb _ 0 i h.row h.tag h.rU a b
theorem qO(h:OutAt g w ob lt tl ls ts)(b:GG P fn R B T ⟨s.K,s.f,BM s.L++[⟨ob,.cells #[lt.v,tl.v] 88,.n 50 0,false⟩]⟩ g w)(a:s.L.all (λy=>(Tg.n 50 0).ne y.t)=true:=by kernel_rfl):GG P fn R B T s g w:=Iv ob _ 50 0 h.row h.tag h.rU a b
theorem qS0(n:Nat)(m:List Bool){f:FuncId}{j:Array Value}{i nb a:Nat}{v:Value}{p:Nod}{k:List Let}{q:List Tol}(u:Calls P f j w (NP i nb a g w v p k q))(C:∀ g' w' x lt tl,NodeAt g' w' i nb a x p->OutAt g' w' a lt tl k q->Cg B (TN i) g w g' w'->GG P fn R B T ⟨(nxt s n v (AH m s.L)).s.K,(nxt s n v (AH m s.L)).s.f,BM (BM (nxt s n v (AH m s.L)).s.L++[⟨nb,.cells (AG i a p x) 111,.n 0 i,false⟩])++[⟨a,.cells #[lt.v,tl.v] 88,.n 50 0,false⟩]⟩ g' w')(D:∀ W,Db P s n W=some (.ok (.enter f j) W):=by intro _;kernel_rfl)(A:Kl s n=true:=by kernel_rfl)(h:(nxt s n undef (AH m s.L)).o.map Ob.l'=(nxt s n undef (AH m s.L)).o.map Ob.r':=by kernel_rfl)(r:(AH m s.L).all (λx=>(TN i).all λt=>x.t.ne t)=true:=by kernel_rfl)(b:(nxt s n v (AH m s.L)).s.L.all (λy=>(Tg.n 0 i).ne y.t)=true:=by kernel_rfl)(d:∀ x:NX,(BM (nxt s n v (AH m s.L)).s.L++[(⟨nb,.cells (AG i a p x) 111,.n 0 i,false⟩:Sh)]).all (λy=>(Tg.n 50 0).ne y.t)=true:=by intro _;kernel_rfl):GG P fn R B T s g w :=
 qG n (TN i) m u (λ_ w' ⟨g',e,M,c⟩=>⟨v,g',e,c,M.new,let ⟨x,lt,tl,hN,hO,_⟩:=M;qN hN (qO hO (C g' w' x lt tl hN hO c.ret) (d x)) b⟩) D A h r
theorem qS(n:Nat)(m:List Bool){f:FuncId}{D:Array Value}{i nb a H:Nat}{d:List Tg}{e:Gh}{A:World}{Y:NX}{q u:S3}{v:Value}{F p:Nod}{b E:List Let}{c G:List Tol}(I:NodeAt e A i nb a Y F)(J:OutAt e A a q u b c)(C:Cg H d e A g w)(N:NS i nb a g w F b c->Calls P f D w (NP i nb a g w v p E G))(Q:∀ g' w' x lt tl,NodeAt g' w' i nb a x p->OutAt g' w' a lt tl E G->Cg B (TN i) g w g' w'->GG P fn R B T ⟨(nxt s n v (AH m s.L)).s.K,(nxt s n v (AH m s.L)).s.f,BM (BM (nxt s n v (AH m s.L)).s.L++[⟨nb,.cells (AG i a p x) 111,.n 0 i,false⟩])++[⟨a,.cells #[lt.v,tl.v] 88,.n 50 0,false⟩]⟩ g' w')(X:Tg.z∉d:=by simp)(S:∀ r,r<6->Tg.n r i∉d:=by simp)(U:∀ r,50<=r->Tg.n r 0∉d:=by simp)(V:∀ W,Db P s n W=some (.ok (.enter f D) W):=by intro _;kernel_rfl)(O:Kl s n=true:=by kernel_rfl)(k:(nxt s n undef (AH m s.L)).o.map Ob.l'=(nxt s n undef (AH m s.L)).o.map Ob.r':=by kernel_rfl)(M:(AH m s.L).all (λx=>(TN i).all λt=>x.t.ne t)=true:=by kernel_rfl)(h:(nxt s n v (AH m s.L)).s.L.all (λy=>(Tg.n 0 i).ne y.t)=true:=by kernel_rfl)(j:∀ x:NX,(BM (nxt s n v (AH m s.L)).s.L++[(⟨nb,.cells (AG i a p x) 111,.n 0 i,false⟩:Sh)]).all (λy=>(Tg.n 50 0).ne y.t)=true:=by intro _;kernel_rfl):GG P fn R B T s g w :=
 Af λK=>qS0 n m (N (nsC I J C K X S U)) Q V O k M h j
theorem qF{a:Gh}{b:World}(d:NodeAt a b i nb ob x p)(e:OutAt a b ob lt tl ls ts)(c:Cg B' T' a b g w)(C:Cg w0.heap.size (TN i) g0 w0 g w)(o:Tg.z∉T':=by simp)(h:∀ r,r<6->Tg.n r i∉T':=by simp)(j:∀ r,50<=r->Tg.n r 0∉T':=by simp)(k:Kn w0.heap.size g w s.L->(results fn s.f.act.tmps).run P w=.ok v w:=by intro _;kernel_rfl)(m:Lj s.K=true:=by kernel_rfl):GG P fn (NP i nb ob g0 w0 v p ls ts) w0.heap.size T s g w :=
 qE v (λK=>⟨_,rfl,nsC d e c K o h j,C⟩) k m
theorem Kn.nd(h:Kn B g w L)(k:Nat)(a:FSl g w x.tape p.d)(c:FSv g w x.mv p.vo.vs)(e:∀ j,j<5->FSv g w (x.hv j) (p.av.an j).vs)(f:∃ vs,OwnS g w (.n 1 i) true 1 1 x.synced vs/\Pends g w nb vs p.bw)(m:OwnS g w (.n 2 i) false 51 5 x.fv (cmL p.av.fv))(o:OwnS g w (.n 3 i) true 51 5 x.ab (cmL p.ab))(r:OwnS g w (.n 4 i) false 51 5 x.bn (cmL p.bn))(s:WZ g w i p.cl x.cl)(t:p.up=true->∃ b,x.cl=some b)(u:L[k]?=some ⟨nb,.cells (AG i ob p x) 111,.n 0 i,false⟩:=by kernel_rfl):NodeAt g w i nb ob x p :=
 have q:=h.rN k nb _ 0 i u
 ⟨q.1,q.2.1,q.2.2,a,c,e,f,m,o,r,s,t⟩
theorem Kn.sQ{C:Nat}{f:List Tg}(h:Kn B g w L)(k:Nat)(a:NodeAt g0 w0 i nb ob x0 p0)(c:Cg C f g0 w0 g w)(I:L[k]?=some ⟨nb,.cells (AG i ob p x) 111,.n 0 i,false⟩:=by kernel_rfl)(e:Tg.z∉f:=by simp)(b:∀ r,1<=r->r<6->Tg.n r i∉f:=by simp;try omega)(o:x=x0:=by rfl)(s:p.d=p0.d:=by rfl)(t:p.vo.vs=p0.vo.vs:=by rfl)(u:p.av.an=p0.av.an:=by rfl)(v:p.bw=p0.bw:=by rfl)(y:p.av.fv=p0.av.fv:=by rfl)(A:p.ab=p0.ab:=by rfl)(D:p.bn=p0.bn:=by rfl)(E:p.cl=p0.cl:=by rfl)(m:p.up=p0.up:=by rfl):NodeAt g w i nb ob x p:=by
 have q:=h.rN k nb _ 0 i I;subst o;obtain⟨vs,F,G⟩:=a.bw;exact⟨q.1,q.2.1,q.2.2,by rw[s];exact a.tape.ch c e,by rw[t];exact a.mv.ch c e,by rw[u];exact λj H=>(a.an j H).ch c e,by rw[v];exact⟨vs,F.ch c (b 1 (by omega) (by omega)) (by simp),G.ch c e⟩,by rw[y];exact a.fv.ch c (b 2 (by omega) (by omega)) (by simp),by rw[A];exact a.ab.ch c (b 3 (by omega) (by omega)) (by simp),by rw[D];exact a.bn.ch c (b 4 (by omega) (by omega)) (by simp),by rw[E];exact a.cl.ch c (b 5 (by omega) (by omega)),by rw[m];exact a.rW⟩
theorem Kn.od(h:Kn B g w L)(k:Nat)(a:∃ bs:List Nat,OwnS g w (.n 51 0) false 159 1 lt (bs.map (pt · 0))/\Lets g w bs ls)(b:OwnS g w (.n 52 0) false 49 5 tl (ts.flatMap Eg))(c:L[k]?=some ⟨ob,.cells #[lt.v,tl.v] 88,.n 50 0,false⟩:=by kernel_rfl):OutAt g w ob lt tl ls ts :=
 have q:=h.rN k ob _ 50 0 c
 ⟨q.1,q.2.1,q.2.2,a,b⟩
end
end
section
structure RdC(w:World)(x:S3)(l:List Cmd):Prop where
 len:x.n=l.length
 cap:x.n<=x.c
 so:x.a=none->x.c=0
 ex:l=[]\/∃ b off,x.a=some ⟨b,off,none⟩/\b<w.heap.size/\∀ j u,(cmL l)[j]?=some u->w.cell? ⟨b,off+j,none⟩=some u
variable{g:Gh}{l:List Cmd}{w:World}{x:S3}
theorem OwnS.rd{τ:Tg}{i:Bool}{e:TypeId}(h:OwnS g w τ i e 5 x (cmL l)):RdC w x l:=by
 have c:=h.num;rcases h.ex with⟨h1,h2,h3⟩|⟨b,cur,h1,h2,h3,h4,h5,h6,h7,h8⟩
 .exact⟨c,by omega,λ_=>h3,.inl (j' (by omega))⟩
 .refine⟨c,h3,λh=>(by rw[h1]at h;cases h),.inr ⟨b,0,h1,rl h2,λj u f=>?_⟩⟩;obtain⟨k,a,_,d⟩:=h.cell f;rw[h1]at a
  simp only[Y',Addr.mk.injEq,and_true]at a;subst a;rw[na];exact d
theorem RdC.af{d:World}(h:RdC w x l)(b:Bw w d):RdC d x l :=
 ⟨h.len,h.cap,h.so,h.ex.imp id λ⟨k,a,e,c,f⟩=>⟨k,a,e,Z' c b.size,λj u g=>(b.cell (p:=⟨k,a+j,none⟩) c).trans (f j u g)⟩⟩
def S3.cut(x:S3)(l h:Nat):S3:=⟨if x.c=l then x.a else x.a.map (·.add (l*5)),h-l,x.c-l⟩
theorem Rc.drop(h:Rc g w x l){k:Nat}(i:k<=l.length):Rc g w (x.cut k x.n) (l.drop k):=by
 have e:=h.len;have f:=h.cap;refine⟨by simp[S3.cut,e],by simp only[S3.cut];omega,λc=>?_,?_⟩
 .simp only[S3.cut]at c ⊢;split at c
  .omega
  .cases ha:x.a with
   | none=>have:=h.so ha;omega
   | some a=>rw[ha]at c;cases c
 .rcases h.ex with rfl|⟨b,off,h1,h2,h3,h4⟩
  .exact .inl (by simp)
  .by_cases he:k=l.length
   .exact .inl (by rw[he];simp)
   .refine .inr ⟨b,off+k*5,?_,h2,λj u d=>?_,?_⟩
    .simp only[S3.cut];rw[if_neg (by omega),h1];simp only[nm,Y'];unfold Addr.add;split
     .rename_i h0;rw[show k=0 by omega];simp
     .simp
    .rw[<- KY,nD]at d
     have:=h3 _ u d;rw[show off+k*5+j=off+(5*k+j)by omega];exact this
    .rcases h4 with h4|h4
     .exact .inl h4
     .right;rw[mF];omega
theorem Rc.addr(h:Rc g w x l){k:Nat}(c:k<l.length):∃ b off,x.a=some ⟨b,off,none⟩:=by
 rcases h.ex with rfl|⟨b,off,h2,_⟩
 .simp at c
 .exact⟨b,off,h2⟩
theorem Rc.cellAt(h:Rc g w x l){b d j q:Nat}{c:Cmd}{u:Value}(f:x.a=some ⟨b,d,none⟩)(e:l[j]?=some c)(i:(cmV c)[q]?=some u):w.cell? ⟨b,d+5*j+q,none⟩=some u:=by
 rcases h.ex with rfl|⟨b',off',h1,h2,h3,_⟩
 .cases e
 .rw[f]at h1
  simp only[Y',Addr.mk.injEq,and_true]at h1;obtain⟨rfl,rfl⟩:=h1;rw[nB];exact h3 _ u (OC e i)
theorem RdC.cellAt(h:RdC w x l){b d j q:Nat}{c:Cmd}{u:Value}(f:x.a=some ⟨b,d,none⟩)(e:l[j]?=some c)(g:(cmV c)[q]?=some u):w.cell? ⟨b,d+5*j+q,none⟩=some u:=by
 rcases h.ex with rfl|⟨b',off',h1,h2,h3⟩
 .cases e
 .rw[f]at h1
  simp only[Y',Addr.mk.injEq,and_true]at h1;obtain⟨rfl,rfl⟩:=h1;rw[nB];exact h3 _ u (OC e g)
theorem RdC.addr(h:RdC w x l){k:Nat}(c:k<l.length):∃ b off,x.a=some ⟨b,off,none⟩:=by
 rcases h.ex with rfl|⟨b,off,h2,_⟩
 .simp at c
 .exact⟨b,off,h2⟩
theorem XA(l:List Cmd)(k:Nat){j:Nat}{u:Value}(h:(cmL (l.take k))[j]?=some u):(cmL l)[j]?=some u:=by
 have a:cmL l=cmL (l.take k)++cmL (l.drop k):=by rw[<- Cp,nI]
 rw[a,mK (V'.1 h).1];exact h
theorem RdC.take(h:RdC w x l){k:Nat}(g:k<=l.length):RdC w (x.cut 0 k) (l.take k):=by
 have i:=h.len;have f:=h.cap;have c:(x.cut 0 k).a=x.a:=by
  simp only[S3.cut];split
  .rfl
  .cases x.a with
   | none=>rfl
   | some a=>simp[Addr.add]
 refine⟨by simp[S3.cut];omega,by simp only[S3.cut];omega,λd=>?_,?_⟩
 .rw[c]at d
  have:=h.so d;simp only[S3.cut];omega
 .rcases h.ex with rfl|⟨b,off,h1,h2,h3⟩
  .exact .inl (by simp)
  .exact .inr ⟨b,off,by rw[c];exact h1,h2,λj u e=>h3 j u (XA l k e)⟩
end
section
variable{W:World}
section
theorem sz5:(Go.sizeOf (prog.elem 35)).run prog W=.ok 5 W:=by kernel_rfl
theorem unC:prog.underlying 35=some (.slice (prog.elem 35)):=by kernel_rfl
theorem iT(x:S3)(k:Nat)(a:k<=x.n):(Instr.sliceAt 35 x.v (some (iv (k:Int))) none none).run prog W=.ok (S3.v (x.cut k x.n)) W:=by
 rw[run_sliceAt_slice _ _ _ _ _ _ unC,run_slice_l (P:=prog) (w:=W) _ _ _ _ unC .i64 k (by omega) (by omega),sz5];simp[Result.andThen,sliced,S3.cut]
theorem kQ(x:S3)(k:Nat)(a:k<=x.c):(Instr.sliceAt 35 x.v none (some (iv (k:Int))) none).run prog W=.ok (S3.v (x.cut 0 k)) W:=by
 rw[run_sliceAt_slice _ _ _ _ _ _ unC,run_slice_h (P:=prog) (w:=W) _ _ _ _ unC .i64 k (by omega) (by omega),sz5];simp[Result.andThen,sliced,S3.cut]
variable{b k off:Nat}{x:S3}{y:Operand}
theorem kN(d:x.a=some ⟨b,off,none⟩)(k:Nat)(f:k<x.n)(e:x.n<=x.c):(Instr.sliceAt 35 x.v (some (iv (k:Int))) none none).run prog W=.ok (.slice (some ⟨b,off+5*k,none⟩) (x.n-k) (x.c-k)) W:=by
 rw[iT x k (by omega)];unfold S3.v S3.cut;simp only;rw[if_neg (by omega),d];simp only[nm,Addr.add];split
 .rename_i h0;rw[show k=0 by omega];rfl
 .simp only[pm]
theorem kT{P:Program}{x:Operand}(a b:Nat)(c:P.underlying 3=some (.int .i64))(h:b<=a)(d:a<4611686018427387904):(do Go.eqGuard .sub 3 x y (iv (a:Int)) (iv (b:Int));Go.binOp .sub 3 (iv (a:Int)) (iv (b:Int)):Sem Value).run P W=.ok (iv ((a-b:Nat):Int)) W:=by
 rw[ZC _ _ c (by omega)]
 congr 3
 omega
theorem kl{g:Gh}{l:List Cmd}(e:x.a=some ⟨b,off,none⟩)(h:Rc g W x l)(k:Nat)(f:k<l.length):∀ j u,(cmL (l.drop k))[j]?=some u->W.cell? ((⟨b,off+5*k,none⟩:Addr).add j)=some u:=by
 intro j u d;rcases h.ex with rfl|⟨b',off',h1,h2,h3,h4⟩
 .simp at f
 .rw[e]at h1
  simp only[Y',Addr.mk.injEq,and_true]at h1;obtain⟨rfl,rfl⟩:=h1;rw[<- KY,nD]at d
  have:=h3 _ u d;have c:(⟨b,off+5*k,none⟩:Addr).add j=⟨b,off+5*k+j,none⟩:=by unfold Addr.add;split<;>simp_all
  rw[c,show off+5*k+j=off+(5*k+j)by omega];exact this
theorem Oa(c:x.a=some ⟨b,off,none⟩)(j:Nat)(d:j<x.n):(Instr.indexAt 35 x.v (iv (j:Int))).run prog W=.ok (pt b (off+5*j)) W:=by
 unfold S3.v;rw[c];exact Kv (P:=prog) (e:=51) (z:=5) underlying35 (by kernel_rfl) (by kernel_rfl) d _ rfl
theorem Wl(c:Cmd)(h:∀ j u,(cmV c)[j]?=some u->W.cell? ⟨b,k+j,none⟩=some u):(Instr.loadAt 51 (pt b k)).run prog W=.ok (.agg #[iv c.k,iv c.c,iv c.s,iv c.n,iv c.v]) W:=by
 have a:=run_loadVar_mid (P:=prog) W b k 51 (cmV c) _ (λj u d=>h j u d) underlying51 rfl (by kernel_rfl);simp only[Instr.loadAt,Instr.sureAddr,Sem.run_bind,Sem.run_pure,Result.andThen_ok];exact a
theorem U8(c:x.a=some ⟨b,off,none⟩)(j:Nat)(d:j<x.n):(Instr.indexAt 97 x.v (iv (j:Int))).run prog W=.ok (pt b (off+8*j)) W:=by
 unfold S3.v;rw[c];exact Kv (P:=prog) (e:=156) (z:=8) underlying97 (by kernel_rfl) (by kernel_rfl) d _ rfl
theorem dY(v:Vt)(h:W.rangeAt b k (vtC v)):(Instr.loadAt 156 (pt b k)).run prog W=.ok (.agg #[iv v.bu,iv v.b.r,iv v.b.n,iv v.w.k,iv v.w.c,iv v.w.s,iv v.w.n,iv v.w.v]) W:=by
 have a:=run_loadVar_mid (P:=prog) W b k 156 (vtC v) _ h underlying156 rfl (by kernel_rfl);simp only[Instr.loadAt,Instr.sureAddr,Sem.run_bind,Sem.run_pure,Result.andThen_ok];exact a
theorem jx(u v:Vt):decide (u.bu=v.bu/\u.b.r=v.b.r/\u.b.n=v.b.n/\u.w.k=v.w.k/\u.w.c=v.w.c/\u.w.s=v.w.s/\u.w.n=v.w.n/\u.w.v=v.w.v)=decide (u=v):=by
 apply nC.2;constructor
 .rintro⟨a1,a2,a3,a4,a5,a6,a7,a8⟩;exact(Vt.eq_iff u v).1 ⟨a1,(Bal.eq_iff _ _).1 ⟨a2,a3⟩,(Cmd.eq_iff _ _).1 ⟨a4,a5,a6,a7,a8⟩⟩
 .rintro rfl;exact⟨rfl,rfl,rfl,rfl,rfl,rfl,rfl,rfl⟩
theorem kv{x:Operand}(a b:Vt):(do Go.eqGuard .eql 156 x y (.agg #[iv a.bu,iv a.b.r,iv a.b.n,iv a.w.k,iv a.w.c,iv a.w.s,iv a.w.n,iv a.w.v]) (.agg #[iv b.bu,iv b.b.r,iv b.b.n,iv b.w.k,iv b.w.c,iv b.w.s,iv b.w.n,iv b.w.v]);Go.binOp .eql 156 (.agg #[iv a.bu,iv a.b.r,iv a.b.n,iv a.w.k,iv a.w.c,iv a.w.s,iv a.w.n,iv a.w.v]) (.agg #[iv b.bu,iv b.b.r,iv b.b.n,iv b.w.k,iv b.w.c,iv b.w.s,iv b.w.n,iv b.w.v]):Sem Value).run prog W=.ok (.bool (decide (a=b))) W:=by
 have d:=Ya a.bu a.b.r a.b.n a.w.k a.w.c a.w.s a.w.n a.w.v b.bu b.b.r b.b.n b.w.k b.w.c b.w.s b.w.n b.w.v W;rw[jx]at d
 have e:(Go.eqGuard .eql 156 x y (.agg #[iv a.bu,iv a.b.r,iv a.b.n,iv a.w.k,iv a.w.c,iv a.w.s,iv a.w.n,iv a.w.v]) (.agg #[iv b.bu,iv b.b.r,iv b.b.n,iv b.w.k,iv b.w.c,iv b.w.s,iv b.w.n,iv b.w.v])).run prog W=.ok () W:=by kernel_rfl
 rw[Sem.run_bind,e,Result.andThen_ok];exact d
end
end
section
variable{B sz:Nat}{P:Program}{T:List Tg}{W w w':World}{e:TypeId}{g g':Gh}{l:List Cmd}{vs:List Value}{x:S3}
theorem Dj{ty:TypeId}{c:TypeDesc}{b k:Nat}{v:Value}(g:prog.underlying ty=some c)(d:c.isRow=false)(e:W.cell? ⟨b,k,none⟩=some v):(Instr.loadAt ty (pt b k)).run prog W=.ok v W:=by
 have a:(isAgg ty).run prog W=.ok false W:=by
  unfold isAgg;rw[Sem.run_bind,run_underlying g W];cases c<;>first|rfl|(simp only[TypeDesc.isRow]at d;cases d)
 have f:(loadVar ty ⟨b,k,none⟩).run prog W=.ok v W:=by simp[loadVar,a,e,go_sem]
 simp only[Instr.loadAt,Instr.sureAddr,Sem.run_bind,Sem.run_pure,Result.andThen_ok,f]
theorem Kn.tj{L:List Sh}(h:Kn B g w L)(k b:Nat)(o:Obj)(r i:Nat)(v:Bool)(c:L[k]?=some ⟨b,o,.n r i,v⟩):w.heap[b]?=some o/\g.t b=.n r i/\g.k b=0 :=
 have a:=h.row _ (mP c)
 ⟨a.1,a.2.1,a.2.2.2 (by simp)⟩
structure RdV(w:World)(x:S3)(sz:Nat)(vs:List Value):Prop where
 len:vs.length=x.n*sz
 cap:x.n<=x.c
 so:x.a=none->x.c=0
 ex:x.n=0\/∃ b off,x.a=some ⟨b,off,none⟩/\b<w.heap.size/\∀ j u,vs[j]?=some u->w.cell? ⟨b,off+j,none⟩=some u
theorem RdC.rv(h:RdC w x l):RdV w x 5 (cmL l) :=
 ⟨by rw[BH,h.len],h.cap,h.so,h.ex.imp (λe=>by rw[h.len,e];rfl) id⟩
theorem RdV.rc(h:RdV w x 5 (cmL l)):RdC w x l :=
 have a:x.n=l.length:=by have:=h.len;rw[BH]at this;omega
 ⟨a,h.cap,h.so,h.ex.imp (λe=>j' (by omega)) id⟩
theorem RdV.af(h:RdV w x sz vs)(b:Bw w w'):RdV w' x sz vs :=
 ⟨h.len,h.cap,h.so,h.ex.imp id λ⟨k,a,d,c,e⟩=>⟨k,a,d,Z' c b.size,λj u f=>(b.cell (p:=⟨k,a+j,none⟩) c).trans (e j u f)⟩⟩
theorem OwnS.rv{τ:Tg}{f:Bool}(h:OwnS g w τ f e sz x vs):RdV w x sz vs:=by
 rcases h.ex with⟨h1,h2,h3⟩|⟨b,cur,h1,h2,h3,h4,h5,h6,h7,h8⟩
 .exact⟨h.len,by omega,λ_=>h3,.inl h2⟩
 .refine⟨h.len,h3,λh=>(by rw[h1]at h;cases h),.inr ⟨b,0,h1,rl h2,λj u d=>?_⟩⟩;obtain⟨i,a,_,c⟩:=h.cell d;rw[h1]at a
  simp only[Y',Addr.mk.injEq,and_true]at a;subst a;rw[na];exact c
theorem dZ{t:TypeId}{x y:Operand}{z:S3}{b:Bool}(f:z.a.isNone=b)(h:P.underlying t=some (.slice e))(g:(Go.eqGuard .eql t x y z.v (.slice none 0 0)).run P W=.ok () W):(do Go.eqGuard .eql t x y z.v (.slice none 0 0);Go.binOp .eql t z.v (.slice none 0 0):Sem Value).run P W=.ok (.bool b) W:=by
 subst f;rw[Sem.run_bind,g,Result.andThen_ok];have d:=run_equal_slice_nil (P:=P) (w:=W) t e z.a z.n z.c h;simp only[S3.v,binOp,Sem.run_bind,d,Result.andThen_ok];rfl
theorem fN(t h e:TypeId)(i:TypeInfo)(g:P.underlying t=some (.slice e))(f:P.info? e=some i)(b:Nat)(a:Addr)(c:Nat):(Builtin.append_ #[t,t] h #[.slice (some ⟨b,0,none⟩) 0 0,.slice (some a) 0 c]).run P W=.ok (.slice (some ⟨b,0,none⟩) 0 0) W:=by
 have d:=run_firstCells_some (P:=P) W i.size 0 a 0 c [] (by simp) (by simp);simp[Builtin.append_,run_underlying g,sizeOf,typeInfo,f,Builtin.lenOf,d,storeCells]
structure FzV(g:Gh)(w:World)(x:S3)(sz:Nat)(vs:List Value):Prop where
 rd:RdV w x sz vs
 z:vs≠[]->Frz g x
theorem FzV.ch(h:FzV g w x sz vs)(c:Cg B T g w g' w')(v:Tg.z∉T:=by simp):FzV g' w' x sz vs:=by
 obtain⟨⟨k,q,r,i⟩,s⟩:=h;by_cases p:vs=[]
 .subst p;exact⟨⟨k,q,r,i.imp id λ⟨b,d,e,f,_⟩=>⟨b,d,e,Z' f c.size,λj u o=>(by cases o)⟩⟩,λh=>absurd rfl h⟩
 .rcases i with i|⟨b,d,e,f,e3⟩
  .exact absurd (j' (by rw[k,i,qj])) p
  .have hb:g.t b=.z:=s p _ e;refine⟨⟨k,q,r,.inr ⟨b,d,e,Z' f c.size,λj u o=>?_⟩⟩,λ_ a m=>?_⟩
   .rw[World.cell?_of_block (w:=w) (c.zc v f hb)];exact e3 j u o
   .rw[e]at m;simp only[Y']at m;subst m
    rw[c.tag f (by rw[hb];intro h;cases h)];exact hb
structure Fa where
 ro:Option Nat
 p:Gh->World->Prop
 st:∀ {B:Nat} {T:List Tg} {g g':Gh} {w w':World},Tg.z∉T->(∀ r,ro=some r->Tg.n 60 r∉T)->Cg B T g w g' w'->p g w->p g' w'
@[reducible] def AllF (g:Gh) (w:World):List Fa->Prop
 | []=>True
 | f::l=>f.p g w/\AllF g w l
variable{Φ:List Fa}
theorem AllF.ch(h:AllF g w Φ)(c:Cg B T g w g' w')(d:Tg.z∉T:=by simp)(a:∀ f∈Φ,∀ r,f.ro=some r->Tg.n 60 r∉T):AllF g' w' Φ:=by
 induction Φ with
 | nil=>trivial
 | cons f l ih=>exact⟨f.st d (a f O') c h.1,ih h.2 λf b=>a f (I' _ b)⟩
theorem AllF.rA(h:AllF g w Φ)(c:Cg B [] g w g' w'):AllF g' w' Φ:=h.ch c Q' λ_ _ _ _=>Q'
def Fa.zv(x:S3)(sz:Nat)(vs:List Value):Fa:=⟨none,λg w=>FzV g w x sz vs,λhz _ c h=>h.ch c hz⟩
def Fa.sl(x:S3)(l:List Int):Fa:=⟨none,λg w=>FSl g w x l,λhz _ c h=>h.ch c hz⟩
def Fa.ow(r:Nat)(e:TypeId)(sz:Nat)(x:S3)(vs:List Value):Fa:=⟨some r,λg w=>OwnS g w (.n 60 r) true e sz x vs,λ_ hr c h=>h.ch c (hr r rfl) (by simp)⟩
def TQ:List Tg:=[.n 60 0,.n 60 1,.n 60 2,.n 60 3]
theorem lK:Tg.z∉TQ:=by simp[TQ]
end
section
variable{P:Program}{fn:Func}{R:Ending->World->Prop}{w0:World}{Φ:List Fa}{g:Gh}{w:World}
section
structure GT(P:Program)(fn:Func)(R:Ending->World->Prop)(w0:World)(Φ:List Fa)(s:Xs)(g:Gh)(w:World):Prop where
 ex:AllF g w Φ->Cg w0.heap.size TQ gS w0 g w->GG P fn R w0.heap.size TQ s g w
theorem CgQ.af(c:Cg w0.heap.size TQ gS w0 g w):Bw w0 w:=Cg.af c λ_ _=>lK
variable{J:Act->World->Prop}{f:FuncId}{n:Nat}{s:Xs}
theorem tIn{a:Array Value}(Φ:List Fa)(e:P.funcs[f]?=some fn)(b:AllF gS w0 Φ)(h:GT P fn R w0 Φ ⟨[.c (PB fn)],⟨fn.ntmps,O7 0 a.toList,λ_=>undef⟩,[]⟩ gS w0)(d:fn.body.isSome=true:=by kernel_rfl)(g:Nat.ble a.size fn.ntmps=true:=by kernel_rfl):Calls P f a w0 R :=
 gIn TQ gS e d g (λ_ _=>⟨rfl,rfl⟩) (h.ex b (Cg.refl _ _ _ _))
theorem tX(h:AllF g w Φ->Cg w0.heap.size TQ gS w0 g w->GG P fn R w0.heap.size TQ s g w):GT P fn R w0 Φ s g w:=⟨h⟩
theorem tF(h:AllF g w Φ->Cg w0.heap.size TQ gS w0 g w->GT P fn R w0 Φ s g w):GT P fn R w0 Φ s g w:=⟨λF C=>(h F C).ex F C⟩
theorem tCv(Ψ:List Fa)(a:AllF g w Φ->AllF g w Ψ)(h:GT P fn R w0 Ψ s g w):GT P fn R w0 Φ s g w:=⟨λF C=>h.ex (a F) C⟩
theorem tR(m:Nat)(h:List Nat)(b:∀ gs g' w',GT P fn R w0 Φ (rn0 P [] gs m s h).s g' w')(a:∀ gs,(rn0 P [] gs m s h).o.map Ob.l'=(rn0 P [] gs m s h).o.map Ob.r':=by intro _;kernel_rfl):GT P fn R w0 Φ s g w :=
 ⟨λF C=>cQ [] m h a λgs g' w' c=>(b gs g' w').ex (F.rA c) (C.n c)⟩
theorem tV(i:Nat)(v:Value){S:Sem Value}(c:AllF g w Φ->Cg w0.heap.size TQ gS w0 g w->S.run P w=.ok v w)(b:GT P fn R w0 Φ (nxt s i v s.L).s g w)(d:Du s i=some (S>>=λv=>pure (.value v)):=by kernel_rfl)(a:(nxt s i undef s.L).o.map Ob.l'=(nxt s i undef s.L).o.map Ob.r':=by kernel_rfl):GT P fn R w0 Φ s g w:=⟨λF C=>qV i v (c F C) (b.ex F C) d a⟩
theorem tT(i:Nat)(v:Value){S:Sem Value}(c:∀ W,S.run P W=.ok v W)(b:GT P fn R w0 Φ (tkN s i v false).s g w)(d:Du s i=some (S>>=λv=>pure (.value v)):=by kernel_rfl)(a:(tkN s i undef false).o.map Ob.l'=(tkN s i undef false).o.map Ob.r':=by kernel_rfl):GT P fn R w0 Φ s g w:=⟨λF C=>qT i v c (b.ex F C) d a⟩
theorem tI(b t:Bool)(a:b=t)(h:GT P fn R w0 Φ (Lb s t) g w)(c:PN s=.bool b:=by kernel_rfl):GT P fn R w0 Φ s g w:=⟨λF C=>qI b t a (h.ex F C) c⟩
theorem tC(i:Nat){f:FuncId}{c:Array Value}{K:Ending->World->Prop}(k:AllF g w Φ->Cg w0.heap.size TQ gS w0 g w->Calls P f c w K)(m:(∀ b,w.heap.size<=b->g.t b=.z)->∀ e w',K e w'->∃ v Ψ,e=.returned v/\Bw w w'/\(AllF g w' Φ->AllF g w' Ψ)/\GT P fn R w0 Ψ (nxt s i v s.L).s g w')(n:∀ W,Db P s i W=some (.ok (.enter f c) W):=by intro _;kernel_rfl)(l:Kl s i=true:=by kernel_rfl)(a:(nxt s i undef s.L).o.map Ob.l'=(nxt s i undef s.L).o.map Ob.r':=by kernel_rfl):GT P fn R w0 Φ s g w :=
 ⟨λF C=>Af λd=>qC i (k F C) (λe w' h=>let ⟨v,Ψ,h1,h2,h3,h4⟩:=m (λb j=>(d.new b j).1) e w' h;⟨v,h1,h2,h4.ex (h3 (F.rA (Cg.eb (B:=w0.heap.size) h2))) (C.trans (Cg.eb h2))⟩) n l a⟩
theorem tC1(i:Nat){f:FuncId}{b:Array Value}{v:Value}(c:AllF g w Φ->Cg w0.heap.size TQ gS w0 g w->Calls P f b w λe w'=>e=.returned v/\Bw w w')(j:∀ w',GT P fn R w0 Φ (nxt s i v s.L).s g w')(k:∀ W,Db P s i W=some (.ok (.enter f b) W):=by intro _;kernel_rfl)(d:Kl s i=true:=by kernel_rfl)(a:(nxt s i undef s.L).o.map Ob.l'=(nxt s i undef s.L).o.map Ob.r':=by kernel_rfl):GT P fn R w0 Φ s g w:=tC i c (λ_ e w' h=>⟨v,Φ,h.1,h.2,id,j w'⟩) k d a
theorem tE(v:Value)(h:AllF g w Φ->Bw w0 w->R (.returned v) w)(a:Kn w0.heap.size g w s.L->(results fn s.f.act.tmps).run P w=.ok v w:=by intro _;kernel_rfl)(b:Lj s.K=true:=by kernel_rfl):GT P fn R w0 Φ s g w:=⟨λF C=>qE v (λ_=>h F (CgQ.af C)) a b⟩
def JT(P:Program)(w0:World)(n:Nat)(Inv:Nat->List (Nat × Value)->List Sh->List Fa->Prop)(k:Nat)(J:Act->World->Prop):Prop:=∀ k' e' L' Φ' g' w' z',k'<k->Inv k' e' L' Φ'->AllF g' w' Φ'->Cg w0.heap.size TQ gS w0 g' w'->Kn w0.heap.size g' w' L'->J (⟨n,e',z'⟩:Fm).act w'
theorem D1(n:Nat)(c:List (Nat × Value))(m:List Bool)(o:List Sh)(b:List Fa)(a:Nat->List (Nat × Value)->List Sh->List Fa->Prop)(x:Nat)(E:a x c o b)(t:AllF g w Φ->AllF g w b)(round:∀ k e L Φ,a k e L Φ->∀ z g w J,JT P w0 n a k J->GT P fn R w0 Φ (el s n J e z L) g w)(O:S4 s.K=true:=by kernel_rfl)(Q:s.f.n=n:=by kernel_rfl)(M:c.map (λp=>lk s.f.z s.f.e p.1)=c.map (·.2):=by kernel_rfl)(I:BM (AH m s.L)=o:=by kernel_rfl):GT P fn R w0 Φ s g w :=
 ⟨λF C=>Ca n c m o (λk d h e L=>∃ Ψ,a k e L Ψ/\AllF d h Ψ/\Cg w0.heap.size TQ gS w0 d h) O Q M I x (λ_=>⟨b,E,t F,C⟩) λk d h e z L ⟨Ψ,G,A,y⟩ J H=>(round k e L Ψ G z d h J λS D B v q u T N r j i K=>H S q u D T B N ⟨v,r,j,i⟩ K).ex A y⟩
theorem tB{k:Nat}{b:Nat->List (Nat × Value)->List Sh->List Fa->Prop}(i:JT P w0 n b k J)(d:Nat)(t:d<k){e:List (Nat × Value)}(m:List Bool){L':List Sh}{a:List Fa}(h:b d e L' a)(c:AllF g w Φ->AllF g w a)(q:isJ s.K=true:=by kernel_rfl)(r:jK s.K=J:=by kernel_rfl)(u:s.f.n=n:=by kernel_rfl)(o:e.map (λp=>lk s.f.z s.f.e p.1)=e.map (·.2):=by kernel_rfl)(j:BM (AH m s.L)=L':=by kernel_rfl):GT P fn R w0 Φ s g w :=
 ⟨λF C=>qB m (λz _ K=>i d e L' a g w z t h (c F) C K) q r u o j⟩
def JC(P:Program)(w0:World)(n:Nat)(Inv:List (Nat × Value)->List Sh->List Fa->Prop)(J:Act->World->Prop):Prop:=∀ e' L' Φ' g' w' z',Inv e' L' Φ'->AllF g' w' Φ'->Cg w0.heap.size TQ gS w0 g' w'->Kn w0.heap.size g' w' L'->J (⟨n,e',z'⟩:Fm).act w'
theorem Ig(n:Nat)(a:List (Nat × Value)->List Sh->List Fa->Prop)(m:∀ J,JC P w0 n a J->GT P fn R w0 Φ (XG s J) g w)(o:∀ e L Φ,a e L Φ->∀ z g w,GT P fn R w0 Φ ⟨s.K.tail,⟨n,e,z⟩,L⟩ g w)(q:s.K.isEmpty=false:=by kernel_rfl):GT P fn R w0 Φ s g w :=
 ⟨λF C=>DS n (λb c e L=>∃ Ψ,a e L Ψ/\AllF b c Ψ/\Cg w0.heap.size TQ gS w0 b c) q (λJ p=>(m J λk j i b c r h f d K=>p b c k r j ⟨i,h,f,d⟩ K).ex F C) λb c e z L ⟨Ψ,h,f,d⟩=>(o e L Ψ h z b c).ex f d⟩
theorem tD{b:List (Nat × Value)->List Sh->List Fa->Prop}(i:JC P w0 n b J){e:List (Nat × Value)}(m:List Bool){c:List Sh}{a:List Fa}(h:b e c a)(d:AllF g w Φ->AllF g w a)(o:isJ s.K=true:=by kernel_rfl)(q:jK s.K=J:=by kernel_rfl)(r:s.f.n=n:=by kernel_rfl)(k:e.map (λp=>lk s.f.z s.f.e p.1)=e.map (·.2):=by kernel_rfl)(j:BM (AH m s.L)=c:=by kernel_rfl):GT P fn R w0 Φ s g w :=
 ⟨λF C=>qB m (λz _ K=>i e c a g w z h (d F) C K) o q r k j⟩
theorem Ih(i j:Nat)(a:GT P fn R w0 Φ (J8 s i) g w)(b:GT P fn R w0 Φ (J8 s j) g w)(c:eT s i j=true:=by kernel_rfl):GT P fn R w0 Φ s g w:=⟨λF C=>DM i j c (a.ex F C) (b.ex F C)⟩
theorem Mh(i:Nat)(r:Nat){x:S3}{xs:List Value}(t O e:TypeId)(p b:Nat)(z:Value)(a:Addr)(m c:Nat)(news:List Value)(hx:AllF g w Φ->OwnS g w (.n 60 r) true e p x xs)(Ψ:List Fa)(M:AllF g w Φ->AllF g w Ψ)(I:Ψ.all (λf=>f.ro != some r)=true)(H:Tg.n 60 r∈TQ)(X:news.length=m*p)(Q:∀ u∈news,u.oneCell'=true)(k:AllF g w Φ->Kn w0.heap.size g w s.L->∀ j u,news[j]?=some u->w.cell? (a.add j)=some u)(D:x.n+m<=maxLen)(d:(x.n+m)*b<=140737488355328)(W:∀ x' g' w',x'.n=x.n+m->GT P fn R w0 (Fa.ow r e p x' (xs++news)::Ψ) (nxt s i (S3.v x') s.L).s g' w')(E:0<m:=by decide)(J:0<p:=by decide)(ht:P.underlying t=some (.slice e):=by kernel_rfl)(h:(P.info? e).map (λi=>(i.zero,i.size,i.bytes))=some (some z,p,b):=by kernel_rfl)(K:Nat.beq z.cells.size p=true:=by kernel_rfl)(A:Du s i=some (Builtin.append_ #[t,t] O #[x.v,.slice (some a) m c]>>=λv=>pure (.value v)):=by kernel_rfl)(G:(nxt s i undef s.L).o.map Ob.l'=(nxt s i undef s.L).o.map Ob.r':=by kernel_rfl)(U:s.L.all (λy=>[Tg.n 60 r].all λt=>y.t.ne t)=true:=by kernel_rfl):GT P fn R w0 Φ s g w:=by
 refine⟨λF C=>Km i t O e p b z a m c news (hx F) A G U ht h K J E X Q (k F) D d λx' g' w' T Y N hG=>?_⟩;refine(W x' g' w' Y).ex ⟨T,(M F).ch (N w0.heap.size [.n 60 r] (D'.2 rfl)) (by simp) λf V q Z E=>?_⟩ (C.trans (N _ _ H));have B:=nN.1 I f V;rw[Z]at B
 have S:q=r:=by simpa using E
 rw[S]at B
 simp at B
end
end
end
section
section
structure Plc(l:List Vt)(s:Int)(p:Nat):Prop where
 le:p<=l.length
 lo:∀ (i:Nat) (v:Vt),i<p->l[i]?=some v->v.bu<s
 hi:∀ (i:Nat) (v:Vt),p<=i->l[i]?=some v->s<=v.bu
theorem NJ(a b:List Vt)(v:Vt)(h:∀ u∈a,u.bu<v.bu):Bn (a++b) v=a++Bn b v:=by
 induction a with
 | nil=>rfl
 | cons x a ih =>
  show Bn (x::(a++b)) v=x::(a++Bn b v);rw[Bn,if_pos (h x O'),ih (λu c=>h u (I' _ c))]
variable{l:List Vt}{m p:Nat}{s:Int}{u v x:Vt}
theorem Plc.front(h:Plc l s p):∀ u∈l.take p,u.bu<s:=by
 intro u b;obtain⟨i,a⟩:=nA.1 b;rw[nz]at a
 split at a
 .rename_i hip;exact h.lo i u hip a
 .cases a
theorem Plc.has(h:Plc l v.bu p)(f:l[p]?=some u)(c:u.bu=v.bu):Bn l v=l.take p++(v::l.drop (p+1)):=by
 obtain⟨d,e⟩:=V'.1 f;have b:l.drop p=u::l.drop (p+1):=by rw[<- e];exact nv d
 have a:=NJ (l.take p) (l.drop p) v h.front;rw[nI]at a
 rw[a,b,Bn,if_neg (by omega),if_pos c]
theorem Plc.no(h:Plc l v.bu p)(c:∀ u,l[p]?=some u->u.bu≠v.bu):Bn l v=l.take p++(v::l.drop p):=by
 have a:=NJ (l.take p) (l.drop p) v h.front;rw[nI]at a
 rw[a];rcases nt p l.length with hp|hp
 .have hd:l.drop p=l[p]::l.drop (p+1):=nv hp;have d:=h.hi p l[p] (A' _) (G' hp);have b:=c l[p] (G' hp);rw[hd,Bn,if_neg (by omega),if_neg b]
 .rw[nr hp,Bn]
theorem Plc.sc(d:BL l)(e:l[p]?=some u)(c:u.bu=s):Ae l s=[u]:=by
 have b:=Jp d s;have a:u∈Ae l s:=Be.2 ⟨nA.2 ⟨p,e⟩,c⟩
 match hl:Ae l s with
 | []=>rw[hl]at a;cases a
 | [x]=>rw[hl]at a;rw[D'.1 a]
 | x::y::r=>rw[hl]at b;simp at b
theorem Plc.rP(b:BL l)(h:Plc l s p)(f:∀ u,l[p]?=some u->u.bu≠s):Ae l s=[]:=by
 rw[pR];intro u a;obtain⟨a,e⟩:=Be.1 a;obtain⟨i,c⟩:=nA.1 a;rcases pK i p with hip|rfl|hip
 .have:=h.lo i u hip c;omega
 .exact f u c e
 .have hip':i<l.length:=(V'.1 c).1;have d:p<l.length:=by omega
  have g:=h.hi p l[p] (A' _) (G' d);have k:=rise_lt b hip (G' d) c;omega
where
 rise_lt:∀ {l:List Vt} (b:BL l) {i j:Nat} (hij:i<j) {u v:Vt} (a:l[i]?=some u) (hv:l[j]?=some v),u.bu<v.bu
  | x::xs,b,0,j+1,_,u,v,a,hv=>by
   simp at a hv;subst a;exact b.1 v (nA.2 ⟨j,hv⟩)
  | x::xs,b,i+1,j+1,hij,u,v,a,hv=>rise_lt (l:=xs) b.2 (i:=i) (j:=j) (by omega) (by simpa using a) (by simpa using hv)
  | [],_,i,j,_,u,v,a,hv=>by simp at a
theorem BL.get(b:BL l){i j:Nat}(a:i<j){u v:Vt}(c:l[i]?=some u)(d:l[j]?=some v):u.bu<v.bu:=Plc.rP.rise_lt b a c d
theorem Plc.half(b:BL l){s:Int}{i j h:Nat}{u:Vt}(a:l[h]?=some u)(d:∀ (k:Nat) (v:Vt),k<i->l[k]?=some v->v.bu<s)(c:∀ (k:Nat) (v:Vt),j<=k->l[k]?=some v->s<=v.bu) :
  (u.bu<s->∀ (k:Nat) (v:Vt),k<h+1->l[k]?=some v->v.bu<s)/\(s<=u.bu->∀ (k:Nat) (v:Vt),h<=k->l[k]?=some v->s<=v.bu):=by
 constructor
 .intro g k v hk hv;rcases nt k h with hkh|hkh
  .have:=b.get hkh hv a;omega
  .obtain rfl:k=h:=by omega
   rw[a]at hv;cases hv;exact g
 .intro g k v hk hv;rcases nt h k with hkh|hkh
  .have:=b.get hkh a hv;omega
  .obtain rfl:k=h:=by omega
   rw[a]at hv;cases hv;exact g
def Qx(o:Option Vt)(v:Vt):Option Vt:=match o with
 | none=>some v
 | some u=>if u.b.lt v.b then some v else some u
theorem R6(l:List Vt)(v:Vt)(o:Option Vt):BQ (l++[v]) o=Qx (BQ l o) v:=by
 induction l generalizing o with
 | nil =>
  cases o with
  | none=>rfl
  | some u =>
   show BQ [v] (some u)=Qx (some u) v;rw[BQ,Qx];split<;>rfl
 | cons x l ih =>
  cases o with
  | none=>exact ih _
  | some u =>
   show BQ (x::(l++[v])) (some u)=Qx (BQ (x::l) (some u)) v;rw[BQ,BQ];split
   .exact ih _
   .exact ih _
def vt0:Vt:=⟨0,⟨0,0⟩,⟨0,0,0,0,0⟩⟩
def EY(o:Option Vt)(x:Vt):Prop:=(o=none/\x=vt0)\/(o=some x/\Ac x.b)
theorem EY.next{o:Option Vt}(h:EY o x)(a:Ac v.b):EY (Qx o v) (if x.b.lt v.b then v else x):=by
 rcases h with⟨rfl,rfl⟩|⟨rfl,hx⟩
 .rw[if_pos (by unfold Ac at a;unfold Bal.lt;simp[vt0];omega)];exact .inr ⟨rfl,a⟩
 .show EY (if x.b.lt v.b then some v else some x) _;split
  .exact .inr ⟨rfl,a⟩
  .exact .inr ⟨rfl,hx⟩
theorem EY.pick{a:List (List Vt)}(d:0<=s/\s<=39)(c:∀ l∈a,∀ v∈l,Ah v)(h:EY (FY a s) x):(if Ce a s=0 then((FY a s).map (·.w)).getD ⟨0,0,0,0,0⟩else⟨0,0,0,0,0⟩)=x.w/\(if Ce a s=0 then(FY a s).isSome else false)=!decide (x.b.r=0/\x.b.n=0)/\Ce a s=0:=by
 have e:Ce a s=0:=by unfold Ce;rw[if_neg (λg=>g d),if_pos c]
 rw[if_pos e,if_pos e];rcases h with⟨h1,rfl⟩|⟨h1,h2⟩
 .rw[h1];exact⟨rfl,rfl,e⟩
 .rw[h1];refine⟨rfl,?_,e⟩;rw[E' (by unfold Ac at h2;omega)];rfl
theorem Zc(l:List Vt){u v:Vt}(h:u≠v):BJ l u+BJ l v<=l.length:=by
 induction l with
 | nil=>simp[BJ]
 | cons x l ih =>
  unfold BJ at ih ⊢;rw[ph,ph,mY];by_cases a:x=u
  .subst a;rw[if_pos (by simp),if_neg (by simp[h])];omega
  .by_cases hy:x=v
   .subst hy;rw[if_neg (by simp[a]),if_pos (by simp)];omega
   .rw[if_neg (by simp[a]),if_neg (by simp[hy])];omega
theorem Za(h:0<BJ l v):v∈l:=by
 unfold BJ at h;obtain⟨u,a,e⟩:=qd.1 h;rw[<- m5 e];exact a
theorem dC(a b:List Vt)(v:Vt):BJ a v<=BJ (a++b) v:=by
 unfold BJ;rw[pD];omega
theorem RC(b:l.length<=m)(h:m<2*BJ l v):Ha l m=some v:=by
 cases hf:Ha l m with
 | none =>
  have:=nK.1 hf v (Za (by omega));simp at this;omega
 | some u =>
  have a:=List.find?_some hf;simp at a;by_cases e:u=v
  .rw[e]
  .have:=Zc l e;omega
theorem X4(h:∀ v,2*BJ l v<=m):Ha l m=none:=by
 unfold Ha;rw[nK];intro v _;have:=h v;simp;omega
end
end
section
open Go.RowKit
section
variable{B cap e n p sz:Nat}{P:Program}{a:Option Addr}{b:Bal}{l:List Vt}{r:Bool}{s:Int}{v:Vt}{w:World}{x:S3}{xs:List Value}{y:Value}
theorem NTab.tU(h:NTab w):w.cell? ⟨2,1*3+2,none⟩=some (.int .i64 1073741824):=h.cell 5 (by omega)
theorem NTab.value(h:NTab w)(k:Nat)(a:1<=k)(b:k<=3):w.cell? ⟨2,k*3+2,none⟩=some (.int .i64 (if k=1 then 1073741824 else 0)):=by
 rcases(by omega:k=1\/k=2\/k=3)with rfl|rfl|rfl
 .exact h.cell 5 (by omega)
 .exact h.cell 8 (by omega)
 .exact h.cell 11 (by omega)
theorem Ex(k c s n v:Int)(w:World)(G:NTab w) :
  Calls prog 41 #[.agg (cmA k c s n v)] w λe w'=>e=.returned (.int .i64 (Bi k c s n v))/\Bw w w':=by
 have b:Bw w (w.alloc (.cells (cmA k c s n v) 51)):=(Below.refl _ _).alloc (A' _) _;have h:=Bc.made w k c s n v;have t:=G.af b;have F:=GM k c s n v;generalize E:w.alloc (.cells (cmA k c s n v) 51)=W at b h t;have u:w.alloc (.cells #[.int .i64 k,.int .i64 c,.int .i64 s,.int .i64 n,.int .i64 v] 51)=W:=E;obtain⟨x,y,z,A,B⟩:=Fc h.row;clear G;go_enter func41,ntmps41
 go_wp2_with fail
 clear E u;refine(S2 k _).mono ?_;rintro e K ⟨rfl,rfl⟩;by_cases o:0<=k/\k<=3
 .rw[M' o];by_cases C:k=0
  .subst C;go_wp2_with (refine wpList_load_row rfl 51 _ rfl w.heap.size rfl 51 _ (0,0) _ h.row underlying51 rfl F ?_)
   refine(YZ c s n v _).mono ?_;rintro e f ⟨rfl,g⟩;have j:Bw w f:=b.trans (g.mono b.size);go_wp2
   go_ret;exact⟨rfl,j⟩
  .obtain⟨m,rfl⟩:=mZ o.1;have r:1<=(m:Int)/\(m:Int)<=3:=by omega
   go_wp2_with (refine wpList_load_row rfl 51 _ rfl w.heap.size rfl 51 _ (0,0) _ h.row underlying51 rfl F ?_)
   refine(OQ (m:Int) c s n v _ r t).mono ?_;rintro e f ⟨rfl,g⟩;have j:Bw w f:=b.trans (g.mono b.size);have i:=h.af g;have q:=t.af g;clear x y z A B h t g b;by_cases a:InC c s n v
   .rw[M' a];obtain⟨x,y,z,A,B⟩:=Fc i.row;have D:=q.value m (by omega) (by omega);have H:(0:Int)<=(m:Int):=by omega
    have I:(m:Int)<4:=by omega
    have J:m<4:=by omega
    clear i q o C;by_cases p:v<=(if m=1 then 1073741824 else 0)
    .have d:Hid (0=Bi (m:Int) c s n v):=by
      refine(TZ r a ?_).symm;unfold InC at a;split at p<;>omega
     clear a r;generalize (if m=1 then(1073741824:Int)else 0)=V at D p;go_wp2_with fail
     go_quiet (fail)
     have l:Bw w (f.drewN nq):=Aq j nq;generalize f.drewN nq=w3 at l ⊢;go_wp2
     go_ret;exact⟨CT d.out,l⟩
    .have d:Hid (3=Bi (m:Int) c s n v):=by
      unfold InC at a;refine(Vn ⟨?_,by omega⟩ (by unfold InC;omega) ?_).symm
      .split at p<;>omega
      .split at p<;>omega
     clear a r;generalize (if m=1 then(1073741824:Int)else 0)=V at D p;go_wp2_with fail
     go_quiet (fail)
     have l:Bw w (f.drewN nq):=Aq j nq;generalize f.drewN nq=w3 at l ⊢;go_wp2
     go_ret;exact⟨CT d.out,l⟩
   .rw[E' a];have d:Hid (2=Bi (m:Int) c s n v):=(RJ r a).symm;clear a;go_wp2
    go_ret;exact⟨CT d.out,j⟩
 .rw[E' o];have d:Hid (4=Bi k c s n v):=(Vo o).symm;go_wp2
  go_ret;exact⟨CT d.out,b⟩
def KK(l:List Vt)(n:Int):Prop:=0<=n/\n<=40/\∀ s:Int,0<=s->(n<=s↔∀ u∈l,u.bu<s)
theorem KK.nil:KK [] 0:=⟨by omega,by omega,λs a=>⟨λ_ u b=>(Q' b).elim,λ_=>a⟩⟩
theorem KK.snoc{n:Int}(h:KK l n){v:Vt}(b:0<=v.bu)(c:v.bu<=39)(d:n<=v.bu):KK (l++[v]) (v.bu+1):=by
 refine⟨by omega,by omega,λs a=>⟨λg u hu=>?_,λg=>?_⟩⟩
 .rcases P'.1 hu with hu|hu
  .exact(h.2.2 s a).1 (by omega) u hu
  .obtain rfl:u=v:=by simpa using hu
   omega
 .have:=g v (by simp);omega
theorem kr{p:Bal}(h:p≠Bd):(!decide (Ac p))=!decide (Ao p):=by
 have:Ac p↔Ao p:=⟨.inl,λg=>g.resolve_right λe=>h ((Bal.eq_iff p Bd).1 e)⟩;simp[this]
theorem j5{P Q:Prop}[Decidable P][Decidable Q](h:Q↔¬ P):decide P=!decide Q:=by by_cases g:P<;>simp[h,g]
theorem Wq(h:BL l)(k:Nat):BL (l.take k):=by
 induction k with
 | zero=>exact trivial
 | succ k ih =>
  cases hh:l[k]? with
  | none=>rw[mJ (by have:=List.getElem?_eq_none_iff.1 hh;omega)];exact h
  | some v =>
   rw[FT l k v hh,Og];refine⟨ih,λu b=>?_⟩;obtain⟨i,a⟩:=nA.1 b;rw[nz]at a
   split at a
   .rename_i hk;exact h.get hk a hh
   .cases a
theorem Ej(b:decide (0<=s/\s<=39)=r) :
  Calls prog 164 #[iv s] w λe w'=>e=.returned (.bool r)/\Bw w w':=by
 subst b;refine tIn [] func164 trivial (tR 7 [] λc _ _=>?_);by_cases a:0<=s
 .refine tV 1 (.bool true) (λF C=>(rGe (t:=3) (m:=s) (n:=0) (x:=(.tmp 3)) (y:=(.const (iv 0))) (M' a))) (tR 6 [] λd _ _=>tE (.bool (decide (s<40))) λ_ B=>⟨by rw[nC.2 (show s<40↔0<=s/\s<=39 by omega)],B⟩)
 .refine tV 1 (.bool false) (λF C=>(rGe (t:=3) (m:=s) (n:=0) (x:=(.tmp 3)) (y:=(.const (iv 0))) (E' a))) (tR 6 [] λf _ _=>tE (.bool false) λ_ B=>⟨by rw[E' (show ¬ (0<=s/\s<=39)by omega)],B⟩)
theorem I5(f:decide (Ac b)=r) :
  Calls prog 142 #[.agg #[iv b.r,iv b.n]] w λe w'=>e=.returned (.bool r)/\Bw w w':=by
 subst f;refine tIn [] func142 trivial (tR 9 [0,0,0] λg _ _=>?_);by_cases a:1<=b.r
 .refine tV 2 (.bool true) (λF C=>(rGe (t:=3) (m:=b.r) (n:=1) (x:=(.tmp 4)) (y:=(.const (iv 1))) (M' a))) (tR 3 [0] λh _ _=>?_);by_cases c:b.r<=65536
  .refine tV 6 (.bool true) (λF C=>(rLe (t:=3) (m:=b.r) (n:=65536) (x:=(.tmp 8)) (y:=(.const (iv 65536))) (M' c))) (tR 4 [0] λi _ _=>?_);by_cases d:0<=b.n
   .refine tV 11 (.bool true) (λF C=>(rGe (t:=3) (m:=b.n) (n:=0) (x:=(.tmp 13)) (y:=(.const (iv 0))) (M' d))) (tR 8 [0] λj _ _=>tE (.bool (decide (b.n<5))) λ_ B=>⟨by rw[nC.2 (show b.n<5↔Ac b by unfold Ac;omega)],B⟩)
   .refine tV 11 (.bool false) (λF C=>(rGe (t:=3) (m:=b.n) (n:=0) (x:=(.tmp 13)) (y:=(.const (iv 0))) (E' d))) (tR 8 [] λk _ _=>tE (.bool false) λ_ B=>⟨by rw[E' (show ¬ Ac b by unfold Ac;omega)],B⟩)
  .refine tV 6 (.bool false) (λF C=>(rLe (t:=3) (m:=b.r) (n:=65536) (x:=(.tmp 8)) (y:=(.const (iv 65536))) (E' c))) (tR 13 [] λl _ _=>tE (.bool false) λ_ B=>⟨by rw[E' (show ¬ Ac b by unfold Ac;omega)],B⟩)
 .refine tV 2 (.bool false) (λF C=>(rGe (t:=3) (m:=b.r) (n:=1) (x:=(.tmp 4)) (y:=(.const (iv 1))) (E' a))) (tR 17 [] λo _ _=>tE (.bool false) λ_ B=>⟨by rw[E' (show ¬ Ac b by unfold Ac;omega)],B⟩)
theorem Er{a:Bal}(d:decide (a.lt b)=r) :
  Calls prog 143 #[.agg #[iv a.r,iv a.n],.agg #[iv b.r,iv b.n]] w λe w'=>e=.returned (.bool r)/\Bw w w':=by
 subst d;refine tIn [] func143 trivial (tR 15 [0,0,0,0,0,1] λf _ _=>?_);by_cases c:a.r≠b.r
 .refine tI ((a.r != b.r)) true (by simpa using c) (tR 9 [0,1] λg _ _=>tE (.bool (decide (a.r<b.r))) λ_ B=>⟨by rw[nC.2 (show a.r<b.r↔a.lt b by unfold Bal.lt;omega)],B⟩)
 .refine tI ((a.r != b.r)) false (by simpa using c) (tR 10 [0,1] λh _ _=>tE (.bool (decide (a.n<b.n))) λ_ B=>⟨by rw[nC.2 (show a.n<b.n↔a.lt b by unfold Bal.lt;omega)],B⟩)
theorem GU(i:NTab w){r:Bool}(h:decide (Ah v)=r) :
  Calls prog 148 #[.agg #[iv v.bu,iv v.b.r,iv v.b.n,iv v.w.k,iv v.w.c,iv v.w.s,iv v.w.n,iv v.w.v]] w λe w'=>e=.returned (.bool r)/\Bw w w':=by
 subst h;refine tIn [] func148 trivial (tR 9 [0,0,0] λj _ _=>?_);by_cases a:0<=v.bu/\v.bu<=39
 .refine tC1 2 (λF C=>Ej (r:=true) (M' a)) λ_=>tR 3 [0] λl _ _=>?_;by_cases d:Ac v.b
  .refine tC1 6 (λF C=>I5 (b:=v.b) (r:=true) (M' d)) λ_=>tR 4 [0] λm _ _=>tC1 11 (λF C=>Ex v.w.k v.w.c v.w.s v.w.n v.w.v _ (i.af (CgQ.af C))) λ_=>tR 4 [] λo _ _=>tE (.bool (Bi v.w.k v.w.c v.w.s v.w.n v.w.v==0)) λ_ B=>⟨by rw[show(Bi v.w.k v.w.c v.w.s v.w.n v.w.v==0)=decide (Ah v)from by rw[show(Bi v.w.k v.w.c v.w.s v.w.n v.w.v==0)=decide (v.w.e=0)from rfl];exact nC.2 ⟨λg=>⟨a,d,g⟩,λg=>g.2.2⟩],B⟩
  .refine tC1 6 (λF C=>I5 (b:=v.b) (r:=false) (E' d)) λ_=>tR 9 [] λp _ _=>tE (.bool false) λ_ B=>⟨by rw[E' (show ¬ Ah v from λg=>d g.2.1)],B⟩
 .refine tC1 2 (λF C=>Ej (r:=false) (E' a)) λ_=>tR 13 [] λf _ _=>tE (.bool false) λ_ B=>⟨by rw[E' (show ¬ Ah v from λg=>a g.1)],B⟩
theorem Il{p:Bal}{u:Vt}:Ag ⟨p,l++[u]⟩↔Ag ⟨p,l⟩/\(Ah u/\¬ p.lt u.b)/\∀ x∈l,x.bu<u.bu:=by
 unfold Ag;simp only[Og,P',D'];exact⟨λh=>⟨⟨h.1,λv a=>h.2.1 v (.inl a),h.2.2.1⟩,h.2.1 u (.inr rfl),h.2.2.2⟩,λh=>⟨h.1.1,λv a=>a.elim (h.1.2.1 v) λe=>by rw[e];exact h.2.1,h.1.2.2,h.2.2⟩⟩
theorem Xc{p:Bal}(h:Ag ⟨p,l⟩)(k:Nat):Ag ⟨p,l.take k⟩:=⟨h.1,λv a=>h.2.1 v (mL a),(Wq h.2.2 k)⟩
theorem Sv.op(h:Sv w x.v l):x.n=l.length/\(l=[]\/∃ b off,x.a=some ⟨b,off,none⟩/\∀ i v,l[i]?=some v->w.rangeAt b (off+8*i) (vtC v)):=by
 obtain⟨j,m,k⟩:=x;obtain⟨⟨a,c,e,_,_,d⟩,_⟩:=h;simp only[S3.v,Value.slice.injEq]at e;obtain⟨rfl,rfl,rfl⟩:=e;exact⟨rfl,d.imp id λ⟨b,off,f,_,g⟩=>⟨b,off,f,g⟩⟩
theorem Sv.at_(h:Sv w x.v l){b c i:Nat}{v:Vt}(e:x.a=some ⟨b,c,none⟩)(d:l[i]?=some v):w.rangeAt b (c+8*i) (vtC v):=by
 rcases h.op.2 with rfl|⟨b',off',ha,hc⟩
 .simp at d
 .rw[e]at ha;cases ha;exact hc i v d
theorem Sv.ad(h:Sv w x.v l){i:Nat}(c:i<l.length):∃ b off,x.a=some ⟨b,off,none⟩:=by
 rcases h.op.2 with rfl|⟨b',off',ha,hc⟩
 .exact absurd c (ou _)
 .exact⟨b',off',ha⟩
theorem Sv.s3{x:Value}(h:Sv w x l):∃ y:S3,x=y.v:=by
 obtain⟨⟨a,b,e,_,_,c⟩,_⟩:=h;exact⟨⟨a,l.length,b⟩,e⟩
theorem Ja(p:Bal)(x:Value)(l:List Vt)(w:World)(h:Sv w x l)(S:NTab w) :
  Calls prog 141 #[.agg (acA p x)] w λe w'=>e=.returned (.int .i64 (Fu ⟨p,l⟩))/\Bw w w':=by
 obtain⟨y,rfl⟩:=h.s3;have hn:=h.op.1;have a7:=h.len;show Calls prog 141 #[.agg #[iv p.r,iv p.n,S3.v y]] w _;refine tIn [] func141 trivial (tR 7 [0,0] λf _ _=>Ig 43 (λL K d=>∃ (v:Bool),L=[(1,pt (f 0) 0),(15,.bool v)]/\K=[⟨(f 0),.cells #[iv p.r,iv p.n,S3.v y] 99,.z,false⟩]/\d=[]/\v=!decide (Ao p)) (λJ u=>?_) ?_)
 .refine tR 4 [0] λa8 _ _=>?_;by_cases q:p=Bd
  .refine tV 3 (.bool false) (λF C=>(IC (x:=(.tmp 7)) (y:=(.tmp 8)) p Bd q)) (tR 7 [] λa9 _ _=>tD u [true] ⟨false,rfl,rfl,rfl,by rw[q];rfl⟩ (λF=>trivial))
  .refine tV 3 (.bool true) (λF C=>(ID (x:=(.tmp 7)) (y:=(.tmp 8)) p Bd q)) (tR 3 [0] λb0 _ _=>tC1 7 (λF C=>I5 (b:=p) rfl) λ_=>tR 3 [] λb1 _ _=>tD u [true] ⟨_,rfl,rfl,rfl,kr q⟩ (λF=>trivial))
 rintro _ _ _ ⟨v,rfl,rfl,rfl,H⟩ _ _ _;by_cases q:v=true
 .refine tI (v) true q (tR 4 [] λb2 _ _=>tE (iv 5) λ_ B=>⟨by rw[Fu,if_neg λg:Ag _=>absurd g.1 (by simpa[q]using H.symm)],B⟩)
 .refine tI (v) false (by simpa using q) ?_;have hp:Ao p:=by simpa[q]using H.symm
  refine tR 14 [0] λb3 _ _=>D1 43 [(1,pt (f 0) 0),(3,iv 0),(17,S3.v y),(18,iv (y.n:Int)),(19,iv 0)] [true] [⟨(f 0),.cells #[iv p.r,iv p.n,S3.v y] 99,.z,false⟩] [] (λkk L K d=>∃ (j:Nat) (n:Int),kk=y.n-j/\L=[(1,pt (f 0) 0),(3,iv n),(17,S3.v y),(18,iv (y.n:Int)),(19,iv (j:Int))]/\K=[⟨(f 0),.cells #[iv p.r,iv p.n,S3.v y] 99,.z,false⟩]/\d=[]/\j<=y.n/\Ag ⟨p,l.take j⟩/\KK (l.take j) n) (y.n) ⟨0,0,rfl,rfl,rfl,rfl,by omega,⟨hp,λv H=>(by cases H),trivial⟩,KK.nil⟩ (λF=>trivial) ?_;rintro k _ _ _ ⟨j,n,rfl,rfl,rfl,rfl,hj,E,G⟩ _ _ _ J u;refine tR 5 [] λU _ _=>?_;by_cases I:j<y.n
  .refine tI ((decide ((j:Int)<(y.n:Int)))) true (M' (by omega)) ?_;obtain⟨v,H⟩:∃ v,l[j]?=some v:=⟨_,G' (by omega)⟩;obtain⟨b,O,Q⟩:=h.ad (i:=j) (by omega);have N:l.take (j+1)=l.take j++[v]:=FT l j v H;refine tR 5 [] λV _ _=>tV 0 (pt b (O+8*j)) (λF C=>(U8 Q j (by omega))) (tV 1 (.agg #[iv v.bu,iv v.b.r,iv v.b.n,iv v.w.k,iv v.w.c,iv v.w.s,iv v.w.n,iv v.w.v]) (λF C=>(dY v ((h.af (CgQ.af C)).at_ Q H))) (tR 5 [0,0,1,0] λD _ _=>Ig 43 (λL K d=>∃ (z:Bool),L=[(1,pt (f 0) 0),(3,iv n),(5,pt (D 0) 0),(17,S3.v y),(18,iv (y.n:Int)),(19,iv (j:Int)),(38,.bool z)]/\K=[⟨(f 0),.cells #[iv p.r,iv p.n,S3.v y] 99,.z,false⟩,⟨(D 0),.cells #[iv v.bu,iv v.b.r,iv v.b.n,iv v.w.k,iv v.w.c,iv v.w.s,iv v.w.n,iv v.w.v] 156,.z,false⟩]/\d=[]/\z=!decide (Ag ⟨p,l.take j++[v]⟩)) (λJ u=>?_) ?_))
   .refine tR 2 [1] λW _ _=>?_;by_cases I:Ah v
    .refine tC1 1 (λF C=>GU (v:=v) (S.af (CgQ.af C)) (r:=true) (M' I)) λ_=>tR 5 [1] λX _ _=>?_;have R:=G.2.2 v.bu I.1.1;by_cases P:v.bu<n
     .refine tV 7 (.bool true) (λF C=>(rLt (t:=3) (m:=v.bu) (n:=n) (x:=(.tmp 28)) (y:=(.tmp 29)) (M' P))) (tR 9 [] λY _ _=>tD u [true,true] ⟨true,rfl,rfl,rfl,by rw[E' λg=>absurd (R.2 (Il.1 g).2.2) (by omega)];rfl⟩ (λF=>trivial))
     .refine tV 7 (.bool false) (λF C=>(rLt (t:=3) (m:=v.bu) (n:=n) (x:=(.tmp 28)) (y:=(.tmp 29)) (E' P))) (tR 6 [0,1] λZ _ _=>tC1 14 (λF C=>Er (a:=p) (b:=v.b) rfl) λ_=>tR 2 [] λa0 _ _=>tD u [true,true] ⟨_,rfl,rfl,rfl,j5 (Il.trans ⟨λg=>g.2.1.2,λg=>⟨E,⟨I,g⟩,R.1 (by omega)⟩⟩)⟩ (λF=>trivial))
    .refine tC1 1 (λF C=>GU (v:=v) (S.af (CgQ.af C)) (r:=false) (E' I)) λ_=>tR 15 [] λa1 _ _=>tD u [true,true] ⟨true,rfl,rfl,rfl,by rw[E' λg=>I (Il.1 g).2.1.1];rfl⟩ (λF=>trivial)
   rintro _ _ _ ⟨z,rfl,rfl,rfl,T⟩ _ _ _;by_cases M:z=true
   .refine tI (z) true M (tR 4 [] λa2 _ _=>tE (iv 5) λ_ B=>⟨by rw[Fu,if_neg λg=>absurd (N▸Xc g (j+1)) (by simpa[M]using T.symm)],B⟩)
   .refine tI (z) false (by simpa using M) ?_;have A:Ag ⟨p,l.take j++[v]⟩:=by simpa[M]using T.symm
    have o:=(Il.1 A).2;refine tR 4 [1] λa3 _ _=>tV 2 (iv (v.bu+1)) (λF C=>(AO 40 v.bu underlying3 (by have:=o.1.1.1;omega))) (tR 4 [] λa4 _ _=>tV 0 (iv ((j:Int)+1)) (λF C=>(AO 19 (j:Int) underlying3 (by omega))) (tR 2 [] λa5 _ _=>tB u (y.n-(j+1)) (by omega) [true,false] ⟨j+1,v.bu+1,rfl,rfl,rfl,rfl,by omega,by rw[N];exact A,by rw[N];exact G.snoc o.1.1.1.1 o.1.1.1.2 ((G.2.2 v.bu o.1.1.1.1).2 o.2)⟩ (λF=>trivial)))
  .refine tI ((decide ((j:Int)<(y.n:Int)))) false (E' (by omega)) ?_;rw[mJ (by omega)]at E
   refine tR 5 [] λa6 _ _=>tE (iv 0) λ_ B=>⟨by rw[Fu,if_pos E],B⟩
theorem Sv.cells{ad:Addr}{m:List Vt}(h:Sv w (.slice (some ad) n cap) m):∀ j u,(vtL m)[j]?=some u->w.cell? (ad.add j)=some u:=by
 intro j u d;obtain⟨⟨a,l,e,o,p,f⟩,_⟩:=h;simp only[Value.slice.injEq]at e;obtain⟨rfl,rfl,rfl⟩:=e;rcases f with rfl|⟨b,off,hab,_,hcell⟩
 .simp[vtL]at d
 .obtain rfl:ad=⟨b,off,none⟩:=by simpa using hab
  obtain⟨v,g,i⟩:=bk m j u d;have c:(⟨b,off,none⟩:Addr).add j=⟨b,off+j,none⟩:=by unfold Addr.add;split<;>simp_all
  rw[c];have k:=hcell (j/8) v g (j%8) u i
  rwa [show off+8*(j/8)+j%8=off+j by omega]at k
theorem QS(w:World)(b s B C e:Nat)(t:P.underlying s=some (.slice e))(o:(P.info? e).map (·.size)=some 8)(g n:Nat)(D:List Value)(f:w.ownsRow b e 8 (.slice (some ⟨g,0,none⟩) n n) n D)(u:Value)(m:List Vt)(c:m.length=n)(v:Sv w u m) :
  ∃ w',(Builtin.copy_ #[s,B] C #[.slice (some ⟨g,0,none⟩) n n,u]).run P w=.ok (goInt n) w'/\w'.ownsRow b e 8 (.slice (some ⟨g,0,none⟩) n n) n (vtL m)/\Below g w w':=by
 obtain⟨i,h,y⟩:∃ i,P.info? e=some i/\i.size=8:=by
  cases h:P.info? e with
  | none=>rw[h]at o;cases o
  | some i=>rw[h]at o;exact⟨i,rfl,by simpa using o⟩
 rcases f.2 with⟨h0,_⟩|⟨g',cap,cur,hvv,hbg,hg,hnc,hcm,hcs,ht⟩
 .cases h0
 .simp only[Value.slice.injEq,Y',Addr.mk.injEq]at hvv;obtain⟨⟨rfl,_⟩,_,rfl⟩:=hvv;have l:=v;obtain⟨⟨a,x,rfl,F,A,E⟩,_⟩:=v;rw[c]at l ⊢
  cases a with
  | none =>
   have p:=A rfl;subst p;have q:n=0:=by omega
   subst q;have r:m=[]:=j' c;subst r;refine⟨w,?_,⟨rfl,.inr ⟨g,0,cur,rfl,hbg,hg,hnc,hcm,hcs,by simp[vtL]⟩⟩,Below.refl _ _⟩;simp[Builtin.copy_,run_underlying t,Builtin.lenOf,Builtin.firstCells,sizeOf,typeInfo,h,storeCells]
  | some ad =>
   have z:=run_firstCells_some (P:=P) w 8 n ad n x (vtL m) (by rw[Da,c]) l.cells;have j:=run_storeCells_at P g 0 e (vtL m) 0 cur w hg (by rw[Da,c];omega) (US m);have d:(cur.toList.take (0+0)++vtL m++cur.toList.drop (0+0+(vtL m).length))=vtL m:=by
    rw[Da,c,nr (by rw[nP];omega)];simp
   rw[d]at j
   refine⟨w.setRow g (vtL m).toArray,?_,⟨by rw[Da,c],.inr ⟨g,n,(vtL m).toArray,rfl,hbg,setRow_heap w g cur _ e _ hg,A' _,hcm,by simp[Da,c],?_⟩⟩,?_⟩
   .simp[Builtin.copy_,run_underlying t,Builtin.lenOf,sizeOf,typeInfo,h,y,z,j]
   .rw[mJ (by simp[Da,c])]
   .exact⟨rfl,rfl,rfl,by simp,λk G=>setRow_other w g k _ (by omega)⟩
theorem ME(w:World){j:Array Oper}{c:List Oper}{o:Oper}{a:Act}{Q:Exit->Act->World->Prop}(l:o.guard=none)(d s:Operand)(k q:TypeId)(y:o.op=.call { callee:=.builtin .copy,args:=#[d,s],argTypes:=#[k,q] })(b e:Nat)(A:P.underlying k=some (.slice e))(z:(P.info? e).map (·.size)=some 8)(g n:Nat)(r:List Value)(v:a.eval d=.slice (some ⟨g,0,none⟩) n n)(f:w.ownsRow b e 8 (.slice (some ⟨g,0,none⟩) n n) n r)(u:Value)(p:a.eval s=u)(m:List Vt)(x:m.length=n)(B:Sv w u m)(h:∀ w',w'.ownsRow b e 8 (.slice (some ⟨g,0,none⟩) n n) n (vtL m)->Below g w w'->wpList P j Q c (a.put o.dst (goInt n)) w'):wpList P j Q (o::c) a w:=by
 refine wpList_plain l λK t=>?_;obtain⟨w',i,C,D⟩:=QS (P:=P) w b k q o.type e A z g n r f u m x B;unfold Oper.wp execOp;simp only[y,resolve,invoke,builtin,Sem.run_bind,Sem.run_pure,Result.andThen_ok,pf,m9,nQ,v,p,i];exact t _ _ (h w' C D)
theorem MG(w:World){g:Array Oper}{d:List Oper}{o:Oper}{a:Act}{Q:Exit->Act->World->Prop}(v:o.guard=none)(l c:Operand)(t:TypeId)(h:o.op=Op.makeSlice t l c)(b:Nat)(e:TypeId)(r:P.underlying t=some (.slice e))(f:(P.info? e).map (λi=>(i.zero,i.size,i.bytes))=some (some zVt,8,64))(n:Nat)(y:a.eval l=.int .i64 (n:Int))(u:a.eval c=.int .i64 (n:Int))(B:n<=2199023255488)(p:b<=w.heap.size)(s:∀ w',Hid (∃ xs,w'.ownsRow b e 8 (.slice (some ⟨w.heap.size,0,none⟩) n n) n xs)->w.grownBy w' none->wpList P g Q d (a.put o.dst (.slice (some ⟨w.heap.size,0,none⟩) n n)) w'):wpList P g Q (o::d) a w:=by
 obtain⟨z,x,j,k,m⟩:=info_parts f;refine wpList_make_full w v l c t h b e z zVt 8 r x j k _ _ _ _ n y u rfl rfl (by rw[m];omega) (by unfold maxLen;omega) p (λw' A q=>s w' ⟨_,A⟩ q)
theorem FI{b a c:Nat}{v:Value}(h:w.ownsRow b e c v n xs)(d:a<=b):w.ownsRow a e c v n xs:=by
 refine⟨h.1,?_⟩;rcases h.2 with h2|⟨g,cap,cur,hv,hbg,hr⟩
 .exact .inl h2
 .exact .inr ⟨g,cap,cur,hv,my d hbg,hr⟩
theorem vt8:(prog.info? 156).map (·.size)=some 8:=by kernel_rfl
theorem RL(x:Value)(l:List Vt)(w:World)(h:Sv w x l) :
  Calls prog 144 #[x] w λe w'=>∃ x',e=.returned x'/\w'.ownsRow w.heap.size 156 8 x' l.length (vtL l)/\Bw w w':=by
 have b:=h.len;obtain⟨a,v,rfl⟩:=h.shape;obtain⟨N,f⟩:∃ N,l.length=N:=⟨_,rfl⟩;have n:Hid (l.length=N):=f;rw[f]at h b ⊢
 clear f;go_enter func144,ntmps144
 go_wp2_with ((with_reducible (refine CW ?_));at_make;refine MG _ rfl _ _ 97 rfl w.heap.size 156 underlying97 EU N rfl rfl b (A' _) ?_)
 intro m c q;have i:Bw w m:=(Below.refl _ _).grown q (A' _) (λk s=>by cases s);have r:=h.af i;obtain⟨u,c⟩:=c.out;have g:Hid (m.ownsRow w.heap.size 156 8 (.slice (some ⟨w.heap.size,0,none⟩) N N) N u):=c;clear c;go_wp2_with ((with_reducible (refine CW ?_));refine ME _ rfl _ _ 97 97 rfl w.heap.size 156 underlying97 vt8 w.heap.size N _ rfl g.out _ rfl l n.out r ?_)
 intro t j o;have d:Hid (t.ownsRow w.heap.size 156 8 (.slice (some ⟨w.heap.size,0,none⟩) N N) N (vtL l)):=j;have p:=i.trans o;clear j g;go_wp2
 go_ret;exact⟨_,rfl,d.out,p⟩
theorem Sv.first(h:Sv w (.slice a n cap) l)(i:Nat)(v:Vt)(e:l[i]?=some v):∃ b off,a=some ⟨b,off,none⟩/\b<w.heap.size/\w.cell? ⟨b,off+8*i,none⟩=some (.int .i64 v.bu):=by
 obtain⟨b,off,c,d,f⟩:=h.spot i v e;exact⟨b,off,c,d,f 0 _ rfl⟩
theorem To(f g:Nat)(a:Option Addr)(n c:Nat)(l:List Vt)(s:Int)(i:Nat)(v:Vt)(w:World)(u:l.length=n)(j:l[i]?=some v)(h:Sv w (.slice a n c) l)(p:w.cell? ⟨f,0,none⟩=some (.slice a n c))(q:w.cell? ⟨g,0,none⟩=some (.int .i64 s)) :
  Calls prog 191 #[.int .i64 (i:Int),.pointer (some ⟨f,0,none⟩),.pointer (some ⟨g,0,none⟩)] w λe w'=>e=.returned (.bool (decide (s<=v.bu)))/\Bw w w':=by
 obtain⟨b,d,rfl,t,r⟩:=h.first i v j;have hin:i<n:=by have:=(V'.1 j).1;omega
 have o:=Jt b d n c i hin;have k:=Below.refl w.heap.size w;go_enter func191,ntmps191
 go_wp2_with fail
 go_quiet (fail)
 have m:Bw w (w.drewN nq):=Aq k nq;go_wp2
 go_ret;exact⟨Ax (by simp),m⟩
theorem Tx(o q:Nat)(a:Option Addr)(n f:Nat)(l:List Vt)(s:Int)(w:World)(B:l.length=n)(M:BL l)(h:Sv w (.slice a n f) l)(N:o<w.heap.size)(O:q<w.heap.size)(G:w.cell? ⟨o,0,none⟩=some (.slice a n f))(H:w.cell? ⟨q,0,none⟩=some (.int .i64 s)) :
  Calls prog 190 #[.int .i64 (n:Int),.func (.func 191) #[] #[.pointer (some ⟨o,0,none⟩),.pointer (some ⟨q,0,none⟩)]] w λe w'=>∃ p:Nat,e=.returned (.int .i64 (p:Int))/\Plc l s p/\Bw w w':=by
 have t:=h.len;rw[B]at t
 have y:Hid (l.length=n):=B;clear B;go_enter func190,ntmps190
 go_wp2_with fail
 go_loopw [5,6] (λiv C wr=>∃ i j:Nat,i<=j/\j<=n/\iv=.int .i64 (i:Int)/\C=.int .i64 (j:Int)/\(∀ (k:Nat) (v:Vt),k<i->l[k]?=some v->v.bu<s)/\(∀ (k:Nat) (v:Vt),j<=k->l[k]?=some v->s<=v.bu)/\Bw w wr) (λiv C _=>(intOf C-intOf iv).toNat)
 case atStart=>exact⟨0,n,by omega,by omega,rfl,rfl,λk v K=>by omega,λk v K g=>by have:=(V'.1 g).1;have:=y.out;omega,Below.refl _ _⟩
 case round =>
  obtain⟨i,j,I,J,rfl,rfl,u,r,b⟩:=hrel;have d:Hid (∀ (k:Nat) (v:Vt),k<i->l[k]?=some v->v.bu<s):=u;have c:Hid (∀ (k:Nat) (v:Vt),j<=k->l[k]?=some v->s<=v.bu):=r;clear u r;by_cases L:i<j
  .have hlt':(i:Int)<(j:Int):=by omega
   go_wp2_with fail
   obtain⟨m,E⟩:∃ m:Nat,((i:Int)+(j:Int))/2=(m:Int):=⟨(i+j)/2,by omega⟩;rw[E];have P:i<=m:=by omega
   have Q:m<j:=by omega
   clear E;obtain⟨v,g⟩:∃ v,l[m]?=some v:=⟨_,G' (by have:=y.out;omega)⟩;refine(To o q a n f l s m v wr y.out g (h.af b) ((b.cell (p:=⟨o,0,none⟩) N).trans G) ((b.cell (p:=⟨q,0,none⟩) O).trans H)).mono ?_;rintro e R ⟨rfl,F⟩;have D:=b.trans (F.mono b.size);obtain⟨P1,A⟩:=Plc.half M g d.out c.out;by_cases x:s<=v.bu
   .rw[M' x];have z:Hid (∀ (k:Nat) (v:Vt),m<=k->l[k]?=some v->s<=v.bu):=A x;clear P1 A g x;go_wp2
    go_roundw
    case rel=>exact⟨i,m,by omega,by omega,rfl,rfl,d.out,z.out,D⟩
    case measure=>simp[intOf];omega
   .rw[E' x];have z:Hid (∀ (k:Nat) (v:Vt),k<m+1->l[k]?=some v->v.bu<s):=P1 (by omega);clear P1 A g x;go_wp2
    go_roundw
    case rel=>exact⟨m+1,j,by omega,by omega,by go_num,rfl,z.out,c.out,D⟩
    case measure=>simp[intOf];omega
  .obtain rfl:i=j:=by omega
   go_wp2
   go_ret;exact⟨i,rfl,⟨by have:=y.out;omega,d.out,c.out⟩,b⟩
theorem JQ(x:Value)(l:List Vt)(s:Int)(w:World)(v:BL l)(h:Sv w x l) :
  Calls prog 175 #[x,.int .i64 s] w λe w'=>∃ p:Nat,e=.returned (.int .i64 (p:Int))/\Plc l s p/\Bw w w':=by
 obtain⟨a,b,rfl⟩:=h.shape;obtain⟨n,f⟩:∃ n,l.length=n:=⟨_,rfl⟩;rw[f]at h ⊢
 have m:Hid (l.length=n):=f;clear f;have j:=heap_alloc2_old w (.cells #[.slice a n b] 97) (.cells #[.int .i64 s] 3);have k:=heap_alloc2_new w (.cells #[.slice a n b] 97) (.cells #[.int .i64 s] 3);have c:Bw w ((w.alloc (.cells #[.slice a n b] 97)).alloc (.cells #[.int .i64 s] 3)):=((Below.refl _ _).alloc (A' _) _).alloc (by simp) _;generalize g:(w.alloc (.cells #[.slice a n b] 97)).alloc (.cells #[.int .i64 s] 3)=W at j k c;have z:W.heap.size=w.heap.size+2:=by rw[<- g];simp
 have r:W.cell? ⟨w.heap.size,0,none⟩=some (.slice a n b):=cell_of_row _ _ 0 _ _ _ j;have t:W.cell? ⟨w.heap.size+1,0,none⟩=some (.int .i64 s):=cell_of_row _ _ 0 _ _ _ k;have d:=h.af c;go_enter func175,ntmps175
 go_wp2_with fail
 clear g;refine(Tx w.heap.size (w.heap.size+1) a n b l s W m.out v d (by omega) (by omega) r t).mono ?_;rintro e y ⟨p,rfl,i,q⟩;have u:=c.trans (q.mono c.size);have o:Hid (Plc l s p):=i;clear i;go_wp2
 go_ret;exact⟨p,rfl,o.out,u⟩
def Lw(l:List Vt)(p:Nat)(s:Int):Bool:=match l[p]? with|some v=>decide (v.bu=s)|none=>false
theorem Jh(h:l[p]?=some v):Lw l p s=decide (v.bu=s):=by unfold Lw;rw[h]
theorem NF(h:l[p]?=none):Lw l p s=false:=by unfold Lw;rw[h]
theorem NG(h:Lw l p s=true):∃ v,l[p]?=some v/\v.bu=s:=by
 cases hu:l[p]? with
 | none=>rw[NF hu]at h;cases h
 | some v=>rw[Jh hu]at h;exact⟨v,rfl,m5 h⟩
theorem Lx(h:Lw l p s=false):∀ v,l[p]?=some v->v.bu≠s:=by
 intro v a;rw[Jh a]at h
 exact of_decide_eq_false h
theorem JI(x:Value)(l:List Vt)(p:Nat)(s:Int)(w:World)(h:Sv w x l) :
  Calls prog 176 #[x,.int .i64 (p:Int),.int .i64 s] w λe w'=>e=.returned (.bool (Lw l p s))/\w'=w:=by
 obtain⟨a,g,rfl⟩:=h.shape;obtain⟨n,c⟩:∃ n,l.length=n:=⟨_,rfl⟩;rw[c]at h ⊢
 by_cases j:p<n
 .obtain⟨v,hv⟩:∃ v,l[p]?=some v:=⟨_,G' (by omega)⟩;obtain⟨b,f,rfl,m,k⟩:=h.first p v hv;have i:=Jt b f n g p j;have d:(p:Int)<(n:Int):=by omega
  rw[Jh hv];clear c hv h;go_enter func176,ntmps176
  go_wp2
  go_ret;exact⟨Ax (by first|rfl|simp),rfl⟩
 .have hv:l[p]?=none:=nY (by omega);have d:¬ (p:Int)<(n:Int):=by omega
  rw[NF hv];clear c hv h;go_enter func176,ntmps176
  go_wp2
  go_ret;exact⟨rfl,rfl⟩
theorem Sv.rI(h:Sv w (.slice a n cap) l)(d f:Nat)(j:d<=f)(g:f<=l.length):Sv w (sliced a d f cap 8) ((l.take f).drop d):=by
 obtain⟨⟨s,k,e,u,r,p⟩,q⟩:=h;simp only[Value.slice.injEq]at e;obtain⟨rfl,rfl,rfl⟩:=e;have m:((l.take f).drop d).length=f-d:=by rw[mF,X'];omega
 cases a with
 | none =>
  have o:=r rfl;subst o;have t:l.length=0:=by omega
  refine⟨⟨_,_,by rw[m];rfl,by omega,λ_=>by omega,.inl (j' (by omega))⟩,by omega⟩
 | some ad =>
  refine⟨⟨_,_,by rw[m];rfl,by omega,(by intro h;split at h<;>simp at h),?_⟩,by omega⟩;rcases Nat.eq_or_lt_of_le j with he|hlt
  .exact .inl (j' (by omega))
  .rcases p with rfl|⟨b,off,e2,hbs,hcell⟩
   .simp at g;omega
   .simp only[Y']at e2;subst e2;refine .inr ⟨b,off+d*8,?_,hbs,λi v c=>?_⟩
    .rw[if_neg (by omega)];simp[Addr.add]
    .rw[nD,nz]at c
     split at c
     .have:=hcell (d+i) v c
      rwa [show off+8*(d+i)=off+d*8+8*i by omega]at this
     .cases c
theorem Sv.ra(h:Sv w (.slice a n cap) l)(b:Nat)(c:b<=l.length) :
  ∃ a' c',(∀ W,(Instr.slice 97 (.slice a n cap) none (some (.int .i64 (b:Int))) none).run prog W=.ok (.slice a' b c') W)/\Sv w (.slice a' b c') (l.take b):=by
 have g:=h.rI 0 b (by omega) c;obtain⟨⟨a',d,e,j,k,i⟩,f⟩:=h;simp only[Value.slice.injEq]at e;obtain⟨rfl,rfl,rfl⟩:=e;refine⟨_,_,λW=>?_,by simpa[sliced]using g⟩;rw[run_slice_h (P:=prog) W 97 a _ cap underlying97 .i64 _ (by omega) (by omega)];rw[RW,Tz];simp[Result.andThen,sliced]
theorem Sv.from(h:Sv w (.slice a n cap) l)(b:Nat)(c:b<=l.length) :
  ∃ a' c',(∀ W,(Instr.slice 97 (.slice a n cap) (some (.int .i64 (b:Int))) none none).run prog W=.ok (.slice a' (n-b) c') W)/\Sv w (.slice a' (n-b) c') (l.drop b):=by
 have g:=h.rI b l.length c (A' _);obtain⟨⟨a',d,e,j,k,i⟩,f⟩:=h;simp only[Value.slice.injEq]at e;obtain⟨rfl,rfl,rfl⟩:=e;refine⟨_,_,λW=>?_,by simpa[sliced]using g⟩;rw[run_slice_l (P:=prog) W 97 a _ cap underlying97 .i64 _ (by omega) (by omega)];rw[RW,Tz];simp[Result.andThen,sliced]
theorem Fr(w:World){g:Array Oper}{d:List Oper}{o:Oper}{a:Act}{Q:Exit->Act->World->Prop}(x:o.guard=none)(l c:Operand)(t:TypeId)(h:o.op=Op.makeSlice t l c)(b:Nat)(e:TypeId)(r:P.underlying t=some (.slice e))(f:(P.info? e).map (λi=>(i.zero,i.size,i.bytes))=some (some zVt,8,64))(C:Int)(n:Nat)(z:a.eval l=.int .i64 0)(v:a.eval c=.int .i64 C)(s:C=(n:Int))(D:n<=2199023255500)(p:b<=w.heap.size)(u:∀ w',Hid (w'.ownsRow b e 8 (.slice (some ⟨w.heap.size,0,none⟩) 0 n) ([]:List Vt).length (vtL []))->w.grownBy w' none->wpList P g Q d (a.put o.dst (.slice (some ⟨w.heap.size,0,none⟩) 0 n)) w'):wpList P g Q (o::d) a w:=by
 obtain⟨A,y,j,k,m⟩:=info_parts f;exact wpList_make_own w x l c t h b e A zVt 8 r y j k _ _ C n z v s (by rw[m];omega) (by unfold maxLen;omega) p (λw' B q=>u w' B q)
theorem P5(x:Value)(l:List Vt)(v:Vt)(w:World)(hr:BL l)(h:Sv w x l) :
  Calls prog 149 #[x,.agg (vtA v)] w λe w'=>∃ x',e=.returned x'/\w'.ownsRow w.heap.size 156 8 x' (Bn l v).length (vtL (Bn l v))/\Bw w w':=by
 have Z:=h.len;obtain⟨a,cp,rfl⟩:=h.shape;obtain⟨n,hn⟩:∃ n,l.length=n:=⟨_,rfl⟩;rw[hn]at h Z ⊢
 have R:Hid (l.length=n):=hn;clear hn;have P:Bw w (w.alloc (.cells (vtA v) 156)):=(Below.refl _ _).alloc (A' _) _;have B:=heap_alloc_new w (.cells (vtA v) 156);have M:=jw v;have HU:Hid (∀ p,Plc l v.bu p->Lw l p v.bu=true->Bn l v=l.take p++[v]++l.drop (p+1)/\p+1<=l.length):=λp E D=>by
  obtain⟨u,hu,he⟩:=NG D;exact⟨by rw[E.has hu he];simp,by have:=(V'.1 hu).1;omega⟩
 have HN:Hid (∀ p,Plc l v.bu p->Lw l p v.bu=false->Bn l v=l.take p++[v]++l.drop p/\p<=l.length):=λp E D=>⟨by rw[E.no (Lx D)];simp,E.le⟩;obtain⟨c,⟨m,i⟩,⟨f,d,j,g,o⟩⟩:=v;simp only[vtA,vtC]at P B M ⊢;generalize hW:w.alloc (.cells [.int .i64 c,.int .i64 m,.int .i64 i,.int .i64 f,.int .i64 d,.int .i64 j,.int .i64 g,.int .i64 o].toArray 156)=W at P B;have a3:w.heap.size<W.heap.size:=(U'.1 B).1;have c0:W.cell? ⟨w.heap.size,0,none⟩=some (.int .i64 c):=cell_of_row _ _ 0 _ _ _ B;go_enter func149,ntmps149
 go_wp2_with fail
 clear hW;refine(JQ _ l c W hr (h.af P)).mono ?_;rintro e w1 ⟨p,rfl,E,b1⟩;have C:=P.trans (b1.mono P.size);have F:w.heap.size<w1.heap.size:=Z' a3 b1.size;replace B:=(b1.block _ a3).trans B;have c0:w1.cell? ⟨w.heap.size,0,none⟩=some (.int .i64 c):=cell_of_row _ _ 0 _ _ _ B;have Q:=h.af C;have a5:p<=n:=by have:=E.le;have:=R.out;omega
 have HP:Hid (Plc l c p):=E;clear b1 P E;go_wp2_with fail
 refine(JI _ l p c w1 Q).mono ?_;rintro e b ⟨rfl,rfl⟩;obtain⟨a1,k1,u1,su⟩:=Q.ra p HP.out.le;have a0:(l.take p).length<=n:=by rw[X'];omega
 have hz:=C.size;generalize D:Lw l p c=bh;cases bh
 .obtain⟨HI0,hk0⟩:=HN.out p HP.out D;have G:Hid (Bn l ⟨c,⟨m,i⟩,⟨f,d,j,g,o⟩⟩=l.take p++([⟨c,⟨m,i⟩,⟨f,d,j,g,o⟩⟩]:List Vt)++l.drop (p)):=HI0;obtain⟨a2,k2,u2,sd⟩:=Q.from (p) hk0;have t:(l.take p).length+(l.drop (p)).length<=n:=by rw[X',mF];have:=R.out;omega
  have T:Hid (∀ w',Bw b w'->Sv w' (.slice a1 p k1) (l.take p)):=λw' L=>su.af L;have S:Hid (∀ w',Bw b w'->Sv w' (.slice a2 (n-(p)) k2) (l.drop (p))):=λw' L=>sd.af L;clear HI0 HU HN D su sd Q h hr;generalize l.take p=LP at G T a0 t;generalize l.drop (p)=LD at G S t;have a4:(p)<=n:=by have:=R.out;omega
  go_wp2_with ((with_reducible (refine CW ?_));at_make;refine Fr _ rfl _ _ 97 rfl b.heap.size 156 underlying97 EU _ (n+1) rfl rfl (by first|rfl|omega) (by omega) (A' _) ?_)
  intro w3 N U;have I:Bw b w3:=(Below.refl _ _).grown U (A' _) (λk s=>by cases s);have z3:=I.size;clear U;go_wp2_with ((with_reducible (refine CW ?_));at_builtin;refine B3 _ rfl _ _ 97 rfl b.heap.size 156 zVt underlying97 EU rfl _ _ rfl rfl [] (LP) N.out (T.out w3 I) (by simp;omega) (by omega) ?_)
  intro v4 w4 o4 V;have J:Bw b w4:=I.grown V (by omega) (λk s=>(N.out.lt k s).1);have z4:=J.size;have q:Hid (w4.ownsRow b.heap.size 156 8 v4 (LP).length (vtL (LP))):=by unfold Hid;simpa using o4
  have y:=q.out.lt;have A:=(J.block _ F).trans B;clear o4 V N;go_wp2_with ((with_reducible (refine CW ?_));first|(refine wpList_load_row rfl 156 _ rfl w.heap.size rfl 156 _ (0,0) _ A underlying156 rfl M ?_)|(at_builtin;refine B3 _ rfl _ _ 97 rfl b.heap.size 156 zVt underlying97 EU rfl _ _ rfl rfl (LP) ([⟨c,⟨m,i⟩,⟨f,d,j,g,o⟩⟩]:List Vt) (q.out.alloc _) (Sv.one _ ⟨c,⟨m,i⟩,⟨f,d,j,g,o⟩⟩ _ rfl) (by simp;omega) (by simp;omega) ?_))
  intro v5 O o5 X;have K:Bw b O:=(J.alloc (by omega) _).grown X (by simp;omega) (λk s=>(y k s).1);have z5:=K.size;have r:Hid (O.ownsRow b.heap.size 156 8 v5 (LP++([⟨c,⟨m,i⟩,⟨f,d,j,g,o⟩⟩]:List Vt)).length (vtL (LP++([⟨c,⟨m,i⟩,⟨f,d,j,g,o⟩⟩]:List Vt)))):=by unfold Hid;rw[H'];exact o5
  have z:=r.out.lt;clear o5 X q y A;go_wp2_with ((with_reducible (refine CW ?_));at_builtin;refine B3 _ rfl _ _ 97 rfl b.heap.size 156 zVt underlying97 EU rfl _ _ rfl rfl (LP++([⟨c,⟨m,i⟩,⟨f,d,j,g,o⟩⟩]:List Vt)) (LD) r.out (S.out O K) (by rw[H'];simp;omega) (by omega) ?_)
  intro v6 w6 o6 Y;have b6:Bw b w6:=K.grown Y (by omega) (λk s=>(z k s).1);have H:Hid (w6.ownsRow b.heap.size 156 8 v6 (LP++([⟨c,⟨m,i⟩,⟨f,d,j,g,o⟩⟩]:List Vt)++LD).length (vtL (LP++([⟨c,⟨m,i⟩,⟨f,d,j,g,o⟩⟩]:List Vt)++LD))):=by unfold Hid;simpa using o6
  have d6:=C.trans (b6.mono C.size);clear o6 Y r z;go_wp2
  go_ret;refine⟨v6,rfl,?_,d6⟩;rw[G.out];exact FI H.out C.size
 .obtain⟨HI0,hk0⟩:=HU.out p HP.out D;have G:Hid (Bn l ⟨c,⟨m,i⟩,⟨f,d,j,g,o⟩⟩=l.take p++([⟨c,⟨m,i⟩,⟨f,d,j,g,o⟩⟩]:List Vt)++l.drop (p+1)):=HI0;obtain⟨a2,k2,u2,sd⟩:=Q.from (p+1) hk0;rw[show((p+1:Nat):Int)=(p:Int)+1 by omega]at u2
  have t:(l.take p).length+(l.drop (p+1)).length<=n:=by rw[X',mF];have:=R.out;omega
  have T:Hid (∀ w',Bw b w'->Sv w' (.slice a1 p k1) (l.take p)):=λw' L=>su.af L;have S:Hid (∀ w',Bw b w'->Sv w' (.slice a2 (n-(p+1)) k2) (l.drop (p+1))):=λw' L=>sd.af L;clear HI0 HU HN D su sd Q h hr;generalize l.take p=LP at G T a0 t;generalize l.drop (p+1)=LD at G S t;have a4:(p+1)<=n:=by have:=R.out;omega
  go_wp2_with ((with_reducible (refine CW ?_));at_make;refine Fr _ rfl _ _ 97 rfl b.heap.size 156 underlying97 EU _ (n+1) rfl rfl (by first|rfl|omega) (by omega) (A' _) ?_)
  intro w3 N U;have I:Bw b w3:=(Below.refl _ _).grown U (A' _) (λk s=>by cases s);have z3:=I.size;clear U;go_wp2_with ((with_reducible (refine CW ?_));at_builtin;refine B3 _ rfl _ _ 97 rfl b.heap.size 156 zVt underlying97 EU rfl _ _ rfl rfl [] (LP) N.out (T.out w3 I) (by simp;omega) (by omega) ?_)
  intro v4 w4 o4 V;have J:Bw b w4:=I.grown V (by omega) (λk s=>(N.out.lt k s).1);have z4:=J.size;have q:Hid (w4.ownsRow b.heap.size 156 8 v4 (LP).length (vtL (LP))):=by unfold Hid;simpa using o4
  have y:=q.out.lt;have A:=(J.block _ F).trans B;clear o4 V N;go_wp2_with ((with_reducible (refine CW ?_));first|(refine wpList_load_row rfl 156 _ rfl w.heap.size rfl 156 _ (0,0) _ A underlying156 rfl M ?_)|(at_builtin;refine B3 _ rfl _ _ 97 rfl b.heap.size 156 zVt underlying97 EU rfl _ _ rfl rfl (LP) ([⟨c,⟨m,i⟩,⟨f,d,j,g,o⟩⟩]:List Vt) (q.out.alloc _) (Sv.one _ ⟨c,⟨m,i⟩,⟨f,d,j,g,o⟩⟩ _ rfl) (by simp;omega) (by simp;omega) ?_))
  intro v5 O o5 X;have K:Bw b O:=(J.alloc (by omega) _).grown X (by simp;omega) (λk s=>(y k s).1);have z5:=K.size;have r:Hid (O.ownsRow b.heap.size 156 8 v5 (LP++([⟨c,⟨m,i⟩,⟨f,d,j,g,o⟩⟩]:List Vt)).length (vtL (LP++([⟨c,⟨m,i⟩,⟨f,d,j,g,o⟩⟩]:List Vt)))):=by unfold Hid;rw[H'];exact o5
  have z:=r.out.lt;clear o5 X q y A;go_wp2_with ((with_reducible (refine CW ?_));at_builtin;refine B3 _ rfl _ _ 97 rfl b.heap.size 156 zVt underlying97 EU rfl _ _ rfl rfl (LP++([⟨c,⟨m,i⟩,⟨f,d,j,g,o⟩⟩]:List Vt)) (LD) r.out (S.out O K) (by rw[H'];simp;omega) (by omega) ?_)
  intro v6 w6 o6 Y;have b6:Bw b w6:=K.grown Y (by omega) (λk s=>(z k s).1);have H:Hid (w6.ownsRow b.heap.size 156 8 v6 (LP++([⟨c,⟨m,i⟩,⟨f,d,j,g,o⟩⟩]:List Vt)++LD).length (vtL (LP++([⟨c,⟨m,i⟩,⟨f,d,j,g,o⟩⟩]:List Vt)++LD))):=by unfold Hid;simpa using o6
  have d6:=C.trans (b6.mono C.size);clear o6 Y r z;go_wp2
  go_ret;refine⟨v6,rfl,?_,d6⟩;rw[G.out];exact FI H.out C.size
def Fa.fo(B:Nat)(e:TypeId)(sz:Nat)(x:Value)(n:Nat)(vs:List Value):Fa:=⟨none,λg w=>w.ownsRow B e sz x n vs/\∀ k,x.ownBlock=some k->k<w.heap.size/\g.t k=.z,λhz _ c h=>⟨SZ h.1 λk hk=>c.zc hz (h.2 k hk).1 (h.2 k hk).2,λk hk=>⟨Z' (h.2 k hk).1 c.size,(c.tag (h.2 k hk).1 λe=>by rw[(h.2 k hk).2]at e;cases e).trans (h.2 k hk).2⟩⟩⟩
theorem Yi{g:Gh}{a:Nat}(h:w.ownsRow B e sz y n xs)(d:a<=B)(G:∀ b,B<=b->g.t b=.z):w.ownsRow a e sz y n xs/\∀ k,y.ownBlock=some k->k<w.heap.size/\g.t k=.z:=by
 refine⟨FI h d,λk c=>?_⟩;rcases h.2 with⟨rfl,_⟩|⟨b,cap,cur,rfl,hb,hh,_⟩
 .cases c
 .cases c;exact⟨(U'.1 hh).1,G _ hb⟩
theorem Zi(h:w.ownsRow B e sz y n xs):∃ z:S3,y=z.v:=by
 rcases h.2 with⟨rfl,_⟩|⟨b,cap,cur,rfl,_⟩
 .exact⟨s30,rfl⟩
 .exact⟨⟨some ⟨b,0,none⟩,n,cap⟩,rfl⟩
theorem Ub{y:S3}(h:Sv w y.v l) :
  Calls prog 144 #[y.v] w λe w'=>∃ z:S3,e=.returned z.v/\w'.ownsRow w.heap.size 156 8 z.v l.length (vtL l)/\Bw w w' :=
 (RL y.v l w h).mono λe w' ⟨x,b,a,c⟩=>by obtain⟨z,rfl⟩:=Zi a;exact⟨z,b,a,c⟩
theorem fx{y:S3}(g:BL l)(h:Sv w y.v l) :
  Calls prog 149 #[y.v,.agg #[iv v.bu,iv v.b.r,iv v.b.n,iv v.w.k,iv v.w.c,iv v.w.s,iv v.w.n,iv v.w.v]] w λe w'=>∃ z:S3,e=.returned z.v/\w'.ownsRow w.heap.size 156 8 z.v (Bn l v).length (vtL (Bn l v))/\Bw w w' :=
 (P5 y.v l v w g h).mono λe w' ⟨x,d,a,f⟩=>by obtain⟨z,rfl⟩:=Zi a;exact⟨z,d,a,f⟩
end
section
variable{p:Bal}{l:List Vt}{w w':World}
theorem Pc{b:Bal}{E:Int}(a:Cf ⟨p,l⟩ b=E)(c:E≠0)(f:Bw w w'):∃ y z,(Ending.returned (.tuple #[.agg #[iv 0,iv 0,sn],sn,iv E]):Ending)=.returned (.tuple #[.agg (acA (Fk ⟨p,l⟩ b) y),z,.int .i64 (Cf ⟨p,l⟩ b)])/\w'.ownsRow w.heap.size 156 8 y (DP ⟨p,l⟩ b).length (vtL (DP ⟨p,l⟩ b))/\w'.ownsRow w.heap.size 156 8 z (DP ⟨p,l⟩ b).length (vtL (DP ⟨p,l⟩ b))/\Bw w w':=by
 have d:Fk ⟨p,l⟩ b=⟨0,0⟩:=if_neg (by rw[a];exact c);have e:DP ⟨p,l⟩ b=[]:=if_neg (by rw[a];exact c);rw[d,e,a];exact⟨sn,sn,rfl,World.ownsRow_nil _ _ _ _,World.ownsRow_nil _ _ _ _,f⟩
theorem dS{b:Bal}{y z:S3}(e:Ag ⟨p,l⟩)(f:Ac b)(h:¬ b.lt p)(j:w'.ownsRow w.heap.size 156 8 y.v l.length (vtL l))(k:w'.ownsRow w.heap.size 156 8 z.v l.length (vtL l))(i:Bw w w'):∃ y' z',(Ending.returned (.tuple #[.agg #[iv b.r,iv b.n,y.v],z.v,iv 0]):Ending)=.returned (.tuple #[.agg (acA (Fk ⟨p,l⟩ b) y'),z',.int .i64 (Cf ⟨p,l⟩ b)])/\w'.ownsRow w.heap.size 156 8 y' (DP ⟨p,l⟩ b).length (vtL (DP ⟨p,l⟩ b))/\w'.ownsRow w.heap.size 156 8 z' (DP ⟨p,l⟩ b).length (vtL (DP ⟨p,l⟩ b))/\Bw w w':=by
 have a:Cf ⟨p,l⟩ b=0:=(if_neg (λg=>g e)).trans ((if_neg (λg=>g f)).trans (if_neg h));have c:Fk ⟨p,l⟩ b=b:=if_pos a;have d:DP ⟨p,l⟩ b=l:=if_pos a;rw[c,d,a];exact⟨y.v,z.v,rfl,j,k,i⟩
end
theorem Dg(p:Bal)(x:Value)(l:List Vt)(b:Bal)(w:World)(h:Sv w x l)(J:NTab w) :
  Calls prog 111 #[.agg (acA p x),.agg (baA b)] w λe w'=>∃ y z,e=.returned (.tuple #[.agg (acA (Fk ⟨p,l⟩ b) y),z,.int .i64 (Cf ⟨p,l⟩ b)])/\w'.ownsRow w.heap.size 156 8 y (DP ⟨p,l⟩ b).length (vtL (DP ⟨p,l⟩ b))/\w'.ownsRow w.heap.size 156 8 z (DP ⟨p,l⟩ b).length (vtL (DP ⟨p,l⟩ b))/\Bw w w':=by
 obtain⟨y,rfl⟩:=h.s3;show Calls prog 111 #[.agg #[iv p.r,iv p.n,S3.v y],.agg #[iv b.r,iv b.n]] w _;refine tIn [] func111 trivial (tR 12 [0,0,0,0,1,0,0] λc _ _=>tC1 1 (λF C=>Ja p y.v l _ (h.af (CgQ.af C)) (J.af (CgQ.af C))) λ_=>tR 7 [] λK _ _=>?_);by_cases d:Ag ⟨p,l⟩
 .have hE:Fu ⟨p,l⟩=0:=if_pos d;refine tI (((Fu ⟨p,l⟩) != 0)) false (by rw[hE];decide) (tR 5 [1] λL _ _=>?_);by_cases f:Ac b
  .refine tC1 1 (λF C=>I5 (b:=b) (r:=true) (M' f)) λ_=>tR 10 [1,0] λM _ _=>?_;by_cases k:b.lt p
   .refine tC1 3 (λF C=>Er (a:=b) (b:=p) (r:=true) (M' k)) λ_=>tR 9 [2,0] λN _ _=>tX λF C=>qE3 4 5 6 99 2 (c 2) #[iv 0,iv 0,sn] sn (iv 7) λ_=>Pc ((if_neg (λg=>g d)).trans ((if_neg (λg=>g f)).trans (if_pos k))) (by decide) (CgQ.af C)
   .refine tC1 3 (λF C=>Er (a:=b) (b:=p) (r:=false) (E' k)) λ_=>tR 10 [8,0,1,2,4,0,10,12,0] λD _ _=>tF λ_ m=>?_;have i:=m.size;refine tC 3 (λF C=>Ub (h.af (CgQ.af C))) λo=>?_;rintro _ _ ⟨A,rfl,t,q⟩;refine⟨_,Fa.fo w.heap.size 156 8 A.v l.length (vtL l)::_,rfl,q,λF=>⟨Yi t i o,F⟩,?_⟩;refine tR 1 [8] λE _ _=>tF λ_ m=>?_;have j:=m.size;refine tC 7 (λF C=>Ub (h.af (CgQ.af C))) λo=>?_;rintro _ _ ⟨B,rfl,u,s⟩;refine⟨_,Fa.fo w.heap.size 156 8 B.v l.length (vtL l)::_,rfl,s,λF=>⟨Yi u j o,F⟩,?_⟩;refine tR 4 [17,2,0,18,20] λG _ _=>tX λF C=>qE3 4 5 6 99 2 (c 2) #[iv b.r,iv b.n,S3.v A] (S3.v B) (iv 0) λ_=>dS d f k F.2.1.1 F.1.1 (CgQ.af C)
  .refine tC1 1 (λF C=>I5 (b:=b) (r:=false) (E' f)) λ_=>tR 10 [2,0] λH _ _=>tX λF C=>qE3 4 5 6 99 2 (c 2) #[iv 0,iv 0,sn] sn (iv 2) λ_=>Pc ((if_neg (λg=>g d)).trans (if_pos f)) (by decide) (CgQ.af C)
 .have hE:Fu ⟨p,l⟩=5:=if_neg d;refine tI (((Fu ⟨p,l⟩) != 0)) true (by rw[hE];decide) ?_;refine tR 8 [2,0] λI _ _=>tX λF C=>qE3 4 5 6 99 2 (c 2) #[iv 0,iv 0,sn] sn (iv (Fu ⟨p,l⟩)) λ_=>by rw[hE];exact Pc (if_pos d) (by decide) (CgQ.af C)
theorem CS(a:Acc)(b:Bal):(DP a b).length<=a.vs.length:=by unfold DP;split<;>simp
theorem QF(p:Bal)(x:Value)(l:List Vt)(b:Bal)(w:World)(h:Sv w x l)(d:NTab w) :
  Calls prog 111 #[.agg (acA p x),.agg (baA b)] w λe w'=>∃ y z,e=.returned (.tuple #[.agg (acA (Fk ⟨p,l⟩ b) y),z,.int .i64 (Cf ⟨p,l⟩ b)])/\Sv w' y (DP ⟨p,l⟩ b)/\Sv w' z (DP ⟨p,l⟩ b)/\Bw w w' :=
 (Dg p x l b w h d).mono λe w' ⟨y,z,c,f,g,a⟩=>⟨y,z,c,Sv.nn f (my (CS ⟨p,l⟩ b) h.len),Sv.nn g (my (CS ⟨p,l⟩ b) h.len),a⟩
section
variable{p:Bal}{l:List Vt}{w w':World}{v:Vt}
theorem ij{p:Bal}{l:List Vt}{v:Vt}(a:Ag ⟨p,l⟩)(b:Ah v):(Bn l v).length<=40:=by
 rw[<- cT 40 a.2.2 (λu c=>by have:=(a.2.1 u c).1.1;omega) (by have:=b.1;omega)];exact Yo _ a.2.2 40
theorem O5{E:Int}(a:AY ⟨p,l⟩ v=E)(b:E≠0)(e:Bw w w'):∃ y,(Ending.returned (.tuple #[.agg #[iv 0,iv 0,sn],iv E]):Ending)=.returned (.tuple #[.agg (acA (BG ⟨p,l⟩ v) y),.int .i64 (AY ⟨p,l⟩ v)])/\w'.ownsRow w.heap.size 156 8 y (Br ⟨p,l⟩ v).length (vtL (Br ⟨p,l⟩ v))/\(Br ⟨p,l⟩ v).length<=40/\Bw w w':=by
 have c:BG ⟨p,l⟩ v=⟨0,0⟩:=if_neg (by rw[a];exact b);have d:Br ⟨p,l⟩ v=[]:=if_neg (by rw[a];exact b);rw[c,d,a];exact⟨sn,rfl,World.ownsRow_nil _ _ _ _,by simp,e⟩
theorem bC{y:S3}(c:Ag ⟨p,l⟩)(d:Ah v)(h:¬ v.b.lt p)(j:w'.ownsRow w.heap.size 156 8 y.v (Bn l v).length (vtL (Bn l v)))(i:Bw w w'):∃ y',(Ending.returned (.tuple #[.agg #[iv v.b.r,iv v.b.n,y.v],iv 0]):Ending)=.returned (.tuple #[.agg (acA (BG ⟨p,l⟩ v) y'),.int .i64 (AY ⟨p,l⟩ v)])/\w'.ownsRow w.heap.size 156 8 y' (Br ⟨p,l⟩ v).length (vtL (Br ⟨p,l⟩ v))/\(Br ⟨p,l⟩ v).length<=40/\Bw w w':=by
 have a:AY ⟨p,l⟩ v=0:=(if_neg (λg=>g c)).trans ((if_neg (λg=>g d)).trans (if_neg h));have e:BG ⟨p,l⟩ v=v.b:=if_pos a;have f:Br ⟨p,l⟩ v=Bn l v:=if_pos a;rw[e,f,a];exact⟨y.v,rfl,j,ij c d,i⟩
end
section
theorem Co(p:Bal)(x:Value)(l:List Vt)(v:Vt)(w:World)(h:Sv w x l)(q:NTab w) :
  Calls prog 113 #[.agg (acA p x),.agg (vtA v)] w λe w'=>∃ y,e=.returned (.tuple #[.agg (acA (BG ⟨p,l⟩ v) y),.int .i64 (AY ⟨p,l⟩ v)])/\w'.ownsRow w.heap.size 156 8 y (Br ⟨p,l⟩ v).length (vtL (Br ⟨p,l⟩ v))/\(Br ⟨p,l⟩ v).length<=40/\Bw w w':=by
 obtain⟨y,rfl⟩:=h.s3;show Calls prog 113 #[.agg #[iv p.r,iv p.n,S3.v y],.agg #[iv v.bu,iv v.b.r,iv v.b.n,iv v.w.k,iv v.w.c,iv v.w.s,iv v.w.n,iv v.w.v]] w _;refine tIn [] func113 trivial (tR 11 [0,0,0,0,1,0,0] λd _ _=>tC1 1 (λF C=>Ja p y.v l _ (h.af (CgQ.af C)) (q.af (CgQ.af C))) λ_=>tR 7 [] λH _ _=>?_);by_cases f:Ag ⟨p,l⟩
 .have hE:Fu ⟨p,l⟩=0:=if_pos f;refine tI (((Fu ⟨p,l⟩) != 0)) false (by rw[hE];decide) (tR 5 [1] λI _ _=>?_);by_cases i:Ah v
  .refine tC1 1 (λF C=>GU (v:=v) (q.af (CgQ.af C)) (r:=true) (M' i)) λ_=>tR 11 [1,0] λJ _ _=>?_;by_cases m:v.b.lt p
   .refine tC1 4 (λF C=>Er (a:=v.b) (b:=p) (r:=true) (M' m)) λ_=>tR 8 [2,0] λK _ _=>tX λF C=>qE2 4 5 99 2 (d 2) #[iv 0,iv 0,sn] (iv 7) λ_=>O5 ((if_neg (λg=>g f)).trans ((if_neg (λg=>g i)).trans (if_pos m))) (by decide) (CgQ.af C)
   .refine tC1 4 (λF C=>Er (a:=v.b) (b:=p) (r:=false) (E' m)) λ_=>tR 10 [7,0,2,1,4,6,0,8,1] λz _ _=>tF λ_ E=>?_;have j:=E.size;refine tC 5 (λF C=>fx (v:=v) f.2.2 (h.af (CgQ.af C))) λG=>?_;rintro _ _ ⟨u,rfl,t,o⟩;refine⟨_,Fa.fo w.heap.size 156 8 u.v (Bn l v).length (vtL (Bn l v))::_,rfl,o,λF=>⟨Yi t j G,F⟩,?_⟩;refine tR 4 [12,15,2,0,16] λA _ _=>tX λF C=>qE2 4 5 99 2 (d 2) #[iv v.b.r,iv v.b.n,S3.v u] (iv 0) λ_=>bC f i m F.1.1 (CgQ.af C)
  .refine tC1 1 (λF C=>GU (v:=v) (q.af (CgQ.af C)) (r:=false) (E' i)) λ_=>tR 9 [2,0] λB _ _=>tX λF C=>qE2 4 5 99 2 (d 2) #[iv 0,iv 0,sn] (iv 2) λ_=>O5 ((if_neg (λg=>g f)).trans (if_pos i)) (by decide) (CgQ.af C)
 .have hE:Fu ⟨p,l⟩=5:=if_neg f;refine tI (((Fu ⟨p,l⟩) != 0)) true (by rw[hE];decide) ?_;refine tR 7 [2,0] λD _ _=>tX λF C=>qE2 4 5 99 2 (d 2) #[iv 0,iv 0,sn] (iv (Fu ⟨p,l⟩)) λ_=>by rw[hE];exact O5 (if_pos f) (by decide) (CgQ.af C)
theorem R2(p:Bal)(x:Value)(l:List Vt)(v:Vt)(w:World)(h:Sv w x l)(c:NTab w) :
  Calls prog 113 #[.agg (acA p x),.agg (vtA v)] w λe w'=>∃ y,e=.returned (.tuple #[.agg (acA (BG ⟨p,l⟩ v) y),.int .i64 (AY ⟨p,l⟩ v)])/\Sv w' y (Br ⟨p,l⟩ v)/\Bw w w' :=
 (Co p x l v w h c).mono λe w' ⟨y,b,d,f,a⟩=>⟨y,b,Sv.nn d (by omega),a⟩
structure Base(w0:World)(g:Gh)(w:World):Prop where
 b:Bw w0 w
 z:∀ k,k<w0.heap.size->g.t k=.z
variable{B:Nat}{a:Acc}{g:Gh}{w w' w0:World}{y:Value}
theorem Base.ch{T:List Tg}{d:Gh}(h:Base w0 g w)(c:Cg B T g w d w')(f:Tg.z∉T:=by simp):Base w0 d w' :=
 have e:∀ k,k<w0.heap.size->k<w.heap.size:=λk a=>Z' a h.b.size
 ⟨⟨c.os.trans h.b.os,c.tape.trans h.b.tape,c.output.trans h.b.output,my h.b.size c.size,λk a=>(c.zc f (e k a) (h.z k a)).trans (h.b.block k a)⟩,λk a=>(c.tag (e k a) (by rw[h.z k a];intro h;cases h)).trans (h.z k a)⟩
structure Tabs(w:World):Prop where
 t:AB w
 n:NTab w
 q:Di w
theorem Base.tt(h:Base w0 g w)(t:Tabs w0):AB w:=t.t.af h.b
theorem Base.tn(h:Base w0 g w)(t:Tabs w0):NTab w:=t.n.af h.b
theorem Base.tq(h:Base w0 g w)(t:Tabs w0):Di w:=t.q.af t.q.pos h.b
theorem Ed{l:List Vt}(h:w'.ownsRow B 156 8 y l.length (vtL l))(e:∀ b,B<=b->g.t b=.z)(f:l.length<=2199023255488):∃ y3:S3,y=y3.v/\y3.n=l.length/\FSv g w' y3 l:=by
 have d:=Sv.nn h f;rcases h.2 with⟨rfl,h0⟩|⟨b,cap,cur,rfl,hb,_⟩
 .exact⟨s30,rfl,h0.symm,d,λi=>absurd (j' h0) i⟩
 .exact⟨⟨some ⟨b,0,none⟩,l.length,cap⟩,rfl,rfl,d,λ_ a c=>by simp only[Y']at c;subst c;exact e b hb⟩
theorem dJ{l:List Int}(h:w'.ownsRow B 5 1 y l.length (l.map (Value.int .u8)))(k:∀ b,B<=b->g.t b=.z)(m:l.length<=140737488351232)(j:∀ x∈l,0<=x/\x<256):∃ y3:S3,y=y3.v/\y3.n=l.length/\FSl g w' y3 l:=by
 rcases h.2 with⟨rfl,h0⟩|⟨b,cap,cur,rfl,hbb,hh,hc,_,hcs,ht⟩
 .have d:l=[]:=j' h0;subst d;exact⟨s30,rfl,rfl,⟨⟨none,0,rfl,A' _,λ_=>rfl,.inl rfl⟩,by simp,by simp⟩,λd=>absurd rfl d⟩
 .refine⟨⟨some ⟨b,0,none⟩,l.length,cap⟩,rfl,rfl,⟨⟨_,_,rfl,hc,λh=>(by cases h),.inr ⟨b,0,rfl,rl hh,λi f=>?_⟩⟩,m,j⟩,λ_ a e=>by simp only[Y']at e;subst e;exact k b hbb⟩;have c:(l.map (Value.int .u8))[i]?=some (.int .u8 (l.getD i 0)):=by rw[ng,G' f,mU,G' f];rfl
  rw[<- ht,nz]at c
  split at c
  .rw[cell_of_row _ _ _ _ _ _ hh,na];simpa using c
  .cases c
theorem J9{d:List Int}{s:Int}{may:Prop}[Decidable may]{b:List Int}(h:CF d s may b=0):AR d s/\d.length+(b.length+5)<=100000/\may:=by
 unfold CF at h;by_cases c:G1 d s (b.length+5)≠0
 .rw[if_pos c]at h;exact absurd h c
 .rw[if_neg c]at h
  have e:may:=nc λe=>by rw[if_neg e]at h;cases h
  have a:G1 d s (b.length+5)=0:=by simpa using c
  unfold G1 at a;by_cases f:AR d s
  .rw[if_neg (λg=>g f)]at a
   refine⟨f,?_,e⟩;rcases nt 100000 (d.length+(b.length+5))with h2|h2
   .rw[if_pos h2]at a;cases a
   .exact h2
  .rw[if_pos f]at a;cases a
theorem iK{b:Bal}(h:Cf a b=0):Fk a b=b/\DP a b=a.vs:=⟨if_pos h,if_pos h⟩
theorem DD{v:Vt}(h:AY a v=0):BG a v=v.b/\Br a v=Bn a.vs v:=⟨if_pos h,if_pos h⟩
end
end
section
open Go.ChangeShapes Go.WideShapes Go.ChangeAt Go.RowKit
theorem mn{W:World}(h:laidMetH prog Rows.topToldRow.laid W):Tabs W/\LWTab W/\LBTab W:=by
 have u:laidMet prog Rows.topToldRow.laid W:=h;obtain⟨B,⟨w,F,r,d,z,C,k,n,a,g,⟨x,G,s,e,p1,D,l,o,b,i,⟨y,H,t,f,A,E,m,p,c,j,v,_⟩,_⟩,_⟩,_⟩:=u;have q:=eN v;obtain rfl:=nf (Yk.symm.trans k);obtain rfl:=nf (Sn.symm.trans n);obtain rfl:=nf (jQ.symm.trans l);obtain rfl:=nf (Yl.symm.trans o);obtain rfl:=nf (fG.symm.trans m);obtain rfl:=nf (Vz.symm.trans p);exact⟨⟨ZK b i,d8 c j,Zx a g⟩,q.1,q.2⟩
def IV(os:Os)(W:World):Prop :=
 W={ World.holding prog os ⟨#[],#[],[]⟩with heap:=(((((World.holding prog os ⟨#[],#[],[]⟩).heap.modify 4 (YC Wj)).modify 3 (YC (S6.map (Value.int .u32)).toArray)).modify 2 (YC (NU.map (Value.int .i64)).toArray)).modify 1 (Y8 PG)).modify 0 (Y8 RA) }
theorem cE(a:Os):∃ W,IV a W:=⟨_,rfl⟩
end
section
open Go.RowKit
section
def cmG(c:Cmd):Value:=.agg #[iv c.k,iv c.c,iv c.s,iv c.n,iv c.v]
theorem Uv(x:Cmd × Bal × Nat):(mkA x).key=cmG x.1:=rfl
theorem Yb(u v:Cmd)(w:World):(Op.equal 51 (cmG u) (cmG v)).run prog w=.ok (decide (u=v)) w:=by
 have a:=Ue u.k u.c u.s u.n u.v v.k v.c v.s v.n v.v w;rw[TY]at a
 rw[run_eql_struct]at a
 show(Op.equalIn 10000 _ _ _).run _ _=_;simp only[cmG];cases hr:(Op.equalIn 10000 51 (.agg #[iv u.k,iv u.c,iv u.s,iv u.n,iv u.v]) (.agg #[iv v.k,iv v.c,iv v.s,iv v.n,iv v.v])).run prog w with
 | ok b w'=>simp only[hr]at a;simp[Result.andThen]at a;rw[a.1,a.2]
 | _=>simp only[hr]at a;simp[Result.andThen]at a
abbrev Ask:=Cmd × Bal × Nat
def Lq(v:Cmd):List Ask->Nat->Option (Nat × Value)
 | [],_=>none
 | x::c,i=>if v=x.1 then some (i,(mkA x).val)else Lq v c (i+1)
theorem Np(v:Cmd)(w:World):∀ (c:List Ask) (i:Nat),(Instr.findAsking 51 (cmG v) (c.map mkA) i).run prog w=.ok (Lq v c i) w
 | [],i=>by simp[Instr.findAsking,Lq]
 | x::c,i=>by
  have h:=Yb v x.1 w;rw[m9,Instr.findAsking,Sem.run_bind];rw[Uv,h,Result.andThen_ok,Lq];by_cases e:v=x.1
  .rw[M' e,if_pos e];rfl
  .rw[E' e,if_neg e];simpa using Np v w c (i+1)
theorem GP(v:Cmd)(w:World)(c:List Ask):(Instr.findKey 51 (cmG v) (c.map mkA)).run prog w=.ok (Lq v c 0) w:=by
 rw[Instr.findKey,Sem.run_bind,run_underlying underlying51 w,Result.andThen_ok];cases c with
 | nil=>simp[Instr.findNow,Lq]
 | cons x c =>
  show Sem.run _ (match(none:Option (Option (Nat × Value)))with|some r=>pure r|none=>Instr.findAsking 51 (cmG v) ((x::c).map mkA)) w=_;exact Np v w (x::c) 0
theorem Fb(a:Bool)(v:Cmd)(w:World):(Instr.checkKey a 10000 51 (cmG v)).run prog w=.ok () w:=by
 obtain⟨k,c,q,m,x⟩:=v;kernel_rfl
theorem ey(v:Cmd)(n:Nat):Instr.sameBits (n+1) (cmG v) (cmG v)=true:=by simp[Instr.sameBits,cmG]
theorem ao(v:Cmd)(w:World):(Instr.keyThatStays (cmG v) (cmG v)).run prog w=.ok (cmG v) w:=by
 rw[Instr.keyThatStays,if_pos (ey v 9999)];rfl
def FZ(c:List Ask)(v:Cmd):Option Bal:=(c.find? λx=>decide (v=x.1)).map (·.2.1)
theorem KC(v:Cmd):∀ (c:List Ask) (i:Nat),(Lq v c i=none/\FZ c v=none/\∀ x∈c,v≠x.1)\/∃ a x b,c=a++x::b/\x.1=v/\(∀ y∈a,v≠y.1)/\Lq v c i=some (i+a.length,(mkA x).val)/\FZ c v=some x.2.1
 | [],i=>.inl ⟨rfl,rfl,λx hx=>by cases hx⟩
 | x::c,i=>by
  by_cases e:v=x.1
  .refine .inr ⟨[],x,c,rfl,e.symm,λy hy=>(Q' hy).elim,?_,?_⟩
   .rw[Lq,if_pos e];rfl
   .simp[FZ,e]
  .rcases KC v c (i+1)with⟨h1,h2,h3⟩|⟨a,y,b,rfl,hy,h3,h4,h5⟩
   .refine .inl ⟨by rw[Lq,if_neg e,h1],?_,λy hy=>?_⟩
    .rw[<- h2];simp[FZ,e]
    .rcases mG.1 hy with rfl|hy
     .exact e
     .exact h3 y hy
   .refine .inr ⟨x::a,y,b,rfl,hy,λz hz=>?_,?_,?_⟩
    .rcases mG.1 hz with rfl|hz
     .exact e
     .exact h3 z hz
    .rw[Lq,if_neg e,h4];simp;omega
    .rw[<- h5];simp[FZ,e]
def Kh(b:Bal):Value:=.agg #[iv b.r,iv b.n]
variable{b:Nat}{f:Cmd->Option Bal}{g:Gh}{w:World}{τ:Tg}
theorem fU(h:AskAt g w τ b f)(v:Cmd)(ok:Bool):(Instr.lookup 104 (.map (some b)) (cmG v) ok).run prog w=.ok (if ok then .tuple #[Kh ((f v).getD Bd),.bool (f v).isSome]else Kh ((f v).getD Bd)) w:=by
 obtain⟨_,_,c,k,j,_,_,_,l⟩:=h;have e:f v=FZ c v:=l v;have i:(getObj b).run prog w=.ok (.map (c.map mkA).toArray k) w:=by simp[getObj,Sem.run,j]
 rcases KC v c 0 with⟨h1,h2,_⟩|⟨a,x,d,_,_,_,h1,h2⟩
 .rw[h2]at e
  cases ok<;>simp[Instr.lookup,run_underlying underlying104,i,Fb,GP,h1,e,Kh,Bd]
 .rw[h2]at e
  cases ok<;>simp[Instr.lookup,run_underlying underlying104,i,Fb,GP,h1,e,mkA,Kh]
theorem Cg.block{B:Nat}{T:List Tg}{m:Array MapEntry}{k:Nat}(f:w.heap[b]?=some (.map m k))(r:g.t b=τ)(q:g.k b=0)(d:τ∈T)(o:Obj):Cg B T g w g (ChangeMaps.setBlock w b o) :=
 have c:∀ a,g.t a∉T->a≠b:=λa h e=>h (by rw[e,r];exact d)
 ⟨rfl,rfl,rfl,by simp[ChangeMaps.setBlock],λ_ _=>.inl rfl,λ_ _=>A' _,λ_ _ _ _=>rfl,λa _ h _=>ChangeMaps.heap_setBlock_other f o (c a h),
  λa _ j p=>World.cell?_of_block (w:=w) (ChangeMaps.heap_setBlock_other f o (λe=>by have i:a=b:=e;rw[i,q]at p;omega))⟩
theorem Vy(c:List Ask)(v u:Cmd)(x:Bal)(k:Nat)(h:∀ y∈c,v≠y.1):FZ (c++[(v,x,k)]) u=if u=v then some x else FZ c u:=by
 unfold FZ;rw[nV];by_cases e:u=v
 .subst e;have a:c.find? (λy=>decide (u=y.1))=none:=by
   rw[nK];intro y b;simp[h y b]
  simp[a]
 .rw[if_neg e];simp[e]
theorem Ye(a d:List Ask)(v u:Cmd)(x y:Bal)(k:Nat)(h:∀ y∈a,v≠y.1):FZ (a++(v,y,k)::d) u=if u=v then some y else FZ (a++(v,x,k)::d) u:=by
 unfold FZ;rw[nV,nV,oZ,oZ];by_cases e:u=v
 .subst e;have b:a.find? (λy=>decide (u=y.1))=none:=by
   rw[nK];intro y c;simp[h y c]
  simp[b]
 .rw[if_neg e];simp[e]
theorem Yf(a d:List Ask)(v u:Cmd)(x:Bal)(k:Nat)(h:∀ y∈a,v≠y.1)(f:∀ y∈d,v≠y.1):FZ (a++d) u=if u=v then none else FZ (a++(v,x,k)::d) u:=by
 unfold FZ;rw[nV,nV,oZ];by_cases e:u=v
 .subst e;have g:a.find? (λy=>decide (u=y.1))=none:=by
   rw[nK];intro y c;simp[h y c]
  have b:d.find? (λy=>decide (u=y.1))=none:=by
   rw[nK];intro y c;simp[f y c]
  simp[g,b]
 .rw[if_neg e];simp[e]
theorem bK(h:AskAt g w τ b f)(v:Cmd)(x:Bal):∃ w',(Instr.mapUpdate 104 (.map (some b)) (cmG v) (Kh x)).run prog w=.ok () w'/\AskAt g w' τ b (BV f v (some x))/\(∀ B T,τ∈T->Cg B T g w g w')/\w'.heap.size=w.heap.size:=by
 obtain⟨s,j,c,k,l,m,n,o,E⟩:=h;have F:(getObj b).run prog w=.ok (.map (c.map mkA).toArray k) w:=by simp[getObj,Sem.run,l]
 rcases KC v c 0 with⟨h1,h2,h3⟩|⟨a,y,d,rfl,hy,h3,h1,h2⟩
 .have C:=MapKept.run_setObj_map (P:=prog) (w:=w) (.map ((c++[(v,x,k)]).map mkA).toArray (k+1)) l;refine⟨_,?_,⟨s,j,c++[(v,x,k)],k+1,ChangeMaps.heap_setBlock_same l (.map ((c++[(v,x,k)]).map mkA).toArray (k+1)),?_,?_,?_,?_⟩,λB T t=>Cg.block l s j t _,by simp[ChangeMaps.setBlock]⟩
  .have z:((c.map mkA).toArray.push { key:=cmG v,val:=Kh x,born:=k })=((c++[(v,x,k)]).map mkA).toArray:=by simp[mkA,cmG,Kh,cmV]
   rw[Instr.mapUpdate];simp only[Sem.run_bind,run_underlying underlying104,Result.andThen_ok,F,Fb,GP,h1,z,C];rfl
  .intro y hy;rcases P'.1 hy with hy|hy
   .have:=m y hy;omega
   .obtain rfl:y=(v,x,k):=by simpa using hy
    show k<k+1;omega
  .rw[mS,oJ];refine⟨n,by simp,?_⟩;intro p A q r;obtain⟨y,hy,rfl⟩:=mQ.1 A;obtain rfl:q=k:=by simpa using r
   have:=m y hy;omega
  .rw[mS,oJ];refine⟨o,by simp,?_⟩;intro p A q r;obtain⟨y,hy,rfl⟩:=mQ.1 A;obtain rfl:q=v:=by simpa using r
   exact λe=>h3 y hy e.symm
  .intro u;rw[show(List.find? (λx=>decide (u=x.1)) (c++[(v,x,k)])).map (·.2.1)=FZ (c++[(v,x,k)]) u from rfl,Vy c v u x k h3];unfold BV;split
   .rfl
   .exact E u
 .obtain⟨yv,yb,yk⟩:=y;simp only at hy;subst hy;have C:=MapKept.run_setObj_map (P:=prog) (w:=w) (.map ((a++(yv,x,yk)::d).map mkA).toArray k) l;refine⟨_,?_,⟨s,j,a++(yv,x,yk)::d,k,ChangeMaps.heap_setBlock_same l (.map ((a++(yv,x,yk)::d).map mkA).toArray k),?_,?_,?_,?_⟩,λB T t=>Cg.block l s j t _,by simp[ChangeMaps.setBlock]⟩
  .have hx:((a++(yv,yb,yk)::d).map mkA).toArray[a.length]?=some (mkA (yv,yb,yk)):=by simp
   have z:(((a++(yv,yb,yk)::d).map mkA).toArray.modify a.length λe=>{ e with key:=cmG yv,val:=Kh x })=((a++(yv,x,yk)::d).map mkA).toArray:=by
    apply n8;intro i;rw[o0];split
    .rename_i hi
     subst hi;simp[mkA,cmG,Kh,cmV]
    .rename_i hi
     simp only[nu,mS,m9];rcases nt i a.length with g|g
     .rw[mK (by simpa using g),mK (by simpa using g)]
     .rw[mM (by simpa using g),mM (by simpa using g)];obtain⟨q,r⟩:∃ q,i-(a.map mkA).length=q+1:=⟨i-a.length-1,by simp;omega⟩;rw[r];rfl
   have D:=ao yv w;rw[Instr.mapUpdate];simp only[Sem.run_bind,run_underlying underlying104,Result.andThen_ok,F,Fb,GP,h1,na,hx,nm,pU];rw[Uv,D,Result.andThen_ok,z,C];rfl
  .intro y hy;rcases P'.1 hy with hy|hy
   .exact m y (mD _ hy)
   .rcases mG.1 hy with rfl|hy
    .exact m (yv,yb,yk) (by simp)
    .exact m y (mB _ (I' _ hy))
  .simpa using n
  .simpa using o
  .intro u;rw[show(List.find? (λx=>decide (u=x.1)) (a++(yv,x,yk)::d)).map (·.2.1)=FZ (a++(yv,x,yk)::d) u from rfl,Ye a d yv u yb x yk h3];unfold BV;split
   .rfl
   .exact E u
theorem bJ(h:AskAt g w τ b f)(v:Cmd)(A:TypeId):∃ w',(Builtin.delete_ #[104,51] A #[.map (some b),cmG v]).run prog w=.ok (.tuple #[]) w'/\AskAt g w' τ b (BV f v none)/\(∀ B T,τ∈T->Cg B T g w g w')/\w'.heap.size=w.heap.size:=by
 obtain⟨n,j,c,k,l,p,m,i,s⟩:=h;have t:(getObj b).run prog w=.ok (.map (c.map mkA).toArray k) w:=by simp[getObj,Sem.run,l]
 rcases KC v c 0 with⟨h1,h2,h3⟩|⟨a,y,d,rfl,hy,h3,h1,h2⟩
 .have q:=MapKept.run_setObj_map (P:=prog) (w:=w) (.map (c.map mkA).toArray k) l;refine⟨_,?_,⟨n,j,c,k,ChangeMaps.heap_setBlock_same l (.map (c.map mkA).toArray k),p,m,i,?_⟩,λB T o=>Cg.block l n j o _,by simp[ChangeMaps.setBlock]⟩
  .simp[Builtin.delete_,run_underlying underlying104,t,Fb,GP,h1,q];rfl
  .intro u;unfold BV;split
   .rename_i e;rw[e];exact h2.symm
   .exact s u
 .obtain⟨yv,yb,yk⟩:=y;simp only at hy;subst hy;have q:=MapKept.run_setObj_map (P:=prog) (w:=w) (.map ((a++d).map mkA).toArray k) l;have z:∀ y∈d,yv≠y.1:=by
   intro y hy e;rw[mS,m9,oJ]at i
   exact(oK.1 i.2.1).1 (mQ.2 ⟨y,hy,e.symm⟩)
  refine⟨_,?_,⟨n,j,a++d,k,ChangeMaps.heap_setBlock_same l (.map ((a++d).map mkA).toArray k),?_,?_,?_,?_⟩,λB T o=>Cg.block l n j o _,by simp[ChangeMaps.setBlock]⟩
  .have he:(((a++(yv,yb,yk)::d).map mkA).toArray.eraseIdxIfInBounds a.length)=((a++d).map mkA).toArray:=by
    rw[Array.eraseIdxIfInBounds,dif_pos (by simp)];simp[List.eraseIdx_append_of_length_le]
   have r:=GP yv w (a++(yv,yb,yk)::d);rw[h1,na]at r
   simp only[Builtin.delete_,nu,nJ,pz,Sem.run_bind,run_underlying underlying104,Result.andThen_ok,t,Fb,r,he,q];rfl
  .intro y hy;rcases P'.1 hy with hy|hy
   .exact p y (mD _ hy)
   .exact p y (mB _ (I' _ hy))
  .rw[mS,m9]at m
   rw[mS];exact m.sublist (List.Sublist.append_left (List.sublist_cons_self _ _) _)
  .rw[mS,m9]at i
   rw[mS];exact i.sublist (List.Sublist.append_left (List.sublist_cons_self _ _) _)
  .intro u;rw[show(List.find? (λx=>decide (u=x.1)) (a++d)).map (·.2.1)=FZ (a++d) u from rfl,Yf a d yv u yb yk h3 z];unfold BV;split
   .rfl
   .exact s u
end
section
variable{fn:Func}{R:Ending->World->Prop}{B:Nat}{T:List Tg}{g:Gh}{w:World}
section
variable{b:Nat}{f:Cmd->Option Bal}{g:Gh}{s:Xs}{w:World}{τ:Tg}
theorem ZA(h:AskAt g w τ b f)(v:Cmd):(Instr.lookup 104 (.map (some b)) (cmG v) true).run prog w=.ok (.tuple #[Kh ((f v).getD Bd),.bool (f v).isSome]) w:=fU h v true
theorem iQ(h:AskAt g w τ b f)(v:Cmd):(Instr.lookup 104 (.map (some b)) (cmG v) false).run prog w=.ok (Kh ((f v).getD Bd)) w:=fU h v false
theorem Ui(c:Nat){τ:Tg}{b:Nat}{f:Cmd->Option Bal}(v:Cmd)(x:Bal)(h:AskAt g w τ b f)(a:Du s c=some (Instr.mapUpdate 104 (.map (some b)) (cmG v) (Kh x)>>=λ_=>pure .skip))(d:(nxt s c undef s.L).o.map Ob.l'=(nxt s c undef s.L).o.map Ob.r')(r:s.L.all (λy=>[τ].all λt=>y.t.ne t)=true)(u:∀ w',AskAt g w' τ b (BV f v (some x))->(∀ B T,τ∈T->Cg B T g w g w')->GG prog fn R B T (nxt s c undef s.L).s g w'):GG prog fn R B T s g w:=by
 refine Ko c s.L d (BT a) λk C i o e=>?_;obtain⟨w',A,p,j,q⟩:=bK h v x;refine⟨undef,w',g,.inr ⟨?_,rfl⟩,k.ch (j _ [τ] (D'.2 rfl)) (λb m=>k.new b (by rw[q]at m;exact m)) r,u w' p j⟩;rw[Dv a e,Sem.run_bind,A,Result.andThen_ok];rfl
theorem cO(c:Nat){τ:Tg}{b:Nat}{f:Cmd->Option Bal}(v:Cmd)(p:TypeId)(h:AskAt g w τ b f)(a:Du s c=some (Builtin.delete_ #[104,51] p #[.map (some b),cmG v]>>=λv=>pure (.value v)))(d:(nxt s c undef s.L).o.map Ob.l'=(nxt s c undef s.L).o.map Ob.r')(u:s.L.all (λy=>[τ].all λt=>y.t.ne t)=true)(x:∀ w',AskAt g w' τ b (BV f v none)->(∀ B T,τ∈T->Cg B T g w g w')->GG prog fn R B T (nxt s c (.tuple #[]) s.L).s g w'):GG prog fn R B T s g w:=by
 refine Ko c s.L d (BT a) λk C i o e=>?_;obtain⟨w',A,q,j,r⟩:=bJ h v p;refine⟨.tuple #[],w',g,.inl ?_,k.ch (j _ [τ] (D'.2 rfl)) (λb m=>k.new b (by rw[r]at m;exact m)) u,x w' q j⟩;rw[Dv a e,Sem.run_bind,A,Result.andThen_ok];rfl
end
end
section
def TO:List Tg:=[.n 50 0,.n 51 0,.n 52 0]
variable{c:Cmd}{g:Gh}{i j k nb ob:Nat}{l:Let}{ls:List Let}{p:Nod}{ts:List Tol}{v:Vt}{w:World}{x:S3}
theorem ZS{x:NX}{lt t:S3}(C:NodeAt g w i nb ob x p)(s:OutAt g w ob lt t ls ts)(D:IU g w)(Q:ls.length<100000000)(l:Let)(m o:S3)(E:FSv g w m l.mv)(F:Rc g w o l.gC)(to:Nat) :
  Calls prog 97 #[pt nb 0,iv (to:Int),.agg (FA l m o)] w λe w'=>∃ g' lt',e=.returned (.tuple #[])/\OutAt g' w' ob lt' t (ls++[{ l with src:=i,dst:=to }]) ts/\Cg w.heap.size TO g w g' w'/\IU g' w':=by
 obtain⟨B,u,j⟩:=s.br;have k:lt.n=ls.length:=by have:=u.len;have:=j.len;simp at *;omega
 refine gI (fn:=f97) TO g func97 D (qN C (qO s (qR [] 29 [0,0,0,2,0,2,0,15,0,2,4,6,0,8,10,12,14,0,16,18,20,1,23,0,0] λd N S a=>Km 12 (x:=lt) 86 86 159 1 8 (.pointer none) ⟨(d 1),0,none⟩ 1 1 [pt (d 0) 0] (u.ch a) (by kernel_rfl) (by kernel_rfl) (by kernel_rfl) underlying86 (by kernel_rfl) (by kernel_rfl) (by decide) (by decide) rfl (by simp[Value.oneCell']) (λK=>Cu K 3 (d 1) [pt (d 0) 0] 159 .z true (by kernel_rfl)) (by rw[k];unfold maxLen;omega) (by rw[k];omega) ?_)));intro y O T A R q M;have h:=q w.heap.size [.n 51 0] (D'.2 rfl);refine qR [.n 50 0] 4 [26,28,31,1,1] λs3 P U b=>qE (.tuple #[]) λK=>?_;obtain⟨G,H,I⟩:=K.rN 1 ob (.cells #[S3.v y,S3.v t] 88) 50 0 (by kernel_rfl);obtain⟨J,L⟩:=K.rM 2 (d 0) (.cells (FA { l with src:=i,dst:=to } m o) 158) false (by kernel_rfl);have c:∀ r,Tg.z∉[Tg.n r 0]:=λr=>by simp
 refine⟨_,y,rfl,⟨G,H,I,⟨B++[(d 0)],?_,?_⟩,(((s.ed.ch a).ch h).ch b)⟩,(((a.nil TO).trans (h.mono (by simp[TO]))).trans (b.mono (by simp[TO]))),K.new⟩
 .rw[mS];exact A.ch b
 .refine(((j.ch a).ch h (c _)).ch b (c _)).snoc ⟨m,o,⟨J,L⟩,(((E.ch a).ch h (c _)).ch b (c _)),(((F.ch a).ch h (c _)).ch b (c _))⟩
theorem AT(h:NS i nb ob g w p ls ts)(L:p.bw.length<100000000)(e:Fn)(d:Array Value)(q:Pend)(C:KL g w nb (.func e #[] d) q) :
  Calls prog 65 #[pt nb 0,.func e #[] d] w (NP i nb ob g w (.tuple #[]) (p.wait q) ls ts):=by
 obtain⟨x,lt,D,b,t,B⟩:=h;obtain⟨E,u,j⟩:=b.bw;have v:x.synced.n=p.bw.length:=by have:=u.len;have:=j.len;simp at *;omega
 refine gI (fn:=f65) (TN i) g func65 B (qN b (qO t (qR [] 9 [0,0,0] λy H N k=>Km 8 (x:=x.synced) 100 100 1 1 8 (.nilFunc) ⟨(y 0),0,none⟩ 1 1 [.func e #[] d] (u.ch k) (by kernel_rfl) (by kernel_rfl) (by kernel_rfl) underlying100 (by kernel_rfl) (by kernel_rfl) (by decide) (by decide) rfl (by simp[Value.oneCell']) (λK=>Cu K 2 (y 0) [.func e #[] d] 1 .z true (by kernel_rfl)) (by rw[v];unfold maxLen;omega) (by rw[v];omega) ?_)));intro F I O A M r G;have s:=r w.heap.size [.n 1 i] (D'.2 rfl);refine qR [.n 0 i] 5 [0,1] λs3 J P o=>qE (.tuple #[]) λK=>?_;have a:=((k.nil ([.n 1 i,.n 0 i]:List Tg)).m s).m o;have c:Tg.z∉([.n 1 i,.n 0 i]:List Tg):=by simp
 exact⟨_,rfl,⟨{ x with synced:=F },lt,D,K.nd 0 (b.tape.ch a c) (b.mv.ch a c) (BA b.an a c) ⟨E++[.func e #[] d],A.ch o,(j.ch a c).snoc (C.ch a c)⟩ (b.fv.ch a) (b.ab.ch a) (b.bn.ch a) (b.cl.ch a) b.rW,t.ch a c (by simp<;>omega),K.new⟩,(((k.nil (TN i)).trans (s.mono (by simp[TN]))).trans (o.mono (by simp[TN])))⟩
theorem Rm(h:NS i nb ob g w p ls ts)(I:ts.length<100000000)(c:Cmd)(b a:Int) :
  Calls prog 62 #[pt nb 0,.agg (cmC c),.agg #[iv b,iv a]] w (NP i nb ob g w (.tuple #[]) p ls (ts++[⟨i,c.c,c.s,b,a⟩])):=by
 obtain⟨x,lt,v,r,d,C⟩:=h;have t:v.n=ts.length:=by have B:=d.ed.len;rw[G9]at B;omega
 refine gI (fn:=f62) (TN i) g func62 C (qN r (qO d (qR [] 28 [0,0,0,0,25,0,2,4,6,0,8,10,12,14,0,16,18,20,1,22,24,26,28,0,30,32,2,34,36,2,38,3,40,43,0,0] λu F L e=>Km 22 (x:=v) 28 28 49 5 40 (.agg #[iv 0,iv 0,iv 0,iv 0,iv 0]) ⟨(u 2),0,none⟩ 1 1 [iv (i:Int),iv c.c,iv c.s,iv b,iv a] (d.ed.ch e) (by kernel_rfl) (by kernel_rfl) (by kernel_rfl) underlying28 (by kernel_rfl) (by kernel_rfl) (by decide) (by decide) rfl (by simp[Value.oneCell']) (λK=>Cu K 4 (u 2) [iv (i:Int),iv c.c,iv c.s,iv b,iv a] 49 .z true (by kernel_rfl)) (by rw[t];unfold maxLen;omega) (by rw[t];omega) ?_)));intro D G M A J k E;have q:=k w.heap.size [.n 52 0] (D'.2 rfl);refine qR [.n 50 0] 4 [46,48,51,1,1] λs3 H N j=>qE (.tuple #[]) λK=>?_;have o:=((e.nil ([.n 52 0,.n 50 0]:List Tg)).m q).m j;have y:Tg.z∉([.n 52 0,.n 50 0]:List Tg):=by simp
 exact⟨_,rfl,⟨x,lt,D,K.sQ 0 r o,K.od 1 (Ec d.br o y (by simp)) (by rw[List.flatMap_append];exact A.ch j),K.new⟩,(((e.nil (TN i)).trans (q.mono (by simp[TN]))).trans (j.mono (by simp[TN])))⟩
theorem K4(h:NS i nb ob g w p ls ts)(b:Nat)(l:Let)(o:CM g w b l) :
  Calls prog 55 #[pt nb 0,pt b 0] w (NP i nb ob g w (.tuple #[]) { p with dc:=max p.dc l.hU.r } ls ts):=by
 obtain⟨x,lt,t,j,k,m⟩:=h;refine gI (fn:=f55) (TN i) g func55 m (qN j (qO k ?_));obtain⟨B,E,a,q,s⟩:=o;refine Cl ⟨b,_,.z,false⟩ (λ_=>⟨a.r,a.z,λh=>(by cases h),λh=>absurd rfl h⟩) (by kernel_rfl) ?_;refine qR [] 12 [15,0,2,4,6,8,10,0,12,14,16,18,20,2] λy u C d=>qT 11 (iv (max p.dc l.hU.r)) (λ_=>(kD #[3,3] 3 p.dc l.hU.r)) (qR [.n 0 i] 5 [24,26,28,31,0,1] λA v D e=>qE (.tuple #[]) λK=>?_);have c:=(d.nil ([.n 0 i]:List Tg)).trans (e);exact⟨_,rfl,⟨x,lt,t,K.sQ 0 j c,k.ch c (hn:=by simp<;>omega),K.new⟩,((d.nil (TN i)).trans (e.mono (by simp[TN])))⟩
theorem FM(h:NS i nb ob g w p ls ts)(o:ls.length<100000000)(l:Let)(b c:S3)(s:FSv g w b l.mv)(t:Rc g w c l.gC)(to:Nat) :
  Calls prog 97 #[pt nb 0,iv (to:Int),.agg (FA l b c)] w (NP i nb ob g w (.tuple #[]) p (ls++[{ l with src:=i,dst:=to }]) ts):=by
 obtain⟨x,lt,u,f,n,q⟩:=h;refine(ZS f n q o l b c s t to).mono ?_;rintro e y ⟨j,a,rfl,k,d,m⟩;exact⟨j,rfl,⟨x,a,u,f.ch d (by simp[TO]) (λr v=>by simp[TO];omega),k,m⟩,d.mono (by simp[TO,TN])⟩
def BU(i:Nat)(l:Let)(k:Nat):List Let:=((List.range k).filter λj=>decide (j≠i)).map λto=>{ l with src:=i,dst:=to }
theorem ZV(h:k≠i):BU i l (k+1)=BU i l k++[{ l with src:=i,dst:=k }]:=by unfold BU;rw[n7,oc,mS];simp[h]
theorem ZT(h:k=i):BU i l (k+1)=BU i l k:=by unfold BU;rw[n7,oc,mS];simp[h]
theorem ZU(i:Nat)(l:Let)(k:Nat):(BU i l k).length<=k:=by unfold BU;rw[mO];exact my (o8 _ _) (by simp)
theorem E3(h:NS i nb ob g w p ls ts)(hb:ls.length<90000000)(l:Let)(D E:S3)(hv:FSv g w D l.mv)(hw:Rc g w E l.gC) :
  Calls prog 68 #[pt nb 0,.agg (FA l D E)] w (NP i nb ob g w (.tuple #[]) p (ls++BU i l 5) ts):=by
 obtain⟨x,lt,tl,V,W,hg⟩:=h;refine gI (fn:=f68) (TN i) g func68 hg (qN V (qO W (qR [] 9 [0,0] λG g1 w1 Q=>Ca 19 [(0,pt nb 0),(3,pt (G 0) 0),(5,iv 0)] [false,false,true] [⟨(G 0),.cells #[iv (l.kind:Int),iv (l.src:Int),iv (l.dst:Int),iv l.hU.r,iv l.hU.n,iv l.cn.bu,iv l.cn.b.r,iv l.cn.b.n,iv l.cn.w.k,iv l.cn.w.c,iv l.cn.w.s,iv l.cn.w.n,iv l.cn.w.v,S3.v D,iv (l.bu:Int),S3.v E] 158,.z,false⟩] (λk T X e L=>∃ j:Nat,k=5-j/\j<=5/\e=[(0,pt nb 0),(3,pt (G 0) 0),(5,iv (j:Int))]/\L=[⟨(G 0),.cells #[iv (l.kind:Int),iv (l.src:Int),iv (l.dst:Int),iv l.hU.r,iv l.hU.n,iv l.cn.bu,iv l.cn.b.r,iv l.cn.b.n,iv l.cn.w.k,iv l.cn.w.c,iv l.cn.w.s,iv l.cn.w.n,iv l.cn.w.v,S3.v D,iv (l.bu:Int),S3.v E] 158,.z,false⟩]/\NS i nb ob T X p (ls++BU i l j) ts/\Cg w.heap.size (TN i) g w T X) (by kernel_rfl) (by kernel_rfl) (by kernel_rfl) (by kernel_rfl) 5 (λK=>?_) ?_)))
 .have C2:=Q;refine⟨0,rfl,by omega,rfl,rfl,?_,Q.nil _⟩;rw[show BU i l 0=[]from rfl,mT];exact(nsC V W C2 K)
 .rintro k gr wr _ zr _ ⟨j,rfl,hj,rfl,rfl,hM,hC⟩ J hJ;have hs:=ZU i l j;obtain⟨xr,a4,a9,a,d,a2⟩:=hM;refine qN a (qO d (qR [] 5 [] λs3 g3 w3 m=>?_));by_cases h1:j<5
  .refine qI (decide ((j:Int)<5)) true (M' (by omega)) (qR [] 17 [1] λs4 g4 w4 y=>?_);by_cases U:(j:Int)≠(i:Int)
   .refine qI (((j:Int) != (i:Int))) true (by simpa using U) (qR [] 4 [0] λs5 g5 w5 M=>?_);have P:=(((hC.n m).n y).n M);refine Af λK=>?_;have Y:NS i nb ob g5 w5 p (ls++BU i l j) ts:=(nsC a d ((m.n y).n M) K);refine qG 3 (TN i) [true,false,false] (FM Y (by simp;omega) l D E (hv.ch P (By i)) (hw.ch P (By i)) j) ?_;rintro e' w6 ⟨g6,rfl,I,F⟩;refine⟨_,g6,rfl,F,I.new,?_⟩;replace F:=F.ret (B:=w.heap.size);rw[mA,<- ZV (by omega)]at I
    obtain⟨x6,a3,a8,A,C,a1⟩:=I;refine qN A (qO C (qR [] 3 [] λs8 g8 w8 R=>qV 0 (iv ((j:Int)+1)) (AO 5 (j:Int) underlying3 (by omega)) (qR [] 2 [] λs9 g9 w9 S=>qB [true,false,false] λz H K=>hJ (5-(j+1)) _ _ _ z _ (by omega) ⟨j+1,rfl,by omega,rfl,rfl,?_,((((((hC.n m).n y).n M).trans F).n R).n S)⟩ K)));have o:NS i nb ob g9 w9 p (ls++BU i l (j+1)) ts:=(nsC A C (R.n S) H);exact o
   .refine qI (((j:Int) != (i:Int))) false (by simpa using U) (qR [] 3 [] λa5 Z b0 q=>qV 0 (iv ((j:Int)+1)) (AO 5 (j:Int) underlying3 (by omega)) (qR [] 2 [] λa6 N O t=>qB [true,false,false] λz H K=>hJ (5-(j+1)) _ _ _ z _ (by omega) ⟨j+1,rfl,by omega,rfl,rfl,?_,((((hC.n m).n y).n q).n t)⟩ K));have o:NS i nb ob N O p (ls++BU i l j) ts:=(nsC a d (((m.n y).n q).n t) H);exact(by simpa[ZT (show j=i by omega)]using o)
  .refine qI (decide ((j:Int)<5)) false (E' (by omega)) (qR [] 1 [] λa7 a0 b1 u=>?_);obtain rfl:j=5:=by omega
   exact qF a d (m.n u) ((hC.n m).n u)
theorem NL(h:NS i nb ob g w p ls ts) :
  Calls prog 99 #[pt nb 0] w λe w'=>e=.returned (.bool p.leads)/\Bw w w':=by
 obtain⟨x,lt,z,k,l,m⟩:=h;refine gI (fn:=f99) (TN i) g func99 m (qN k (qO l (qR [] 13 [24,0,2,4,6,8,10,0,12] λs n A b=>?_)));by_cases a:p.av.hU=Bd
 .refine qT 7 (.bool false) (λ_=>(IC (x:=(.tmp 8)) (y:=(.tmp 9)) p.av.hU Bd a)) (qR [] 17 [16,18,20,22,24,26,28,30,32,34,36,38,40,42,44,46] λt o B c=>qE (.bool false) λK=>⟨(by rw[show p.leads=false from E' (λh=>h.1 a)]),Cg.af (b.trans c) (λ_ _=>Q')⟩)
 .refine qT 7 (.bool true) (λ_=>(ID (x:=(.tmp 8)) (y:=(.tmp 9)) p.av.hU Bd a)) (qR [] 13 [16,18,20,22,24,26,28,0,30,32,34,36,38,40,0] λu q C d=>qT 21 (.bool (decide (p.av.hU=p.vo.p))) (λ_=>(lW (x:=(.tmp 17)) (y:=(.tmp 23)) p.av.hU p.vo.p)) (qR [] 3 [44,46] λv r D j=>qE (.bool (decide (p.av.hU=p.vo.p))) λK=>⟨(by rw[show p.leads=decide (p.av.hU=p.vo.p)from nC.2 ⟨λh=>h.2,λh=>⟨a,h⟩⟩]),Cg.af ((b.trans d).trans j) (λ_ _=>Q')⟩))
theorem LU(h:NS i nb ob g w p ls ts)(v:p.bw.length<100000000)(to:Nat)(e:Int) :
  Calls prog 95 #[pt nb 0,iv (to:Int),iv e] w (NP i nb ob g w (.tuple #[]) (p.ew to e) ls ts):=by
 obtain⟨x,lt,N,d,k,y⟩:=h;refine gI (fn:=f95) (TN i) g func95 y (qN d (qO k (qR [] 11 [0,0,0,0] λc I O a=>?_)));by_cases b:e=7
 .refine qI (e != 7) false (by simpa using b) (qR [] 15 [2,0,0,0,4,0,2] λq u B m=>Af λK=>?_);obtain⟨C,D⟩:=K.rM 2 (c 0) (.cells #[pt nb 0] 91) false (by kernel_rfl);obtain⟨E,F⟩:=K.rM 3 (c 1) (.cells #[iv (to:Int)] 3) false (by kernel_rfl);obtain⟨G,H⟩:=K.rM 4 (q 0) (.cells #[iv p.vo.p.r,iv p.vo.p.n] 96) true (by kernel_rfl);have s:NS i nb ob u B p ls ts:=(nsC d k (a.n m) K);refine qS0 2 [false,false,true,true,true] (AT s v _ _ (.ew to p.vo.p) ⟨(c 0),(c 1),(q 0),rfl,⟨C,D⟩,⟨E,F⟩,⟨G,H⟩⟩) λJ P R z A j l t=>qR [] 1 [] λM L Q o=>qE (.tuple #[]) λK=>?_;rw[show p.ew to e=p.wait (.ew to p.vo.p)from if_pos b];exact⟨_,rfl,(nsC j l o K),((((a.nil (TN i)).n m).trans (t)).n o)⟩
 .refine qI (e != 7) true (by simpa using b) (qE (.tuple #[]) λK=>?_);rw[show p.ew to e=p from if_neg b];exact⟨_,rfl,(nsC d k a K),(a.nil (TN i))⟩
def gh0:Gh:=⟨λ_=>.z,λ_=>0⟩
def Ql(l:List Cmd)(c:Cmd):Int:=if c∈l then(l.idxOf c:Int)else -1
theorem Qm:∀ {l:List Cmd} {j:Nat},l[j]?=some c->l.idxOf c<=j
 | [],j,h=>by cases h
 | d::l,0,h=>by simp only[nJ,Y']at h;subst h;simp
 | d::l,j+1,h=>by
  have:=Qm (l:=l) (j:=j) (by simpa using h);rw[List.idxOf_cons];cases d==c<;>simp<;>omega
theorem cZ(l:List Cmd)(c:Cmd):decide (0<=Ql l c)=decide (c∈l):=by
 unfold Ql;by_cases a:c∈l
 .rw[if_pos a,M' a];exact M' (by omega)
 .rw[if_neg a,E' a];rfl
theorem Yw{l:List Cmd}(h:l[j]?=some c)(e:∀ i,i<j->l[i]?≠some c):Ql l c=(j:Int):=by
 have b:c∈l:=mP h;have f:j<l.length:=(V'.1 h).1;unfold Ql;rw[if_pos b]
 congr 1
 have a:l.idxOf c<l.length:=List.idxOf_lt_length_iff.2 b;have d:l[l.idxOf c]?=some c:=by rw[G' a,List.getElem_idxOf a]
 rcases pK (l.idxOf c) j with h3|h3|h3
 .exact absurd d (e _ h3)
 .exact h3
 .have:=Qm h;omega
theorem NH{l:List Cmd}(h:RdC w x l)(Z:l.length<100000000)(c:Cmd) :
  Calls prog 110 #[x.v,.agg #[iv c.k,iv c.c,iv c.s,iv c.n,iv c.v]] w λe w'=>e=.returned (iv (Ql l c))/\Bw w w':=by
 have hn:=h.len;refine gI (fn:=f110) [] gh0 func110 (λ_ _=>⟨rfl,rfl⟩) (qR [] 13 [0,0] λo S w1 C=>Ca 19 [(0,S3.v x),(3,pt (o 0) 0),(7,iv (x.n:Int)),(8,iv 0)] [true] [⟨(o 0),.cells #[iv c.k,iv c.c,iv c.s,iv c.n,iv c.v] 51,.z,false⟩] (λk G w' e L=>∃ j:Nat,k=l.length-j/\j<=l.length/\e=[(0,S3.v x),(3,pt (o 0) 0),(7,iv (x.n:Int)),(8,iv (j:Int))]/\L=[⟨(o 0),.cells #[iv c.k,iv c.c,iv c.s,iv c.n,iv c.v] 51,.z,false⟩]/\(∀ i,i<j->l[i]?≠some c)/\Cg w.heap.size [] gh0 w G w') (by kernel_rfl) (by kernel_rfl) (by kernel_rfl) (by kernel_rfl) l.length (λK=>?_) ?_)
 .exact⟨0,rfl,by omega,rfl,rfl,λi d=>absurd d (by omega),C⟩
 .rintro k gr wr _ zr _ ⟨j,rfl,hj,rfl,rfl,hI,hC⟩ J hJ;refine qR [] 5 [] λs2 T w2 g=>?_;by_cases B:j<l.length
  .refine qI ((decide ((j:Int)<(x.n:Int)))) true (M' (by omega)) ?_;obtain⟨a,b⟩:∃ a,l[j]?=some a:=⟨_,G' B⟩;rcases h.ex with h2|⟨bx,ox,hxa,hbx,hcell⟩
   .exact absurd B (by rw[h2];simp)
   refine qR [] 13 [6,0,0,2,4] λs3 U w3 r=>qT 3 (pt bx (ox+5*j)) (λ_=>(Oa hxa j (by omega))) ?_;have M:=Cg.af (hC.trans (g.trans r)) (λ_ _=>Q');refine qV 4 (.agg #[iv a.k,iv a.c,iv a.s,iv a.n,iv a.v]) (Wl a λi u O=>(M.cell (p:=⟨bx,ox+5*j+i,none⟩) hbx).trans (by rw[nB];exact hcell _ u (OC b O))) (qT 5 (.bool (decide (c=a))) (λ_=>(lX (x:=(.tmp 11)) (y:=(.tmp 15)) c a)) (qR [] 1 [] λs6 V w6 A=>?_));by_cases m:c=a
   .refine qI (decide (c=a)) true (M' m) (qR [] 5 [] λs7 W w7 D=>qE (iv (j:Int)) λK=>⟨by rw[Yw (by rw[m];exact b) hI],Cg.af (hC.trans (((g.trans r).trans A).trans D)) (λ_ _=>Q')⟩)
   .refine qI (decide (c=a)) false (E' m) (qR [] 3 [] λs8 X w8 E=>qV 0 (iv ((j:Int)+1)) (AO 8 (j:Int) underlying3 (by omega)) (qR [] 2 [] λs9 Y w9 F=>qB [true] λz R K=>hJ (l.length-(j+1)) _ _ _ z _ (by omega) ⟨j+1,rfl,by omega,rfl,rfl,λi d=>?_,hC.trans ((((g.trans r).trans A).trans E).trans F)⟩ K));rcases nt i j with h4|h4
    .exact hI i h4
    .rw[show i=j by omega,b];intro I;exact m (by simpa using I.symm)
  .refine qI ((decide ((j:Int)<(x.n:Int)))) false (E' (by omega)) (qR [] 5 [] λP H Q q=>?_);have t:c∉l:=λN=>by obtain⟨i,d⟩:=nA.1 N;exact hI i (by have:=(V'.1 d).1;omega) d
   exact qE (iv (-1)) λK=>⟨by unfold Ql;rw[if_neg t],Cg.af (hC.trans (g.trans q)) (λ_ _=>Q')⟩
theorem F1{l:List Cmd}(h:RdC w x l)(o:l.length<100000000)(c:Cmd) :
  Calls prog 61 #[x.v,.agg #[iv c.k,iv c.c,iv c.s,iv c.n,iv c.v]] w λe w'=>e=.returned (.bool (decide (c∈l)))/\Bw w w':=by
 refine gI (fn:=f61) [] gh0 func61 (λ_ _=>⟨rfl,rfl⟩) (qR [] 9 [0,0,0] λr m t d=>?_);have a:=Cg.af d (λ_ _=>Q');refine qC 2 (NH (h.af a) o c) ?_;rintro p u ⟨rfl,b⟩;refine⟨_,rfl,b,?_⟩;have i:=Cg.eb (B:=w.heap.size) (T:=[]) (g:=m) b;refine qR [] 3 [] λs3 q y j=>qE (.bool (decide (0<=Ql l c))) λK=>⟨by rw[cZ],Cg.af ((d.trans i).trans j) (λ_ _=>Q')⟩
theorem Uq(h:NS i nb ob g w p ls ts)(l:p.done<=p.ab.length) :
  Calls prog 39 #[pt nb 0] w λe w'=>∃ y:S3,e=.returned y.v/\RdC w' y (p.ab.take p.done)/\Bw w w':=by
 obtain⟨x,lt,t,a,k,m⟩:=h;have q:=a.ab.num;have c:=a.ab.rd;refine gI (fn:=f39) (TN i) g func39 m (qN a (qO k (qR [] 16 [12,0,2,4,6,8,0,10,12,14,16,18,0] λr n u d=>qT 10 (S3.v (x.ab.cut 0 p.done)) (λ_=>(kQ x.ab p.done (by have:=c.cap;omega))) (qR [] 2 [22] λs o z j=>?_))));have b:=Cg.af (d.trans j) (λ_ _=>Q');exact qE (S3.v (x.ab.cut 0 p.done)) λK=>⟨_,rfl,(c.af b).take l,b⟩
theorem IN(h:NS i nb ob g w p ls ts)(r:ls.length<100000000)(to bu:Nat)(t:bu<=p.ab.length) :
  Calls prog 107 #[pt nb 0,iv (to:Int),iv (bu:Int)] w (NP i nb ob g w (.tuple #[]) p (ls++[{ BC 5 with src:=i,dst:=to,bu:=bu,gC:=p.ab.drop bu }]) ts):=by
 obtain⟨x,lt,H,a,l,s⟩:=h;have D:=a.ab.num;refine gI (fn:=f107) (TN i) g func107 s (qN a (qO l (qR [] 10 [0] λE A I e=>qV 9 (S3.v (x.ab.cut bu x.ab.n)) (iT x.ab bu (by omega)) (qR [] 1 [] λF q z j=>Af λK=>?_))));have d:=e.n j;have m:NS i nb ob q z p ls ts:=(nsC a l d K);refine qS0 11 [false,false] (FM m r { BC 5 with bu:=bu,gC:=p.ab.drop bu } s30 (x.ab.cut bu x.ab.n) ⟨Sv.nil _,λh=>absurd rfl h⟩ ((a.ab.rc.drop t).ch d) to) λB J M u y b c o=>qR [] 1 [] λG C L k=>qF b c k ((((e.nil (TN i)).n j).trans (o)).n k)
theorem NN(h:NS i nb ob g w p ls ts)(a:Nat)(b:List Cmd)(e:S3)(t:Rc g w e b)(hs:a<=p.ab.length)(Y:p.ab.length<100000000)(L:b.length<100000000) :
  Calls prog 98 #[pt nb 0,iv (a:Int),e.v] w (NP i nb ob g w (.tuple #[]) (p.ln a b) ls ts):=by
 obtain⟨x,lt,O,d,C,M⟩:=h;have N:=d.ab.num;have hm:=t.len;have D:=t.cap;refine gI (fn:=f98) (TN i) g func98 M (qN d (qO C (qR [] 9 [0] λs1 R w1 q=>qV 7 (iv ((x.ab.n-a:Nat):Int)) (kT (x:=(.tmp 12)) (y:=(.tmp 13)) x.ab.n a underlying3 (by omega) (by omega)) (qR [] 9 [] λs2 S w2 r=>?_))));by_cases X:x.ab.n-a<e.n
 .refine qI ((decide (((x.ab.n-a:Nat):Int)<(e.n:Int)))) true (M' (by omega)) ?_;obtain⟨k,Z⟩:∃ k,k=x.ab.n-a:=⟨_,rfl⟩;have E:k<b.length:=by omega
  obtain⟨G,ow,s⟩:=t.addr E;refine qR [] 9 [13,0,2,4,6,8,10,0,12,14] λs3 T w3 u=>qT 8 (.slice (some ⟨G,ow+5*(x.ab.n-a),none⟩) (e.n-(x.ab.n-a)) (e.c-(x.ab.n-a))) (λ_=>(kN s (x.ab.n-a) (by omega) D)) ?_;have F:=(q.n r).n u;refine Km 9 (x:=x.ab) 35 35 51 5 40 (.agg #[iv 0,iv 0,iv 0,iv 0,iv 0]) ⟨G,ow+5*(x.ab.n-a),none⟩ (e.n-(x.ab.n-a)) (e.c-(x.ab.n-a)) (cmL (b.drop (x.ab.n-a))) (d.ab.ch F) (by kernel_rfl) (by kernel_rfl) (by kernel_rfl) underlying35 (by kernel_rfl) (by kernel_rfl) (by decide) (by omega) (by rw[BH,mF];omega) (OD _) (λK=>kl s (t.ch F) _ (by omega)) (by unfold maxLen;omega) (by omega) ?_;intro P U w6 J n6 B Q;have H:=B w.heap.size [.n 3 i] (D'.2 rfl);refine qR [.n 0 i] 5 [20,22,24,27,0,1] λs7 V w7 A=>qE (.tuple #[]) λK=>?_;have j:=((((q.nil ([.n 3 i,.n 0 i]:List Tg)).n r).n u).m H).m A;have o:Tg.z∉([.n 3 i,.n 0 i]:List Tg):=by simp
  exact⟨_,rfl,⟨{ x with ab:=P },lt,O,K.nd 0 (d.tape.ch j o) (d.mv.ch j o) (BA d.an j o) (Cc d.bw j o (by simp)) (d.fv.ch j) (by rw[show(p.ln a b).ab=p.ab++b.drop (x.ab.n-a)from by unfold Nod.ln;rw[N],Cp];exact J.ch A) (d.bn.ch j) (d.cl.ch j) d.rW,C.ch j o (by simp<;>omega),K.new⟩,(((((q.nil (TN i)).n r).n u).trans (H.mono (by simp[TN]))).trans (A.mono (by simp[TN])))⟩
 .refine qI ((decide (((x.ab.n-a:Nat):Int)<(e.n:Int)))) false (E' (by omega)) (qR [] 1 [] λs9 W w9 I=>qE (.tuple #[]) λK=>?_);rw[show p.ln a b=p from by unfold Nod.ln;rw[nr (by omega),mT]];exact⟨_,rfl,(nsC d C ((q.n r).n I) K),(((q.nil (TN i)).n r).n I)⟩
theorem QV(h:NS i nb ob g w p ls ts)(q:ls.length<90000000){a b2 b3:Nat}(j:Box g w a #[pt nb 0] 91) :
  Calls prog 79 #[pt a 0] w (NP i nb ob g w (.tuple #[]) p (ls++BU i (BC 6) 5) ts):=by
 obtain⟨x,lt,D,k,l,s⟩:=h;refine gI (fn:=f79) (TN i) g func79 s (qN k (qO l (Cl ⟨a,.cells #[pt nb 0] 91,.z,false⟩ (λ_=>⟨j.r,j.z,λh=>(by cases h),λh=>absurd rfl h⟩) (by kernel_rfl) ?_)));refine qR [] 3 [2] λB v E d=>qS 2 [false,false,true] k l d (λm=>E3 m q (BC 6) s30 s30 ⟨Sv.nil _,λh=>absurd rfl h⟩ (Rc.nil _ _)) λy F H t u b c o=>qR [] 1 [] λC A G e=>qF b c e (((d.nil (TN i)).trans (o)).n e)
theorem Ph{to:Nat}{b:Bal}(h:NS i nb ob g w p ls ts)(F:ls.length<90000000){a c d:Nat}(m:Box g w a #[pt nb 0] 91)(o:Box g w c #[iv (to:Int)] 3)(q:Box g w d #[iv b.r,iv b.n] 96)  :
  Calls prog 134 #[pt a 0,pt c 0,pt d 0] w (NP i nb ob g w (.tuple #[]) p (ls++[{ BC 2 with hU:=b,src:=i,dst:=to }]) ts):=by
 obtain⟨x,lt,I,s,t,y⟩:=h;refine gI (fn:=f134) (TN i) g func134 y (qN s (qO t (Cl ⟨a,.cells #[pt nb 0] 91,.z,false⟩ (λ_=>⟨m.r,m.z,λh=>(by cases h),λh=>absurd rfl h⟩) (by kernel_rfl) ?_)));refine Cl ⟨c,.cells #[iv (to:Int)] 3,.z,false⟩ (λ_=>⟨o.r,o.z,λh=>(by cases h),λh=>absurd rfl h⟩) (by kernel_rfl) ?_;refine Cl ⟨d,.cells #[iv b.r,iv b.n] 96,.z,false⟩ (λ_=>⟨q.r,q.z,λh=>(by cases h),λh=>absurd rfl h⟩) (by kernel_rfl) ?_;refine qR [] 5 [2,3,4] λG C J k=>qS 4 [false,false,true,true,true] s t k (λu=>FM u (by omega) { BC 2 with hU:=b } s30 s30 ⟨Sv.nil _,λh=>absurd rfl h⟩ (Rc.nil _ _) to) λD K M A B e j v=>qR [] 1 [] λH E L l=>qF e j l (((k.nil (TN i)).trans (v)).n l)
theorem Ii(h:NS i nb ob g w p ls ts)(K:ls.length<90000000){c d b3 b:Nat}{l:Let}(o:Box g w c #[pt nb 0] 91)(q:Box g w d #[pt b 0] 159)(A:CM g w b l) :
  Calls prog 102 #[pt c 0,pt d 0] w (NP i nb ob g w (.tuple #[]) p (ls++[{ BC 4 with cn:=l.cn,src:=i,dst:=l.src }]) ts):=by
 obtain⟨x,lt,N,s,t,y⟩:=h;refine gI (fn:=f102) (TN i) g func102 y (qN s (qO t (Cl ⟨c,.cells #[pt nb 0] 91,.z,false⟩ (λ_=>⟨o.r,o.z,λh=>(by cases h),λh=>absurd rfl h⟩) (by kernel_rfl) ?_)));refine Cl ⟨d,.cells #[pt b 0] 159,.z,false⟩ (λ_=>⟨q.r,q.z,λh=>(by cases h),λh=>absurd rfl h⟩) (by kernel_rfl) ?_;obtain⟨F,G,a,B,C⟩:=A;refine Cl ⟨b,.cells (FA l F G) 158,.z,false⟩ (λ_=>⟨a.r,a.z,λh=>(by cases h),λh=>absurd rfl h⟩) (by kernel_rfl) ?_;refine qR [] 11 [10,0,2,2,3,4,6,8,4,10,3,12,14,16,4,18] λL H O k=>qS 10 [false,false,true,true,true] s t k (λu=>FM u (by omega) { BC 4 with cn:=l.cn } s30 s30 ⟨Sv.nil _,λh=>absurd rfl h⟩ (Rc.nil _ _) l.src) λI P R D E e j v=>qR [] 1 [] λM J Q m=>qF e j m (((k.nil (TN i)).trans (v)).n m)
theorem Mo(h:NS i nb ob g w p ls ts)(L:ls.length<90000000){c d b3 b:Nat}{l:Let}(q:Box g w c #[pt nb 0] 91)(s:Box g w d #[pt b 0] 159)(A:CM g w b l) :
  Calls prog 104 #[pt c 0,pt d 0] w (NP i nb ob g w (.tuple #[]) p (ls++[{ BC 6 with bu:=p.ab.length,src:=i,dst:=l.src }]) ts):=by
 obtain⟨x,lt,O,e,t,y⟩:=h;refine gI (fn:=f104) (TN i) g func104 y (qN e (qO t (Cl ⟨c,.cells #[pt nb 0] 91,.z,false⟩ (λ_=>⟨q.r,q.z,λh=>(by cases h),λh=>absurd rfl h⟩) (by kernel_rfl) ?_)));refine Cl ⟨d,.cells #[pt b 0] 159,.z,false⟩ (λ_=>⟨s.r,s.z,λh=>(by cases h),λh=>absurd rfl h⟩) (by kernel_rfl) ?_;obtain⟨G,H,a,B,C⟩:=A;refine Cl ⟨b,.cells (FA l G H) 158,.z,false⟩ (λ_=>⟨a.r,a.z,λh=>(by cases h),λh=>absurd rfl h⟩) (by kernel_rfl) ?_;have D:=e.ab.num;refine qR [] 13 [12,0,2,2,3,4,6,8,4,10,2,12,14,16,18,0,20,22] λM I P m=>qS 12 [false,false,true,true,true] e t m (λu=>(show{ BC 6 with bu:=x.ab.n,src:=i,dst:=l.src }=({ BC 6 with bu:=p.ab.length,src:=i,dst:=l.src }:Let)from by rw[D])▸FM u (by omega) { BC 6 with bu:=x.ab.n } s30 s30 ⟨Sv.nil _,λh=>absurd rfl h⟩ (Rc.nil _ _) l.src) λJ Q S E F j k v=>qR [] 1 [] λN K R o=>qF j k o (((m.nil (TN i)).trans (v)).n o)
theorem J0(h:NS i nb ob g w p ls ts)(L:ls.length<90000000){c d b3 b:Nat}{l:Let}(o:Box g w c #[pt nb 0] 91)(q:Box g w d #[pt b 0] 159)(A:CM g w b l)(D:l.bu<=p.ab.length) :
  Calls prog 106 #[pt c 0,pt d 0] w (NP i nb ob g w (.tuple #[]) p (ls++[{ BC 5 with src:=i,dst:=l.src,bu:=l.bu,gC:=p.ab.drop l.bu }]) ts):=by
 obtain⟨x,lt,O,s,t,y⟩:=h;refine gI (fn:=f106) (TN i) g func106 y (qN s (qO t (Cl ⟨c,.cells #[pt nb 0] 91,.z,false⟩ (λ_=>⟨o.r,o.z,λh=>(by cases h),λh=>absurd rfl h⟩) (by kernel_rfl) ?_)));refine Cl ⟨d,.cells #[pt b 0] 159,.z,false⟩ (λ_=>⟨q.r,q.z,λh=>(by cases h),λh=>absurd rfl h⟩) (by kernel_rfl) ?_;obtain⟨G,H,a,B,C⟩:=A;refine Cl ⟨b,.cells (FA l G H) 158,.z,false⟩ (λ_=>⟨a.r,a.z,λh=>(by cases h),λh=>absurd rfl h⟩) (by kernel_rfl) ?_;refine qR [] 10 [9,0,2,2,3,4,6,8,4,10,3,12,14,16,4] λM I P k=>qS 9 [false,false,true,true,true] s t k (λu=>IN u (by omega) l.src l.bu D) λJ Q S E F e j v=>qR [] 1 [] λN K R m=>qF e j m (((k.nil (TN i)).trans (v)).n m)
theorem Hg{d:S3}{a:List Vt}(h:NS i nb ob g w p ls ts)(T:ls.length<90000000){j k m c:Nat}{l:Let}(y:Box g w j #[pt nb 0] 91)(A:Box g w k #[pt c 0] 159)(B:Box g w m #[S3.v d] 97)(H:CM g w c l)(L:FSv g w d a) :
  Calls prog 96 #[pt j 0,pt k 0,pt m 0] w (NP i nb ob g w (.tuple #[]) p (ls++[{ BC 1 with hU:=l.hU,mv:=a,gC:=p.ab,src:=i,dst:=l.src }]) ts):=by
 obtain⟨x,lt,W,o,C,G⟩:=h;refine gI (fn:=f96) (TN i) g func96 G (qN o (qO C (Cl ⟨j,.cells #[pt nb 0] 91,.z,false⟩ (λ_=>⟨y.r,y.z,λh=>(by cases h),λh=>absurd rfl h⟩) (by kernel_rfl) ?_)));refine Cl ⟨k,.cells #[pt c 0] 159,.z,false⟩ (λ_=>⟨A.r,A.z,λh=>(by cases h),λh=>absurd rfl h⟩) (by kernel_rfl) ?_;refine Cl ⟨m,.cells #[S3.v d] 97,.z,false⟩ (λ_=>⟨B.r,B.z,λh=>(by cases h),λh=>absurd rfl h⟩) (by kernel_rfl) ?_;obtain⟨O,Q,b,I,J⟩:=H;refine Cl ⟨c,.cells (FA l O Q) 158,.z,false⟩ (λ_=>⟨b.r,b.z,λh=>(by cases h),λh=>absurd rfl h⟩) (by kernel_rfl) ?_;refine qR [] 17 [16,0,2,2,3,4,6,8,5,10,3,12,14,16,5,18,4,20,2,22,24,26,28,0,30] λU F P t=>Af λK=>?_;have e:=t;have D:NS i nb ob F P p ls ts:=(nsC o C e K);refine qS0 16 [false,false,true,true,true,true] (FM D (by omega) { BC 1 with hU:=l.hU,mv:=a,gC:=p.ab } d x.ab (L.ch e) (o.ab.rc.ch e) l.src) λR X Z M N q s E=>qR [] 1 [] λV S Y u=>qF q s u (((t.nil (TN i)).trans (E)).n u)
theorem Ly{a:Acc}{l:List Vt}:Dc a (v::l)=Dc (if AY a v=0 then⟨BG a v,Br a v⟩else a) l:=rfl
theorem Ud{l:List Vt}(h:l[j]?=some v):l.drop j=v::l.drop (j+1):=by
 obtain⟨a,b⟩:=V'.1 h;rw[<- b];exact nv a
theorem Qk(h:NS i nb ob g w p ls ts){w0:World}(hB:Base w0 g w)(hT:Tabs w0)(j:Nat)(hj:j<5)(vs:List Vt)(y:S3)(hy:FSv g w y vs)(hb:(p.av.an j).vs.length<100000000) :
  Calls prog 67 #[pt nb 11,iv (j:Int),y.v] w (NP i nb ob g w (.tuple #[]) { p with av:=p.av.rC j vs } ls ts):=by
 obtain⟨x,lt,G,m,hO,hg⟩:=h;refine gI (fn:=f67) (TN i) g func67 hg (qN m (qO hO (qR [] 18 [0,1,0,2,0] λD g1 w1 c1=>DS 50 (λF H e L=>e=[(0,pt nb 11),(1,iv (j:Int)),(6,pt (D 0) 0),(23,S3.v (x.hv j)),(24,iv ((x.hv j).n:Int)),(25,iv 0)]/\L=[⟨nb,.cells (AG i ob p x) 111,.n 0 i,false⟩,⟨ob,.cells #[S3.v lt,S3.v G] 88,.n 50 0,false⟩,⟨(D 0),.cells #[iv p.av.hU.r,iv p.av.hU.n,S3.v y] 99,.l,false⟩]/\True/\Cg w.heap.size ([]:List Tg) g1 w1 F H) (by kernel_rfl) ?_ ?_)))
 .intro J hJ;rcases ri hj with rfl|rfl|rfl|rfl|rfl <;>
  (refine qR [] 6 [0] λs3 g3 w3 c3=>?_;exact qB [true,true,true] λz K0 K=>hJ _ _ _ z _ ⟨rfl,rfl,trivial,(c3.nil ([]:List Tg))⟩ K)
 rintro g2 w2 _ z2 _ ⟨rfl,rfl,_,c2⟩;have hH:=m.an j hj;have hn:(x.hv j).n=(p.av.an j).vs.length:=by obtain⟨a,b6,hh⟩:=hH.s.shape;simp only[Value.slice.injEq]at hh;exact hh.2.1
 obtain⟨l,hl⟩:∃ l,l=(p.av.an j).vs:=⟨_,rfl⟩;rw[<- hl]at hH hn hb
 refine qR [] 1 [] λs4 g4 w4 c4=>Ca 50 [(0,pt nb 11),(1,iv (j:Int)),(6,pt (D 0) 0),(23,S3.v (x.hv j)),(24,iv ((x.hv j).n:Int)),(25,iv 0)] [true,true,true] [⟨nb,.cells (AG i ob p x) 111,.n 0 i,false⟩,⟨ob,.cells #[S3.v lt,S3.v G] 88,.n 50 0,false⟩,⟨(D 0),.cells #[iv p.av.hU.r,iv p.av.hU.n,S3.v y] 99,.l,false⟩] (λk F H e L=>∃ (k0:Nat) (a:Acc) (ya:S3),k=l.length-k0/\k0<=l.length/\e=[(0,pt nb 11),(1,iv (j:Int)),(6,pt (D 0) 0),(23,S3.v (x.hv j)),(24,iv ((x.hv j).n:Int)),(25,iv (k0:Int))]/\L=[⟨nb,.cells (AG i ob p x) 111,.n 0 i,false⟩,⟨ob,.cells #[S3.v lt,S3.v G] 88,.n 50 0,false⟩,⟨(D 0),.cells #[iv a.p.r,iv a.p.n,S3.v ya] 99,.l,false⟩]/\Dc a (l.drop k0)=Dc ⟨p.av.hU,vs⟩ l/\FSv F H ya a.vs/\Cg w.heap.size [] g w F H) (by kernel_rfl) (by kernel_rfl) (by kernel_rfl) (by kernel_rfl) l.length (λK=>?_) ?_
 .exact⟨0,⟨p.av.hU,vs⟩,y,rfl,by omega,rfl,rfl,rfl,(((hy.ch c1).ch c2).ch c4),((c1.trans c2).trans c4)⟩
 .rintro k gr wr _ zr _ ⟨k0,a,ya,rfl,hk0,rfl,rfl,hI,hya,hC⟩ J hJ;refine qR [] 5 [] λs5 g5 w5 A=>?_;by_cases h1:k0<l.length
  .refine qI ((decide ((k0:Int)<((x.hv j).n:Int)))) true (M' (by omega)) ?_;obtain⟨v,hv⟩:∃ v,l[k0]?=some v:=⟨_,G' h1⟩;have W:=hH.ch hC;obtain⟨bx,ox,X,d2,a8⟩:=W.s.spot k0 v hv;refine qR [] 5 [] λs6 g6 w6 E=>qV 0 (pt bx (ox+8*k0)) (U8 X k0 (by omega)) ?_;have a9:=((W.ch A).ch E).s.spot k0 v hv;obtain⟨b5,d4,o,b3,u⟩:=a9;rw[X]at o
   simp only[Y',Addr.mk.injEq,and_true]at o;obtain⟨rfl,rfl⟩:=o;refine qV 1 (.agg #[iv v.bu,iv v.b.r,iv v.b.n,iv v.w.k,iv v.w.c,iv v.w.s,iv v.w.n,iv v.w.v]) (dY v u) (qR [] 7 [0,0,3,0,2,3] λs8 g8 w8 V=>Af λa0=>?_);have a7:=((((hya.ch A).ch E).ch V)).s;have a5:=hB.ch (hC.trans ((A.trans E).trans V)) (by simp);have a6:∀ z,w8.heap.size<=z->g8.t z=.z:=λz hz=>(a0.new z hz).1;refine qC 2 (Co a.p _ a.vs v w8 a7 (a5.tn hT)) ?_;rintro e' e4 ⟨f3,rfl,Y,b4,M⟩;refine⟨_,rfl,M,?_⟩;have C:=Cg.eb (B:=w.heap.size) (T:=[]) (g:=g8) M;obtain⟨ys,rfl,d3,b0⟩:=Ed Y a6 (by omega);refine qR [] 12 [0,0,4,0] λd5 b7 e5 q=>?_;by_cases h2:AY a v=0
   .refine qI (((AY a v)==0)) true (by simpa using h2) (qR [] 6 [4,2,0] λd6 b8 e6 N=>qV 0 (iv ((k0:Int)+1)) (AO 25 (k0:Int) underlying3 (by omega)) (qR [] 2 [] λd7 b9 e7 O=>qB [true,true,true,false,false] λz K0 K=>hJ (l.length-(k0+1)) _ _ _ z _ (by omega) ⟨k0+1,⟨BG a v,Br a v⟩,ys,rfl,by omega,rfl,rfl,?_,(((b0.ch q).ch N).ch O),hC.trans ((((((A.trans E).trans V).trans C).trans q).trans N).trans O)⟩ K));rw[<- hI,Ud hv,Ly,if_pos h2]
   .refine qI (((AY a v)==0)) false (by simpa using h2) (qR [] 3 [] λd8 c0 e8 P=>qV 0 (iv ((k0:Int)+1)) (AO 25 (k0:Int) underlying3 (by omega)) (qR [] 2 [] λd9 c7 e9 Q=>qB [true,true,true,false,false] λz K0 K=>hJ (l.length-(k0+1)) _ _ _ z _ (by omega) ⟨k0+1,a,ya,rfl,by omega,rfl,rfl,?_,(((((((hya.ch A).ch E).ch V).ch C).ch q).ch P).ch Q),hC.trans ((((((A.trans E).trans V).trans C).trans q).trans P).trans Q)⟩ K));rw[<- hI,Ud hv,Ly,if_neg h2]
  .refine qI ((decide ((k0:Int)<((x.hv j).n:Int)))) false (E' (by omega)) ?_;obtain rfl:k0=l.length:=by omega
   rw[og]at hI
   refine qR [] 8 [8,0,2,4,6,10,12] λe0 a3 b1 R=>DS 50 (λF H e L=>e=[(0,pt nb 11)]/\L=[⟨nb,.cells (AG i ob ({ p with av:={ p.av with qZ:=upN p.av.qZ j true,an:=upN p.av.an j a } }) ({ x with hv:=upN x.hv j ya })) 111,.n 0 i,false⟩,⟨ob,.cells #[S3.v lt,S3.v G] 88,.n 50 0,false⟩,⟨(D 0),.cells #[iv a.p.r,iv a.p.n,S3.v ya] 99,.l,false⟩]/\True/\Cg w.heap.size ([.n 0 i]:List Tg) a3 b1 F H) (by kernel_rfl) ?_ ?_
   .intro J hJ;rcases ri hj with rfl|rfl|rfl|rfl|rfl <;>
    (refine qR [] 3 [14,18,20] λe1 c9 f0 U=>?_;exact DM 4 8 (by kernel_rfl) (by(refine qR [.n 0 i] 5 [2,17,0,1,22,25,0,1] λe2 d0 f1 a1=>?_;exact qB [true,true,true] λz K0 K=>hJ _ _ _ z _ ⟨rfl,rfl,trivial,((U.nil ([.n 0 i]:List Tg)).trans a1)⟩ K)) (by(refine qR [.n 0 i] 5 [0,1,9,2,22,25,0,1] λe3 d1 f2 a2=>?_;exact qB [true,true,true] λz K0 K=>hJ _ _ _ z _ ⟨rfl,rfl,trivial,((U.nil ([.n 0 i]:List Tg)).trans a2)⟩ K)))
   rintro a4 b2 _ f4 _ ⟨rfl,rfl,_,S⟩;refine qE (.tuple #[]) λK=>?_;obtain⟨q1,q2,q3⟩:=K.rN 0 nb (.cells (AG i ob { p with av:={ p.av with qZ:=upN p.av.qZ j true,an:=upN p.av.an j a } } { x with hv:=upN x.hv j ya }) 111) 0 i (by kernel_rfl);obtain⟨q4,q5,q6⟩:=K.rN 1 ob (.cells #[S3.v lt,S3.v G] 88) 50 0 (by kernel_rfl);have hE:p.av.rC j vs={ p.av with qZ:=upN p.av.qZ j true,an:=upN p.av.an j a }:=by unfold Rnd.rC;rw[<- hl,<- hI];rfl
   rw[hE];have d:Cg w.heap.size [.n 0 i] g w a4 b2:=((((hC.nil [.n 0 i]).n A).n R).trans S);have I:Tg.z∉[Tg.n 0 i]:=by simp
   have Z:=(((hya.ch A).ch R).ch S);refine⟨_,rfl,⟨{ x with hv:=upN x.hv j ya },lt,G,⟨q1,q2,q3,m.tape.ch d I,m.mv.ch d I,?_,Cc m.bw d I (by simp),m.fv.ch d,m.ab.ch d,m.bn.ch d,m.cl.ch d,m.rW⟩,⟨q4,q5,q6,Ec hO.br d I (by simp),hO.ed.ch d⟩,K.new⟩,d.mono (by simp[TN])⟩;intro k hk;show FSv _ _ (upN x.hv j ya k) (upN p.av.an j a k).vs;unfold upN;split
   .exact Z
   .exact(m.an k hk).ch d I
end
end
end Go.Proofs.YtcjcngceghfoeaaGreatDoor
