/- Part 12 of the walk. -/
import Derived.Test.YtdjfdfpkkenjbacGreatDoorZ11
import Derived.Test.YtdjfdfpkkenjbacGreatDoorZ10
set_option maxRecDepth 100000
set_option maxHeartbeats 4000000
open Go.Proofs.Tryz
set_option linter.unusedVariables false
namespace Go.Proofs.YtdjfdfpkkenjbacGreatDoor
open Go.RowKit
section
variable{P:Program}{fn:Func}{R:Ending->World->Prop}{w0:World}{Φ:List Fa}{g:Gh}{w:World}
theorem iB{P:Program}{W:World}(t j e:TypeId)(i:TypeInfo)(g:P.underlying t=some (.slice e))(f:P.info? e=some i)(x y:S3)(d:x.n<=x.c)(h:y.n=0):(Builtin.append_ #[t,t] j #[x.v,y.v]).run P W=.ok x.v W:=by
 obtain⟨b,l,k⟩:=x;obtain⟨m,q,o⟩:=y;simp only at h d;subst h;show(Builtin.append_ #[t,t] j #[.slice b l k,.slice m 0 o]).run P W=.ok (.slice b l k) W;cases m with
 | none=>cases b<;>simp[Builtin.append_,run_underlying g,sizeOf,typeInfo,f,Builtin.lenOf,run_firstCells_none,d,storeCells]
 | some a =>
  have p:=run_firstCells_some (P:=P) W i.size 0 a 0 o [] (by simp) (by simp);cases b<;>simp[Builtin.append_,run_underlying g,sizeOf,typeInfo,f,Builtin.lenOf,run_firstCells_none,p,d,storeCells]
theorem kO{s:Xs}(i:Nat)(r:Nat){x:S3}{xs:List Value}(y:S3)(news:List Value)(t O e:TypeId)(q a:Nat)(z:Value)(M:AllF g w Φ->OwnS g w (.n 60 r) true e q x xs)(S:AllF g w Φ->RdV w y q news)(Ψ:List Fa)(E:AllF g w Φ->AllF g w Ψ)(J:Ψ.all (λf=>f.ro != some r)=true)(I:Tg.n 60 r∈TQ)
  (T:∀ u∈news,u.oneCell'=true)(B:x.n+y.n<=maxLen)(k:(x.n+y.n)*a<=140737488355328)
  (H:∀ x' g' w',x'.n=x.n+y.n->GT P fn R w0 (Fa.ow r e q x' (xs++news)::Ψ) (nxt s i (S3.v x') s.L).s g' w')(K:0<q:=by decide)
  (Q:P.underlying t=some (.slice e):=by kernel_rfl)(d:(P.info? e).map (λi=>(i.zero,i.size,i.bytes))=some (some z,q,a):=by kernel_rfl)(N:Nat.beq z.cells.size q=true:=by kernel_rfl)
  (p:D5 s i=some (Builtin.append_ #[t,t] O #[x.v,y.v]>>=λv=>pure (.value v)):=by kernel_rfl)(D:(nxt s i undef s.L).o.map Ob.l'=(nxt s i undef s.L).o.map Ob.r':=by kernel_rfl)(U:s.L.all (λy=>[Tg.n 60 r].all λt=>y.t.ne t)=true:=by kernel_rfl):GT P fn R w0 Φ s g w:=by
 refine tF λF C=>?_;have G:=S F;have V:x.n<=x.c:=by rcases(M F).ex with⟨_,h,h'⟩|⟨_,_,_,_,h,_⟩<;>omega
 by_cases A:y.n=0
 .obtain⟨inf,hi⟩:∃ inf,P.info? e=some inf:=by cases hh:P.info? e with|none=>rw[hh]at d;cases d|some j=>exact⟨j,rfl⟩
  obtain rfl:news=[]:=Y' (by rw[G.len,A,pU]);refine tV i x.v (λ_ _=>iB t O e inf Q hi x y V A) ?_ p D;exact tCv (Fa.ow r e q x (xs++[])::Ψ) (λF=>⟨by rw[mI];exact M F,E F⟩) (H x g w (by omega))
 .obtain⟨b,off,ha,_,_⟩:=G.spot (i:=0) (by omega);obtain⟨X,m,c⟩:=y;simp only at ha A B k H p G;subst ha;refine Rv i r (x:=x) (xs:=xs) t O e q a z ⟨b,off,none⟩ m c news M Ψ E J I G.len T (λF _ j u W=>?_) B k H (Nat.pos_of_ne_zero A) K Q d N p D U;rcases(S F).ex with h2|⟨b2,off2,k1,k2,k3⟩
  .exact absurd h2 A
  .cases k1;have:(⟨b,off,none⟩:Addr).add j=⟨b,off+j,none⟩:=by unfold Addr.add;split<;>simp_all
   rw[this];exact k3 j u W
end
section
variable{A D K N P R key l:List Int}{B cap i n nb ob:Nat}{L:List Vt}{W w:World}{a:Option Addr}{b:Vt}{c e0 now s:Int}{g:Gh}{k u x y z:S3}{ls:List Let}{p:Nod}{ts:List Tol}{v:Value}
theorem dI{e:Nat}(h:w.ownsRow B e 1 v l.length (l.map (Value.int .u8))):∃ y:S3,v=y.v/\OwN B w e 1 y (l.map (Value.int .u8)):=by
 rcases h.2 with⟨rfl,h0⟩|⟨g,cap,cur,rfl,h1,h2,h3⟩
 .exact⟨s30,rfl,by rw[mF,h0];rfl,.inl ⟨rfl,rfl,rfl⟩⟩
 .exact⟨⟨some ⟨g,0,none⟩,l.length,cap⟩,rfl,by simp,.inr ⟨g,cur,h1,rfl,h2,h3⟩⟩
theorem RdV.sl(h:RdV w y 1 (l.map (Value.int .u8)))(g:l.length<=140737488351232)(e:∀ x∈l,0<=x/\x<256):Sl w y.v l:=by
 have d:y.n=l.length:=by have:=h.len;simp at this;omega
 refine⟨⟨y.a,y.c,by rw[<- d],by rw[<- d];exact h.cap,h.rQ,?_⟩,g,e⟩;rcases h.ex with h0|⟨b,off,h1,h2,h3⟩
 .exact .inl (Y' (by omega))
 .exact .inr ⟨b,off,h1,h2,λi f=>h3 i _ (by simp[f])⟩
theorem Sl.rdv(h:Sl w y.v l):RdV w y 1 (l.map (Value.int .u8)):=by
 have g:=FT h;obtain⟨⟨a,k,i,r,o,n⟩,s,q⟩:=h;simp only[S3.v,Value.slice.injEq]at i;obtain⟨d,p,m⟩:=i;refine⟨by simp[g],by omega,λe=>by rw[m];exact o (d▸e),?_⟩;rcases n with rfl|⟨b,off,h1,h2,h3⟩
 .exact .inl g
 .refine .inr ⟨b,off,d.trans h1,h2,λj u f=>?_⟩;have c:j<l.length:=by simpa using(V'.1 f).1
  rw[h3 j c,<- f];simp[c]
theorem OwN.sB(h:OwN B w 5 1 y (l.map (Value.int .u8)))(e:l.length<=140737488351232)(d:∀ x∈l,0<=x/\x<256):Sl w y.v l/\Nb B y l :=
 ⟨h.rv.sl e d,λ_ a c=>by
  rcases h.ex with⟨h1,_⟩|⟨b,_,h0,h1,_⟩
  .rw[h1]at c;cases c
  .rw[h1]at c;cases c;exact h0⟩
theorem fQ(h:Sl w v l)(n:NwV B v):∃ z:S3,v=z.v/\Sl w z.v l/\Nb B z l:=by
 obtain⟨z,rfl,d⟩:=ZX h;exact⟨z,rfl,d,λ_ a b=>n a z.n z.c (by unfold S3.v;rw[b])⟩
theorem Lk(h:Sl w x.v l):Calls prog 26 #[x.v] w λe w'=>∃ z:S3,e=.returned z.v/\Sl w' z.v l/\Nb w.heap.size z l/\Bw w w' :=
 (Vs _ l w h).mono λe w' ⟨v,a,b,c⟩=>let ⟨z,h4,h5,h6⟩:=J6 b h.len h.byte;⟨z,by rw[a,h4],h5,h6,c⟩
theorem cT{n:Int}(h:0<=n/\n<1073741824):Calls prog 40 #[iv n] w λe w'=>∃ y:S3,e=.returned y.v/\OwN w.heap.size w' 5 1 y ((Ad n).map (Value.int .u8))/\Bw w w' :=
 (S7 n w h.1 h.2).mono λe w' ⟨v,a,b,c⟩=>let ⟨z,h4,h5⟩:=dI b;⟨z,by rw[a,h4],h5,c⟩
theorem er(h:Sl w x.v K)(i:Sl w u.v N)(f:Sl w y.v A)(j:Sl w z.v P)(g:FE K N A=true)(l:P.length<=2000)(k:Dq w):Calls prog 41 #[x.v,u.v,y.v,z.v] w λe w'=>∃ v:S3,e=.returned (.tuple #[v.v,iv 0])/\Sl w' v.v (D7 K N A P)/\Nb w.heap.size v (D7 K N A P)/\Bw w w' :=
 (ZQ _ _ _ _ K N A P w h i f j g l k).mono λe w' ⟨v,a,b,c,d⟩=>let ⟨q,h5,h6,h7⟩:=fQ b c;⟨q,by rw[a,h5],h6,h7,d⟩
theorem Zm(i:Sl w x.v K)(j:Sl w u.v N)(g:Sl w y.v A)(h:Sl w z.v D)(k:Dq w){E:Int}(f:Eg K N A D=E):Calls prog 204 #[x.v,u.v,y.v,z.v] w λe w'=>∃ v:S3,e=.returned (.tuple #[v.v,iv E])/\Sl w' v.v (LS K N A D)/\Nb w.heap.size v (LS K N A D)/\Bw w w' :=
 (Wj _ _ _ _ K N A D w i j g h k).mono λe w' ⟨v,a,b,c,d⟩=>let ⟨q,h5,h6,h7⟩:=fQ b c;⟨q,by rw[a,h5,f],h6,h7,d⟩
theorem QK(h:Sl w x.v l)(d:l.length=4):Calls prog 42 #[x.v] w λe w'=>∃ z:S3,e=.returned z.v/\Sl w' z.v (Ce l)/\Bw w w' :=
 (QJ _ l w h d).mono λe w' ⟨v,a,b,c⟩=>let ⟨q,h4,h5⟩:=ZX b;⟨q,by rw[a,h4],h5,c⟩
theorem Wd(h:Sl w x.v l)(d:l.length=4){N:Int}(c:IF l=N):Calls prog 202 #[x.v] w λe w'=>e=.returned (iv N)/\Bw w w' :=
 (Pi _ l w h d).mono λe w' ⟨a,b⟩=>by subst b c;exact⟨a,Below.refl _ _⟩
theorem Sl.sh(h:Sl w (.slice a n cap) l)(b:Nat)(d:b<=l.length) :
  ∃ a' c',(∀ W,(Instr.slice 27 (.slice a n cap) (some (.int .i64 (b:Int))) none none).run prog W=.ok (.slice a' (n-b) c') W)/\∀ w2,Sl w2 (.slice a n cap) l->Sl w2 (.slice a' (n-b) c') (l.drop b):=by
 have j:=λw2 (c:Sl w2 (.slice a n cap) l)=>c.rh b l.length d (A' _);obtain⟨⟨a',f,e,m,o,k⟩,i,g⟩:=h;simp only[Value.slice.injEq]at e;obtain⟨rfl,rfl,rfl⟩:=e;refine⟨_,_,λW=>?_,λw2 c=>by simpa[sliced]using j w2 c⟩;rw[run_slice_l (P:=prog) W 27 a _ cap underlying27 .i64 _ (by omega) (by omega)];have e:prog.elem 27=5:=by kernel_rfl
 rw[e,GC];simp[Result.andThen,sliced]
theorem gy(h:Sl w x.v l)(g:4<=l.length):∃ y z:S3,(∀ w2,Sl w2 x.v l->Sl w2 y.v (l.take 4)/\Sl w2 z.v (l.drop 4))/\Calls prog 201 #[x.v] w λe w'=>e=.returned (.tuple #[y.v,z.v])/\Bw w w':=by
 have t:=FT h;have s:x.n<=x.c:=h.rdv.cap;obtain⟨b,d,j,o⟩:=h.sh 4 g;have i:=XN x.a x.n x.c (by omega);have m:∀ W,(Instr.sliceAt 27 x.v none (some (iv 4)) (some (iv 4))).run prog W=.ok (.slice (x.a.map (·.add 0)) 4 4) W:=λW=>by rw[run_sliceAt_slice _ _ _ _ _ _ aY];exact i W
 have k:∀ W,(Instr.sliceAt 27 x.v (some (iv 4)) none none).run prog W=.ok (.slice b (x.n-4) d) W:=λW=>by rw[run_sliceAt_slice _ _ _ _ _ _ aY];exact j W
 refine⟨⟨x.a.map (·.add 0),4,4⟩,⟨b,x.n-4,d⟩,λw2 f=>⟨f.first 4 g (by omega),o w2 f⟩,?_⟩;refine tIn [] func201 trivial (tR 8 [6,0] λp _ _=>tT 1 (.slice (x.a.map (·.add 0)) 4 4) (λ_=>(m _)) (tR 1 [4] λq _ _=>tT 3 (.slice b (x.n-4) d) (λ_=>(k _)) (tR 3 [8,10] λr _ _=>tE (.tuple #[.slice (x.a.map (·.add 0)) 4 4,.slice b (x.n-4) d]) λ_ B=>⟨rfl,B⟩)))
theorem io(c:Sl w x.v key)(k:key.length=32) :
  Calls prog 180 #[x.v] w λe w'=>∃ y:S3,e=.returned (.tuple #[.agg #[S3.v y,iv 0,iv 0,.bool false,.bool false,.bool false,.bool false,.bool false,.bool false,.bool false,.bool false],iv 0])/\Sl w' y.v key/\Nb w.heap.size y key/\Bw w w':=by
 have m:x.n=32:=(FT c).trans k;refine tIn [] func180 trivial (tR 12 [1,0] λb _ _=>tI (((x.n:Int) != 32)) false (by rw[m];rfl) (tR 4 [] λp _ _=>tF λ_ f=>?_));have l:=f.size;refine tC 1 (λF C=>Lk (c.af (CgQ.af C))) λg=>?_;rintro _ _ ⟨y,rfl,o,d,i⟩;refine⟨_,Fa.sl y key::_,rfl,i,λF=>⟨DE o d g,F⟩,?_⟩;refine tR 4 [0,0] λq _ _=>tX λF C=>qE2 2 3 57 0 (b 0) #[S3.v y,iv 0,iv 0,.bool false,.bool false,.bool false,.bool false,.bool false,.bool false,.bool false,.bool false] (iv 0) λ_=>⟨y,rfl,F.1.s,λh a j=>mg l (d h a j),CgQ.af C⟩
theorem ez{p:S3}{n:Int}(j:Sl w k.v K)(i:K.length=32)(d:Sl w p.v P)(G:P.length<=2000)(h:0<=n/\n<1073741824)(m:Dq w) :
  Calls prog 25 #[.agg #[S3.v k,iv n,iv 0,.bool false,.bool false,.bool false,.bool false,.bool false,.bool false,.bool false,.bool false],p.v] w λe w'=>∃ z:S3,e=.returned (.tuple #[z.v,iv 0])/\Sl w' z.v (Gd K n P)/\Nb w.heap.size z (Gd K n P)/\Bw w w':=by
 have c:k.n=32:=(FT j).trans i;have I:=FT d;have f:=d.byte;refine tIn [Fa.sl k K,Fa.sl p P] func25 ⟨⟨j,λ_ _ _=>rfl⟩,⟨d,λ_ _ _=>rfl⟩,trivial⟩ (tR 10 [0,0,0] λO _ _=>tC1 1 (λF C=>Oc (n:=n) c ⟨by omega,by omega⟩) λ_=>tR 16 [] λQ _ _=>tI ((decide (2000<(p.n:Int)))) false (G' (by omega)) (tR 8 [0] λR _ _=>tI ((n==1073741824)) false (by simp;omega) (tR 5 [0] λS _ _=>tG 2 [true] 0 (λF C=>cT h) λb=>?_)));rintro _ _ ⟨y,rfl,a,b0⟩;refine⟨_,[Fa.ow 0 5 1 y ((Ad n).map (Value.int .u8)),Fa.sl k K,Fa.sl p P],_,_,_,_,rfl,b0,a,λ_=>⟨λF a _=>⟨a,F⟩,?_⟩⟩;refine tR 9 [12,0,2,0,4,8,10] λT _ _=>tC 3 (λF C=>QK (F.1.rv.sl (by rw[BF];omega) (AT n)) rfl) λb=>?_;rintro _ _ ⟨u,rfl,L,A⟩;refine⟨_,_,rfl,A,id,?_⟩;refine tC 6 (λF C=>er F.2.1.s L (F.1.rv.sl (by rw[BF];omega) (AT n)) F.2.2.1.s (Uq i (Fc rfl) (by rw[BF];omega)) G (m.af m.pos (CgQ.af C))) λb=>?_;rintro _ _ ⟨z,rfl,o,g,B⟩;refine⟨_,Fa.sl z (D7 K (Ce (Ad n)) (Ad n) P)::_,rfl,B,λF=>⟨DE o g b,F⟩,?_⟩;have N:=FT o;have H:(D7 K (Ce (Ad n)) (Ad n) P).length=P.length+16:=by have:=Dn K n P;unfold Gd at this;rw[E',BF]at this;omega
 refine tF λF _=>?_;have M:y.n=4:=by have:=F.2.1.len;simp[BF]at this;omega
 refine tR 18 [14,16,18,20,22] λr _ _=>kO 2 0 (x:=y) z ((D7 K (Ce (Ad n)) (Ad n) P).map (Value.int .u8)) 27 27 5 1 1 (.int .u8 0) (λF=>F.2.1) (λF=>F.1.s.rdv) [] (λ_=>trivial) rfl (by simp[TQ]) (by intro q J;obtain⟨_,_,rfl⟩:=mB.1 J;rfl) (by unfold maxLen;omega) (by omega) λq _ _ _=>tR 3 [] λt _ _=>tX λF C=>qE (.tuple #[S3.v q,iv 0]) λ_=>?_;have a:=F.1.own C;rw[<- mK]at a
 obtain⟨D,E⟩:=OwN.sB (l:=Gd K n P) a (by rw[Dn];omega) (Ww _ _ f);exact⟨q,rfl,D,E,CgQ.af C⟩
theorem ey{p:S3}{n:Int}(q:Sl w k.v K)(l:K.length=32)(r:Sl w p.v P)(m:P.length<=2000)(h:0<=n/\n<1073741824)(f:Dq w) :
  Calls prog 14 #[.agg #[S3.v k,iv n,iv 0,.bool false,.bool false,.bool false,.bool false,.bool false,.bool false,.bool false,.bool false],p.v] w λe w'=>∃ u z:S3,e=.returned (.tuple #[.agg #[S3.v u,iv (n+1),iv 0,.bool false,.bool false,.bool false,.bool false,.bool false,.bool false,.bool false,.bool false],z.v,iv 0])/\Sl w' z.v (Gd K n P)/\Nb w.heap.size z (Gd K n P)/\Bw w w':=by
 refine tIn [Fa.sl k K,Fa.sl p P] func14 ⟨⟨q,λ_ _ _=>rfl⟩,⟨r,λ_ _ _=>rfl⟩,trivial⟩ (tR 11 [1,0,1,0,0] λc _ _=>tF λ_ g=>?_);have t:=g.size;refine tC 2 (λF C=>ez F.1.s l F.2.1.s m h (f.af f.pos (CgQ.af C))) λd=>?_;rintro _ _ ⟨z,rfl,x,b,i⟩;refine⟨_,Fa.sl z (Gd K n P)::_,rfl,i,λF=>⟨DE x b d,F⟩,?_⟩;refine tR 18 [0] λy _ _=>tC 2 (λF C=>Lk F.2.1.s) λd=>?_;rintro _ _ ⟨u,rfl,D,_,j⟩;refine⟨_,_,rfl,j,id,?_⟩;refine tR 7 [0,0,0] λA _ _=>tV 2 (iv (n+1)) (λF C=>(Bj 24 n underlying3 (by omega))) (tR 11 [0,0,0,1,0] λB _ _=>tX λF C=>qE3 4 5 6 57 1 (c 1) #[S3.v u,iv (n+1),iv 0,.bool false,.bool false,.bool false,.bool false,.bool false,.bool false,.bool false,.bool false] (S3.v z) (iv 0) λ_=>⟨u,z,rfl,F.1.s,λh a o=>mg t (b h a o),CgQ.af C⟩)
theorem fR(d:K.length=32)(e:∀ x∈R,0<=x/\x<256)(b:20<=R.length):GE K 0 0 noB R=if 2020<R.length then 1 else if 1073741824<=IF (R.take 4)then 2 else Eg K (Ce (R.take 4)) (R.take 4) (R.drop 4):=by
 have c:(R.take 4).length=4:=by rw[j'];omega
 have a:=(LR c λx f=>e x (mx f)).1;unfold GE;rw[if_neg (λg=>g (OkC.new d 0 (by omega) (by omega)))];split
 .rfl
 .rw[if_neg (by omega)];split
  .rfl
  .rw[if_neg (by rw[UC a];simp)]
theorem kP(b:K.length=32)(a:R.length<20):GE K 0 0 noB R=13:=by
 unfold GE;rw[if_neg (λg=>g (OkC.new b 0 (by omega) (by omega))),if_neg (by omega),if_pos a]
theorem aR{r:S3}(H:Sl w k.v K)(j:K.length=32)(t:Sl w r.v R)(I:Dq w){E:Int}(b:GE K 0 0 noB R=E) :
  Calls prog 195 #[.agg #[S3.v k,iv 0,iv 0,.bool false,.bool false,.bool false,.bool false,.bool false,.bool false,.bool false,.bool false],r.v] w λe w'=>∃ (v:S3) (n:Int),e=.returned (.tuple #[v.v,iv n,iv E])/\(E=0->(0<=n/\n<1073741824)/\Sl w' v.v (IX K R)/\Nb w.heap.size v (IX K R))/\Bw w w':=by
 have q:k.n=32:=(FT H).trans j;have V:=FT t;have d:=t.byte;refine tIn [Fa.sl k K,Fa.sl r R] func195 ⟨⟨H,λ_ _ _=>rfl⟩,⟨t,λ_ _ _=>rfl⟩,trivial⟩ (tR 11 [0,0,0] λa0 _ _=>tC1 1 (λF C=>Oc (n:=0) q ⟨by omega,by omega⟩) λ_=>tR 16 [] λa1 _ _=>?_);by_cases D:2020<R.length
 .refine tI ((decide (2020<(r.n:Int)))) true (P' (by omega)) (tR 6 [] λa2 _ _=>?_);obtain rfl:1=E:=by rw[<- b,fR j d (by omega),if_pos D]
  exact tE (.tuple #[.slice none 0 0,iv 0,iv 1]) λ_ B=>⟨s30,0,rfl,λh=>absurd h (by decide),B⟩
 .refine tI ((decide (2020<(r.n:Int)))) false (G' (by omega)) (tR 8 [] λa3 _ _=>?_);by_cases T:R.length<20
  .refine tI ((decide ((r.n:Int)<20))) true (P' (by omega)) (tR 6 [] λa4 _ _=>?_);obtain rfl:13=E:=by rw[<- b,kP j T]
   exact tE (.tuple #[.slice none 0 0,iv 0,iv 13]) λ_ B=>⟨s30,0,rfl,λh=>absurd h (by decide),B⟩
  .refine tI ((decide ((r.n:Int)<20))) false (G' (by omega)) (tR 4 [] λa5 _ _=>?_);have p:(R.take 4).length=4:=by rw[j'];omega
   rw[fR j d (by omega),if_neg D]at b
   obtain⟨N,G⟩:∃ N,IF (R.take 4)=N:=⟨_,rfl⟩;have c:=(LR p λx Z=>d x (mx Z)).1;rw[G]at b c
   refine tF λF _=>?_;obtain⟨y,z,l,f⟩:=gy F.2.1.s (by omega);refine tC1 1 (λF C=>f) λ_=>tR 9 [] λa6 _ _=>tC1 1 (λF C=>Wd (l _ F.2.1.s).1 p G) λ_=>tR 8 [] λJ _ _=>?_;by_cases i:1073741824<=N
   .refine tI ((decide (1073741824<=N))) true (P' i) (tR 6 [] λL _ _=>?_);obtain rfl:2=E:=by rw[<- b,if_pos i]
    exact tE (.tuple #[.slice none 0 0,iv 0,iv 2]) λ_ B=>⟨s30,0,rfl,λh=>absurd h (by decide),B⟩
   .refine tI ((decide (1073741824<=N))) false (G' i) ?_;rw[if_neg i]at b
    refine tR 5 [0] λM _ _=>tC1 1 (λF C=>MM (k:=k) (n:=0)) λ_=>tR 1 [] λO _ _=>tC1 3 (λF C=>Y4 c) λ_=>tR 10 [12,0,2,0,4,8,10] λP _ _=>tC 3 (λF C=>QK (l _ F.2.1.s).1 p) λA=>?_;rintro _ _ ⟨u,rfl,X,m⟩;refine⟨_,_,rfl,m,id,?_⟩;refine tF λ_ S=>?_;have W:=S.size;refine tC 6 (λF C=>Zm F.1.s X (l _ F.2.1.s).1 (l _ F.2.1.s).2 (I.af I.pos (CgQ.af C)) b) λA=>?_;rintro _ _ ⟨v,rfl,Y,g,o⟩;refine⟨_,Fa.sl v (IX K R)::_,rfl,o,λF=>⟨DE Y g A,F⟩,?_⟩;refine tR 15 [14,16,18,20,22] λQ _ _=>tE (.tuple #[S3.v v,iv N,iv E]) λF B=>⟨v,N,rfl,λ_=>⟨⟨c,by omega⟩,F.1.s,λh a U=>mg W (g h a U)⟩,B⟩
theorem UO{r:List Int}(H:Sl w x.v key)(I:key.length=32)(K:Sl w y.v r)(p:Dq w){E:Int}(G:GE key 0 0 noB r=E) :
  Calls prog 181 #[.agg #[S3.v x,iv 0,iv 0,.bool false,.bool false,.bool false,.bool false,.bool false,.bool false,.bool false,.bool false],y.v] w λe w'=>∃ (c v:S3) (t:Int) (x0 x1 x2 x3 x4 x5 x6 x7:Bool),e=.returned (.tuple #[.agg #[c.v,iv 0,iv t,.bool x0,.bool x1,.bool x2,.bool x3,.bool x4,.bool x5,.bool x6,.bool x7],v.v,iv E])/\Sl w' v.v (if E=0 then IX key r else[])/\Nb w.heap.size v (if E=0 then IX key r else[])/\Bw w w':=by
 refine tIn [Fa.sl x key,Fa.sl y r] func181 ⟨⟨H,λ_ _ _=>rfl⟩,⟨K,λ_ _ _=>rfl⟩,trivial⟩ (tR 11 [1,0,1,0,0] λd _ _=>tF λ_ B=>?_);have o:=B.size;refine tC 2 (λF C=>aR F.1.s I F.2.1.s (p.af p.pos (CgQ.af C)) G) λm=>?_;rintro _ _ ⟨v,n,rfl,l,D⟩;refine⟨_,Fa.sl (if E=0 then v else s30) (if E=0 then IX key r else[])::_,rfl,D,λF=>⟨by split;(rename_i e;exact DE (l e).2.1 (l e).2.2 m);exact V9 _ _,F⟩,?_⟩;refine tR 14 [] λL _ _=>?_;by_cases i:E≠0
 .refine tI ((E != 0)) true (by simpa using i) (tR 8 [1,0] λM _ _=>tX λF C=>qE3 4 5 6 57 1 (d 1) #[S3.v s30,iv 0,iv 0,.bool false,.bool false,.bool false,.bool false,.bool false,.bool false,.bool false,.bool false] (S3.v s30) (iv E) λ_=>⟨s30,s30,0,false,false,false,false,false,false,false,false,rfl,by rw[if_neg i];exact Nt _,λ_ a f=>(by cases f),CgQ.af C⟩)
 .refine tI ((E != 0)) false (by simpa using i) ?_;have b:E=0:=mh.1 i;obtain⟨J,_,g⟩:=l b;refine tR 4 [0] λN _ _=>tC1 1 (λF C=>MM (k:=x) (n:=0)) λ_=>tR 1 [] λO _ _=>tC1 3 (λF C=>ff J) λ_=>tR 7 [1,0,2,0,0] λP _ _=>tC 2 (λF C=>Lk F.2.1.s) λm=>?_;rintro _ _ ⟨u,rfl,Q,_,j⟩;refine⟨_,_,rfl,j,id,?_⟩;refine tR 9 [0,0,5,0,2,2,4,8] λq _ _=>Fv 3 5 ?_ ?_
  .refine tR 13 [2,11,0,0,12,15,0,0,0,1,0] λz _ _=>tX λF C=>qE3 4 5 6 57 1 (d 1) #[S3.v u,iv 0,iv (n+1),.bool false,.bool false,.bool false,.bool false,.bool false,.bool false,.bool false,.bool true] (S3.v v) (iv 0) λ_=>⟨u,v,n+1,false,false,false,false,false,false,false,true,by rw[b],by have:=F.1.s;rwa [if_pos b]at this,by rw[if_pos b];exact λh a f=>mg o (g h a f),CgQ.af C⟩
  .refine tR 13 [0,0,7,2,12,15,0,0,0,1,0] λA _ _=>tX λF C=>qE3 4 5 6 57 1 (d 1) #[S3.v u,iv 0,iv (n+1),.bool false,.bool false,.bool false,.bool false,.bool false,.bool false,.bool false,.bool true] (S3.v v) (iv 0) λ_=>⟨u,v,n+1,false,false,false,false,false,false,false,true,by rw[b],by have:=F.1.s;rwa [if_pos b]at this,by rw[if_pos b];exact λh a f=>mg o (g h a f),CgQ.af C⟩
def Om(k:Nat):Int:=if k=1 then 2 else if k=2 then 1 else if k=3 then 4 else 0
theorem NTab.right(h:NTab w)(k:Nat)(a:k<=3):w.cell? ⟨0,k*3,none⟩=some (.int .i64 (Om k)):=by
 rcases(by omega:k=0\/k=1\/k=2\/k=3)with rfl|rfl|rfl|rfl
 .exact h.cell 0 (by omega)
 .exact h.cell 3 (by omega)
 .exact h.cell 6 (by omega)
 .exact h.cell 9 (by omega)
theorem VG(k:Nat)(r:Int)(c:k<=3)(a:0<=r)(b:r<=7):(bits .and .i64 r (Om k)=0)↔¬ KV (k:Int) r:=by
 have all:∀ (i:Fin 4) (j:Fin 8),(bits .and .i64 ((j.val:Nat):Int) (Om i.val)=0)↔¬ KV ((i.val:Nat):Int) ((j.val:Nat):Int):=by decide +kernel
 obtain⟨m,rfl⟩:=mS a;exact all ⟨k,by omega⟩ ⟨m,by omega⟩
theorem RG(b d f k c s n v a:Int)(w:World)(K:NTab w) :
  Calls prog 123 #[.agg (tkA b d f),.agg (cmA k c s n v),.int .i64 a] w λe w'=>e=.returned (.int .i64 (EL b d f k c s n v a))/\Bw w w':=by
 have j:Bw w (w.alloc (.cells (tkA b d f) 32)):=(Below.refl _ _).alloc (A' _) _;have i:=Bt.made w b d f;have M:(w.alloc (.cells (tkA b d f) 32)).heap.size=w.heap.size+1:=by simp
 have l:Below (w.alloc (.cells (tkA b d f) 32)).heap.size (w.alloc (.cells (tkA b d f) 32)) ((w.alloc (.cells (tkA b d f) 32)).alloc (.cells (cmA k c s n v) 24)):=(Below.refl _ _).alloc (A' _) _;have o:=Bc.made (w.alloc (.cells (tkA b d f) 32)) k c s n v;replace i:=i.af l;have z:=j.trans (l.mono j.size);have r:=K.af z;rw[M]at o
 clear j l K M;have H:=GU k c s n v;have I:=Jd b d f;generalize T:(w.alloc (.cells (tkA b d f) 32)).alloc (.cells (cmA k c s n v) 24)=W at z i o r;go_enter func123,ntmps123
 go_wp2_with (refine wpList_load_row rfl 32 _ rfl w.heap.size rfl 32 _ (0,0) _ i.row underlying32 rfl I ?_)
 clear T;refine(Jx b d f _).mono ?_;rintro e X ⟨rfl,j⟩;have C:Bw w X:=z.trans (j.mono z.size);replace i:=i.af j;replace o:=o.af j;replace r:=r.af j;clear j z;by_cases q:Dt b d f
 .rw[P' q];go_wp2_with (refine wpList_load_row rfl 24 _ rfl (w.heap.size+1) rfl 24 _ (0,0) _ o.row underlying24 rfl H ?_)
  refine(E8 k c s n v _ r).mono ?_;rintro e t ⟨rfl,l⟩;have D:Bw w t:=C.trans (l.mono C.size);replace i:=i.af l;replace o:=o.af l;replace r:=r.af l;clear l C;by_cases A:Bh k c s n v=0
  .have hz:=Dg A;obtain⟨m,rfl⟩:=mS hz.1.1;have Z:(0:Int)<=(m:Int):=by omega
   have k1:(m:Int)<4:=by omega
   have k2:m<4:=by omega
   have G:=r.right m (by omega);have B:=VG m d (by omega) q.2.1.1 q.2.1.2;obtain⟨N,O,P,Q,S⟩:=Fh o.row;obtain⟨U,V,L⟩:=JM i.row;have x:Hid (Dt b d f):=q;have y:Hid (Bh (m:Int) c s n v=0):=A;rw[A];clear q A hz i o r;by_cases u:c=b
   .have h3':decide (c=b)=true:=P' u;by_cases E:bits .and .i64 d (Om m)=0
    .have h:Hid (11=EL b d f (m:Int) c s n v a):=(KY x.out y.out (λg=>B.1 E g.1)).symm;have Y:Hid (c=b):=u;clear B x y;subst u;clear h3';generalize Om m=R at G E;go_wp2_with fail
     go_quiet (fail)
     have p:Bw w (t.drewN nq):=Aq D nq;generalize t.drewN nq=w3 at p ⊢;go_wp2
     go_ret;exact⟨CX h.out,p⟩
    .have HR:Hid (KV (m:Int) d/\c=b):=⟨Classical.not_not.1 λg=>E (B.2 g),u⟩;clear B;subst u;clear h3';generalize Om m=R at G E;go_wp2_with fail
     go_quiet (fail)
     have p:Bw w (t.drewN nq):=Aq D nq;have J:(t.drewN nq).cell? ⟨w.heap.size,2,none⟩=some (.int .i64 f):=by simpa using L
     generalize t.drewN nq=w3 at p J ⊢;clear N O P Q S U V L G;go_wp2_with fail
     refine(Fw a f _).mono ?_;rintro e w4 ⟨rfl,rfl⟩;by_cases F:0<=a/\a<=f
     .rw[P' F];have h:Hid (0=EL c d f (m:Int) c s n v a):=(OM x.out y.out ⟨HR.out.1,rfl⟩ F).symm;go_wp2
      go_ret;exact⟨CX h.out,p⟩
     .rw[G' F];have h:Hid (10=EL c d f (m:Int) c s n v a):=(Vl x.out y.out ⟨HR.out.1,rfl⟩ F).symm;go_wp2
      go_ret;exact⟨CX h.out,p⟩
   .have h3':decide (c=b)=false:=G' u;have h:Hid (11=EL b d f (m:Int) c s n v a):=(KY x.out y.out (λg=>u g.2)).symm;clear B x y;go_wp2_with fail
    go_quiet (fail)
    have p:Bw w (t.drewN nq):=Aq D nq;generalize t.drewN nq=w3 at p ⊢;go_wp2
    go_ret;exact⟨CX h.out,p⟩
  .have h:Hid (Bh k c s n v=EL b d f k c s n v a):=(Xo q A).symm;go_wp2
   go_ret;exact⟨CX h.out,D⟩
 .rw[G' q];have h:Hid (2=EL b d f k c s n v a):=(Xp q).symm;go_wp2
  go_ret;exact⟨CX h.out,C⟩
theorem Y8(a:0<=c)(h:c<=7)(g:AK w) :
  Calls prog 13 #[iv c] w λe w'=>∃ y:S3,e=.returned (.tuple #[y.v,iv 0])/\Sl w' y.v (I6 c)/\Nb w.heap.size y (I6 c)/\Bw w w':=by
 refine(gU c w a h g).mono ?_;rintro e w' ⟨v,rfl,f,b⟩;obtain⟨y,rfl,i,d⟩:=J6 f (by rw[Cy];decide) (VP c);exact⟨y,rfl,i,d,b⟩
theorem jL(h:7<c):Calls prog 13 #[iv c] w λe w'=>e=.returned (.tuple #[S3.v s30,iv 2])/\Bw w w':=by
 refine(gT c w (by omega)).mono ?_;rintro e w' ⟨rfl,rfl⟩;exact⟨rfl,Below.refl _ _⟩
theorem Jw(d:AK w):Calls prog 11 #[] w λe w'=>∃ y:S3,e=.returned y.v/\Sl w' y.v Fk/\Nb w.heap.size y Fk/\Bw w w':=by
 refine(SH w d).mono ?_;rintro e w' ⟨v,rfl,c,a⟩;obtain⟨y,rfl,f,b⟩:=J6 c (by rw[Gw];decide) VM;exact⟨y,rfl,f,b,a⟩
theorem Sl.sQ(h:Sl w (.slice a n cap) l)(b:Nat)(d:b<=l.length) :
  ∃ a' c',(∀ W,(Instr.slice 27 (.slice a n cap) none (some (.int .i64 (b:Int))) none).run prog W=.ok (.slice a' b c') W)/\∀ w2,Sl w2 (.slice a n cap) l->Sl w2 (.slice a' b c') (l.take b):=by
 have j:=λw2 (c:Sl w2 (.slice a n cap) l)=>c.rh 0 b (by omega) d;obtain⟨⟨a',f,e,m,o,k⟩,i,g⟩:=h;simp only[Value.slice.injEq]at e;obtain⟨rfl,rfl,rfl⟩:=e;refine⟨_,_,λW=>?_,λw2 c=>by simpa[sliced]using j w2 c⟩;rw[run_slice_h (P:=prog) W 27 a _ cap underlying27 .i64 _ (by omega) (by omega)];have e:prog.elem 27=5:=by kernel_rfl
 rw[e,GC];simp[Result.andThen,sliced]
theorem slF(h:Sl w x.v l)(a:Nat)(b:a<=l.length):∃ y:S3,(∀ W,(Instr.sliceAt 27 x.v (some (iv (a:Int))) none none).run prog W=.ok y.v W)/\∀ w2,Sl w2 x.v l->Sl w2 y.v (l.drop a):=by
 obtain⟨c,d,e,f⟩:=h.sh a b;exact⟨⟨c,x.n-a,d⟩,λW=>by rw[run_sliceAt_slice _ _ _ _ _ _ aY];exact e W,f⟩
theorem slU(h:Sl w x.v l)(a:Nat)(b:a<=l.length):∃ y:S3,(∀ W,(Instr.sliceAt 27 x.v none (some (iv (a:Int))) none).run prog W=.ok y.v W)/\∀ w2,Sl w2 x.v l->Sl w2 y.v (l.take a):=by
 obtain⟨c,d,e,f⟩:=h.sQ a b;exact⟨⟨c,a,d⟩,λW=>by rw[run_sliceAt_slice _ _ _ _ _ _ aY];exact e W,f⟩
theorem LY(j:Sl w x.v key)(i:Sl w y.v l)(k:AK w){E:Int}(f:Ep key l=E) :
  Calls prog 151 #[x.v,y.v] w λe w'=>∃ a b c:Int,e=.returned (.tuple #[.agg #[iv a,iv b,iv c],iv E])/\(E=0->a=l.getD 0 0/\b=l.getD 1 0/\c=Ac l 2)/\Bw w w':=by
 subst f;refine(Ws x.v y.v key l w j i k).mono ?_;rintro e w' ⟨rfl,h⟩;by_cases d:Ep key l=0
 .rw[Pu d];exact⟨_,_,_,rfl,λ_=>⟨rfl,rfl,rfl⟩,h⟩
 .rw[IK d];exact⟨0,0,0,rfl,λg=>absurd g d,h⟩
theorem V1(h:Sl w x.v l)(f:NTab w){E:Int}(d:Ck l=E) :
  Calls prog 152 #[x.v] w λe w'=>∃ m:Cmd,e=.returned (.tuple #[.agg #[iv m.k,iv m.c,iv m.s,iv m.n,iv m.v],iv E])/\(E=0->m=⟨Ac l 0,Ac l 4,Ac l 8,Ac l 12,Ac l 16⟩)/\Bw w w':=by
 subst d;refine(Lr x.v l w h f).mono ?_;rintro e w' ⟨rfl,b⟩;by_cases a:Ck l=0
 .rw[show Iy l=_ from if_pos a];exact⟨⟨Ac l 0,Ac l 4,Ac l 8,Ac l 12,Ac l 16⟩,rfl,λ_=>rfl,b⟩
 .rw[show Iy l=_ from if_neg a];exact⟨⟨0,0,0,0,0⟩,rfl,λg=>absurd g a,b⟩
theorem Wk(h:Sl w x.v l)(hT:AK w)(H:Dq w){E:Int}(q:K9 l=E){D:List Int}(g:Pl l=D) :
  Calls prog 150 #[x.v] w λe w'=>∃ y:S3,e=.returned (.tuple #[y.v,iv E])/\Sl w' y.v D/\Nb w.heap.size y D/\Bw w w':=by
 have S:=FT h;have N:=h.byte;unfold Pl at g;rw[q]at g
 refine tIn [Fa.sl x l] func150 ⟨⟨h,λ_ _ _=>rfl⟩,trivial⟩ (tR 12 [] λa0 _ _=>?_);by_cases p:l=[]
 .refine tI (((x.n:Int)==0)) true (by rw[S,p];rfl) (tR 5 [] λa1 _ _=>?_);obtain rfl:13=E:=by rw[<- q];unfold K9;rw[if_pos p]
  exact tE (.tuple #[.slice none 0 0,iv 13]) λ_ B=>⟨s30,rfl,by rw[<- g,if_neg (by decide)];exact Nt _,λ_ a m=>(by cases m),B⟩
 .refine tI (((x.n:Int)==0)) false (by rw[S];simpa using p) ?_;obtain⟨c,i⟩:∃ c,l.getD 0 0=c:=⟨_,rfl⟩;have b:0<l.length:=List.length_pos_iff.2 p;have r:0<=c/\c<256:=by rw[<- i];exact N _ (by rw[mO,H' b];exact mP b)
  have d:K9 l=if 7<c then 2 else GE (I6 c) 0 0 noB (l.drop 1):=by unfold K9;rw[if_neg p,i]
  rw[q]at d
  refine tR 4 [] λa2 _ _=>tF λF _=>?_;obtain⟨Z,od,O,_,A⟩:=Rn F.1.s b;rw[i]at A
  refine tV 1 (pt Z od) (λF C=>(O _)) (tV 2 (.int .u8 c) (λF C=>(BT underlying5 rfl A)) (tV 3 (iv c) (λF C=>(rUi r)) ?_));by_cases M:7<c
  .refine tC1 4 (λF C=>jL M) λ_=>tR 19 [] λa3 _ _=>?_;obtain rfl:2=E:=by rw[<- q];rw[q,d,if_pos M]
   exact tE (.tuple #[.slice none 0 0,iv 2]) λ_ B=>⟨s30,rfl,by rw[<- g,if_neg (by decide)];exact Nt _,λ_ a m=>(by cases m),B⟩
  .refine tC 4 (λF C=>Y8 r.1 (by omega) (hT.af (CgQ.af C))) λj=>?_;rintro _ _ ⟨y,rfl,hy,R,Y⟩;refine⟨_,Fa.sl y (I6 c)::_,rfl,Y,λF=>⟨DE hy R j,F⟩,?_⟩;refine tR 17 [] λT _ _=>tC 1 (λF C=>io F.1.s (Cy c)) λj=>?_;rintro _ _ ⟨u,rfl,hu,P,J⟩;refine⟨_,Fa.sl u (I6 c)::_,rfl,J,λF=>⟨DE hu P j,F⟩,?_⟩;refine tR 19 [1,0,0,0,12,0,0,2] λU _ _=>?_;rw[if_neg M]at d
   refine tF λF o=>?_;have I:=o.size;obtain⟨z,hz,G⟩:=slF F.2.2.1.s 1 b;refine tT 2 (S3.v z) (λ_=>(hz _)) (Fv 3 8 ?_ ?_)
   .refine tF λF o=>?_;have I:=o.size;refine tC 3 (λF C=>UO F.1.s (Cy c) (G _ F.2.2.1.s) (H.af H.pos (CgQ.af C)) d.symm) λj=>?_;rintro _ _ ⟨k,v,t,x0,x1,x2,x3,x4,x5,x6,x7,rfl,Q,f,K⟩;refine⟨_,Fa.sl v D::_,rfl,K,λF=>⟨DE (by rw[<- g,i];exact Q) (by rw[<- g,i];exact f) j,F⟩,?_⟩;refine tR 16 [8,10,12,14,17,1,0,19,1,0,20,22] λV _ _=>tE (.tuple #[S3.v v,iv E]) λF B=>⟨v,rfl,F.1.s,by rw[<- g,i];exact λh a m=>mg I (f h a m),B⟩
   .refine tR 1 [1,0] λW _ _=>tF λF o=>?_;have I:=o.size;refine tC 3 (λF C=>UO F.1.s (Cy c) (G _ F.2.2.1.s) (H.af H.pos (CgQ.af C)) d.symm) λj=>?_;rintro _ _ ⟨k,v,t,x0,x1,x2,x3,x4,x5,x6,x7,rfl,Q,f,L⟩;refine⟨_,Fa.sl v D::_,rfl,L,λF=>⟨DE (by rw[<- g,i];exact Q) (by rw[<- g,i];exact f) j,F⟩,?_⟩;refine tR 15 [8,10,12,14,19,1,0,20,22] λX _ _=>tE (.tuple #[S3.v v,iv E]) λF B=>⟨v,rfl,F.1.s,by rw[<- g,i];exact λh a m=>mg I (f h a m),B⟩
theorem R6(h:Sl w x.v l)(G:AK w)(hq:Dq w)(hN:NTab w){E:Int}(j:unE l=E) :
  Calls prog 122 #[x.v] w λe w'=>∃ (a b c:Int) (m:Cmd),e=.returned (.tuple #[.agg #[iv a,iv b,iv c],.agg #[iv m.k,iv m.c,iv m.s,iv m.n,iv m.v],iv E])/\(E=0->a=(unT l).getD 0 0/\b=(unT l).getD 1 0/\c=Ac (unT l) 2/\m=⟨Ac (unQ l) 0,Ac (unQ l) 4,Ac (unQ l) 8,Ac (unQ l) 12,Ac (unQ l) 16⟩)/\Bw w w':=by
 obtain⟨r,I⟩:∃ r,K9 l=r:=⟨_,rfl⟩;obtain⟨D,P⟩:∃ D,Pl l=D:=⟨_,rfl⟩;have f:unT l=D.take 22:=by unfold unT;rw[P]
 have t:unQ l=D.drop 22:=by unfold unQ;rw[P]
 unfold unE at j;rw[I,P]at j
 refine tIn [Fa.sl x l] func122 ⟨⟨h,λ_ _ _=>rfl⟩,trivial⟩ (tR 9 [1,0,1,0] λd _ _=>tC 1 (λF C=>Wk F.1.s (G.af (CgQ.af C)) (hq.af hq.pos (CgQ.af C)) I P) λp=>?_);rintro _ _ ⟨y,rfl,hy,a0,b2⟩;refine⟨_,Fa.sl y D::_,rfl,b2,λF=>⟨DE hy a0 p,F⟩,?_⟩;have K:=FT hy;refine tR 12 [] λa9 _ _=>?_;by_cases H:r≠0
 .refine tI ((r != 0)) true (by simpa using H) ?_;obtain rfl:r=E:=by rw[<- j,if_pos H]
  refine tR 9 [0,0,1,0] λb0 _ _=>tX λF C=>qE5 2 3 4 32 24 0 (d 0) 1 (d 1) #[iv 0,iv 0,iv 0] #[iv 0,iv 0,iv 0,iv 0,iv 0] (iv r) λ_=>⟨0,0,0,⟨0,0,0,0,0⟩,rfl,λg=>absurd g H,CgQ.af C⟩
 .refine tI ((r != 0)) false (by simpa using H) ?_;rw[if_neg H]at j
  refine tR 8 [] λb1 _ _=>?_;by_cases h2:D.length≠42
  .refine tI (((y.n:Int) != 42)) true (by rw[K];simp;omega) ?_;obtain rfl:3=E:=by rw[<- j,if_pos h2]
   refine tR 8 [0,0,1,0] λb3 _ _=>tX λF C=>qE5 2 3 4 32 24 0 (d 0) 1 (d 1) #[iv 0,iv 0,iv 0] #[iv 0,iv 0,iv 0,iv 0,iv 0] (iv 3) λ_=>⟨0,0,0,⟨0,0,0,0,0⟩,rfl,λg=>absurd g (by decide),CgQ.af C⟩
  .refine tI (((y.n:Int) != 42)) false (by rw[K];simp;omega) ?_;rw[if_neg h2,f,t]at j
   obtain⟨o,q⟩:∃ o,Ep Fk (D.take 22)=o:=⟨_,rfl⟩;rw[q]at j
   refine tF λF _=>?_;obtain⟨u,hu,A⟩:=slU F.1.s 22 (by omega);refine tR 2 [] λb4 _ _=>KE 45 (λee LL L=>∃ (a b c:Int) (W:Nat),ee=[(2,pt (d 0) 0),(3,pt (d 1) 0),(4,iv 0),(5,S3.v y),(6,iv o),(7,pt W 0)]/\LL=[⟨(d 0),.cells #[iv 0,iv 0,iv 0] 32,.l,false⟩,⟨(d 1),.cells #[iv 0,iv 0,iv 0,iv 0,iv 0] 24,.l,false⟩,⟨W,.cells #[iv a,iv b,iv c] 32,.l,false⟩]/\L=[Fa.sl y D]/\(o=0->a=(D.take 22).getD 0 0/\b=(D.take 22).getD 1 0/\c=Ac (D.take 22) 2)) (λJ X=>?_) ?_
   .refine tR 2 [10,2] λb5 _ _=>tT 2 (S3.v u) (λ_=>(hu _)) (Fv 0 7 ?_ ?_)
    .refine tC 0 (λF C=>Jw (G.af (CgQ.af C))) λp=>?_;rintro _ _ ⟨i,rfl,Y,hin,Q⟩;refine⟨_,Fa.sl i Fk::_,rfl,Q,λF=>⟨DE Y hin p,F⟩,?_⟩;refine Fv 3 7 ?_ ?_
     .refine tC 3 (λF C=>LY F.1.s (A _ F.2.1.s) (G.af (CgQ.af C)) q) λp=>?_;rintro _ _ ⟨a,b,c,rfl,z,R⟩;refine⟨_,_,rfl,R,id,?_⟩;refine tR 7 [8,10,12,15,1,0,17,2,0,18] λM _ _=>tD X [true,true,true] ⟨a,b,c,(M 0),rfl,rfl,rfl,z⟩ (λF=>⟨F.2.1,trivial⟩)
     .refine tR 1 [1,0] λN _ _=>tC 3 (λF C=>LY F.1.s (A _ F.2.1.s) (G.af (CgQ.af C)) q) λp=>?_;rintro _ _ ⟨a,b,c,rfl,z,S⟩;refine⟨_,_,rfl,S,id,?_⟩;refine tR 6 [8,10,12,17,2,0,18] λa1 _ _=>tD X [true,true,true] ⟨a,b,c,(N 0),rfl,rfl,rfl,z⟩ (λF=>⟨F.2.1,trivial⟩)
    .refine tR 1 [1,0] λO _ _=>tC 0 (λF C=>Jw (G.af (CgQ.af C))) λp=>?_;rintro _ _ ⟨i,rfl,Y,hin,T⟩;refine⟨_,Fa.sl i Fk::_,rfl,T,λF=>⟨DE Y hin p,F⟩,?_⟩;refine tC 3 (λF C=>LY F.1.s (A _ F.2.1.s) (G.af (CgQ.af C)) q) λp=>?_;rintro _ _ ⟨a,b,c,rfl,z,U⟩;refine⟨_,_,rfl,U,id,?_⟩;refine tR 6 [8,10,12,17,2,0,18] λa2 _ _=>tD X [true,true,true] ⟨a,b,c,(O 0),rfl,rfl,rfl,z⟩ (λF=>⟨F.2.1,trivial⟩)
   rintro _ _ _ ⟨a,b,c,W,rfl,rfl,rfl,z⟩ _ _ _;refine tR 6 [] λa3 _ _=>?_;by_cases B:o≠0
   .refine tI ((o != 0)) true (by simpa using B) ?_;obtain rfl:o=E:=by rw[<- j,if_pos B]
    refine tR 9 [0,0,1,0] λa4 _ _=>tX λF C=>qE5 2 3 4 32 24 0 (d 0) 1 (d 1) #[iv 0,iv 0,iv 0] #[iv 0,iv 0,iv 0,iv 0,iv 0] (iv o) λ_=>⟨0,0,0,⟨0,0,0,0,0⟩,rfl,λg=>absurd g B,CgQ.af C⟩
   .refine tI ((o != 0)) false (by simpa using B) ?_;rw[if_neg B]at j
    obtain⟨ha,hb,hc⟩:=z (mh.1 B);refine tR 4 [] λa5 _ _=>tF λF _=>?_;obtain⟨v,hv,Z⟩:=slF F.1.s 22 (by omega);refine tV 1 (S3.v v) (λF C=>(hv _)) (tC 2 (λF C=>V1 (Z _ F.1.s) (hN.af (CgQ.af C)) j) λp=>?_);rintro _ _ ⟨m,rfl,hm,V⟩;refine⟨_,_,rfl,V,id,?_⟩;refine tR 11 [1,0,3,0,3,0,2,4] λa6 _ _=>Fv 1 3 ?_ ?_
    .refine tR 5 [3,7,0,0,9,1,0,10] λa7 _ _=>tX λF C=>qE5 2 3 4 32 24 0 (d 0) 1 (d 1) #[iv a,iv b,iv c] #[iv m.k,iv m.c,iv m.s,iv m.n,iv m.v] (iv E) λ_=>⟨a,b,c,m,rfl,λg=>⟨by rw[f];exact ha,by rw[f];exact hb,by rw[f];exact hc,by rw[t];exact hm g⟩,CgQ.af C⟩
    .refine tR 5 [0,0,3,3,9,1,0,10] λa8 _ _=>tX λF C=>qE5 2 3 4 32 24 0 (d 0) 1 (d 1) #[iv a,iv b,iv c] #[iv m.k,iv m.c,iv m.s,iv m.n,iv m.v] (iv E) λ_=>⟨a,b,c,m,rfl,λg=>⟨by rw[f];exact ha,by rw[f];exact hb,by rw[f];exact hc,by rw[t];exact hm g⟩,CgQ.af C⟩
theorem Vm{a b:Int}{m:Cmd}(f:NTab w){F:Int}(d:EL a b c m.k m.c m.s m.n m.v now=F):Calls prog 123 #[.agg #[iv a,iv b,iv c],.agg #[iv m.k,iv m.c,iv m.s,iv m.n,iv m.v],iv now] w λe w'=>e=.returned (iv F)/\Bw w w':=by subst d;exact RG a b c m.k m.c m.s m.n m.v now w f
theorem VZ(v:Value)(l:List Int)(now:Int)(w:World)(h:Sl w v l)(hT:AK w)(R:Dq w)(P:NTab w) :
  Calls prog 77 #[v,iv now] w λe w'=>e=.returned (.tuple #[.agg (opA l now),iv (opE l now)])/\Bw w w':=by
 obtain⟨x,rfl,h⟩:=ZX h;obtain⟨E,I⟩:∃ E,unE l=E:=⟨_,rfl⟩;obtain⟨i,f⟩:∃ i,opE l now=i:=⟨_,rfl⟩;have K:=h.byte;have G:=ir (l:=l) (now:=now);have H:=iu (l:=l) (now:=now);rw[f]at G H ⊢
 unfold opE at f;rw[I]at f
 refine tIn [Fa.sl x l] func77 ⟨⟨h,λ_ _ _=>rfl⟩,trivial⟩ (tR 8 [1,0] λa _ _=>tC 1 (λF C=>R6 F.1.s (hT.af (CgQ.af C)) (R.af R.pos (CgQ.af C)) (P.af (CgQ.af C)) I) λNz=>?_);rintro _ _ ⟨ta,tb,tc,m,rfl,hu,Z⟩;refine⟨_,_,rfl,Z,id,?_⟩;refine tR 16 [0,0,0,0,1,0,2,0] λj _ _=>?_;by_cases o:E≠0
 .refine tI ((E != 0)) true (by simpa using o) (tR 7 [0,0] λa0 _ _=>?_);obtain rfl:E=i:=by rw[<- f,if_pos o]
  rw[G o];exact tX λ_ C=>qE2 4 5 24 0 (a 0) (cmA 0 0 0 0 0) (iv E) λ_=>⟨rfl,CgQ.af C⟩
 .refine tI ((E != 0)) false (by simpa using o) ?_;have q:E=0:=mh.1 o;obtain⟨e1,e2,e3,p⟩:=hu q;have d:=kT (I.trans q);rw[if_neg o,<- e1,<- e2,<- e3]at f
  rw[show Ac (unQ l) 0=m.k by rw[p],show Ac (unQ l) 4=m.c by rw[p],show Ac (unQ l) 8=m.s by rw[p],show Ac (unQ l) 12=m.n by rw[p],show Ac (unQ l) 16=m.v by rw[p]]at f H
  obtain⟨c,L⟩:∃ c,l.getD 0 0=c:=⟨_,rfl⟩;have M:0<=c/\c<256:=by rw[<- L];exact K _ (by rw[mO,H' d];exact mP d)
  rw[L]at f
  refine tR 3 [] λa1 _ _=>KE 42 (λee Y u=>∃ (b:Bool),ee=[(0,S3.v x),(1,iv now),(4,pt (a 0) 0),(6,pt (j 0) 0),(7,pt (j 1) 0),(31,.bool b)]/\Y=[⟨(a 0),.cells #[iv 0,iv 0,iv 0,iv 0,iv 0] 24,.l,false⟩,⟨(j 0),.cells #[iv ta,iv tb,iv tc] 32,.z,false⟩,⟨(j 1),.cells #[iv m.k,iv m.c,iv m.s,iv m.n,iv m.v] 24,.z,false⟩]/\u=[Fa.sl x l]/\b=decide (m.k≠0/\m.c≠c)) (λJ O=>?_) ?_
  .refine tR 3 [12,0,2,2] λa2 _ _=>?_;by_cases A:m.k=0
   .refine tT 2 (.bool false) (λ_=>(Hl (t:=3) (m:=m.k) (n:=0) (x:=(.tmp 21)) (y:=(.const (iv 0))) (by simpa using A))) (tR 10 [6,8,10,12,14,16,18,20,22] λa3 _ _=>tD O [true,true,true] ⟨false,rfl,rfl,rfl,(G' λg=>g.1 A).symm⟩ (λF=>F))
   .refine tT 2 (.bool true) (λ_=>(Hl (t:=3) (m:=m.k) (n:=0) (x:=(.tmp 21)) (y:=(.const (iv 0))) (by simpa using A))) (tR 4 [6,8,10,2,12] λa4 _ _=>tF λF _=>?_);obtain⟨bd,od,N,_,r⟩:=Rn F.1.s d;rw[L]at r
    refine tT 7 (pt bd od) (λ_=>(N _)) (tV 8 (.int .u8 c) (λF C=>(BT underlying5 rfl r)) (tT 9 (iv c) (λ_=>(rUi M)) (tR 3 [20,22] λS _ _=>?_)));exact tD O [true,true,true] ⟨m.c != c,rfl,rfl,rfl,(by by_cases g:m.c=c<;>simp[g,A])⟩ (λF=>F)
  rintro _ _ _ ⟨b,rfl,rfl,rfl,Q⟩ _ _ _;by_cases B:m.k≠0/\m.c≠c
  .refine tI (b) true (by rw[Q];exact P' B) (tR 6 [0,0] λT _ _=>?_);obtain rfl:11=i:=by rw[<- f,if_pos B]
   rw[G (by decide)];exact tX λ_ C=>qE2 4 5 24 0 (a 0) (cmA 0 0 0 0 0) (iv 11) λ_=>⟨rfl,CgQ.af C⟩
  .refine tI (b) false (by rw[Q];exact G' B) ?_;rw[if_neg B]at f
   refine tR 7 [1,2] λU _ _=>tC1 3 (λF C=>Vm (m:=m) (P.af (CgQ.af C)) f) λ_=>tR 7 [] λV _ _=>?_;by_cases D:i≠0
   .refine tI ((i != 0)) true (by simpa using D) (tR 7 [0,0] λW _ _=>?_);rw[G D];exact tX λ_ C=>qE2 4 5 24 0 (a 0) (cmA 0 0 0 0 0) (iv i) λ_=>⟨rfl,CgQ.af C⟩
   .refine tI ((i != 0)) false (by simpa using D) ?_;obtain rfl:i=0:=mh.1 D;refine tR 7 [2,0,0] λX _ _=>?_;rw[H rfl];exact tX λ_ C=>qE2 4 5 24 0 (a 0) (cmA m.k m.c m.s m.n m.v) (iv 0) λ_=>⟨rfl,CgQ.af C⟩
theorem YW{c:Cmd}(h:Sl w v l)(d:AK w)(i:Dq w)(b:NTab w)(g:opE l now=e0)(f:E9 l now=c) :
  Calls prog 77 #[v,iv now] w λe w'=>e=.returned (.tuple #[.agg #[iv c.k,iv c.c,iv c.s,iv c.n,iv c.v],iv e0])/\Bw w w':=by
 have a:=VZ v l now w h d i b;rw[Zi,g,f]at a
 exact a
theorem WI(h:NS i nb ob g w p ls ts){w0:World}(H:Base w0 g w)(E:Tabs w0)(dv:S3)(y:List Int)(hd:Sl w dv.v y){n:Nat}(b0:NOk n p)(f9:p.bad<100000000)(hw:p.au.length<100000000)(e9:ts.length<100000000){A:Int}{c:Cmd}(he:opE y (p.done:Int)=A)(hc:E9 y (p.done:Int)=c) :
  Calls prog 48 #[pt nb 0,dv.v] w (NP i nb ob g w (.tuple #[]) (p.qY i A c ts).1 ls (p.qY i A c ts).2):=by
 obtain⟨x,lt,tl,I,M,hg⟩:=h;have e8:=b0.dn;have i7:=b0.ag;refine gI (fn:=f48) (TN i) g func48 hg (qN I (qO M (qR [] 9 [0] λs1 g1 w1 m=>?_)));by_cases h1:p.up=true
 .refine qI ((!p.up)) false (by simpa using h1) ?_;have t:¬ p.up=false:=by simp[h1]
  refine qR [] 9 [0] λs2 g2 w2 o=>?_;have G:=H.ch (m.trans o);have e7:=Cg.af (m.trans o) (λ_ _=>O');refine qC 6 (YW (hd.af e7) (G.tt E) (G.tq E) (G.tn E) he hc) ?_;rintro F w3 ⟨rfl,b3⟩;refine⟨_,rfl,b3,?_⟩;have q:=Cg.ed (B:=w.heap.size) (T:=[]) (g:=g2) b3;refine qR [] 13 [0,0,2,0] λs4 g4 w4 r=>?_;by_cases h2:A≠0
  .refine qI ((A != 0)) true (by simpa using h2) (qR [] 6 [0] λs5 g5 w5 c5=>qV 4 (iv ((p.bad+1:Nat):Int)) (Bj 29 (p.bad:Int) underlying3 (by omega)) (qR [.n 0 i] 4 [0,1] λs6 g6 w6 c6=>qE (.tuple #[]) λK=>?_));rw[show p.qY i A c ts=({ p with bad:=p.bad+1 },ts)from(if_neg t).trans (if_pos h2)];have C7:=(((((m.nil ([.n 0 i]:List Tg)).n o).n q).n r).n c5).trans (c6);exact⟨_,rfl,⟨x,lt,tl,K.sr 0 I C7,M.ch C7 (hn:=by simp<;>omega),K.new⟩,((((((m.nil (TN i)).n o).n q).n r).n c5).trans (c6.mono (by simp[TN])))⟩
  .refine qI ((A != 0)) false (by simpa using h2) (qR [] 6 [4,0,4,2] λs8 g8 w8 u=>Af λK=>?_);have b9:NS i nb ob g8 w8 p ls ts:=(nsC I M ((((m.n o).n q).n r).n u) K);refine qC 1 (U5 b9 e8) ?_;rintro F j7 ⟨m0,rfl,b1,O⟩;refine⟨_,rfl,O,?_⟩;have a:=Cg.ed (B:=w.heap.size) (T:=[]) (g:=g8) O;refine qC 3 (F7 (l:=p.ae.take p.done) b1 (by rw[j'];omega) c) ?_;rintro F j8 ⟨rfl,P⟩;refine⟨_,rfl,P,?_⟩;have b:=Cg.ed (B:=w.heap.size) (T:=[]) (g:=g8) P;refine qR [] 1 [] λi8 h0 j9 d=>?_;by_cases h3:c∈p.ae.take p.done
   .refine qI ((decide (c∈p.ae.take p.done))) true (by simpa using h3) (qR [] 8 [16,0,2,4,6,8,0,10,2] λi9 e2 f4 j=>Ct 55 (λg' w' e L=>∃ (b6 b7:Nat),e=[(0,pt nb 0),(4,pt (s4 0) 0),(6,pt b6 0),(7,pt b7 0)]/\L=[⟨nb,.cells (AF i ob p x) 123,.n 0 i,false⟩,⟨ob,.cells #[S3.v lt,S3.v tl] 96,.n 50 0,false⟩,⟨(s4 0),.cells #[iv c.k,iv c.c,iv c.s,iv c.n,iv c.v] 24,.z,false⟩,⟨b6,.cells (stA (doS p.ie c)) 115,.l,false⟩,⟨b7,.cells #[iv (doC p.ie c),iv (doA p.ie c)] 46,.l,false⟩]/\Cg w.heap.size [] g w g' w') (by kernel_rfl) ?_ ?_)
    .intro J hJ;refine Yr 6 11 12 (by kernel_rfl) ?_ ?_ ?_
     .have hB18:=H.ch ((((((((m.trans o).trans q).trans r).trans u).trans a).trans b).trans d).trans j) (by simp);refine qC 6 (DR p.ie c.k c.c c.s c.n c.v f4 (hB18.tn E)) ?_;rintro F k0 ⟨rfl,Q⟩;refine⟨_,rfl,Q,?_⟩;have W:=Cg.ed (B:=w.heap.size) (T:=[]) (g:=e2) Q;refine qR [] 4 [14,16,18,20] λj0 h4 k1 X=>Du 11 12 (by kernel_rfl) ?_ ?_
      .refine qR [] 6 [1,0,25,1,0,27,3,0,29,4,0,30] λb2 h5 k2 c9=>qB [true,true,true,true,true] λz N K=>hJ _ _ _ z _ ⟨(b2 0),(b2 1),rfl,rfl,(((((((((((m.trans o).trans q).trans r).trans u).trans a).trans b).trans d).trans j).trans W).trans X).trans c9)⟩ K
      .refine qR [] 6 [1,0,23,1,0,27,4,0,29,3,0,30] λb4 h6 k3 d0=>NT ?_;exact qB [true,true,true,true,true] λz N K=>hJ _ _ _ z _ ⟨(b4 1),(b4 0),rfl,rfl,(((((((((((m.trans o).trans q).trans r).trans u).trans a).trans b).trans d).trans j).trans W).trans X).trans d0)⟩ K
     .refine qR [] 1 [1,0] λb5 e3 f5 C=>Du 6 12 (by kernel_rfl) ?_ ?_
      .have hB25:=H.ch (((((((((m.trans o).trans q).trans r).trans u).trans a).trans b).trans d).trans j).trans C) (by simp);refine qC 6 (DR p.ie c.k c.c c.s c.n c.v f5 (hB25.tn E)) ?_;rintro F k4 ⟨rfl,R⟩;refine⟨_,rfl,R,?_⟩;have d1:=Cg.ed (B:=w.heap.size) (T:=[]) (g:=e3) R;refine qR [] 9 [14,16,18,20,25,1,0,27,3,0,29,4,0,30] λf0 h7 k5 d2=>qB [true,true,true,true,true] λz N K=>hJ _ _ _ z _ ⟨(b5 0),(f0 0),rfl,rfl,(((((((((((m.trans o).trans q).trans r).trans u).trans a).trans b).trans d).trans j).trans C).trans d1).trans d2)⟩ K
      .refine qR [] 1 [1,0] λf1 e4 f6 Y=>?_;have a4:=H.ch ((((((((((m.trans o).trans q).trans r).trans u).trans a).trans b).trans d).trans j).trans C).trans Y) (by simp);refine qC 6 (DR p.ie c.k c.c c.s c.n c.v f6 (a4.tn E)) ?_;rintro F k6 ⟨rfl,S⟩;refine⟨_,rfl,S,?_⟩;have d3:=Cg.ed (B:=w.heap.size) (T:=[]) (g:=e4) S;refine qR [] 8 [14,16,18,20,27,3,0,29,4,0,30] λj1 h8 k7 d4=>qB [true,true,true,true,true] λz N K=>hJ _ _ _ z _ ⟨(b5 0),(f1 0),rfl,rfl,((((((((((((m.trans o).trans q).trans r).trans u).trans a).trans b).trans d).trans j).trans C).trans Y).trans d3).trans d4)⟩ K
     .refine qR [] 1 [1,0] λb8 e5 f7 D=>Du 6 11 (by kernel_rfl) ?_ ?_
      .have hB34:=H.ch (((((((((m.trans o).trans q).trans r).trans u).trans a).trans b).trans d).trans j).trans D) (by simp);refine qC 6 (DR p.ie c.k c.c c.s c.n c.v f7 (hB34.tn E)) ?_;rintro F k8 ⟨rfl,U⟩;refine⟨_,rfl,U,?_⟩;have d5:=Cg.ed (B:=w.heap.size) (T:=[]) (g:=e5) U;refine qR [] 9 [14,16,18,20,23,1,0,27,4,0,29,3,0,30] λf2 h9 k9 d6=>NT ?_;exact qB [true,true,true,true,true] λz N K=>hJ _ _ _ z _ ⟨(f2 0),(b8 0),rfl,rfl,(((((((((((m.trans o).trans q).trans r).trans u).trans a).trans b).trans d).trans j).trans D).trans d5).trans d6)⟩ K
      .refine qR [] 1 [1,0] λf3 e6 f8 Z=>?_;have a5:=H.ch ((((((((((m.trans o).trans q).trans r).trans u).trans a).trans b).trans d).trans j).trans D).trans Z) (by simp);refine qC 6 (DR p.ie c.k c.c c.s c.n c.v f8 (a5.tn E)) ?_;rintro F l0 ⟨rfl,V⟩;refine⟨_,rfl,V,?_⟩;have d7:=Cg.ed (B:=w.heap.size) (T:=[]) (g:=e6) V;refine qR [] 8 [14,16,18,20,27,4,0,29,3,0,30] λj2 i0 l1 d8=>NT ?_;exact qB [true,true,true,true,true] λz N K=>hJ _ _ _ z _ ⟨(f3 0),(b8 0),rfl,rfl,((((((((((((m.trans o).trans q).trans r).trans u).trans a).trans b).trans d).trans j).trans D).trans Z).trans d7).trans d8)⟩ K
    .rintro g16 w16 _ z16 _ ⟨b6,b7,rfl,rfl,hcc⟩;refine qR [] 5 [2,4] λj3 i1 l2 a0=>?_;rw[show p.qY i A c ts=(p,(ts++[⟨i,c.c,c.s,doC p.ie c,doA p.ie c⟩]))from(if_neg t).trans ((if_neg h2).trans (if_pos h3))];refine qS 3 [false,false,true,true,true] I M (hcc.n a0) (λc0=>R2 c0 e9 c (doC p.ie c) (doA p.ie c)) λi2 l3 l8 g0 g7 a6 a8 d9=>qR [] 1 [] λj4 i3 l4 a1=>qF a6 a8 a1 ((((hcc.nil (TN i)).n a0).trans (d9)).n a1)
   .refine qI ((decide (c∈p.ae.take p.done))) false (by simpa using h3) (qR [] 4 [2] λj5 i4 l5 a2=>?_);rw[show p.qY i A c ts=(p.want c,ts)from(if_neg t).trans ((if_neg h2).trans (if_neg h3))];refine qS 2 [false,false,true] I M ((((((((m.n o).n q).n r).n u).n a).n b).n d).n a2) (λc7=>bB c7 h1 hw c) λi5 l6 l9 g3 g9 a7 a9 e1=>qR [] 1 [] λj6 i6 l7 a3=>qF a7 a9 a3 (((((((((((m.nil (TN i)).n o).n q).n r).n u).n a).n b).n d).n a2).trans (e1)).n a3)
 .refine qI ((!p.up)) true (by simpa using h1) (qE (.tuple #[]) λK=>?_);rw[show p.qY i A c ts=(p,ts)from if_pos (by simpa using h1)];exact⟨_,rfl,(nsC I M m K),(m.nil (TN i))⟩
def Qc(Q:Nat->Bool):Nat->Nat
 | 0=>0
 | k+1=>Qc Q k+(Q k).toNat
theorem j5(Q:Nat->Bool):Qc Q 5=Jp Q:=by simp only[Qc,Jp];omega
theorem bX(Q:Nat->Bool)(k:Nat):Qc Q k<=k:=by
 induction k with
 | zero=>exact A' _
 | succ k ih=>simp only[Qc];cases Q k<;>simp<;>omega
theorem lN{P:Program}{x y:Operand}{t:TypeId}(a b:Int)(d:P.underlying t=some (.int .i64))(h:-9223372036854775808<=a*b/\a*b<=9223372036854775807):(do Go.eqGuard .mul t x y (iv a) (iv b);Go.binOp .mul t (iv a) (iv b):Sem Value).run P W=.ok (iv (a*b)) W:=by
 have c:IntKind.i64.wrap (a*b)=a*b:=by rw[IntKind.wrap_i64];omega
 simp[Go.eqGuard,Go.binOp,go_sem,c]
theorem Sp(h:NS i nb ob g w p ls ts) :
  Calls prog 131 #[pt nb 11] w λe w'=>e=.returned (.bool p.av.qD)/\Bw w w':=by
 obtain⟨x,lt,tl,E,F,G⟩:=h;refine gI (fn:=f131) (TN i) g func131 G (qN E (qO F (qR [] 18 [0] λY P w1 q=>Cc 20 [(3,iv 0),(9,.agg #[.bool (p.av.nn 0),.bool (p.av.nn 1),.bool (p.av.nn 2),.bool (p.av.nn 3),.bool (p.av.nn 4)]),(10,iv 0)] [false,false] [] (λk A w' e L=>∃ (k0 c:Nat),c=Qc p.av.nn k0/\k=5-k0/\k0<=5/\e=[(3,iv (c:Int)),(9,.agg #[.bool (p.av.nn 0),.bool (p.av.nn 1),.bool (p.av.nn 2),.bool (p.av.nn 3),.bool (p.av.nn 4)]),(10,iv (k0:Int))]/\L=[]/\Cg w.heap.size [] g w A w') (by kernel_rfl) (by kernel_rfl) (by kernel_rfl) (by kernel_rfl) 5 (λK=>?_) ?_)))
 .exact⟨0,0,rfl,rfl,by omega,rfl,rfl,q⟩
 .rintro k gr wr _ zr _ ⟨k0,c,hc,rfl,hk0,rfl,rfl,hC⟩ J hJ;have l:=bX p.av.nn k0;refine qR [] 5 [] λZ Q w2 j=>?_;by_cases D:k0<5
  .refine qI ((decide ((k0:Int)<5))) true (P' (by omega)) (qR [] 5 [] λs3 R w3 m=>?_);refine cP 0 (.bool (p.av.nn k0)) (λK=>(by rcases qk D with rfl|rfl|rfl|rfl|rfl<;>kernel_rfl)) (by kernel_rfl) ?_;refine qR [] 6 [] λs4 S w4 n=>?_;by_cases a:p.av.nn k0=true
   .refine qI ((p.av.nn k0)) true a (qR [] 2 [] λs5 T w5 r=>qV 1 (iv ((c:Int)+1)) (Bj 14 (c:Int) underlying3 (by omega)) (qR [] 4 [] λs6 U w6 s=>qV 0 (iv ((k0:Int)+1)) (Bj 10 (k0:Int) underlying3 (by omega)) (qR [] 2 [] λs7 V w7 t=>qB [] λz o K=>hJ (5-(k0+1)) _ _ _ z _ (by omega) ⟨k0+1,(c+1),by simp only[Qc];rw[a,hc];rfl,rfl,by omega,rfl,rfl,hC.trans (((((j.trans m).trans n).trans r).trans s).trans t)⟩ K)))
   .refine qI ((p.av.nn k0)) false (by simpa using a) (qR [] 3 [] λs8 W w8 u=>qV 0 (iv ((k0:Int)+1)) (Bj 10 (k0:Int) underlying3 (by omega)) (qR [] 2 [] λs9 X w9 v=>qB [] λz o K=>hJ (5-(k0+1)) _ _ _ z _ (by omega) ⟨k0+1,c,by simp only[Qc];rw[(by simpa using a:p.av.nn k0=false),hc];rfl,rfl,by omega,rfl,rfl,hC.trans ((((j.trans m).trans n).trans u).trans v)⟩ K))
  .refine qI ((decide ((k0:Int)<5))) false (G' (by omega)) ?_;obtain rfl:k0=5:=by omega
   rw[j5]at hc l
   refine qR [] 4 [] λI B N b=>qV 1 (iv (2*(c:Int))) (lN (x:=(.const (iv 2))) (y:=(.tmp 17)) 2 (c:Int) underlying3 (by omega)) (qR [] 3 [] λM C O d=>?_);rw[show p.av.qD=decide ((5:Int)<2*(c:Int))from by unfold Rnd.qD;rw[<- hc];by_cases H:5<2*c<;>simp[H]<;>omega];exact qE (.bool (decide ((5:Int)<2*(c:Int)))) λK=>⟨rfl,Cg.af (hC.trans ((j.trans b).trans d)) (λ_ _=>O')⟩
structure Svv(w:World)(x:Value)(ls:List (List Vt)):Prop where
 ex:∃ a cap,x=.slice a ls.length cap/\(ls=[]\/∃ b off,a=some ⟨b,off,none⟩/\b<w.heap.size/\∀ (i:Nat) (l:List Vt),ls[i]?=some l->∃ y,w.cell? ⟨b,off+i,none⟩=some y/\Sv w y l)
 len:ls.length<=5864062014634
theorem Svv.shape{x:Value}{b:List (List Vt)}(h:Svv w x b):∃ a cap,x=.slice a b.length cap:=by
 obtain⟨⟨a,cap,e,_⟩,_⟩:=h;exact⟨a,cap,e⟩
theorem Svv.spot{f:List (List Vt)}(h:Svv w (.slice a n cap) f)(i:Nat)(l:List Vt)(d:f[i]?=some l):∃ b off y,a=some ⟨b,off,none⟩/\b<w.heap.size/\w.cell? ⟨b,off+i,none⟩=some y/\Sv w y l:=by
 obtain⟨⟨j,c,e,g⟩,_⟩:=h;simp only[Value.slice.injEq]at e;obtain⟨rfl,rfl,rfl⟩:=e;rcases g with rfl|⟨b,off,rfl,hb,hc⟩
 .simp at d
 .obtain⟨y,h3,h4⟩:=hc i l d;exact⟨b,off,y,rfl,hb,h3,h4⟩
theorem iD{b c:Nat}(d:x.a=some ⟨b,c,none⟩)(j:Nat)(f:j<x.n):(Instr.indexAt 242 x.v (iv (j:Int))).run prog W=.ok (pt b (c+j)) W:=by
 obtain⟨g,i,h⟩:=x;simp only at d f;subst d;exact Nn (P:=prog) (e:=105) (z:=1) underlying242 (by kernel_rfl) (by kernel_rfl) f _ (by rw[qz])
theorem df{u:Vt}(h:Ff (BR (Ae L s) none) b)(a:u.bn≠s):Ff (BR (Ae (L++[u]) s) none) b:=by
 rw[Kb,if_neg a,mI];exact h
theorem de{u:Vt}(h:Ff (BR (Ae L s) none) b)(a:u.bn=s)(c:Ab u.b):Ff (BR (Ae (L++[u]) s) none) (if b.b.lt u.b then u else b):=by
 rw[Kb,if_pos a,RI];exact h.next c
theorem QR{a:List (List Vt)}{d:World}{f:Bool}(h:(G1 a s=b.w/\DZ a s=!decide (b.b.r=0/\b.b.n=0)/\BY a s=0))(g:decide (b.b=Be)=!f)(e:Bw w d):(Ending.returned (.tuple #[.agg #[iv b.w.k,iv b.w.c,iv b.w.s,iv b.w.n,iv b.w.v],.bool f,iv 0]):Ending)=.returned (.tuple #[.agg (cmC (G1 a s)),.bool (DZ a s),.int .i64 (BY a s)])/\Bw w d:=by
 rw[h.1,h.2.1,h.2.2,show decide (b.b.r=0/\b.b.n=0)=decide (b.b=Be)from nf.2 (Bal.eq_iff b.b Be),g,Bool.not_not];exact⟨rfl,e⟩
theorem Zt(x:Value)(ls:List (List Vt))(s:Int)(w:World)(h:Svv w x ls)(ht:NTab w) :
  Calls prog 165 #[x,.int .i64 s] w λe w'=>e=.returned (.tuple #[.agg (cmC (G1 ls s)),.bool (DZ ls s),.int .i64 (BY ls s)])/\Bw w w':=by
 have c5:=h.len;obtain⟨a,P,rfl⟩:=h.shape;obtain⟨y,hy⟩:∃ y:S3,y=⟨a,ls.length,P⟩:=⟨_,rfl⟩;have c7:y.n=ls.length:=by rw[hy]
 rw[show(.slice a ls.length P:Value)=y.v by rw[hy]]at h ⊢
 clear hy;refine tIn [] func165 trivial (tR 10 [1,0] λd _ _=>?_);by_cases G:0<=s/\s<=39
 .refine tC 1 (λF C=>Ew (r:=true) (P' G)) λNz=>?_;rintro _ _ ⟨rfl,W⟩;refine⟨_,_,rfl,W,id,?_⟩;refine tR 16 [1,0] λo _ _=>Fu 52 [(1,iv s),(4,pt (d 0) 0),(7,pt (o 0) 0),(16,S3.v y),(17,iv (y.n:Int)),(18,iv 0)] [true,true] [⟨(d 0),.cells #[iv 0,iv 0,iv 0,iv 0,iv 0] 24,.l,false⟩,⟨(o 0),.cells #[iv 0,iv 0,iv 0,iv 0,iv 0,iv 0,iv 0,iv 0] 164,.l,false⟩] [] (λkk E D f=>∃ (j:Nat) (b:Vt),kk=y.n-j/\E=[(1,iv s),(4,pt (d 0) 0),(7,pt (o 0) 0),(16,S3.v y),(17,iv (y.n:Int)),(18,iv (j:Int))]/\D=[⟨(d 0),.cells #[iv 0,iv 0,iv 0,iv 0,iv 0] 24,.l,false⟩,⟨(o 0),.cells #[iv b.bn,iv b.b.r,iv b.b.n,iv b.w.k,iv b.w.c,iv b.w.s,iv b.w.n,iv b.w.v] 164,.l,false⟩]/\f=[]/\j<=ls.length/\Ff (BR (Ae (ls.take j).flatten s) none) b/\∀ l∈ls.take j,∀ v∈l,Ah v) (y.n) ⟨0,vt0,rfl,rfl,rfl,rfl,by omega,.inl ⟨rfl,rfl⟩,λl L=>(by simp at L)⟩ (λF=>trivial) ?_;rintro k _ _ _ ⟨j,b,rfl,rfl,rfl,rfl,hj,q,O⟩ _ _ _ J I;refine tR 5 [] λc9 _ _=>?_;by_cases h2:j<y.n
  .refine tI ((decide ((j:Int)<(y.n:Int)))) true (P' (by omega)) ?_;obtain⟨l,A⟩:∃ l,ls[j]?=some l:=⟨_,H' (by omega)⟩;obtain⟨bb,S,yl,a1,a0,Z,L⟩:=h.spot j l A;obtain⟨z,rfl⟩:=L.s3;have c8:=L.op.1;have hF:(ls.take (j+1)).flatten=_:=WT ls j l A;have c6:=L.len;refine tR 5 [] λd0 _ _=>tV 0 (pt bb (S+j)) (λF C=>(iD a1 j (by omega))) (tV 1 (S3.v z) (λF C=>(BT underlying105 rfl (((CgQ.af C).cell (p:=⟨bb,S+j,none⟩) a0).trans Z))) (tR 9 [] λd1 _ _=>Fu 52 [(1,iv s),(4,pt (d 0) 0),(7,pt (o 0) 0),(16,S3.v y),(17,iv (y.n:Int)),(18,iv (j:Int)),(22,S3.v z),(23,iv (z.n:Int)),(24,iv 0)] [true,true] [⟨(d 0),.cells #[iv 0,iv 0,iv 0,iv 0,iv 0] 24,.l,false⟩,⟨(o 0),.cells #[iv b.bn,iv b.b.r,iv b.b.n,iv b.w.k,iv b.w.c,iv b.w.s,iv b.w.n,iv b.w.v] 164,.l,false⟩] [] (λkk E D f=>∃ (k:Nat) (b:Vt),kk=z.n-k/\E=[(1,iv s),(4,pt (d 0) 0),(7,pt (o 0) 0),(16,S3.v y),(17,iv (y.n:Int)),(18,iv (j:Int)),(22,S3.v z),(23,iv (z.n:Int)),(24,iv (k:Int))]/\D=[⟨(d 0),.cells #[iv 0,iv 0,iv 0,iv 0,iv 0] 24,.l,false⟩,⟨(o 0),.cells #[iv b.bn,iv b.b.r,iv b.b.n,iv b.w.k,iv b.w.c,iv b.w.s,iv b.w.n,iv b.w.v] 164,.l,false⟩]/\f=[]/\k<=l.length/\Ff (BR (Ae ((ls.take j).flatten++l.take k) s) none) b/\∀ v∈l.take k,Ah v) (z.n) ⟨0,b,rfl,rfl,rfl,rfl,by omega,(by rw[nB,mI];exact q),λv hv=>(by simp at hv)⟩ (λF=>trivial) ?_));rintro k _ _ _ ⟨k,b,rfl,rfl,rfl,rfl,hk,q,N⟩ _ _ _ Jb K;refine tR 5 [] λd2 _ _=>?_;by_cases H:k<z.n
   .refine tI ((decide ((k:Int)<(z.n:Int)))) true (P' (by omega)) ?_;obtain⟨u,V⟩:∃ u,l[k]?=some u:=⟨_,H' (by omega)⟩;obtain⟨W,o2,R⟩:=L.ad (i:=k) (by omega);have Y:=FX l k u V;refine tR 5 [] λd3 _ _=>tV 0 (pt W (o2+8*k)) (λF C=>(UH R k (by omega))) (tV 1 (.agg #[iv u.bn,iv u.b.r,iv u.b.n,iv u.w.k,iv u.w.c,iv u.w.s,iv u.w.n,iv u.w.v]) (λF C=>(dX u ((L.af (CgQ.af C)).at_ R V))) (tR 7 [0,0,2,0,2] λa2 _ _=>?_));by_cases Q:Ah u
    .refine tC1 1 (λF C=>GZ (v:=u) (ht.af (CgQ.af C)) (r:=true) (P' Q)) λ_=>?_;have M:∀ v∈l.take (k+1),Ah v:=aO V N Q;refine tR 9 [2] λa3 _ _=>?_;by_cases T:u.bn=s
     .refine tV 3 (.bool true) (λF C=>(D4 (t:=3) (m:=u.bn) (n:=s) (x:=(.tmp 33)) (y:=(.tmp 34)) (by simpa using T))) (tR 5 [1,2] λa4 _ _=>?_);have B:=de q T Q.2.1;by_cases U:b.b.lt u.b
      .rw[if_pos U]at B
       refine tC1 9 (λF C=>E4 (a:=b.b) (b:=u.b) (r:=true) (P' U)) λ_=>tR 9 [2,1,0] λa5 _ _=>tV 0 (iv ((k:Int)+1)) (λF C=>(Bj 24 (k:Int) underlying3 (by omega))) (tR 2 [] λa6 _ _=>tB K (z.n-(k+1)) (by omega) [true,true,false] ⟨k+1,u,rfl,rfl,rfl,rfl,by omega,by rw[Y,<- mm];exact B,M⟩ (λF=>trivial))
      .rw[if_neg U]at B
       refine tC1 9 (λF C=>E4 (a:=b.b) (b:=u.b) (r:=false) (G' U)) λ_=>tR 6 [] λa7 _ _=>tV 0 (iv ((k:Int)+1)) (λF C=>(Bj 24 (k:Int) underlying3 (by omega))) (tR 2 [] λa8 _ _=>tB K (z.n-(k+1)) (by omega) [true,true,false] ⟨k+1,b,rfl,rfl,rfl,rfl,by omega,by rw[Y,<- mm];exact B,M⟩ (λF=>trivial))
     .refine tV 3 (.bool false) (λF C=>(D4 (t:=3) (m:=u.bn) (n:=s) (x:=(.tmp 33)) (y:=(.tmp 34)) (by simpa using T))) (tR 12 [] λa9 _ _=>tV 0 (iv ((k:Int)+1)) (λF C=>(Bj 24 (k:Int) underlying3 (by omega))) (tR 2 [] λb0 _ _=>tB K (z.n-(k+1)) (by omega) [true,true,false] ⟨k+1,b,rfl,rfl,rfl,rfl,by omega,by rw[Y,<- mm];exact df q T,M⟩ (λF=>trivial)))
    .refine tC1 1 (λF C=>GZ (v:=u) (ht.af (CgQ.af C)) (r:=false) (G' Q)) λ_=>?_;have X:=Tr (ls:=ls) G λg=>Q (g l (mD A) u (mD V));refine tR 10 [0,0] λb1 _ _=>tX λF C=>qE3 4 5 6 24 0 (d 0) #[iv 0,iv 0,iv 0,iv 0,iv 0] (.bool false) (iv 5) λ_=>by rw[X.1,X.2.1,X.2.2];exact⟨rfl,CgQ.af C⟩
   .refine tI ((decide ((k:Int)<(z.n:Int)))) false (G' (by omega)) ?_;rw[mr (show l.length<=k by omega)]at q N
    rw[<- hF]at q
    refine tR 3 [] λb3 _ _=>tV 0 (iv ((j:Int)+1)) (λF C=>(Bj 18 (j:Int) underlying3 (by omega))) (tR 2 [] λb4 _ _=>tB I (y.n-(j+1)) (by omega) [true,true] ⟨j+1,b,rfl,rfl,rfl,rfl,by omega,q,aN A O N⟩ (λF=>trivial))
  .refine tI ((decide ((j:Int)<(y.n:Int)))) false (G' (by omega)) ?_;rw[mr (show ls.length<=j by omega)]at q O
   have hK:=Ff.pick G O q;refine tR 7 [6,0,2,1,4,8] λb5 _ _=>?_;by_cases H:b.b=Be
   .refine KE 52 (λE D f=>∃ (_:Unit),E=[(4,pt (d 0) 0),(5,.bool false),(6,iv 0)]/\D=[⟨(d 0),.cells #[iv b.w.k,iv b.w.c,iv b.w.s,iv b.w.n,iv b.w.v] 24,.l,false⟩,⟨(o 0),.cells #[iv b.bn,iv b.b.r,iv b.b.n,iv b.w.k,iv b.w.c,iv b.w.s,iv b.w.n,iv b.w.v] 164,.l,false⟩]/\f=[]) (λJ I=>?_) ?_
    .refine Fv 3 6 ?_ ?_
     .refine tR 1 [1] λb6 _ _=>tT 5 (.bool false) (λ_=>(IL (x:=(.tmp 49)) (y:=(.tmp 50)) b.b Be H)) (tR 4 [13,0,0,14,16] λb7 _ _=>tD I [true,true] ⟨(),rfl,rfl,rfl⟩ (λF=>trivial))
     .refine tR 2 [0,0,7,1] λb8 _ _=>tT 5 (.bool false) (λ_=>(IL (x:=(.tmp 49)) (y:=(.tmp 50)) b.b Be H)) (tR 3 [14,16] λb9 _ _=>tD I [true,true] ⟨(),rfl,rfl,rfl⟩ (λF=>trivial))
    rintro _ _ _ ⟨_,rfl,rfl,rfl⟩ _ _ _;exact tX λF C=>qE3 4 5 6 24 0 (d 0) #[iv b.w.k,iv b.w.c,iv b.w.s,iv b.w.n,iv b.w.v] (.bool false) (iv 0) λ_=>QR hK (P' H) (CgQ.af C)
   .refine KE 52 (λE D f=>∃ (_:Unit),E=[(4,pt (d 0) 0),(5,.bool true),(6,iv 0)]/\D=[⟨(d 0),.cells #[iv b.w.k,iv b.w.c,iv b.w.s,iv b.w.n,iv b.w.v] 24,.l,false⟩,⟨(o 0),.cells #[iv b.bn,iv b.b.r,iv b.b.n,iv b.w.k,iv b.w.c,iv b.w.s,iv b.w.n,iv b.w.v] 164,.l,false⟩]/\f=[]) (λJ I=>?_) ?_
    .refine Fv 3 6 ?_ ?_
     .refine tR 1 [1] λc0 _ _=>tT 5 (.bool true) (λ_=>(IM (x:=(.tmp 49)) (y:=(.tmp 50)) b.b Be H)) (tR 4 [13,0,0,14,16] λc1 _ _=>tD I [true,true] ⟨(),rfl,rfl,rfl⟩ (λF=>trivial))
     .refine tR 2 [0,0,7,1] λc2 _ _=>tT 5 (.bool true) (λ_=>(IM (x:=(.tmp 49)) (y:=(.tmp 50)) b.b Be H)) (tR 3 [14,16] λc3 _ _=>tD I [true,true] ⟨(),rfl,rfl,rfl⟩ (λF=>trivial))
    rintro _ _ _ ⟨_,rfl,rfl,rfl⟩ _ _ _;exact tX λF C=>qE3 4 5 6 24 0 (d 0) #[iv b.w.k,iv b.w.c,iv b.w.s,iv b.w.n,iv b.w.v] (.bool true) (iv 0) λ_=>QR hK (G' H) (CgQ.af C)
 .refine tC1 1 (λF C=>Ew (r:=false) (G' G)) λ_=>tR 10 [0,0] λc4 _ _=>tX λF C=>qE3 4 5 6 24 0 (d 0) #[iv 0,iv 0,iv 0,iv 0,iv 0] (.bool false) (iv 2) λ_=>by rw[(LT G).1,(LT G).2.1,(LT G).2.2];exact⟨rfl,CgQ.af C⟩
def gz:Gh:=⟨λ_=>.z,λ_=>0⟩
theorem E6{b:Nat}:gz.t b∉([.n 60 0]:List Tg):=by simp[gz]
def QB(x:NX)(k:Nat):List Value:=(List.range k).map λj=>S3.v (x.hv j)
theorem VV(x:NX)(k:Nat):QB x (k+1)=QB x k++[S3.v (x.hv k)]:=by unfold QB;rw[oq,mK];rfl
theorem dJ{τ:Tg}{e:TypeId}{x:NX}{r:Rnd}(h:OwnS g w τ false e 1 y (QB x 5))(A:∀ j,j<5->Sv w (x.hv j).v (r.al j).vs):Svv w y.v (r.gC.map (·.vs)):=by
 have s:=h.len;have t:y.n=5:=by simp[QB]at s;omega
 obtain⟨b,o,i,_⟩:=h.cell (j:=0) (u:=S3.v (x.hv 0)) rfl;refine⟨⟨y.a,y.c,by unfold S3.v;rw[t];rfl,.inr ⟨b,0,o,i,λj l k=>?_⟩⟩,by show 5<=5864062014634;decide⟩;have f:j<5:=by have:=(V'.1 k).1;exact this
 have m:(QB x 5)[j]?=some (S3.v (x.hv j)):=by rcases qk f with rfl|rfl|rfl|rfl|rfl<;>rfl
 obtain⟨B,d,_,q⟩:=h.cell m;rw[o]at d
 simp only[X',Addr.mk.injEq,and_true]at d;subst d;refine⟨S3.v (x.hv j),by rw[mU];exact q,?_⟩;have p:=A j f;rcases qk f with rfl|rfl|rfl|rfl|rfl<;>(simp[Rnd.gC]at k;subst k;exact p)
theorem V7{l:List Cmd}{f:Cmd->Bool}{j:Nat}{c:Cmd}(h:l[j]?=some c):(l.drop j).find? f=if f c then some c else(l.drop (j+1)).find? f:=by
 rw[DX h,oO];split<;>simp_all
theorem K7(h:NS i nb ob g w p ls ts){w0:World}(hB:Base w0 g w)(hT:Tabs w0)(s:Nat)(hq:p.av.fa.length<100000000)(a4:p.ae.length<100000000) :
  Calls prog 132 #[pt nb 0,iv (s:Int)] w λe w'=>e=.returned (.tuple #[.agg (cmC ((p.mv s).getD Vu)),.bool (p.mv s).isSome])/\Bw w w':=by
 obtain⟨x,lt,tl,P,hO,hg⟩:=h;have hQ:=P.fa.rd;have hA:=P.ae.rd;have b8:=hQ.len;have hH:∀ j,j<5->Sv w (x.hv j).v (p.av.al j).vs:=λj Q=>(P.al j Q).s;have a2:Base w0 gz w:=⟨hB.b,λ_ _=>rfl⟩;refine gI (fn:=f132) [.n 60 0] gz func132 (λ_ _=>⟨rfl,rfl⟩) (Cr ⟨nb,.cells (AF i ob p x) 123,.z,false⟩ (λ_=>⟨P.row,rfl,λh=>(by cases h),λh=>absurd rfl h⟩) (by kernel_rfl) ?_);refine qR [] 21 [1,0,0] λa g1 w1 c1=>Cc 63 [(0,pt nb 0),(1,iv (s:Int)),(4,pt (a 0) 0),(6,sn),(19,.agg #[iv ((p.av.al 0).p.r),iv ((p.av.al 0).p.n),S3.v (x.hv 0),iv ((p.av.al 1).p.r),iv ((p.av.al 1).p.n),S3.v (x.hv 1),iv ((p.av.al 2).p.r),iv ((p.av.al 2).p.n),S3.v (x.hv 2),iv ((p.av.al 3).p.r),iv ((p.av.al 3).p.n),S3.v (x.hv 3),iv ((p.av.al 4).p.r),iv ((p.av.al 4).p.n),S3.v (x.hv 4)]),(20,iv 0)] [true,true] [⟨nb,.cells (AF i ob p x) 123,.z,false⟩,⟨(a 0),.cells #[iv 0,iv 0,iv 0,iv 0,iv 0] 24,.l,false⟩] (λk M w' e L=>∃ (k0:Nat) (y:S3),k=5-k0/\k0<=5/\e=[(0,pt nb 0),(1,iv (s:Int)),(4,pt (a 0) 0),(6,S3.v y),(19,.agg #[iv (p.av.al 0).p.r,iv (p.av.al 0).p.n,S3.v (x.hv 0),iv (p.av.al 1).p.r,iv (p.av.al 1).p.n,S3.v (x.hv 1),iv (p.av.al 2).p.r,iv (p.av.al 2).p.n,S3.v (x.hv 2),iv (p.av.al 3).p.r,iv (p.av.al 3).p.n,S3.v (x.hv 3),iv (p.av.al 4).p.r,iv (p.av.al 4).p.n,S3.v (x.hv 4)]),(20,iv (k0:Int))]/\L=[⟨nb,.cells (AF i ob p x) 123,.z,false⟩,⟨(a 0),.cells #[iv 0,iv 0,iv 0,iv 0,iv 0] 24,.l,false⟩]/\OwnS M w' (.n 60 0) false 105 1 y (QB x k0)/\Cg w.heap.size [.n 60 0] gz w M w') (by kernel_rfl) (by kernel_rfl) (by kernel_rfl) (by kernel_rfl) 5 (λK=>?_) ?_
 .exact⟨0,s30,rfl,by omega,rfl,rfl,OwnS.nil _ _ _ _ _ _,(c1.nil [.n 60 0])⟩
 .rintro k gr wr _ zr _ ⟨k0,y,rfl,hk0,rfl,rfl,hy,hC⟩ J hJ;refine qR [] 5 [] λs2 g2 w2 t=>?_;by_cases h1:k0<5
  .refine qI ((decide ((k0:Int)<5))) true (P' (by omega)) (qR [] 5 [] λs3 g3 w3 c3=>?_);refine cP 0 (.agg #[iv (p.av.al k0).p.r,iv (p.av.al k0).p.n,S3.v (x.hv k0)]) (λK=>(by rcases qk h1 with rfl|rfl|rfl|rfl|rfl<;>kernel_rfl)) (by kernel_rfl) ?_;refine qR [] 8 [0,0,2,0,2,0,0] λs4 g4 w4 c4=>?_;have c0:y.n=k0:=by have:=hy.len;simp[QB]at this;omega
   refine K3 4 (x:=y) 242 242 105 1 24 (.slice none 0 0) ⟨(s4 1),0,none⟩ 1 1 [S3.v (x.hv k0)] (((hy.ch t).ch c3).ch c4) (by kernel_rfl) (by kernel_rfl) (by kernel_rfl) underlying242 (by kernel_rfl) (by kernel_rfl) (by decide) (by decide) rfl (by simp[Value.oneCell']) (λK=>Dx K 3 (s4 1) [S3.v (x.hv k0)] 105 .z true (by kernel_rfl)) (by unfold maxLen;omega) (by omega) ?_;intro y5 g5 w5 a5 n5 a0 G5;have c5:=a0 w.heap.size [.n 60 0] (D'.2 rfl);refine qR [] 4 [] λs6 g6 w6 c6=>qV 0 (iv ((k0:Int)+1)) (Bj 20 (k0:Int) underlying3 (by omega)) (qR [] 2 [] λs7 g7 w7 c7=>qB [true,true,false,false] λz K0 K=>hJ (5-(k0+1)) _ _ _ z _ (by omega) ⟨k0+1,y5,rfl,by omega,rfl,rfl,(by rw[VV];exact((a5.ch c6).ch c7)),((((((hC.n t).n c3).n c4).trans c5).n c6).n c7)⟩ K)
  .refine qI ((decide ((k0:Int)<5))) false (G' (by omega)) ?_;obtain rfl:k0=5:=by omega
   refine qR [] 5 [] λs8 g8 w8 F=>?_;have hD:=((hC.n t).n F);have hS:=dJ (r:=p.av) ((hy.ch t).ch F) (λj Q=>(hH j Q).af (hD.af (λ_ _=>E6)));refine qC 2 (Zt _ _ (s:Int) w8 hS ((a2.ch hD).tn hT)) ?_;rintro e' w9 ⟨rfl,b9⟩;refine⟨_,rfl,b9,?_⟩;have Z:=Cg.ed (B:=w.heap.size) (T:=[]) (g:=g8) b9;refine qR [] 15 [0,0,2,0] λd0 a6 e3 o=>?_;by_cases G:(BY (p.av.gC.map (·.vs)) (s:Int))≠0
   .refine qI (((BY (p.av.gC.map (·.vs)) (s:Int)) != 0)) true (by simpa using G) (qR [] 6 [1,0] λd1 a7 e4 R=>?_);rw[show p.mv s=none from if_pos G];exact qE2 4 5 24 1 (a 0) (cmC Vu) (.bool false) λK=>⟨rfl,Cg.af (((((hC.n t).n F).n Z).n o).n R) (λ_ _=>E6)⟩
   .refine qI (((BY (p.av.gC.map (·.vs)) (s:Int)) != 0)) false (by simpa using G) (qR [] 6 [] λd2 a8 e5 C=>?_);by_cases N:(DZ (p.av.gC.map (·.vs)) (s:Int))=true
    .refine qI ((DZ (p.av.gC.map (·.vs)) (s:Int))) true N (qR [] 6 [2,1,0] λd3 a9 e6 S=>?_);rw[show p.mv s=some (G1 (p.av.gC.map (·.vs)) (s:Int))from(if_neg G).trans (if_pos N)];exact qE2 4 5 24 1 (a 0) (cmC (G1 (p.av.gC.map (·.vs)) (s:Int))) (.bool true) λK=>⟨rfl,Cg.af ((((((hC.n t).n F).n Z).n o).n C).n S) (λ_ _=>E6)⟩
    .refine qI ((DZ (p.av.gC.map (·.vs)) (s:Int))) false (by simpa using N) (qR [] 14 [0] λd4 b0 e7 U=>?_);have hX:p.mv s=p.av.fa.find? (λc=>decide (c∉p.ae)):=(if_neg G).trans (if_neg N);refine Cc 63 [(0,pt nb 0),(4,pt (a 0) 0),(46,S3.v x.fa),(47,iv (x.fa.n:Int)),(48,iv 0)] [true,true,false] [⟨nb,.cells (AF i ob p x) 123,.z,false⟩,⟨(a 0),.cells #[iv 0,iv 0,iv 0,iv 0,iv 0] 24,.l,false⟩] (λk M w' e L=>∃ j:Nat,k=p.av.fa.length-j/\j<=p.av.fa.length/\e=[(0,pt nb 0),(4,pt (a 0) 0),(46,S3.v x.fa),(47,iv (x.fa.n:Int)),(48,iv (j:Int))]/\L=[⟨nb,.cells (AF i ob p x) 123,.z,false⟩,⟨(a 0),.cells #[iv 0,iv 0,iv 0,iv 0,iv 0] 24,.l,false⟩]/\(p.av.fa.drop j).find? (λc=>decide (c∉p.ae))=p.mv s/\Cg w.heap.size [.n 60 0] gz w M w') (by kernel_rfl) (by kernel_rfl) (by kernel_rfl) (by kernel_rfl) p.av.fa.length (λK=>?_) ?_
     .exact⟨0,rfl,by omega,rfl,rfl,by rw[hX];rfl,((((((hC.n t).n F).n Z).n o).n C).n U)⟩
     .rintro k gr wr _ zr _ ⟨j,rfl,Q,rfl,rfl,hI,hC2⟩ J hJ;refine qR [] 5 [] λd5 b1 e8 d=>?_;by_cases h4:j<p.av.fa.length
      .refine qI ((decide ((j:Int)<(x.fa.n:Int)))) true (P' (by omega)) ?_;obtain⟨c,H⟩:∃ c,p.av.fa[j]?=some c:=⟨_,H' h4⟩;obtain⟨bx,ox,I⟩:=hQ.addr h4;rw[V7 H]at hI
       refine qR [] 5 [] λd6 b2 e9 m=>qV 0 (pt bx (ox+5*j)) (Rb I j (by omega)) ?_;have a3:=hQ.af (((hC2.n d).n m).af (λ_ _=>E6));refine qV 1 (.agg #[iv c.k,iv c.c,iv c.s,iv c.n,iv c.v]) (ZD c λq_ u hu=>a3.cellAt I H hu) (qR [] 11 [0,0,2,0,8,0,2,4,6,8,0,10,2] λd7 a1 f0 q=>qC 6 (F7 (l:=p.ae) (hA.af ((((hC2.n d).n m).n q).af (λ_ _=>E6))) a4 c) ?_);rintro e' f1 ⟨rfl,A⟩;refine⟨_,rfl,A,?_⟩;have D:=Cg.ed (B:=w.heap.size) (T:=[]) (g:=a1) A;refine qR [] 2 [14] λd8 b3 f2 E=>?_;by_cases O:c∈p.ae
       .refine qI ((!(decide (c∈p.ae)))) false (by simpa using O) (qR [] 3 [] λd9 b4 f3 V=>qV 0 (iv ((j:Int)+1)) (Bj 48 (j:Int) underlying3 (by omega)) (qR [] 2 [] λe0 b5 f4 W=>qB [true,true,false] λz K0 K=>hJ (p.av.fa.length-(j+1)) _ _ _ z _ (by omega) ⟨j+1,rfl,by omega,rfl,rfl,(by rw[<- hI,if_neg (by simpa using O)]),(((((((hC2.n d).n m).n q).n D).n E).n V).n W)⟩ K))
       .refine qI ((!(decide (c∈p.ae)))) true (by simpa using O) (qR [] 6 [2,1,0] λe1 b6 f5 X=>?_);rw[if_pos (by simpa using O)]at hI
        rw[<- hI];exact qE2 4 5 24 1 (a 0) (cmC c) (.bool true) λK=>⟨rfl,Cg.af ((((((hC2.n d).n m).n q).n D).n E).n X) (λ_ _=>E6)⟩
      .refine qI ((decide ((j:Int)<(x.fa.n:Int)))) false (G' (by omega)) (qR [] 7 [1,0] λe2 b7 f6 Y=>?_);obtain rfl:j=p.av.fa.length:=by omega
       rw[nR]at hI
       rw[<- hI];exact qE2 4 5 24 1 (a 0) (cmC Vu) (.bool false) λK=>⟨rfl,Cg.af ((hC2.n d).n Y) (λ_ _=>E6)⟩
theorem NN(h:NS i nb ob g w p ls ts){b:Bool}(a:p.av.qD=b) :
  Calls prog 131 #[pt nb 11] w λe w'=>e=.returned (.bool b)/\Bw w w':=by subst a;exact Sp h
theorem QE(h:NS i nb ob g w p ls ts){b:World}(c:Base b g w)(d:Tabs b)(s:Nat)(j:p.av.fa.length<100000000)(a:p.ae.length<100000000){o:Option Cmd}(f:p.mv s=o) :
  Calls prog 132 #[pt nb 0,iv (s:Int)] w λe w'=>e=.returned (.tuple #[.agg (cmC (o.getD Vu)),.bool o.isSome])/\Bw w w':=by subst f;exact K7 h c d s j a
theorem bq(p:Nod)(v:Vt):(p.bN v).1.av=p.av:=by
 unfold Nod.bN;repeat' split
 all_goals rfl
theorem QV(h:NS i nb ob g w p ls ts){w0:World}(hB:Base w0 g w)(hT:Tabs w0)(hq:p.av.fa.length<100000000)(V:p.ae.length<100000000)(hb:p.br.length<100000000)(a9:p.vo.vs.length<100000000) :
  Calls prog 89 #[pt nb 0] w (NP i nb ob g w (.tuple #[]) p.cl ls ts):=by
 obtain⟨x,lt,tl,m,o,hg⟩:=h;have hn:x.ae.n=p.ae.length:=m.ae.num;refine gI (fn:=f89) (TN i) g func89 hg (qN m (qO o (qR [] 18 [0,0,2,0,2] λs1 g1 w1 j=>?_)));by_cases h1:p.leads=false
 .refine Af λK=>?_;have N3:NS i nb ob g1 w1 p ls ts:=(nsC m o j K);refine qC 1 (Fl N3 h1) ?_;rintro Q w4 ⟨rfl,b4⟩;refine⟨_,rfl,b4,?_⟩;have c4:=Cg.ed (B:=w.heap.size) (T:=[]) (g:=g1) b4;refine qR [] 21 [] λs5 g5 w5 c5=>qE (.tuple #[]) λK=>?_;rw[show p.cl=p from by unfold Nod.cl;rw[if_pos (.inl h1)]];exact⟨_,rfl,(nsC m o ((j.n c4).n c5) K),(((j.nil (TN i)).n c4).n c5)⟩
 .have h10:p.leads=true:=by simpa using h1
  refine Af λK=>?_;have N8:NS i nb ob g1 w1 p ls ts:=(nsC m o j K);refine qC 1 (Fl N8 h10) ?_;rintro Q w9 ⟨rfl,b9⟩;refine⟨_,rfl,b9,?_⟩;have k:=Cg.ed (B:=w.heap.size) (T:=[]) (g:=g1) b9;refine qR [] 6 [2] λc8 t Z a=>?_;by_cases h2:p.av.qD=false
  .refine Af λK=>?_;have a1:NS i nb ob t Z p ls ts:=(nsC m o ((j.n k).n a) K);refine qC 8 (NN a1 h2) ?_;rintro Q d8 ⟨rfl,D⟩;refine⟨_,rfl,D,?_⟩;have H:=Cg.ed (B:=w.heap.size) (T:=[]) (g:=t) D;refine qR [] 14 [] λd0 b5 d9 I=>qE (.tuple #[]) λK=>?_;rw[show p.cl=p from by unfold Nod.cl;rw[if_pos (.inr (.inl h2))]];exact⟨_,rfl,(nsC m o ((((j.n k).n a).n H).n I) K),(((((j.nil (TN i)).n k).n a).n H).n I)⟩
  .have h20:p.av.qD=true:=by simpa using h2
   refine Af λK=>?_;have a2:NS i nb ob t Z p ls ts:=(nsC m o ((j.n k).n a) K);refine qC 8 (NN a2 h20) ?_;rintro Q e0 ⟨rfl,E⟩;refine⟨_,rfl,E,?_⟩;have b:=Cg.ed (B:=w.heap.size) (T:=[]) (g:=t) E;refine qR [] 13 [2,0] λd1 b6 e1 d=>?_;by_cases h3:(x.ae.n:Int)<(p.av.next:Int)
   .have h30:p.ae.length<p.av.next:=by omega
    refine qI ((decide ((x.ae.n:Int)<(p.av.next:Int)))) true (P' (by omega)) (qE (.tuple #[]) λK=>?_);rw[show p.cl=p from by unfold Nod.cl;rw[if_pos (.inr (.inr h30))]];exact⟨_,rfl,(nsC m o ((((j.n k).n a).n b).n d) K),(((((j.nil (TN i)).n k).n a).n b).n d)⟩
   .refine qI ((decide ((x.ae.n:Int)<(p.av.next:Int)))) false (G' (by omega)) ?_;have A:¬ (p.leads=false\/p.av.qD=false\/p.ae.length<p.av.next):=by rintro(h|h|h);exact h1 h;exact h2 h;omega
    refine qR [] 5 [2] λd2 u a0 e=>?_;cases ho:p.mv x.ae.n with
    | none =>
     refine Af λK=>?_;have a3:NS i nb ob u a0 p ls ts:=(nsC m o (((((j.n k).n a).n b).n d).n e) K);refine qC 2 (QE a3 (hB.ch ((((((j.nil (TN i)).n k).n a).n b).n d).n e) (Bx i)) hT x.ae.n hq V ho) ?_;rintro Q e2 ⟨rfl,F⟩;refine⟨_,rfl,F,?_⟩;have J:=Cg.ed (B:=w.heap.size) (T:=[]) (g:=u) F;refine qR [] 14 [0,0,3,0] λd3 b7 e3 L=>qE (.tuple #[]) λK=>?_;rw[show p.cl=p from by unfold Nod.cl;rw[if_neg A,<- hn,ho]];exact⟨_,rfl,(nsC m o (((((((j.n k).n a).n b).n d).n e).n J).n L) K),((((((((j.nil (TN i)).n k).n a).n b).n d).n e).n J).n L)⟩
    | some c =>
     refine Af λK=>?_;have a4:NS i nb ob u a0 p ls ts:=(nsC m o (((((j.n k).n a).n b).n d).n e) K);refine qC 2 (QE a4 (hB.ch ((((((j.nil (TN i)).n k).n a).n b).n d).n e) (Bx i)) hT x.ae.n hq V ho) ?_;rintro Q e4 ⟨rfl,G⟩;refine⟨_,rfl,G,?_⟩;have q:=Cg.ed (B:=w.heap.size) (T:=[]) (g:=u) G;refine qR [] 34 [0,0,3,0,11,0,2,2,4,6,8,10,12,0,14,3,16,19,0,0,21,4,0,2,4] λX b8 e5 r=>qS 2 [false,false,true,true,true] m o (((((((j.n k).n a).n b).n d).n e).n q).n r) (λa5=>Oj a5 (hB.ch ((((((((j.nil (TN i)).n k).n a).n b).n d).n e).n q).n r) (Bx i)) hT (⟨(x.ae.n:Int),p.av.fv,c⟩:Vt) a9) λc0 e6 b1 W Y v y M=>qR [] 2 [] λd4 c2 e7 s=>?_;by_cases R:(p.bN (⟨(x.ae.n:Int),p.av.fv,c⟩:Vt)).2≠0
     .refine qI (((p.bN (⟨(x.ae.n:Int),p.av.fv,c⟩:Vt)).2 != 0)) true (by simpa using R) (qE (.tuple #[]) λK=>?_);rw[show p.cl=(p.bN (⟨(x.ae.n:Int),p.av.fv,c⟩:Vt)).1 from by rw[UY R];unfold Nod.cl;rw[if_neg A,<- hn,ho];exact if_pos R];exact⟨_,rfl,(nsC v y s K),((((((((((j.nil (TN i)).n k).n a).n b).n d).n e).n q).n r).trans (M)).n s)⟩
     .refine qI (((p.bN (⟨(x.ae.n:Int),p.av.fv,c⟩:Vt)).2 != 0)) false (by simpa using R) (qR [] 5 [0] λd5 c3 e8 N=>qV 2 (iv ((x.ae.n:Int)+1)) (Bj 55 (x.ae.n:Int) underlying3 (by omega)) (qR [.n 0 i] 9 [3,1,0] λd6 a8 b0 O=>?_));rw[show p.cl=Nod.wait { (p.bN (⟨(x.ae.n:Int),p.av.fv,c⟩:Vt)).1 with av:={ (p.bN (⟨(x.ae.n:Int),p.av.fv,c⟩:Vt)).1.av with next:=x.ae.n+1 } } (.prop (⟨(x.ae.n:Int),p.av.fv,c⟩:Vt))from by unfold Nod.cl;rw[if_neg A,<- hn,ho,bq];exact if_neg R];refine Af λK=>?_;obtain⟨z1,z2⟩:=K.rk 0 (s1 0) (.cells #[pt nb 0] 99) false (by kernel_rfl);obtain⟨z3,z4⟩:=K.rk 2 (X 1) (.cells (vtA (⟨(x.ae.n:Int),p.av.fv,c⟩:Vt)) 164) false (by kernel_rfl);have C:=((s.nil ([.n 0 i]:List Tg)).n N).trans (O);have a6:NS i nb ob a8 b0 ({ (p.bN (⟨(x.ae.n:Int),p.av.fv,c⟩:Vt)).1 with av:={ (p.bN (⟨(x.ae.n:Int),p.av.fv,c⟩:Vt)).1.av with next:=x.ae.n+1 } }) ls ts:=⟨b1,W,Y,K.sr 3 v C,y.ch C (hn:=by simp<;>omega),K.new⟩;refine qS0 2 [true,true,true,false,false] (AU a6 (by show(p.bN (⟨(x.ae.n:Int),p.av.fv,c⟩:Vt)).1.br.length<_;rw[Hi];exact hb) _ _ (.prop (⟨(x.ae.n:Int),p.av.fv,c⟩:Vt)) ⟨(s1 0),(X 1),rfl,⟨z1,z2⟩,⟨z3,z4⟩⟩) λc6 e9 f1 b2 b3 S U a7=>qR [] 1 [] λd7 c7 f0 P=>qF S U P ((((((((((((((j.nil (TN i)).n k).n a).n b).n d).n e).n q).n r).trans (M)).n s).n N).trans (O.mono (by simp[TN]))).trans (a7)).n P)
end
end Go.Proofs.YtdjfdfpkkenjbacGreatDoor
