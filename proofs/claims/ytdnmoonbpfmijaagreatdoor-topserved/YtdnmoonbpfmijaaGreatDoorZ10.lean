/- Part 10 of the walk. -/
import Derived.Test.YtdnmoonbpfmijaaGreatDoorZ9
set_option maxRecDepth 100000
set_option maxHeartbeats 4000000
open Go.Proofs.Tryz
set_option linter.unusedVariables false
namespace Go.Proofs.YtdnmoonbpfmijaaGreatDoor
open Go.RowKit
section
variable{fn:Func}{R:Ending->World->Prop}{B:Nat}{T:List Tg}{g:Gh}{w:World}
theorem ik{s:Xs}(d:Nat)(r i:Nat)(c:D9 s d=some (Instr.makeMap 107 none>>=λv=>pure (.value v)))
  (e:(nxt s d undef s.L).o.map Ob.l'=(nxt s d undef s.L).o.map Ob.r')
  (q:∀ b g' w',w.heap.size<=b->AskAt g' w' (.n r i) b (λ_=>none)->(∀ B T,Cg B T g w g' w')->(∀ b,w'.heap.size<=b->g'.t b=.z/\g'.k b=0)->GG prog fn R B T (nxt s d (.map (some b)) s.L).s g' w'):GG prog fn R B T s g w:=by
 refine LK d s.L e (Cr c) λm A j o f=>?_;have u:(Instr.makeMap 107 none).run prog w=.ok (.map (some w.heap.size)) (w.alloc (.map #[] 0)):=by
  simp[Instr.makeMap,go_sem]
 have h:∀ B T,Cg B T g w (Pj g w (.n r i) 0) (w.alloc (.map #[] 0)):=λB T =>
  ⟨rfl,rfl,rfl,by simp,λb a=>.inl (if_neg (by omega)),λb a=>by show _<=(if b=w.heap.size then _ else g.k b);rw[if_neg (by omega)];exact A' _,λb a _ _=>if_neg (by omega),λb a _ _=>heap_alloc_old w _ a,λb a j C=>World.cell?_of_block (w:=w) (heap_alloc_old w _ a)⟩
 have l:∀ b,(w.alloc (.map #[] 0)).heap.size<=b->(Pj g w (.n r i) 0).t b=.z/\(Pj g w (.n r i) 0).k b=0:=λb a=>by
  have p:w.heap.size+1<=b:=by simpa using a
  show(if b=w.heap.size then _ else g.t b)=.z/\(if b=w.heap.size then _ else g.k b)=0;rw[if_neg (by omega),if_neg (by omega)];exact m.new b (by omega)
 refine⟨.map (some w.heap.size),_,Pj g w (.n r i) 0,.inl ?_,m.ch (h _ []) l (by simp),q _ _ _ (A' _) ⟨if_pos rfl,if_pos rfl,[],0,heap_alloc_new _ _,λx y=>absurd y P',oE,oE,λ_=>rfl⟩ h l⟩;rw[DR c f,Sem.run_bind,u,Result.andThen_ok];rfl
end
section
def kx(a:Acc)(y:S3)(b:Nat):Array Value:=((AH 0 0 (Dc.bare true [] 0 a []) (NX.mk s30 y s30 s30 s30 s30 (λ_=>s30) (some b))).toList.drop 6).toArray
variable{E e0 s:Int}{L:List Vt}{W w:World}{b i n nb ob:Nat}{c m:Cmd}{g:Gh}{ls:List Let}{p:Nod}{ts:List Tol}{u:Vt}
theorem Bg(i:Nat)(o:∀ b,w.heap.size<=b->g.t b=.z/\g.k b=0)(a:Acc)(y:S3) :
  Calls prog 34 #[.agg #[iv a.p.r,iv a.p.n,S3.v y]] w λe w'=>∃ (b:Nat) (g':Gh),e=.returned (.agg (kx a y b))/\AskAt g' w' (.n 5 i) b (λ_=>none)/\(∀ b,w'.heap.size<=b->g'.t b=.z/\g'.k b=0)/\Cg w.heap.size [] g w g' w':=by
 refine gI (fn:=f34) [] g func34 o (qR [] 8 [0,0,1,0,0] λs u C l=>ik 1 5 i (by kernel_rfl) (by kernel_rfl) ?_);intro h x D q j c B;have m:=c w.heap.size [];refine qR [] 3 [1,0] λs3 A E d=>qE1 2 109 1 (s 1) (kx a y h) λK=>⟨h,_,rfl,(j.ch d),K.new,((l.trans m).trans d)⟩
theorem Pends.nil(g:Gh)(w:World)(nb:Nat):Pends g w nb [] []:=⟨rfl,λk v q h=>by cases h⟩
theorem XZ(h:NS i nb ob g w p ls ts)(k:Int)(G:-9223372036854775808<=k)(H:k<=9223372036854775807) :
  Calls prog 40 #[pt nb 0,iv k] w (NP i nb ob g w (.tuple #[]) (if p.up then p.mv k else p) ls ts):=by
 obtain⟨x,lt,P,u,y,Z⟩:=h;refine gI (fn:=f40) (TN i) g func40 Z (qN u (qO y (qR [] 9 [0] λs1 g1 w1 b=>?_)));by_cases q:p.up=true
 .refine qI ((!p.up)) false (by simpa using q) ?_;rw[if_pos q];refine qR [] 8 [0] λs2 O w2 c=>Af λKq=>?_;have X:=(u.tape.ch (b.trans c)).s;have W:∀ z,w2.heap.size<=z->O.t z=.z:=λz hz=>(Kq.new z hz).1;refine qC 5 (XY (s:=p.sy) (k:=k) X G H) ?_;rintro e' w3 ⟨A,rfl,m,I,N⟩;refine⟨_,rfl,N,?_⟩;have o:=Cg.ed (B:=w.heap.size) (T:=[]) (g:=O) N;have a0:=Fi m;have M:FSl _ _ A _:=⟨m,λhl a Y=>W _ (I hl a Y)⟩;refine qR [] 13 [0,0,2,0] λs4 g4 w4 j=>?_;by_cases r:Gx p.d p.sy k≠0
  .refine qI (((Gx p.d p.sy k) != 0)) true (by simpa using r) (qE (.tuple #[]) λK=>?_);rw[show p.mv k=p from if_pos r];exact⟨_,rfl,(nsC u y (((b.n c).n o).n j) K),((((b.nil (TN i)).n c).n o).n j)⟩
  .refine qI (((Gx p.d p.sy k) != 0)) false (by simpa using r) (qR [] 8 [7,0,2,4,8,10,12] λs7 V w7 E=>Cv 33 (λR w' e L=>e=[(0,pt nb 0)]/\L=[⟨nb,.cells (AH i ob (p.bare false (KD p.d p.sy k) (KE p.d p.sy k) Ej []) (NX.mk A s30 s30 s30 s30 s30 (λ_=>s30) none)) 114,.n 0 i,false⟩,⟨ob,.cells #[S3.v lt,S3.v P] 86,.n 50 0,false⟩,⟨(s4 0),.cells #[S3.v A,iv (KE p.d p.sy k)] 112,.z,false⟩]/\True/\Cg w.heap.size ([.n 0 i]:List Tg) V w7 R w') (by kernel_rfl) ?_ ?_)
   .intro J hJ
    (exact Dz 3 7 (by kernel_rfl) (by(refine qR [.n 0 i] 9 [2,15,0,1,16,18,21,0,1,22,24,27,0,1] λa1 S a3 C=>?_;exact qB [true,true,true] λz Q K=>hJ _ _ _ z _ ⟨rfl,rfl,trivial,C⟩ K)) (by(refine qR [.n 0 i] 9 [0,1,7,2,16,18,21,0,1,22,24,27,0,1] λa2 U a4 D=>?_;exact qB [true,true,true] λz Q K=>hJ _ _ _ z _ ⟨rfl,rfl,trivial,D⟩ K)))
   rintro g8 w8 _ z8 _ ⟨rfl,rfl,_,F⟩;refine qE (.tuple #[]) λK=>?_;rw[show p.mv k=(p.bare false (KD p.d p.sy k) (KE p.d p.sy k) Ej [])from if_neg r];exact⟨_,rfl,⟨(NX.mk A s30 s30 s30 s30 s30 (λ_=>s30) none),lt,P,K.nd 0 (((M.ch j).ch E).ch F) ⟨Sv.nil _,λh=>absurd rfl h⟩ (λ_ _=>⟨Sv.nil _,λh=>absurd rfl h⟩) ⟨[],OwnS.nil _ _ _ _ _ _,Pends.nil _ _ _⟩ (OwnS.nil _ _ _ _ _ _) (OwnS.nil _ _ _ _ _ _) (OwnS.nil _ _ _ _ _ _) rfl (λh=>by cases h),y.ch ((((((b.nil ([.n 0 i]:List Tg)).n c).n o).n j).n E).trans (F)) (hn:=by simp<;>omega),K.new⟩,((((((b.nil (TN i)).n c).n o).n j).n E).trans (F.mono (by simp[TN])))⟩
 .refine qI ((!p.up)) true (by simpa using q) (qE (.tuple #[]) λK=>?_);rw[if_neg q];exact⟨_,rfl,(nsC u y b K),(b.nil (TN i))⟩
def nx0(b:Nat):NX:=NX.mk s30 s30 s30 s30 s30 s30 (λ_=>s30) (some b)
theorem QG(d:w.heap[nb]?=some (.cells (AH i ob Dc (nx0 b)) 114))(e:g.t nb=.n 0 i)(c:g.k nb=0)(a:AskAt g w (.n 5 i) b (λ_=>none)):NodeAt g w i nb ob (nx0 b) Dc :=
 ⟨d,e,c,⟨⟨⟨none,0,rfl,A' _,λ_=>rfl,.inl rfl⟩,by simp[Dc],by simp[Dc]⟩,λh=>absurd rfl h⟩,⟨Sv.nil _,λh=>absurd rfl h⟩,λ_ _=>⟨Sv.nil _,λh=>absurd rfl h⟩,⟨[],OwnS.nil _ _ _ _ _ _,Pends.nil _ _ _⟩,OwnS.nil _ _ _ _ _ _,OwnS.nil _ _ _ _ _ _,OwnS.nil _ _ _ _ _ _,a,λ_=>⟨b,rfl⟩⟩
def nbF(a b c d e:Nat):Nat->Nat
 | 0=>a
 | 1=>b
 | 2=>c
 | 3=>d
 | _=>e
theorem LY(hg:∀ b,w.heap.size<=b->g.t b=.z/\g.k b=0) :
  Calls prog 18 #[] w λe w'=>∃ (mb tb ob:Nat) (nb:Nat->Nat) (g':Gh),e=.returned (pt mb 0)/\MS mb tb ob nb g' w' As/\Cg w.heap.size [.n 70 0] g w g' w':=by
 refine gI (fn:=f18) [.n 70 0] g func18 hg (qR [] 8 [52,0] λa g1 w1 c1=>Af λK=>qG 2 [.n 70 0] [true] (TS K.new) ?_);rintro R w2 ⟨tb,g2,rfl,A2,n2,T⟩;refine⟨_,g2,rfl,T,n2,?_⟩;replace T:=T.ret (B:=w.heap.size);refine qR [] 10 [1,0] λs3 g3 w3 c3=>fR 5 27 [(1,pt (s3 0) 0),(8,iv 0)] [true,true] [⟨(a 0),.cells #[sn,sn] 86,.n 50 0,false⟩,⟨(s3 0),.cells #[.pointer none,.pointer none,.pointer none,.pointer none,.pointer none,pt (a 0) 0,.map (some tb)] 92,.l,false⟩] (by kernel_rfl) (by kernel_rfl) (by kernel_rfl) (by kernel_rfl) λN E z=>qR [] 25 [14,0,2,4,6,8,10,12,1,14,22,24] λs5 g5 w5 c5=>Af λK=>qG 8 [] [true,true] (Bg 0 K.new Ej s30) ?_;rintro R w6 ⟨L,g6,rfl,A6,n6,Q⟩;refine⟨_,g6,rfl,Q,n6,?_⟩;replace Q:=Q.ret (B:=w.heap.size);refine qR [] 10 [18,21,2,0,26,29,1,0] λA g7 w7 X=>ER (N 5) 27 [(1,pt (s3 0) 0),(8,iv 1)] [true,true,true] [⟨(a 0),.cells #[sn,sn] 86,.n 50 0,false⟩,⟨(s3 0),.cells #[pt (A 0) 0,.pointer none,.pointer none,.pointer none,.pointer none,pt (a 0) 0,.map (some tb)] 92,.l,false⟩,⟨(A 0),.cells (AH 0 (a 0) Dc (nx0 L)) 114,.n 0 0,false⟩] (by kernel_rfl) (by kernel_rfl) (by kernel_rfl) (by kernel_rfl) (by kernel_rfl) λz S K=>E 4 _ _ _ _ _ ?_ K;refine qR [] 25 [14,0,2,4,6,8,10,12,1,14,22,24] λs8 g8 w8 Y=>Af λK=>qG 8 [] [true,true,true] (Bg 1 K.new Ej s30) ?_;rintro R w9 ⟨P,g9,rfl,A9,n9,M⟩;refine⟨_,g9,rfl,M,n9,?_⟩;replace M:=M.ret (B:=w.heap.size);refine qR [] 10 [18,21,2,1,26,29,1,0] λc a5 c0 H=>ER (N 4) 27 [(1,pt (s3 0) 0),(8,iv 2)] [true,true,true,true] [⟨(a 0),.cells #[sn,sn] 86,.n 50 0,false⟩,⟨(s3 0),.cells #[pt (A 0) 0,pt (c 0) 0,.pointer none,.pointer none,.pointer none,pt (a 0) 0,.map (some tb)] 92,.l,false⟩,⟨(A 0),.cells (AH 0 (a 0) Dc (nx0 L)) 114,.n 0 0,false⟩,⟨(c 0),.cells (AH 1 (a 0) Dc (nx0 P)) 114,.n 0 1,false⟩] (by kernel_rfl) (by kernel_rfl) (by kernel_rfl) (by kernel_rfl) (by kernel_rfl) λz S K=>E 3 _ _ _ _ _ ?_ K;refine qR [] 25 [14,0,2,4,6,8,10,12,1,14,22,24] λb4 a6 c4 I=>Af λK=>qG 8 [] [true,true,true,true] (Bg 2 K.new Ej s30) ?_;rintro R d0 ⟨G,Z,rfl,U,a2,p⟩;refine⟨_,Z,rfl,p,a2,?_⟩;replace p:=p.ret (B:=w.heap.size);refine qR [] 10 [18,21,2,2,26,29,1,0] λj a7 d1 C=>ER (N 3) 27 [(1,pt (s3 0) 0),(8,iv 3)] [true,true,true,true,true] [⟨(a 0),.cells #[sn,sn] 86,.n 50 0,false⟩,⟨(s3 0),.cells #[pt (A 0) 0,pt (c 0) 0,pt (j 0) 0,.pointer none,.pointer none,pt (a 0) 0,.map (some tb)] 92,.l,false⟩,⟨(A 0),.cells (AH 0 (a 0) Dc (nx0 L)) 114,.n 0 0,false⟩,⟨(c 0),.cells (AH 1 (a 0) Dc (nx0 P)) 114,.n 0 1,false⟩,⟨(j 0),.cells (AH 2 (a 0) Dc (nx0 G)) 114,.n 0 2,false⟩] (by kernel_rfl) (by kernel_rfl) (by kernel_rfl) (by kernel_rfl) (by kernel_rfl) λz S K=>E 2 _ _ _ _ _ ?_ K;refine qR [] 25 [14,0,2,4,6,8,10,12,1,14,22,24] λb5 a8 d2 D=>Af λK=>qG 8 [] [true,true,true,true,true] (Bg 3 K.new Ej s30) ?_;rintro R d3 ⟨J,a0,rfl,V,a3,o⟩;refine⟨_,a0,rfl,o,a3,?_⟩;replace o:=o.ret (B:=w.heap.size);refine qR [] 10 [18,21,2,3,26,29,1,0] λu a9 d4 x=>ER (N 2) 27 [(1,pt (s3 0) 0),(8,iv 4)] [true,true,true,true,true,true] [⟨(a 0),.cells #[sn,sn] 86,.n 50 0,false⟩,⟨(s3 0),.cells #[pt (A 0) 0,pt (c 0) 0,pt (j 0) 0,pt (u 0) 0,.pointer none,pt (a 0) 0,.map (some tb)] 92,.l,false⟩,⟨(A 0),.cells (AH 0 (a 0) Dc (nx0 L)) 114,.n 0 0,false⟩,⟨(c 0),.cells (AH 1 (a 0) Dc (nx0 P)) 114,.n 0 1,false⟩,⟨(j 0),.cells (AH 2 (a 0) Dc (nx0 G)) 114,.n 0 2,false⟩,⟨(u 0),.cells (AH 3 (a 0) Dc (nx0 J)) 114,.n 0 3,false⟩] (by kernel_rfl) (by kernel_rfl) (by kernel_rfl) (by kernel_rfl) (by kernel_rfl) λz S K=>E 1 _ _ _ _ _ ?_ K;refine qR [] 25 [14,0,2,4,6,8,10,12,1,14,22,24] λb7 b0 d5 y=>Af λK=>qG 8 [] [true,true,true,true,true,true] (Bg 4 K.new Ej s30) ?_;rintro R d6 ⟨O,a1,rfl,W,a4,d⟩;refine⟨_,a1,rfl,d,a4,?_⟩;replace d:=d.ret (B:=w.heap.size);refine qR [] 10 [18,21,2,4,26,29,1,0] λF b1 d7 q=>ER (N 1) 27 [(1,pt (s3 0) 0),(8,iv 5)] [true,true,true,true,true,true,true] [⟨(a 0),.cells #[sn,sn] 86,.n 50 0,false⟩,⟨(s3 0),.cells #[pt (A 0) 0,pt (c 0) 0,pt (j 0) 0,pt (u 0) 0,pt (F 0) 0,pt (a 0) 0,.map (some tb)] 92,.l,false⟩,⟨(A 0),.cells (AH 0 (a 0) Dc (nx0 L)) 114,.n 0 0,false⟩,⟨(c 0),.cells (AH 1 (a 0) Dc (nx0 P)) 114,.n 0 1,false⟩,⟨(j 0),.cells (AH 2 (a 0) Dc (nx0 G)) 114,.n 0 2,false⟩,⟨(u 0),.cells (AH 3 (a 0) Dc (nx0 J)) 114,.n 0 3,false⟩,⟨(F 0),.cells (AH 4 (a 0) Dc (nx0 O)) 114,.n 0 4,false⟩] (by kernel_rfl) (by kernel_rfl) (by kernel_rfl) (by kernel_rfl) (by kernel_rfl) λz S K=>E 0 _ _ _ _ _ ?_ K;refine qR [] 12 [] λb8 b2 d8 r=>kf 1 (s3 0) (by kernel_rfl) λb3 s=>qE (pt (s3 0) 0) λK=>⟨(s3 0),tb,(a 0),(nbF (A 0) (c 0) (j 0) (u 0) (F 0)),_,rfl,?_,((((((((((((((((((((c1.nil [.n 70 0]).trans T).n c3).n c5).n Q).n X).n Y).n M).n H).n I).n p).n C).n D).n o).n x).n y).n d).n q).n r).n s)⟩;obtain⟨z1,z2⟩:=K.rY 1 (s3 0) (.cells (mtA (nbF (A 0) (c 0) (j 0) (u 0) (F 0)) (a 0) tb) 92) false (by kernel_rfl);obtain⟨o1,o2,o3⟩:=K.rZ 0 (a 0) (.cells #[S3.v s30,S3.v s30] 86) 50 0 (by kernel_rfl);obtain⟨q0,r0,t0⟩:=K.rZ 2 (A 0) (.cells (AH 0 (a 0) Dc (nx0 L)) 114) 0 0 (by kernel_rfl);obtain⟨q1,r1,t1⟩:=K.rZ 3 (c 0) (.cells (AH 1 (a 0) Dc (nx0 P)) 114) 0 1 (by kernel_rfl);obtain⟨q2,r2,t2⟩:=K.rZ 4 (j 0) (.cells (AH 2 (a 0) Dc (nx0 G)) 114) 0 2 (by kernel_rfl);obtain⟨q3,r3,t3⟩:=K.rZ 5 (u 0) (.cells (AH 3 (a 0) Dc (nx0 J)) 114) 0 3 (by kernel_rfl);obtain⟨q4,r4,t4⟩:=K.rZ 6 (F 0) (.cells (AH 4 (a 0) Dc (nx0 O)) 114) 0 4 (by kernel_rfl);refine⟨⟨z1,z2⟩,((((((((((((((((((A2.ch c3).ch c5).ch Q).ch X).ch Y).ch M).ch H).ch I).ch p).ch C).ch D).ch o).ch x).ch y).ch d).ch q).ch r).ch s),λi hi=>?_,⟨s30,s30,o1,o2,o3,⟨[],OwnS.nil _ _ _ _ _ _,⟨rfl,λk b m h=>(by cases h)⟩⟩,OwnS.nil _ _ _ _ _ _⟩,K.new⟩;rcases rC hi with rfl|rfl|rfl|rfl|rfl
 .exact⟨_,QG q0 r0 t0 (((((((((((((((A6.ch X).ch Y).ch M).ch H).ch I).ch p).ch C).ch D).ch o).ch x).ch y).ch d).ch q).ch r).ch s)⟩
 .exact⟨_,QG q1 r1 t1 ((((((((((((A9.ch H).ch I).ch p).ch C).ch D).ch o).ch x).ch y).ch d).ch q).ch r).ch s)⟩
 .exact⟨_,QG q2 r2 t2 (((((((((U.ch C).ch D).ch o).ch x).ch y).ch d).ch q).ch r).ch s)⟩
 .exact⟨_,QG q3 r3 t3 ((((((V.ch x).ch y).ch d).ch q).ch r).ch s)⟩
 .exact⟨_,QG q4 r4 t4 (((W.ch q).ch r).ch s)⟩
theorem bS(h:NS i nb ob g w p ls ts)(N:p.up=true)(hw:p.bn.length<100000000)(c:Cmd) :
  Calls prog 73 #[pt nb 0,.agg #[iv c.k,iv c.c,iv c.s,iv c.n,iv c.v]] w (NP i nb ob g w (.tuple #[]) (p.want c) ls ts):=by
 obtain⟨x,lt,T,d,J,Y⟩:=h;obtain⟨j,q⟩:=d.si N;obtain⟨o,rfl⟩:∃ o:NX,x={ o with cl:=some j }:=⟨x,by cases x;simp only at q;subst q;rfl⟩;clear q;have R:AskAt g w (.n 5 i) j p.cl:=d.sf rfl;refine gI (fn:=f73) (TN i) g func73 Y (qN d (qO J ?_));obtain⟨A,y,Q,P,M,L⟩:=id R;refine IC j _ 5 i M A y (by kernel_rfl) ?_;refine qR [] 13 [0,0,13,0,2,4,6,8,0,10,3] λs1 g1 w1 t=>qU 6 (.tuple #[.agg #[iv ((p.cl c).getD Bf).r,iv ((p.cl c).getD Bf).n],.bool (p.cl c).isSome]) (λW X=>(ZR (g:=g) (τ:=.n 5 i) (b:=j) (f:=p.cl) ⟨A,y,Q,P,Ba.at (X rfl) 2 j (.map (Q.map mkA).toArray P) (.n 5 i) (by kernel_rfl),L⟩ c)) (qR [] 11 [14,16,18,21,0,0,23,4,0,24] λs2 g2 w2 u=>?_);by_cases E:(p.cl c).isSome=true
 .refine qI ((p.cl c).isSome) true E (qE (.tuple #[]) λK=>?_);rw[show p.want c=p from if_pos E];have O:=t.n u;exact⟨_,rfl,⟨({ o with cl:=some j }:NX),lt,T,d.ch O,J.ch O,K.new⟩,((t.nil (TN i)).n u)⟩
 .refine qI ((p.cl c).isSome) false (by simpa using E) (ID [true,true,false,true,true] ?_);have Z:o.bn.n=p.bn.length:=d.bn.num;refine qR [] 11 [12,0,2,4,6,8,10,0,12,2,15,0,0] λS g5 w5 B=>KG 8 (x:=({ o with cl:=some j }:NX).bn) 35 35 40 5 40 (.agg #[iv 0,iv 0,iv 0,iv 0,iv 0]) ⟨(S 0),0,none⟩ 1 1 [iv c.k,iv c.c,iv c.s,iv c.n,iv c.v] (d.bn.ch ((t.trans u).trans B) (by simp) (by simp)) (by kernel_rfl) (by kernel_rfl) (by kernel_rfl) underlying35 (by kernel_rfl) (by kernel_rfl) (by decide) (by decide) rfl (by simp[Value.oneCell']) (λK=>C6 K 4 (S 0) [iv c.k,iv c.c,iv c.s,iv c.n,iv c.v] 40 .z true (by kernel_rfl)) (by show o.bn.n+1<=_;unfold maxLen;omega) (by show(o.bn.n+1)*40<=_;omega) ?_;intro y6 g6 w6 V n6 H G6;have F:=H w.heap.size [.n 4 i] (D'.2 rfl);refine qR [.n 0 i] 13 [18,20,22,25,0,1,8,0,2,4,6,8,0,10,2,12] λs7 g7 w7 C=>Uy 7 (τ:=.n 5 i) (b:=j) c Bf (((((R.ch t).ch u).ch B).ch F).ch C) (by kernel_rfl) (by kernel_rfl) (by kernel_rfl) ?_;intro w8 U I;have G:=I w.heap.size [.n 5 i] (D'.2 rfl);refine qR [] 1 [] λs9 g9 w9 D=>qE (.tuple #[]) λK=>?_;rw[show p.want c={ p with bn:=p.bn++[c],cl:=BW p.cl c (some Bf) }from if_neg E];have a:=((((((t.nil ([.n 4 i,.n 0 i,.n 5 i]:List Tg)).n u).n B).m F).m C).m G).n D;have e:Tg.z∉([.n 4 i,.n 0 i,.n 5 i]:List Tg):=by simp
  exact⟨_,rfl,⟨({ o with cl:=some j,bn:=y6 }:NX),lt,T,K.nd 0 (d.tape.ch a e) (d.ni.ch a e) (BB d.an a e) (Cf d.bw a e (by simp)) (d.fv.ch a) (d.ae.ch a) (by rw[Cy];exact(((V.ch C).ch G).ch D)) (U.ch D) (λ_=>⟨j,rfl⟩),J.ch a e (by simp<;>omega),K.new⟩,(((((((t.nil (TN i)).n u).n B).trans (F.mono (by simp[TN]))).trans (C.mono (by simp[TN]))).trans (G.mono (by simp[TN]))).n D)⟩
theorem ON(n g:Int)(w:World) :
  Calls prog 146 #[.int .i64 n,.int .i64 g] w λe w'=>e=.returned (.bool (decide (0<=n/\n<=g)))/\w'=w:=by
 by_cases a:0<=n
 .by_cases h1:n<=g
  .rw[M' (show 0<=n/\n<=g from⟨a,h1⟩)];go_enter func146,ntmps146
   go_wp2
   go_ret;exact⟨rfl,rfl⟩
  .rw[E' (show ¬ (0<=n/\n<=g)from λh=>h1 h.2)];go_enter func146,ntmps146
   go_wp2
   go_ret;exact⟨rfl,rfl⟩
 .rw[E' (show ¬ (0<=n/\n<=g)from λh=>a h.1)];go_enter func146,ntmps146
  go_wp2
  go_ret;exact⟨rfl,rfl⟩
theorem TW(s:Sto)(w:World) :
  Calls prog 115 #[.agg (stA s)] w λe w'=>e=.returned (.int .i64 (NI s))/\Bw w w':=by
 have n:Bw w (w.alloc (.cells (stA s) 106)):=(Below.refl _ _).alloc (A' _) _;have p:Bs (w.alloc (.cells (stA s) 106)) w.heap.size s:=heap_alloc_new _ _;generalize x:w.alloc (.cells (stA s) 106)=W at n p;go_enter func115,ntmps115
 go_wp2_with ((with_reducible (refine Fk ?_));(refine GU rfl _ rfl w.heap.size 0 rfl s.V p.tf ?_))
 clear x
 go_loopw [9] (λiv wr=>∃ i:Nat,i<=8/\iv=.int .i64 (i:Int)/\Hid (∀ j,j<i->VaB (s.V j))/\W=wr) (λiv _=>(8-intOf iv).toNat)
 case atStart=>exact⟨0,by omega,rfl,λj r=>by omega,rfl⟩
 case round =>
  obtain⟨i,t,rfl,l,rfl⟩:=hrel;by_cases a:i<8
  .have hlt':(i:Int)<8:=by omega
   have d:=Vf s.V i a;go_wp2_with fail
   refine(ON (s.V i) 1073741824 _).mono ?_;rintro e y ⟨rfl,rfl⟩;by_cases b:0<=s.V i/\s.V i<=1073741824
   .rw[M' b];have o:Hid (∀ j,j<i+1->VaB (s.V j)):=λj r=>by
     by_cases h:j=i
     .subst h;exact b
     .exact l.out j (by omega)
    clear b d l;go_wp2
    go_roundw
    case rel=>exact⟨i+1,by omega,by go_num,o,by simp⟩
    case measure=>simp[intOf];omega
   .rw[E' b];have k:Hid (NI s=5):=Lc (λh=>b (h.1 i a));clear b d l;go_wp2
    go_ret;rw[k.out];exact⟨rfl,n⟩
  .obtain rfl:i=8:=by omega
   clear a t;go_wp2_with ((with_reducible (refine Fk ?_));(refine GU rfl _ rfl w.heap.size 8 rfl s.L p.te ?_))
   go_loopw [18] (λiv wr=>∃ i:Nat,i<=8/\iv=.int .i64 (i:Int)/\Hid (∀ j,j<i->ClB (s.L j) (s.C j) (s.A j))/\W=wr) (λiv _=>(8-intOf iv).toNat)
   case atStart=>exact⟨0,by omega,rfl,λj r=>by omega,rfl⟩
   case round =>
    obtain⟨i,t,rfl,f,rfl⟩:=hrel;by_cases a:i<8
    .have hlt':(i:Int)<8:=by omega
     have d:=Vf s.L i a;go_wp2_with fail
     refine(ON (s.L i) 1048577 _).mono ?_;rintro e y ⟨rfl,rfl⟩;by_cases b:0<=s.L i/\s.L i<=1048577
     .rw[M' b];have u:=p.tm i a;have v:=p.tj i a;have z:(0:Int)<=(i:Int):=by omega
      by_cases m:s.L i=0
      .rw[m];by_cases c:s.C i=0/\s.A i=0
       .rw[c.1]at u
        rw[c.2]at v
        have o:Hid (∀ j,j<i+1->ClB (s.L j) (s.C j) (s.A j)):=λj r=>by
         by_cases h:j=i
         .subst h;exact⟨b,λ_=>c⟩
         .exact f.out j (by omega)
        clear b d c m f;go_wp2
        go_roundw
        case rel=>exact⟨i+1,by omega,by go_num,o,by simp⟩
        case measure=>simp[intOf];omega
       .have k:Hid (NI s=5):=Lc (λh=>c ((h.2 i a).2 m));have q:=dO (s.C i) (s.A i);rw[E' c]at q
        clear b d c m f l;go_wp2
        go_ret;rw[k.out];exact⟨rfl,n⟩
      .have o:Hid (∀ j,j<i+1->ClB (s.L j) (s.C j) (s.A j)):=λj r=>by
        by_cases h:j=i
        .subst h;exact⟨b,λg=>absurd g m⟩
        .exact f.out j (by omega)
       have q:(s.L i==0)=false:=by simpa using m
       clear b d f;go_wp2
       go_roundw
       case rel=>exact⟨i+1,by omega,by go_num,o,by simp⟩
       case measure=>simp[intOf];omega
     .rw[E' b];have k:Hid (NI s=5):=Lc (λh=>b (h.2 i a).1);clear b d l f;go_wp2
      go_ret;rw[k.out];exact⟨rfl,n⟩
    .obtain rfl:i=8:=by omega
     have k:Hid (NI s=0):=eX ⟨l.out,f.out⟩;clear a t f l;go_wp2
     go_ret;rw[k.out];exact⟨rfl,n⟩
theorem lt8(h:i<8):i=0\/i=1\/i=2\/i=3\/i=4\/i=5\/i=6\/i=7:=by omega
theorem gB(s:Sto)(c d:Nat)(q v:Int)(w:World)(x:c<8)(Y:d<8)(q0:0<=q)(q1:q<=1048576) :
  Calls prog 147 #[.agg (stA s),.agg #[iv 1,iv (c:Int),iv q,iv (d:Int),iv v]] w λe w'=>e=.returned (.tuple #[.agg (stA (LZ s ⟨1,c,q,d,v⟩)),.agg #[iv 0,iv (Ny s ⟨1,c,q,d,v⟩)]])/\Bw w w':=by
 have r:∀ b,w.heap.size<=b->gS.t b=.z/\gS.k b=0:=λ_ _=>⟨rfl,rfl⟩;refine gI (fn:=f147) [] gS func147 r (qR [] 26 [1,0,0,0,1,0,1,0,1,0,1] λa Q Z E=>Cv 48 (λg w' e L=>e=[(2,pt (a 0) 0),(3,pt (a 1) 0),(4,pt (a 2) 0),(5,pt (a 3) 0),(6,pt (a 4) 0)]/\L=[⟨(a 0),.cells (stA ({ s with V:=AP s.V d v })) 106,.l,false⟩,⟨(a 1),.cells #[iv 1,iv (c:Int),iv q,iv (d:Int),iv v] 40,.z,false⟩,⟨(a 2),.cells (stA EO) 106,.l,false⟩,⟨(a 3),.cells #[iv 0,iv 0] 45,.l,false⟩,⟨(a 4),.cells #[iv 0,iv 0] 45,.l,false⟩]/\True/\Cg w.heap.size ([]:List Tg) Q Z g w') (by kernel_rfl) ?_ ?_)
 .intro J hJ;rcases lt8 Y with rfl|rfl|rfl|rfl|rfl|rfl|rfl|rfl <;>
  (refine qR [] 8 [1,1,0,0] λa4 g3 w3 G=>?_;exact qB [true,true,true,true,true] λz h K=>hJ _ _ _ z _ ⟨rfl,rfl,trivial,(G.nil ([]:List Tg))⟩ K)
 rintro g2 w2 _ z2 _ ⟨rfl,rfl,_,F⟩;refine qR [] 13 [1,4,0,1,1] λa5 W w4 H=>qV 4 (iv (q+1)) (Ay 37 q underlying3 (by omega)) (Cv 48 (λg w' e L=>e=[(2,pt (a 0) 0),(3,pt (a 1) 0),(4,pt (a 2) 0),(5,pt (a 3) 0),(6,pt (a 4) 0)]/\L=[⟨(a 0),.cells (stA (Sto.mk (AP s.V d v) (AP s.L c (q+1)) s.C s.A s.R)) 106,.l,false⟩,⟨(a 1),.cells #[iv 1,iv (c:Int),iv q,iv (d:Int),iv v] 40,.z,false⟩,⟨(a 2),.cells (stA EO) 106,.l,false⟩,⟨(a 3),.cells #[iv 0,iv 0] 45,.l,false⟩,⟨(a 4),.cells #[iv 0,iv v] 45,.l,false⟩]/\True/\Cg w.heap.size ([]:List Tg) W w4 g w') (by kernel_rfl) ?_ ?_)
 .intro J hJ;rcases lt8 x with rfl|rfl|rfl|rfl|rfl|rfl|rfl|rfl <;>
  (refine qR [] 4 [0,0] λa6 g6 w6 M=>?_;exact qB [true,true,true,true,true] λz h K=>hJ _ _ _ z _ ⟨rfl,rfl,trivial,(M.nil ([]:List Tg))⟩ K)
 rintro g5 w5 _ z5 _ ⟨rfl,rfl,_,I⟩;refine qR [] 2 [] λa7 X w7 N=>Cv 48 (λg w' e L=>e=[(2,pt (a 0) 0),(3,pt (a 1) 0),(4,pt (a 2) 0),(5,pt (a 3) 0),(6,pt (a 4) 0)]/\L=[⟨(a 0),.cells (stA (Sto.mk (AP s.V d v) (AP s.L c (q+1)) (AP s.C c 0) (AP s.A c v) s.R)) 106,.l,false⟩,⟨(a 1),.cells #[iv 1,iv (c:Int),iv q,iv (d:Int),iv v] 40,.z,false⟩,⟨(a 2),.cells (stA EO) 106,.l,false⟩,⟨(a 3),.cells #[iv 0,iv 0] 45,.l,false⟩,⟨(a 4),.cells #[iv 0,iv v] 45,.l,false⟩]/\True/\Cg w.heap.size ([]:List Tg) X w7 g w') (by kernel_rfl) ?_ ?_
 .intro J hJ;rcases lt8 x with rfl|rfl|rfl|rfl|rfl|rfl|rfl|rfl <;>
  (refine qR [] 7 [1,4,0,0] λa8 g9 w9 P=>?_;exact qB [true,true,true,true,true] λz h K=>hJ _ _ _ z _ ⟨rfl,rfl,trivial,(P.nil ([]:List Tg))⟩ K)
 rintro g8 w8 _ z8 _ ⟨rfl,rfl,_,O⟩;refine qR [] 3 [2,0,0] λy p u i=>Cv 48 (λg w' e L=>e=[(2,pt (a 0) 0),(3,pt (a 1) 0),(4,pt (a 2) 0),(5,pt (a 3) 0),(6,pt (a 4) 0)]/\L=[⟨(a 0),.cells (stA (Sto.mk (AP s.V d v) (AP s.L c (q+1)) (AP s.C c 0) (AP s.A c v) s.R)) 106,.l,false⟩,⟨(a 1),.cells #[iv 1,iv (c:Int),iv q,iv (d:Int),iv v] 40,.z,false⟩,⟨(a 2),.cells (stA (Sto.mk (AP s.V d v) (AP s.L c (q+1)) (AP s.C c 0) (AP s.A c v) s.R)) 106,.l,false⟩,⟨(a 3),.cells #[iv 0,iv v] 45,.l,false⟩,⟨(a 4),.cells #[iv 0,iv v] 45,.l,false⟩]/\True/\Cg w.heap.size ([]:List Tg) p u g w') (by kernel_rfl) ?_ ?_
 .intro J hJ
  (exact Dz 1 2 (by kernel_rfl) (by(refine qR [] 4 [4,5,2,0,7,3,0] λB T a1 m=>?_;exact qB [true,true,true,true,true] λz h K=>hJ _ _ _ z _ ⟨rfl,rfl,trivial,(m.nil ([]:List Tg))⟩ K)) (by(refine qR [] 4 [2,0,3,4,7,3,0] λD U a2 o=>?_;exact qB [true,true,true,true,true] λz h K=>hJ _ _ _ z _ ⟨rfl,rfl,trivial,(o.nil ([]:List Tg))⟩ K)))
 rintro S a0 _ a3 _ ⟨rfl,rfl,_,j⟩;exact qE4 4 5 106 45 2 (a 2) 3 (a 3) (stA (LZ s ⟨1,c,q,d,v⟩)) #[iv 0,iv (Ny s ⟨1,c,q,d,v⟩)] λK=>⟨rfl,Cg.af (((((((E.trans F).trans H).trans I).trans N).trans O).trans i).trans j) (λ_ _=>P')⟩
theorem gD(s:Sto)(c d:Nat)(q v:Int)(w:World)(x:c<8)(Y:d<8)(q0:0<=q)(q1:q<=1048576) :
  Calls prog 147 #[.agg (stA s),.agg #[iv 2,iv (c:Int),iv q,iv (d:Int),iv v]] w λe w'=>e=.returned (.tuple #[.agg (stA (LZ s ⟨2,c,q,d,v⟩)),.agg #[iv 0,iv (Ny s ⟨2,c,q,d,v⟩)]])/\Bw w w':=by
 have r:∀ b,w.heap.size<=b->gS.t b=.z/\gS.k b=0:=λ_ _=>⟨rfl,rfl⟩;refine gI (fn:=f147) [] gS func147 r (qR [] 31 [1,0,0,0,1,0,1,0,1,0,1] λa Q Z E=>Cv 48 (λg w' e L=>e=[(2,pt (a 0) 0),(3,pt (a 1) 0),(4,pt (a 2) 0),(5,pt (a 3) 0),(6,pt (a 4) 0)]/\L=[⟨(a 0),.cells (stA s) 106,.l,false⟩,⟨(a 1),.cells #[iv 2,iv (c:Int),iv q,iv (d:Int),iv v] 40,.z,false⟩,⟨(a 2),.cells (stA EO) 106,.l,false⟩,⟨(a 3),.cells #[iv 0,iv 0] 45,.l,false⟩,⟨(a 4),.cells #[iv 0,iv (s.V d)] 45,.l,false⟩]/\True/\Cg w.heap.size ([]:List Tg) Q Z g w') (by kernel_rfl) ?_ ?_)
 .intro J hJ;rcases lt8 Y with rfl|rfl|rfl|rfl|rfl|rfl|rfl|rfl <;>
  (refine qR [] 8 [1,0,4,0] λa4 g3 w3 G=>?_;exact qB [true,true,true,true,true] λz h K=>hJ _ _ _ z _ ⟨rfl,rfl,trivial,(G.nil ([]:List Tg))⟩ K)
 rintro g2 w2 _ z2 _ ⟨rfl,rfl,_,F⟩;refine qR [] 7 [1,1] λa5 W w4 H=>qV 4 (iv (q+1)) (Ay 37 q underlying3 (by omega)) (Cv 48 (λg w' e L=>e=[(2,pt (a 0) 0),(3,pt (a 1) 0),(4,pt (a 2) 0),(5,pt (a 3) 0),(6,pt (a 4) 0)]/\L=[⟨(a 0),.cells (stA (Sto.mk s.V (AP s.L c (q+1)) s.C s.A s.R)) 106,.l,false⟩,⟨(a 1),.cells #[iv 2,iv (c:Int),iv q,iv (d:Int),iv v] 40,.z,false⟩,⟨(a 2),.cells (stA EO) 106,.l,false⟩,⟨(a 3),.cells #[iv 0,iv 0] 45,.l,false⟩,⟨(a 4),.cells #[iv 0,iv (s.V d)] 45,.l,false⟩]/\True/\Cg w.heap.size ([]:List Tg) W w4 g w') (by kernel_rfl) ?_ ?_)
 .intro J hJ;rcases lt8 x with rfl|rfl|rfl|rfl|rfl|rfl|rfl|rfl <;>
  (refine qR [] 4 [0,0] λa6 g6 w6 M=>?_;exact qB [true,true,true,true,true] λz h K=>hJ _ _ _ z _ ⟨rfl,rfl,trivial,(M.nil ([]:List Tg))⟩ K)
 rintro g5 w5 _ z5 _ ⟨rfl,rfl,_,I⟩;refine qR [] 2 [] λa7 X w7 N=>Cv 48 (λg w' e L=>e=[(2,pt (a 0) 0),(3,pt (a 1) 0),(4,pt (a 2) 0),(5,pt (a 3) 0),(6,pt (a 4) 0)]/\L=[⟨(a 0),.cells (stA (Sto.mk s.V (AP s.L c (q+1)) (AP s.C c 0) (AP s.A c (s.V d)) s.R)) 106,.l,false⟩,⟨(a 1),.cells #[iv 2,iv (c:Int),iv q,iv (d:Int),iv v] 40,.z,false⟩,⟨(a 2),.cells (stA EO) 106,.l,false⟩,⟨(a 3),.cells #[iv 0,iv 0] 45,.l,false⟩,⟨(a 4),.cells #[iv 0,iv (s.V d)] 45,.l,false⟩]/\True/\Cg w.heap.size ([]:List Tg) X w7 g w') (by kernel_rfl) ?_ ?_
 .intro J hJ;rcases lt8 x with rfl|rfl|rfl|rfl|rfl|rfl|rfl|rfl <;>
  (refine qR [] 7 [1,4,0,0] λa8 g9 w9 P=>?_;exact qB [true,true,true,true,true] λz h K=>hJ _ _ _ z _ ⟨rfl,rfl,trivial,(P.nil ([]:List Tg))⟩ K)
 rintro g8 w8 _ z8 _ ⟨rfl,rfl,_,O⟩;refine qR [] 3 [2,0,0] λy p u i=>Cv 48 (λg w' e L=>e=[(2,pt (a 0) 0),(3,pt (a 1) 0),(4,pt (a 2) 0),(5,pt (a 3) 0),(6,pt (a 4) 0)]/\L=[⟨(a 0),.cells (stA (Sto.mk s.V (AP s.L c (q+1)) (AP s.C c 0) (AP s.A c (s.V d)) s.R)) 106,.l,false⟩,⟨(a 1),.cells #[iv 2,iv (c:Int),iv q,iv (d:Int),iv v] 40,.z,false⟩,⟨(a 2),.cells (stA (Sto.mk s.V (AP s.L c (q+1)) (AP s.C c 0) (AP s.A c (s.V d)) s.R)) 106,.l,false⟩,⟨(a 3),.cells #[iv 0,iv (s.V d)] 45,.l,false⟩,⟨(a 4),.cells #[iv 0,iv (s.V d)] 45,.l,false⟩]/\True/\Cg w.heap.size ([]:List Tg) p u g w') (by kernel_rfl) ?_ ?_
 .intro J hJ
  (exact Dz 1 2 (by kernel_rfl) (by(refine qR [] 4 [4,5,2,0,7,3,0] λB T a1 m=>?_;exact qB [true,true,true,true,true] λz h K=>hJ _ _ _ z _ ⟨rfl,rfl,trivial,(m.nil ([]:List Tg))⟩ K)) (by(refine qR [] 4 [2,0,3,4,7,3,0] λD U a2 o=>?_;exact qB [true,true,true,true,true] λz h K=>hJ _ _ _ z _ ⟨rfl,rfl,trivial,(o.nil ([]:List Tg))⟩ K)))
 rintro S a0 _ a3 _ ⟨rfl,rfl,_,j⟩;exact qE4 4 5 106 45 2 (a 2) 3 (a 3) (stA (LZ s ⟨2,c,q,d,v⟩)) #[iv 0,iv (Ny s ⟨2,c,q,d,v⟩)] λK=>⟨rfl,Cg.af (((((((E.trans F).trans H).trans I).trans N).trans O).trans i).trans j) (λ_ _=>P')⟩
theorem gE(s:Sto)(c d:Nat)(q v:Int)(w:World)(x:c<8)(Y:d<8)(q0:0<=q)(q1:q<=1048576) :
  Calls prog 147 #[.agg (stA s),.agg #[iv 3,iv (c:Int),iv q,iv (d:Int),iv v]] w λe w'=>e=.returned (.tuple #[.agg (stA (LZ s ⟨3,c,q,d,v⟩)),.agg #[iv 0,iv (Ny s ⟨3,c,q,d,v⟩)]])/\Bw w w':=by
 have r:∀ b,w.heap.size<=b->gS.t b=.z/\gS.k b=0:=λ_ _=>⟨rfl,rfl⟩;refine gI (fn:=f147) [] gS func147 r (qR [] 37 [1,0,0,0,1,0,1,0,1,0,1] λa Q Z E=>Cv 48 (λg w' e L=>e=[(2,pt (a 0) 0),(3,pt (a 1) 0),(4,pt (a 2) 0),(5,pt (a 3) 0),(6,pt (a 4) 0)]/\L=[⟨(a 0),.cells (stA ({ s with R:=AP s.R d true })) 106,.l,false⟩,⟨(a 1),.cells #[iv 3,iv (c:Int),iv q,iv (d:Int),iv v] 40,.z,false⟩,⟨(a 2),.cells (stA EO) 106,.l,false⟩,⟨(a 3),.cells #[iv 0,iv 0] 45,.l,false⟩,⟨(a 4),.cells #[iv 0,iv 0] 45,.l,false⟩]/\True/\Cg w.heap.size ([]:List Tg) Q Z g w') (by kernel_rfl) ?_ ?_)
 .intro J hJ;rcases lt8 Y with rfl|rfl|rfl|rfl|rfl|rfl|rfl|rfl <;>
  (refine qR [] 6 [1,0,0] λa4 g3 w3 G=>?_;exact qB [true,true,true,true,true] λz h K=>hJ _ _ _ z _ ⟨rfl,rfl,trivial,(G.nil ([]:List Tg))⟩ K)
 rintro g2 w2 _ z2 _ ⟨rfl,rfl,_,F⟩;refine qR [] 7 [1,1] λa5 W w4 H=>qV 4 (iv (q+1)) (Ay 37 q underlying3 (by omega)) (Cv 48 (λg w' e L=>e=[(2,pt (a 0) 0),(3,pt (a 1) 0),(4,pt (a 2) 0),(5,pt (a 3) 0),(6,pt (a 4) 0)]/\L=[⟨(a 0),.cells (stA (Sto.mk s.V (AP s.L c (q+1)) s.C s.A (AP s.R d true))) 106,.l,false⟩,⟨(a 1),.cells #[iv 3,iv (c:Int),iv q,iv (d:Int),iv v] 40,.z,false⟩,⟨(a 2),.cells (stA EO) 106,.l,false⟩,⟨(a 3),.cells #[iv 0,iv 0] 45,.l,false⟩,⟨(a 4),.cells #[iv 0,iv 0] 45,.l,false⟩]/\True/\Cg w.heap.size ([]:List Tg) W w4 g w') (by kernel_rfl) ?_ ?_)
 .intro J hJ;rcases lt8 x with rfl|rfl|rfl|rfl|rfl|rfl|rfl|rfl <;>
  (refine qR [] 4 [0,0] λa6 g6 w6 M=>?_;exact qB [true,true,true,true,true] λz h K=>hJ _ _ _ z _ ⟨rfl,rfl,trivial,(M.nil ([]:List Tg))⟩ K)
 rintro g5 w5 _ z5 _ ⟨rfl,rfl,_,I⟩;refine qR [] 2 [] λa7 X w7 N=>Cv 48 (λg w' e L=>e=[(2,pt (a 0) 0),(3,pt (a 1) 0),(4,pt (a 2) 0),(5,pt (a 3) 0),(6,pt (a 4) 0)]/\L=[⟨(a 0),.cells (stA (Sto.mk s.V (AP s.L c (q+1)) (AP s.C c 0) (AP s.A c 0) (AP s.R d true))) 106,.l,false⟩,⟨(a 1),.cells #[iv 3,iv (c:Int),iv q,iv (d:Int),iv v] 40,.z,false⟩,⟨(a 2),.cells (stA EO) 106,.l,false⟩,⟨(a 3),.cells #[iv 0,iv 0] 45,.l,false⟩,⟨(a 4),.cells #[iv 0,iv 0] 45,.l,false⟩]/\True/\Cg w.heap.size ([]:List Tg) X w7 g w') (by kernel_rfl) ?_ ?_
 .intro J hJ;rcases lt8 x with rfl|rfl|rfl|rfl|rfl|rfl|rfl|rfl <;>
  (refine qR [] 7 [1,4,0,0] λa8 g9 w9 P=>?_;exact qB [true,true,true,true,true] λz h K=>hJ _ _ _ z _ ⟨rfl,rfl,trivial,(P.nil ([]:List Tg))⟩ K)
 rintro g8 w8 _ z8 _ ⟨rfl,rfl,_,O⟩;refine qR [] 3 [2,0,0] λy p u i=>Cv 48 (λg w' e L=>e=[(2,pt (a 0) 0),(3,pt (a 1) 0),(4,pt (a 2) 0),(5,pt (a 3) 0),(6,pt (a 4) 0)]/\L=[⟨(a 0),.cells (stA (Sto.mk s.V (AP s.L c (q+1)) (AP s.C c 0) (AP s.A c 0) (AP s.R d true))) 106,.l,false⟩,⟨(a 1),.cells #[iv 3,iv (c:Int),iv q,iv (d:Int),iv v] 40,.z,false⟩,⟨(a 2),.cells (stA (Sto.mk s.V (AP s.L c (q+1)) (AP s.C c 0) (AP s.A c 0) (AP s.R d true))) 106,.l,false⟩,⟨(a 3),.cells #[iv 0,iv 0] 45,.l,false⟩,⟨(a 4),.cells #[iv 0,iv 0] 45,.l,false⟩]/\True/\Cg w.heap.size ([]:List Tg) p u g w') (by kernel_rfl) ?_ ?_
 .intro J hJ
  (exact Dz 1 2 (by kernel_rfl) (by(refine qR [] 4 [4,5,2,0,7,3,0] λB T a1 m=>?_;exact qB [true,true,true,true,true] λz h K=>hJ _ _ _ z _ ⟨rfl,rfl,trivial,(m.nil ([]:List Tg))⟩ K)) (by(refine qR [] 4 [2,0,3,4,7,3,0] λD U a2 o=>?_;exact qB [true,true,true,true,true] λz h K=>hJ _ _ _ z _ ⟨rfl,rfl,trivial,(o.nil ([]:List Tg))⟩ K)))
 rintro S a0 _ a3 _ ⟨rfl,rfl,_,j⟩;exact qE4 4 5 106 45 2 (a 2) 3 (a 3) (stA (LZ s ⟨3,c,q,d,v⟩)) #[iv 0,iv (Ny s ⟨3,c,q,d,v⟩)] λK=>⟨rfl,Cg.af (((((((E.trans F).trans H).trans I).trans N).trans O).trans i).trans j) (λ_ _=>P')⟩
theorem X6(s:Sto)(k:Int)(a b:Nat)(q v:Int)(w:World)(j:1<=k/\k<=3)(c:a<8)(d:b<8)(f:0<=q)(g:q<=1048576){S:Sto}(i:LZ s ⟨k,a,q,b,v⟩=S){A:Int}(h:Ny s ⟨k,a,q,b,v⟩=A) :
  Calls prog 147 #[.agg (stA s),.agg #[iv k,iv (a:Int),iv q,iv (b:Int),iv v]] w λe w'=>e=.returned (.tuple #[.agg (stA S),.agg #[iv 0,iv A]])/\Bw w w':=by
 subst i h;rcases(show k=1\/k=2\/k=3 by omega)with rfl|rfl|rfl
 .exact gB s a b q v w c d f g
 .exact gD s a b q v w c d f g
 .exact gE s a b q v w c d f g
theorem Xn(s:Sto)(k:Int)(c d:Nat)(q v:Int)(w:World)(k0:0<=k)(k3:k<=3)(U:c<8)(hn:d<8)(q0:0<=q)(q1:q<=1048576) :
  Calls prog 116 #[.agg (stA s),.agg #[iv k,iv (c:Int),iv q,iv (d:Int),iv v]] w λe w'=>e=.returned (.tuple #[.agg (stA (dnS s ⟨k,c,q,d,v⟩)),.agg #[iv (dnC s ⟨k,c,q,d,v⟩),iv (dnA s ⟨k,c,q,d,v⟩)]])/\Bw w w':=by
 have a4:∀ b,w.heap.size<=b->gS.t b=.z/\gS.k b=0:=λ_ _=>⟨rfl,rfl⟩;refine gI (fn:=f116) [] gS func116 a4 (qR [] 14 [0,0,0,0,1,0,1,0,1] λa g1 w1 x=>?_);by_cases h:k=0
 .refine qI ((k==0)) true (by simpa using h) (qR [] 7 [0,2,0,3,0] λf3 g2 w2 c2=>?_);rw[show dnS s ⟨k,c,q,d,v⟩=s from if_neg (λg=>g.1 h),show dnC s ⟨k,c,q,d,v⟩=0 from if_pos h,show dnA s ⟨k,c,q,d,v⟩=0 from if_pos h];exact qE4 4 5 106 45 2 (a 2) 3 (a 3) (stA s) #[iv 0,iv 0] λK=>⟨rfl,Cg.af (x.trans c2) (λ_ _=>P')⟩
 .refine qI ((k==0)) false (by simpa using h) (qR [] 3 [] λf4 g3 w3 G=>Cv 49 (λN w' e L=>e=[(2,pt (a 0) 0),(3,pt (a 1) 0),(4,pt (a 2) 0),(5,pt (a 3) 0),(6,iv (s.L c))]/\L=[⟨(a 0),.cells (stA s) 106,.z,false⟩,⟨(a 1),.cells #[iv k,iv (c:Int),iv q,iv (d:Int),iv v] 40,.z,false⟩,⟨(a 2),.cells (stA EO) 106,.l,false⟩,⟨(a 3),.cells #[iv 0,iv 0] 45,.l,false⟩]/\True/\Cg w.heap.size ([]:List Tg) g3 w3 N w') (by kernel_rfl) ?_ ?_)
  .intro J hJ;rcases lt8 U with rfl|rfl|rfl|rfl|rfl|rfl|rfl|rfl <;>
   (refine qR [] 7 [1,0] λf5 g5 w5 c5=>?_;exact qB [true,true,true,true] λz Q K=>hJ _ _ _ z _ ⟨rfl,rfl,trivial,(c5.nil ([]:List Tg))⟩ K)
  rintro g4 w4 _ z4 _ ⟨rfl,rfl,_,H⟩;refine qR [] 7 [1] λf6 g6 w6 I=>qV 3 (iv (q+1)) (Ay 20 q underlying3 (by omega)) (qR [] 3 [] λf7 g7 w7 M=>?_);by_cases i:s.L c=q+1
  .refine qI (((s.L c)==(q+1))) true (by simpa using i) (qR [] 2 [6] λf8 g8 w8 c8=>Cv 49 (λN w' e L=>e=[(2,pt (a 0) 0),(3,pt (a 1) 0),(4,pt (a 2) 0),(5,pt (a 3) 0)]/\L=[⟨(a 0),.cells (stA s) 106,.z,false⟩,⟨(a 1),.cells #[iv k,iv (c:Int),iv q,iv (d:Int),iv v] 40,.z,false⟩,⟨(a 2),.cells (stA s) 106,.l,false⟩,⟨(a 3),.cells #[iv (s.C c),iv (s.A c)] 45,.l,false⟩]/\True/\Cg w.heap.size ([]:List Tg) g8 w8 N w') (by kernel_rfl) ?_ ?_)
   .intro J hJ;rcases lt8 U with rfl|rfl|rfl|rfl|rfl|rfl|rfl|rfl <;>
    (refine qR [] 3 [0,0,2,6] λa8 c0 e0 p=>?_;exact Dz 2 6 (by kernel_rfl) (by(refine qR [] 2 [1,8] λa9 d0 e1 E=>?_;exact Dz 5 6 (by kernel_rfl) (by(refine qR [] 4 [0,13,2,0,15,3,0] λb0 d1 e2 V=>?_;exact qB [true,true,true,true] λz Q K=>hJ _ _ _ z _ ⟨rfl,rfl,trivial,(((p.nil ([]:List Tg)).n E).n V)⟩ K)) (by(refine qR [] 4 [2,0,11,0,15,3,0] λb1 d2 e3 W=>?_;exact qB [true,true,true,true] λz Q K=>hJ _ _ _ z _ ⟨rfl,rfl,trivial,(((p.nil ([]:List Tg)).n E).n W)⟩ K)))) (by(refine qR [] 6 [2,0,5,1,8,11,0,15,3,0] λb2 d3 e4 X=>?_;exact qB [true,true,true,true] λz Q K=>hJ _ _ _ z _ ⟨rfl,rfl,trivial,((p.nil ([]:List Tg)).n X)⟩ K)))
   rintro g9 w9 _ z9 _ ⟨rfl,rfl,_,c9⟩;rw[show dnS s ⟨k,c,q,d,v⟩=s from if_neg (λg=>g.2.1 (by show q<s.L c;omega)),show dnC s ⟨k,c,q,d,v⟩=s.C c from(if_neg h).trans (if_pos i),show dnA s ⟨k,c,q,d,v⟩=s.A c from(if_neg h).trans (if_pos i)];exact qE4 4 5 106 45 2 (a 2) 3 (a 3) (stA s) #[iv (s.C c),iv (s.A c)] λK=>⟨rfl,Cg.af ((((((x.trans G).trans H).trans I).trans M).trans c8).trans c9) (λ_ _=>P')⟩
  .refine qI (((s.L c)==(q+1))) false (by simpa using i) (qR [] 8 [1] λb3 d4 e5 m=>?_);by_cases j:q<s.L c
   .refine qI ((decide (q<(s.L c)))) true (M' j) (qR [] 7 [0,2,0,3,0] λb4 d5 e6 Y=>?_);rw[show dnS s ⟨k,c,q,d,v⟩=s from if_neg (λg=>g.2.1 j),show dnC s ⟨k,c,q,d,v⟩=7 from(if_neg h).trans ((if_neg i).trans (if_pos j)),show dnA s ⟨k,c,q,d,v⟩=0 from(if_neg h).trans ((if_neg i).trans (if_pos j))];exact qE4 4 5 106 45 2 (a 2) 3 (a 3) (stA s) #[iv 7,iv 0] λK=>⟨rfl,Cg.af ((((((x.trans G).trans H).trans I).trans M).trans m).trans Y) (λ_ _=>P')⟩
   .refine qI ((decide (q<(s.L c)))) false (E' j) (qR [] 2 [] λb5 a3 a5 r=>Cv 49 (λN w' e L=>e=[(2,pt (a 0) 0),(3,pt (a 1) 0),(4,pt (a 2) 0),(5,pt (a 3) 0),(36,.bool (s.R c))]/\L=[⟨(a 0),.cells (stA s) 106,.z,false⟩,⟨(a 1),.cells #[iv k,iv (c:Int),iv q,iv (d:Int),iv v] 40,.z,false⟩,⟨(a 2),.cells (stA EO) 106,.l,false⟩,⟨(a 3),.cells #[iv 0,iv 0] 45,.l,false⟩]/\True/\Cg w.heap.size ([]:List Tg) a3 a5 N w') (by kernel_rfl) ?_ ?_)
    .intro J hJ;rcases lt8 U with rfl|rfl|rfl|rfl|rfl|rfl|rfl|rfl <;>
     (refine qR [] 7 [1,0] λb6 d7 e8 Z=>?_;exact qB [true,true,true,true] λz Q K=>hJ _ _ _ z _ ⟨rfl,rfl,trivial,(Z.nil ([]:List Tg))⟩ K)
    rintro d6 e7 _ f2 _ ⟨rfl,rfl,_,u⟩;by_cases o:s.R c=true
    .refine qI ((s.R c)) true o (qR [] 7 [0,2,0,3,0] λb7 d8 e9 a0=>?_);rw[show dnS s ⟨k,c,q,d,v⟩=s from if_neg (λg=>Bool.noConfusion (o.symm.trans g.2.2)),show dnC s ⟨k,c,q,d,v⟩=11 from(if_neg h).trans ((if_neg i).trans ((if_neg j).trans (if_pos o))),show dnA s ⟨k,c,q,d,v⟩=0 from(if_neg h).trans ((if_neg i).trans ((if_neg j).trans (if_pos o)))];exact qE4 4 5 106 45 2 (a 2) 3 (a 3) (stA s) #[iv 11,iv 0] λK=>⟨rfl,Cg.af ((((((((x.trans G).trans H).trans I).trans M).trans m).trans r).trans u).trans a0) (λ_ _=>P')⟩
    .refine qI ((s.R c)) false (by simpa using o) ?_;obtain⟨S,hS⟩:∃ S,LZ s ⟨k,c,q,d,v⟩=S:=⟨_,rfl⟩;obtain⟨A,hA⟩:∃ A,Ny s ⟨k,c,q,d,v⟩=A:=⟨_,rfl⟩;refine qR [] 6 [0,1] λb8 O P F=>?_;have a6:=(Cg.af ((((((((x.trans G).trans H).trans I).trans M).trans m).trans r).trans u).trans F) (λ_ _=>P'));refine Af λy=>?_;have a7:∀ z,P.heap.size<=z->O.t z=.z:=λz hz=>(y.new z hz).1;refine qC 2 (X6 s k c d q v P (by omega) U hn q0 q1 hS hA) ?_;rintro e' f0 ⟨rfl,D⟩;refine⟨_,rfl,D,?_⟩;have a1:=Cg.ed (B:=w.heap.size) (T:=[]) (g:=O) D;refine qR [] 5 [2,0,3,0] λb9 d9 f1 a2=>?_;rw[show dnS s ⟨k,c,q,d,v⟩=S from(if_pos ⟨h,j,by simpa using o⟩).trans hS,show dnC s ⟨k,c,q,d,v⟩=0 from(if_neg h).trans ((if_neg i).trans ((if_neg j).trans (if_neg o))),show dnA s ⟨k,c,q,d,v⟩=A from(if_neg h).trans ((if_neg i).trans ((if_neg j).trans ((if_neg o).trans hA)))];exact qE4 4 5 106 45 2 (a 2) 3 (a 3) (stA S) #[iv 0,iv A] λK=>⟨rfl,Cg.af ((((((((((x.trans G).trans H).trans I).trans M).trans m).trans r).trans u).trans F).trans a1).trans a2) (λ_ _=>P')⟩
theorem bL{s:Sto}(j:m.e=0){S:Sto}(i:dnS s m=S){C A:Int}(h:dnC s m=C)(g:dnA s m=A) :
  Calls prog 116 #[.agg (stA s),.agg #[iv m.k,iv m.c,iv m.s,iv m.n,iv m.v]] w λe w'=>e=.returned (.tuple #[.agg (stA S),.agg #[iv C,iv A]])/\Bw w w':=by
 subst i h g;obtain⟨k,c,q,n,v⟩:=m;obtain⟨b,f⟩:=Ul j;unfold InC at f;simp only at b f ⊢;obtain⟨a,rfl⟩:∃ a:Nat,c=(a:Int):=⟨c.toNat,by omega⟩;obtain⟨d,rfl⟩:∃ d:Nat,n=(d:Int):=⟨n.toNat,by omega⟩;exact Xn s k a d q v w b.1 b.2 (by omega) (by omega) (by omega) (by omega)
theorem Xm{s:Sto}(a:NI s=E):Calls prog 115 #[.agg (stA s)] w λe w'=>e=.returned (iv E)/\Bw w w':=by subst a;exact TW s w
theorem Wm(b:NTab w){E:Int}(a:m.e=E):Calls prog 26 #[.agg #[iv m.k,iv m.c,iv m.s,iv m.n,iv m.v]] w λe w'=>e=.returned (iv E)/\Bw w w':=by subst a;exact E9 m.k m.c m.s m.n m.v w b
theorem lQ(s:Sto)(m:Cmd)(w:World)(hN:NTab w) :
  Calls prog 71 #[.agg (stA s),.agg #[iv m.k,iv m.c,iv m.s,iv m.n,iv m.v]] w λe w'=>e=.returned (.tuple #[.agg (stA (doS s m)),.agg #[iv (doC s m),iv (doA s m)],iv (doE s m)])/\Bw w w':=by
 obtain⟨E,o⟩:∃ E,NI s=E:=⟨_,rfl⟩;obtain⟨F,Y⟩:∃ F,m.e=F:=⟨_,rfl⟩;have Z:∀ b,w.heap.size<=b->gS.t b=.z/\gS.k b=0:=λ_ _=>⟨rfl,rfl⟩;refine gI (fn:=f71) [] gS func71 Z (qR [] 12 [0,0,0,0,1,0,1,0,0] λa g1 w1 j=>?_);have a5:=(Cg.af j (λ_ _=>P'));refine Af λI=>?_;have a9:∀ z,w1.heap.size<=z->g1.t z=.z:=λz D=>(I.new z D).1;refine qC 1 (Xm o) ?_;rintro e' w2 ⟨rfl,b2⟩;refine⟨_,rfl,b2,?_⟩;have r:=Cg.ed (B:=w.heap.size) (T:=[]) (g:=g1) b2;refine qR [] 7 [] λb8 g3 w3 u=>?_;by_cases x:E≠0
 .refine qI ((E != 0)) true (by simpa using x) (qR [] 9 [2,0,3,0] λb9 g4 w4 c4=>?_);have h:doE s m=E:=by unfold doE;unfold NI at o;split at o;exact absurd o.symm x;rename_i g;rw[if_neg g];exact o
  have d:doE s m≠0:=by rw[h];exact x
  rw[Yj d,Yf d,show doA s m=0 from if_neg d,h];exact qE5 4 5 6 106 45 2 (a 2) 3 (a 3) (stA EO) #[iv 0,iv 0] (iv E) λK=>⟨rfl,(Cg.af (((j.trans r).trans u).trans c4) (λ_ _=>P'))⟩
 .refine qI ((E != 0)) false (by simpa using x) ?_;have hB:Iy s:=qy λg=>absurd (o.symm.trans (Lc g)) (by rw[show E=0 from by simpa using x];decide);refine qR [] 5 [1] λc0 g5 w5 G=>?_;have N:=(Cg.af (((j.trans r).trans u).trans G) (λ_ _=>P'));refine Af λM=>?_;have b0:∀ z,w5.heap.size<=z->g5.t z=.z:=λz D=>(M.new z D).1;refine qC 1 (Wm (hN.af N) Y) ?_;rintro e' w6 ⟨rfl,b6⟩;refine⟨_,rfl,b6,?_⟩;have V:=Cg.ed (B:=w.heap.size) (T:=[]) (g:=g5) b6;refine qR [] 7 [] λd0 g7 w7 W=>?_;by_cases H:F≠0
  .refine qI ((F != 0)) true (by simpa using H) (qR [] 9 [2,0,3,0] λd1 g8 w8 c8=>?_);have h:doE s m=F:=(if_pos hB).trans Y;have d:doE s m≠0:=by rw[h];exact H
   rw[Yj d,Yf d,show doA s m=0 from if_neg d,h];exact qE5 4 5 6 106 45 2 (a 2) 3 (a 3) (stA EO) #[iv 0,iv 0] (iv F) λK=>⟨rfl,(Cg.af ((((((j.trans r).trans u).trans G).trans V).trans W).trans c8) (λ_ _=>P'))⟩
  .refine qI ((F != 0)) false (by simpa using H) ?_;have y:m.e=0:=by rw[Y];simpa using H
   have h:doE s m=0:=(if_pos hB).trans y;obtain⟨S,hS⟩:∃ S,dnS s m=S:=⟨_,rfl⟩;obtain⟨C,hC⟩:∃ C,dnC s m=C:=⟨_,rfl⟩;obtain⟨A,hA⟩:∃ A,dnA s m=A:=⟨_,rfl⟩;refine qR [] 5 [0,1] λd2 g9 w9 c9=>?_;have a1:=(Cg.af ((((((j.trans r).trans u).trans G).trans V).trans W).trans c9) (λ_ _=>P'));refine Af λp=>?_;have a2:∀ z,w9.heap.size<=z->g9.t z=.z:=λz D=>(p.new z D).1;refine qC 2 (bL y hS hC hA) ?_;rintro e' b1 ⟨rfl,q⟩;refine⟨_,rfl,q,?_⟩;have O:=Cg.ed (B:=w.heap.size) (T:=[]) (g:=g9) q;refine qR [] 11 [0,0,0,0,4,0,5,0,2,0,4] λi X a0 P=>Cv 33 (λg' w' e L=>e=[(4,pt (a 2) 0),(5,pt (a 3) 0),(6,iv 0)]/\L=[⟨(a 0),.cells (stA s) 106,.z,false⟩,⟨(a 1),.cells #[iv m.k,iv m.c,iv m.s,iv m.n,iv m.v] 40,.z,false⟩,⟨(a 2),.cells (stA S) 106,.l,false⟩,⟨(a 3),.cells #[iv C,iv A] 45,.l,false⟩,⟨(i 0),.cells (stA S) 106,.z,false⟩,⟨(i 1),.cells #[iv C,iv A] 45,.z,false⟩]/\True/\Cg w.heap.size ([]:List Tg) X a0 g' w') (by kernel_rfl) ?_ ?_
   .intro J hJ
    (exact Dz 1 2 (by kernel_rfl) (by(refine qR [] 5 [5,5,2,0,7,3,0,8] λa3 a7 b4 R=>?_;exact qB [true,true,true,true,true,true] λz K0 K=>hJ _ _ _ z _ ⟨rfl,rfl,trivial,(R.nil ([]:List Tg))⟩ K)) (by(refine qR [] 5 [2,0,3,5,7,3,0,8] λa4 a8 b5 U=>?_;exact qB [true,true,true,true,true,true] λz K0 K=>hJ _ _ _ z _ ⟨rfl,rfl,trivial,(U.nil ([]:List Tg))⟩ K)))
   rintro a6 b3 _ b7 _ ⟨rfl,rfl,_,Q⟩;rw[Sf h,gY h,gX h,h,hS,hC,hA];exact qE5 4 5 6 106 45 2 (a 2) 3 (a 3) (stA S) #[iv C,iv A] (iv 0) λK=>⟨rfl,(Cg.af (((((((((j.trans r).trans u).trans G).trans V).trans W).trans c9).trans O).trans P).trans Q) (λ_ _=>P'))⟩
theorem DS(s:Sto)(k c q n v:Int)(w:World)(a:NTab w) :
  Calls prog 71 #[.agg (stA s),.agg (cmA k c q n v)] w λe w'=>e=.returned (.tuple #[.agg (stA (doS s ⟨k,c,q,n,v⟩)),.agg #[.int .i64 (doC s ⟨k,c,q,n,v⟩),.int .i64 (doA s ⟨k,c,q,n,v⟩)],.int .i64 (doE s ⟨k,c,q,n,v⟩)])/\Bw w w':=lQ s ⟨k,c,q,n,v⟩ w a
theorem Zl{v:Value}{l:List Int}{a:Int}(h:Sl w v l)(f:AK w)(j:Du w)(d:NTab w)(i:opE l a=e0)(g:En l a=c) :
  Calls prog 8 #[v,iv a] w λe w'=>e=.returned (.tuple #[.agg #[iv c.k,iv c.c,iv c.s,iv c.n,iv c.v],iv e0])/\Bw w w':=by
 have b:=Ox v l a w h f j d;rw[Zv,i,g]at b
 exact b
theorem WU(h:NS i nb ob g w p ls ts){w0:World}(H:Base w0 g w)(E:Tabs w0)(dv:S3)(y:List Int)(hd:Sl w dv.v y){n:Nat}(b0:NOk n p)(f9:p.bad<100000000)(hw:p.bn.length<100000000)(e9:ts.length<100000000){A:Int}{c:Cmd}(he:opE y (p.done:Int)=A)(hc:En y (p.done:Int)=c) :
  Calls prog 35 #[pt nb 0,dv.v] w (NP i nb ob g w (.tuple #[]) (p.rQ i A c ts).1 ls (p.rQ i A c ts).2):=by
 obtain⟨x,lt,tl,I,M,hg⟩:=h;have e8:=b0.dn;have i7:=b0.ag;refine gI (fn:=f35) (TN i) g func35 hg (qN I (qO M (qR [] 9 [0] λs1 g1 w1 m=>?_)));by_cases h1:p.up=true
 .refine qI ((!p.up)) false (by simpa using h1) ?_;have t:¬ p.up=false:=by simp[h1]
  refine qR [] 9 [0] λs2 g2 w2 o=>?_;have G:=H.ch (m.trans o);have e7:=Cg.af (m.trans o) (λ_ _=>P');refine qC 6 (Zl (hd.af e7) (G.tt E) (G.tq E) (G.tn E) he hc) ?_;rintro F w3 ⟨rfl,b3⟩;refine⟨_,rfl,b3,?_⟩;have q:=Cg.ed (B:=w.heap.size) (T:=[]) (g:=g2) b3;refine qR [] 13 [0,0,2,0] λs4 g4 w4 r=>?_;by_cases h2:A≠0
  .refine qI ((A != 0)) true (by simpa using h2) (qR [] 6 [0] λs5 g5 w5 c5=>qV 4 (iv ((p.bad+1:Nat):Int)) (Ay 29 (p.bad:Int) underlying3 (by omega)) (qR [.n 0 i] 4 [0,1] λs6 g6 w6 c6=>qE (.tuple #[]) λK=>?_));rw[show p.rQ i A c ts=({ p with bad:=p.bad+1 },ts)from(if_neg t).trans (if_pos h2)];have C7:=(((((m.nil ([.n 0 i]:List Tg)).n o).n q).n r).n c5).trans (c6);exact⟨_,rfl,⟨x,lt,tl,K.sY 0 I C7,M.ch C7 (hn:=by simp<;>omega),K.new⟩,((((((m.nil (TN i)).n o).n q).n r).n c5).trans (c6.mono (by simp[TN])))⟩
  .refine qI ((A != 0)) false (by simpa using h2) (qR [] 6 [4,0,4,2] λs8 g8 w8 u=>Af λK=>?_);have b9:NS i nb ob g8 w8 p ls ts:=(nsC I M ((((m.n o).n q).n r).n u) K);refine qC 1 (U9 b9 e8) ?_;rintro F j7 ⟨m0,rfl,b1,O⟩;refine⟨_,rfl,O,?_⟩;have a:=Cg.ed (B:=w.heap.size) (T:=[]) (g:=g8) O;refine qC 3 (FH (l:=p.ae.take p.done) b1 (by rw[X'];omega) c) ?_;rintro F j8 ⟨rfl,P⟩;refine⟨_,rfl,P,?_⟩;have b:=Cg.ed (B:=w.heap.size) (T:=[]) (g:=g8) P;refine qR [] 1 [] λi8 h0 j9 d=>?_;by_cases h3:c∈p.ae.take p.done
   .refine qI ((decide (c∈p.ae.take p.done))) true (by simpa using h3) (qR [] 8 [16,0,2,4,6,8,0,10,2] λi9 e2 f4 j=>Cv 55 (λg' w' e L=>∃ (b6 b7:Nat),e=[(0,pt nb 0),(4,pt (s4 0) 0),(6,pt b6 0),(7,pt b7 0)]/\L=[⟨nb,.cells (AH i ob p x) 114,.n 0 i,false⟩,⟨ob,.cells #[S3.v lt,S3.v tl] 86,.n 50 0,false⟩,⟨(s4 0),.cells #[iv c.k,iv c.c,iv c.s,iv c.n,iv c.v] 40,.z,false⟩,⟨b6,.cells (stA (doS p.nn c)) 106,.l,false⟩,⟨b7,.cells #[iv (doC p.nn c),iv (doA p.nn c)] 45,.l,false⟩]/\Cg w.heap.size [] g w g' w') (by kernel_rfl) ?_ ?_)
    .intro J hJ;refine Y5 6 11 12 (by kernel_rfl) ?_ ?_ ?_
     .have hB18:=H.ch ((((((((m.trans o).trans q).trans r).trans u).trans a).trans b).trans d).trans j) (by simp);refine qC 6 (DS p.nn c.k c.c c.s c.n c.v f4 (hB18.tn E)) ?_;rintro F k0 ⟨rfl,Q⟩;refine⟨_,rfl,Q,?_⟩;have W:=Cg.ed (B:=w.heap.size) (T:=[]) (g:=e2) Q;refine qR [] 4 [14,16,18,20] λj0 h4 k1 X=>Dz 11 12 (by kernel_rfl) ?_ ?_
      .refine qR [] 6 [1,0,25,1,0,27,3,0,29,4,0,30] λb2 h5 k2 c9=>qB [true,true,true,true,true] λz N K=>hJ _ _ _ z _ ⟨(b2 0),(b2 1),rfl,rfl,(((((((((((m.trans o).trans q).trans r).trans u).trans a).trans b).trans d).trans j).trans W).trans X).trans c9)⟩ K
      .refine qR [] 6 [1,0,23,1,0,27,4,0,29,3,0,30] λb4 h6 k3 d0=>Oh ?_;exact qB [true,true,true,true,true] λz N K=>hJ _ _ _ z _ ⟨(b4 1),(b4 0),rfl,rfl,(((((((((((m.trans o).trans q).trans r).trans u).trans a).trans b).trans d).trans j).trans W).trans X).trans d0)⟩ K
     .refine qR [] 1 [1,0] λb5 e3 f5 C=>Dz 6 12 (by kernel_rfl) ?_ ?_
      .have hB25:=H.ch (((((((((m.trans o).trans q).trans r).trans u).trans a).trans b).trans d).trans j).trans C) (by simp);refine qC 6 (DS p.nn c.k c.c c.s c.n c.v f5 (hB25.tn E)) ?_;rintro F k4 ⟨rfl,R⟩;refine⟨_,rfl,R,?_⟩;have d1:=Cg.ed (B:=w.heap.size) (T:=[]) (g:=e3) R;refine qR [] 9 [14,16,18,20,25,1,0,27,3,0,29,4,0,30] λf0 h7 k5 d2=>qB [true,true,true,true,true] λz N K=>hJ _ _ _ z _ ⟨(b5 0),(f0 0),rfl,rfl,(((((((((((m.trans o).trans q).trans r).trans u).trans a).trans b).trans d).trans j).trans C).trans d1).trans d2)⟩ K
      .refine qR [] 1 [1,0] λf1 e4 f6 Y=>?_;have a4:=H.ch ((((((((((m.trans o).trans q).trans r).trans u).trans a).trans b).trans d).trans j).trans C).trans Y) (by simp);refine qC 6 (DS p.nn c.k c.c c.s c.n c.v f6 (a4.tn E)) ?_;rintro F k6 ⟨rfl,S⟩;refine⟨_,rfl,S,?_⟩;have d3:=Cg.ed (B:=w.heap.size) (T:=[]) (g:=e4) S;refine qR [] 8 [14,16,18,20,27,3,0,29,4,0,30] λj1 h8 k7 d4=>qB [true,true,true,true,true] λz N K=>hJ _ _ _ z _ ⟨(b5 0),(f1 0),rfl,rfl,((((((((((((m.trans o).trans q).trans r).trans u).trans a).trans b).trans d).trans j).trans C).trans Y).trans d3).trans d4)⟩ K
     .refine qR [] 1 [1,0] λb8 e5 f7 D=>Dz 6 11 (by kernel_rfl) ?_ ?_
      .have hB34:=H.ch (((((((((m.trans o).trans q).trans r).trans u).trans a).trans b).trans d).trans j).trans D) (by simp);refine qC 6 (DS p.nn c.k c.c c.s c.n c.v f7 (hB34.tn E)) ?_;rintro F k8 ⟨rfl,U⟩;refine⟨_,rfl,U,?_⟩;have d5:=Cg.ed (B:=w.heap.size) (T:=[]) (g:=e5) U;refine qR [] 9 [14,16,18,20,23,1,0,27,4,0,29,3,0,30] λf2 h9 k9 d6=>Oh ?_;exact qB [true,true,true,true,true] λz N K=>hJ _ _ _ z _ ⟨(f2 0),(b8 0),rfl,rfl,(((((((((((m.trans o).trans q).trans r).trans u).trans a).trans b).trans d).trans j).trans D).trans d5).trans d6)⟩ K
      .refine qR [] 1 [1,0] λf3 e6 f8 Z=>?_;have a5:=H.ch ((((((((((m.trans o).trans q).trans r).trans u).trans a).trans b).trans d).trans j).trans D).trans Z) (by simp);refine qC 6 (DS p.nn c.k c.c c.s c.n c.v f8 (a5.tn E)) ?_;rintro F l0 ⟨rfl,V⟩;refine⟨_,rfl,V,?_⟩;have d7:=Cg.ed (B:=w.heap.size) (T:=[]) (g:=e6) V;refine qR [] 8 [14,16,18,20,27,4,0,29,3,0,30] λj2 i0 l1 d8=>Oh ?_;exact qB [true,true,true,true,true] λz N K=>hJ _ _ _ z _ ⟨(f3 0),(b8 0),rfl,rfl,((((((((((((m.trans o).trans q).trans r).trans u).trans a).trans b).trans d).trans j).trans D).trans Z).trans d7).trans d8)⟩ K
    .rintro g16 w16 _ z16 _ ⟨b6,b7,rfl,rfl,hcc⟩;refine qR [] 5 [2,4] λj3 i1 l2 a0=>?_;rw[show p.rQ i A c ts=(p,(ts++[⟨i,c.c,c.s,doC p.nn c,doA p.nn c⟩]))from(if_neg t).trans ((if_neg h2).trans (if_pos h3))];refine qS 3 [false,false,true,true,true] I M (hcc.n a0) (λc0=>R4 c0 e9 c (doC p.nn c) (doA p.nn c)) λi2 l3 l8 g0 g7 a6 a8 d9=>qR [] 1 [] λj4 i3 l4 a1=>qF a6 a8 a1 ((((hcc.nil (TN i)).n a0).trans (d9)).n a1)
   .refine qI ((decide (c∈p.ae.take p.done))) false (by simpa using h3) (qR [] 4 [2] λj5 i4 l5 a2=>?_);rw[show p.rQ i A c ts=(p.want c,ts)from(if_neg t).trans ((if_neg h2).trans (if_neg h3))];refine qS 2 [false,false,true] I M ((((((((m.n o).n q).n r).n u).n a).n b).n d).n a2) (λc7=>bS c7 h1 hw c) λi5 l6 l9 g3 g9 a7 a9 e1=>qR [] 1 [] λj6 i6 l7 a3=>qF a7 a9 a3 (((((((((((m.nil (TN i)).n o).n q).n r).n u).n a).n b).n d).n a2).trans (e1)).n a3)
 .refine qI ((!p.up)) true (by simpa using h1) (qE (.tuple #[]) λK=>?_);rw[show p.rQ i A c ts=(p,ts)from if_pos (by simpa using h1)];exact⟨_,rfl,(nsC I M m K),(m.nil (TN i))⟩
def Qe(Q:Nat->Bool):Nat->Nat
 | 0=>0
 | k+1=>Qe Q k+(Q k).toNat
theorem jU(Q:Nat->Bool):Qe Q 5=Jz Q:=by simp only[Qe,Jz];omega
theorem cJ(Q:Nat->Bool)(k:Nat):Qe Q k<=k:=by
 induction k with
 | zero=>exact A' _
 | succ k ih=>simp only[Qe];cases Q k<;>simp<;>omega
theorem mq{P:Program}{x y:Operand}{t:TypeId}(a b:Int)(d:P.underlying t=some (.int .i64))(h:-9223372036854775808<=a*b/\a*b<=9223372036854775807):(do Go.eqGuard .mul t x y (iv a) (iv b);Go.binOp .mul t (iv a) (iv b):Sem Value).run P W=.ok (iv (a*b)) W:=by
 have c:IntKind.i64.wrap (a*b)=a*b:=by rw[IntKind.wrap_i64];omega
 simp[Go.eqGuard,Go.binOp,go_sem,c]
theorem So(h:NS i nb ob g w p ls ts) :
  Calls prog 121 #[pt nb 11] w λe w'=>e=.returned (.bool p.av.rH)/\Bw w w':=by
 obtain⟨x,lt,tl,E,F,G⟩:=h;refine gI (fn:=f121) (TN i) g func121 G (qN E (qO F (qR [] 18 [0] λY P w1 q=>Cc 20 [(3,iv 0),(9,.agg #[.bool (p.av.rA 0),.bool (p.av.rA 1),.bool (p.av.rA 2),.bool (p.av.rA 3),.bool (p.av.rA 4)]),(10,iv 0)] [false,false] [] (λk A w' e L=>∃ (k0 c:Nat),c=Qe p.av.rA k0/\k=5-k0/\k0<=5/\e=[(3,iv (c:Int)),(9,.agg #[.bool (p.av.rA 0),.bool (p.av.rA 1),.bool (p.av.rA 2),.bool (p.av.rA 3),.bool (p.av.rA 4)]),(10,iv (k0:Int))]/\L=[]/\Cg w.heap.size [] g w A w') (by kernel_rfl) (by kernel_rfl) (by kernel_rfl) (by kernel_rfl) 5 (λK=>?_) ?_)))
 .exact⟨0,0,rfl,rfl,by omega,rfl,rfl,q⟩
 .rintro k gr wr _ zr _ ⟨k0,c,hc,rfl,hk0,rfl,rfl,hC⟩ J hJ;have l:=cJ p.av.rA k0;refine qR [] 5 [] λZ Q w2 j=>?_;by_cases D:k0<5
  .refine qI ((decide ((k0:Int)<5))) true (M' (by omega)) (qR [] 5 [] λs3 R w3 m=>?_);refine di 0 (.bool (p.av.rA k0)) (λK=>(by rcases rC D with rfl|rfl|rfl|rfl|rfl<;>kernel_rfl)) (by kernel_rfl) ?_;refine qR [] 6 [] λs4 S w4 n=>?_;by_cases a:p.av.rA k0=true
   .refine qI ((p.av.rA k0)) true a (qR [] 2 [] λs5 T w5 r=>qV 1 (iv ((c:Int)+1)) (Ay 14 (c:Int) underlying3 (by omega)) (qR [] 4 [] λs6 U w6 s=>qV 0 (iv ((k0:Int)+1)) (Ay 10 (k0:Int) underlying3 (by omega)) (qR [] 2 [] λs7 V w7 t=>qB [] λz o K=>hJ (5-(k0+1)) _ _ _ z _ (by omega) ⟨k0+1,(c+1),by simp only[Qe];rw[a,hc];rfl,rfl,by omega,rfl,rfl,hC.trans (((((j.trans m).trans n).trans r).trans s).trans t)⟩ K)))
   .refine qI ((p.av.rA k0)) false (by simpa using a) (qR [] 3 [] λs8 W w8 u=>qV 0 (iv ((k0:Int)+1)) (Ay 10 (k0:Int) underlying3 (by omega)) (qR [] 2 [] λs9 X w9 v=>qB [] λz o K=>hJ (5-(k0+1)) _ _ _ z _ (by omega) ⟨k0+1,c,by simp only[Qe];rw[(by simpa using a:p.av.rA k0=false),hc];rfl,rfl,by omega,rfl,rfl,hC.trans ((((j.trans m).trans n).trans u).trans v)⟩ K))
  .refine qI ((decide ((k0:Int)<5))) false (E' (by omega)) ?_;obtain rfl:k0=5:=by omega
   rw[jU]at hc l
   refine qR [] 4 [] λI B N b=>qV 1 (iv (2*(c:Int))) (mq (x:=(.const (iv 2))) (y:=(.tmp 17)) 2 (c:Int) underlying3 (by omega)) (qR [] 3 [] λM C O d=>?_);rw[show p.av.rH=decide ((5:Int)<2*(c:Int))from by unfold Rnd.rH;rw[<- hc];by_cases H:5<2*c<;>simp[H]<;>omega];exact qE (.bool (decide ((5:Int)<2*(c:Int)))) λK=>⟨rfl,Cg.af (hC.trans ((j.trans b).trans d)) (λ_ _=>P')⟩
structure Svv(w:World)(x:Value)(ls:List (List Vt)):Prop where
 ex:∃ a cap,x=.slice a ls.length cap/\(ls=[]\/∃ b off,a=some ⟨b,off,none⟩/\b<w.heap.size/\∀ (i:Nat) (l:List Vt),ls[i]?=some l->∃ y,w.cell? ⟨b,off+i,none⟩=some y/\Sv w y l)
 len:ls.length<=5864062014634
theorem Svv.shape{x:Value}{b:List (List Vt)}(h:Svv w x b):∃ a cap,x=.slice a b.length cap:=by
 obtain⟨⟨a,cap,e,_⟩,_⟩:=h;exact⟨a,cap,e⟩
theorem Svv.spot{a:Option Addr}{c:Nat}{g:List (List Vt)}(h:Svv w (.slice a n c) g)(i:Nat)(l:List Vt)(f:g[i]?=some l):∃ b off y,a=some ⟨b,off,none⟩/\b<w.heap.size/\w.cell? ⟨b,off+i,none⟩=some y/\Sv w y l:=by
 obtain⟨⟨k,d,e,j⟩,_⟩:=h;simp only[Value.slice.injEq]at e;obtain⟨rfl,rfl,rfl⟩:=e;rcases j with rfl|⟨b,off,rfl,hb,hc⟩
 .simp at f
 .obtain⟨y,h3,h4⟩:=hc i l f;exact⟨b,off,y,rfl,hb,h3,h4⟩
theorem iX{x:S3}{c:Nat}(d:x.a=some ⟨b,c,none⟩)(j:Nat)(f:j<x.n):(Instr.indexAt 235 x.v (iv (j:Int))).run prog W=.ok (pt b (c+j)) W:=by
 obtain⟨g,i,h⟩:=x;simp only at d f;subst d;exact Mo (P:=prog) (e:=95) (z:=1) underlying235 (by kernel_rfl) (by kernel_rfl) f _ (by rw[rx])
theorem dB{b:Vt}(h:Fl (BS (Ae L s) none) b)(a:u.bu≠s):Fl (BS (Ae (L++[u]) s) none) b:=by
 rw[Kr,if_neg a,mZ];exact h
theorem dA{b:Vt}(h:Fl (BS (Ae L s) none) b)(a:u.bu=s)(c:Ab u.b):Fl (BS (Ae (L++[u]) s) none) (if b.b.lt u.b then u else b):=by
 rw[Kr,if_pos a,RJ];exact h.next c
theorem QR{a:List (List Vt)}{b:Vt}{d:World}{f:Bool}(h:(GD a s=b.w/\Ea a s=!decide (b.b.r=0/\b.b.n=0)/\BY a s=0))(g:decide (b.b=Bf)=!f)(e:Bw w d):(Ending.returned (.tuple #[.agg #[iv b.w.k,iv b.w.c,iv b.w.s,iv b.w.n,iv b.w.v],.bool f,iv 0]):Ending)=.returned (.tuple #[.agg (cmC (GD a s)),.bool (Ea a s),.int .i64 (BY a s)])/\Bw w d:=by
 rw[h.1,h.2.1,h.2.2,show decide (b.b.r=0/\b.b.n=0)=decide (b.b=Bf)from nN.2 (Bal.eq_iff b.b Bf),g,Bool.not_not];exact⟨rfl,e⟩
theorem ZH(x:Value)(ls:List (List Vt))(s:Int)(w:World)(h:Svv w x ls)(ht:NTab w) :
  Calls prog 158 #[x,.int .i64 s] w λe w'=>e=.returned (.tuple #[.agg (cmC (GD ls s)),.bool (Ea ls s),.int .i64 (BY ls s)])/\Bw w w':=by
 have c5:=h.len;obtain⟨a,P,rfl⟩:=h.shape;obtain⟨y,hy⟩:∃ y:S3,y=⟨a,ls.length,P⟩:=⟨_,rfl⟩;have c7:y.n=ls.length:=by rw[hy]
 rw[show(.slice a ls.length P:Value)=y.v by rw[hy]]at h ⊢
 clear hy;refine tIn [] func158 trivial (tR 10 [1,0] λd _ _=>?_);by_cases G:0<=s/\s<=39
 .refine tC 1 (λF C=>Ew (r:=true) (M' G)) λNz=>?_;rintro _ _ ⟨rfl,W⟩;refine⟨_,_,rfl,W,id,?_⟩;refine tR 16 [1,0] λo _ _=>DB 52 [(1,iv s),(4,pt (d 0) 0),(7,pt (o 0) 0),(16,S3.v y),(17,iv (y.n:Int)),(18,iv 0)] [true,true] [⟨(d 0),.cells #[iv 0,iv 0,iv 0,iv 0,iv 0] 40,.l,false⟩,⟨(o 0),.cells #[iv 0,iv 0,iv 0,iv 0,iv 0,iv 0,iv 0,iv 0] 162,.l,false⟩] [] (λkk E D f=>∃ (j:Nat) (b:Vt),kk=y.n-j/\E=[(1,iv s),(4,pt (d 0) 0),(7,pt (o 0) 0),(16,S3.v y),(17,iv (y.n:Int)),(18,iv (j:Int))]/\D=[⟨(d 0),.cells #[iv 0,iv 0,iv 0,iv 0,iv 0] 40,.l,false⟩,⟨(o 0),.cells #[iv b.bu,iv b.b.r,iv b.b.n,iv b.w.k,iv b.w.c,iv b.w.s,iv b.w.n,iv b.w.v] 162,.l,false⟩]/\f=[]/\j<=ls.length/\Fl (BS (Ae (ls.take j).flatten s) none) b/\∀ l∈ls.take j,∀ v∈l,Ah v) (y.n) ⟨0,vt0,rfl,rfl,rfl,rfl,by omega,.inl ⟨rfl,rfl⟩,λl L=>(by simp at L)⟩ (λF=>trivial) ?_;rintro k _ _ _ ⟨j,b,rfl,rfl,rfl,rfl,hj,q,O⟩ _ _ _ J I;refine tR 5 [] λc9 _ _=>?_;by_cases h2:j<y.n
  .refine tI ((decide ((j:Int)<(y.n:Int)))) true (M' (by omega)) ?_;obtain⟨l,A⟩:∃ l,ls[j]?=some l:=⟨_,G' (by omega)⟩;obtain⟨bb,S,yl,a1,a0,Z,L⟩:=h.spot j l A;obtain⟨z,rfl⟩:=L.s3;have c8:=L.op.1;have hF:(ls.take (j+1)).flatten=_:=Xe ls j l A;have c6:=L.len;refine tR 5 [] λd0 _ _=>tV 0 (pt bb (S+j)) (λF C=>(iX a1 j (by omega))) (tV 1 (S3.v z) (λF C=>(Bh underlying95 rfl (((CgQ.af C).cell (p:=⟨bb,S+j,none⟩) a0).trans Z))) (tR 9 [] λd1 _ _=>DB 52 [(1,iv s),(4,pt (d 0) 0),(7,pt (o 0) 0),(16,S3.v y),(17,iv (y.n:Int)),(18,iv (j:Int)),(22,S3.v z),(23,iv (z.n:Int)),(24,iv 0)] [true,true] [⟨(d 0),.cells #[iv 0,iv 0,iv 0,iv 0,iv 0] 40,.l,false⟩,⟨(o 0),.cells #[iv b.bu,iv b.b.r,iv b.b.n,iv b.w.k,iv b.w.c,iv b.w.s,iv b.w.n,iv b.w.v] 162,.l,false⟩] [] (λkk E D f=>∃ (k:Nat) (b:Vt),kk=z.n-k/\E=[(1,iv s),(4,pt (d 0) 0),(7,pt (o 0) 0),(16,S3.v y),(17,iv (y.n:Int)),(18,iv (j:Int)),(22,S3.v z),(23,iv (z.n:Int)),(24,iv (k:Int))]/\D=[⟨(d 0),.cells #[iv 0,iv 0,iv 0,iv 0,iv 0] 40,.l,false⟩,⟨(o 0),.cells #[iv b.bu,iv b.b.r,iv b.b.n,iv b.w.k,iv b.w.c,iv b.w.s,iv b.w.n,iv b.w.v] 162,.l,false⟩]/\f=[]/\k<=l.length/\Fl (BS (Ae ((ls.take j).flatten++l.take k) s) none) b/\∀ v∈l.take k,Ah v) (z.n) ⟨0,b,rfl,rfl,rfl,rfl,by omega,(by rw[n7,mZ];exact q),λv hv=>(by simp at hv)⟩ (λF=>trivial) ?_));rintro k _ _ _ ⟨k,b,rfl,rfl,rfl,rfl,hk,q,N⟩ _ _ _ Jb K;refine tR 5 [] λd2 _ _=>?_;by_cases H:k<z.n
   .refine tI ((decide ((k:Int)<(z.n:Int)))) true (M' (by omega)) ?_;obtain⟨u,V⟩:∃ u,l[k]?=some u:=⟨_,G' (by omega)⟩;obtain⟨W,o2,R⟩:=L.ad (i:=k) (by omega);have Y:=Gg l k u V;refine tR 5 [] λd3 _ _=>tV 0 (pt W (o2+8*k)) (λF C=>(UO R k (by omega))) (tV 1 (.agg #[iv u.bu,iv u.b.r,iv u.b.n,iv u.w.k,iv u.w.c,iv u.w.s,iv u.w.n,iv u.w.v]) (λF C=>(eA u ((L.af (CgQ.af C)).at_ R V))) (tR 7 [0,0,2,0,2] λa2 _ _=>?_));by_cases Q:Ah u
    .refine tC1 1 (λF C=>Hf (v:=u) (ht.af (CgQ.af C)) (r:=true) (M' Q)) λ_=>?_;have M:∀ v∈l.take (k+1),Ah v:=bj V N Q;refine tR 9 [2] λa3 _ _=>?_;by_cases T:u.bu=s
     .refine tV 3 (.bool true) (λF C=>(Dv (t:=3) (m:=u.bu) (n:=s) (x:=(.tmp 33)) (y:=(.tmp 34)) (by simpa using T))) (tR 5 [1,2] λa4 _ _=>?_);have B:=dA q T Q.2.1;by_cases U:b.b.lt u.b
      .rw[if_pos U]at B
       refine tC1 9 (λF C=>E5 (a:=b.b) (b:=u.b) (r:=true) (M' U)) λ_=>tR 9 [2,1,0] λa5 _ _=>tV 0 (iv ((k:Int)+1)) (λF C=>(Ay 24 (k:Int) underlying3 (by omega))) (tR 2 [] λa6 _ _=>tB K (z.n-(k+1)) (by omega) [true,true,false] ⟨k+1,u,rfl,rfl,rfl,rfl,by omega,by rw[Y,<- mK];exact B,M⟩ (λF=>trivial))
      .rw[if_neg U]at B
       refine tC1 9 (λF C=>E5 (a:=b.b) (b:=u.b) (r:=false) (E' U)) λ_=>tR 6 [] λa7 _ _=>tV 0 (iv ((k:Int)+1)) (λF C=>(Ay 24 (k:Int) underlying3 (by omega))) (tR 2 [] λa8 _ _=>tB K (z.n-(k+1)) (by omega) [true,true,false] ⟨k+1,b,rfl,rfl,rfl,rfl,by omega,by rw[Y,<- mK];exact B,M⟩ (λF=>trivial))
     .refine tV 3 (.bool false) (λF C=>(Dv (t:=3) (m:=u.bu) (n:=s) (x:=(.tmp 33)) (y:=(.tmp 34)) (by simpa using T))) (tR 12 [] λa9 _ _=>tV 0 (iv ((k:Int)+1)) (λF C=>(Ay 24 (k:Int) underlying3 (by omega))) (tR 2 [] λb0 _ _=>tB K (z.n-(k+1)) (by omega) [true,true,false] ⟨k+1,b,rfl,rfl,rfl,rfl,by omega,by rw[Y,<- mK];exact dB q T,M⟩ (λF=>trivial)))
    .refine tC1 1 (λF C=>Hf (v:=u) (ht.af (CgQ.af C)) (r:=false) (E' Q)) λ_=>?_;have X:=Tr (ls:=ls) G λg=>Q (g l (mU A) u (mU V));refine tR 10 [0,0] λb1 _ _=>tX λF C=>qE3 4 5 6 40 0 (d 0) #[iv 0,iv 0,iv 0,iv 0,iv 0] (.bool false) (iv 5) λ_=>by rw[X.1,X.2.1,X.2.2];exact⟨rfl,CgQ.af C⟩
   .refine tI ((decide ((k:Int)<(z.n:Int)))) false (E' (by omega)) ?_;rw[mN (show l.length<=k by omega)]at q N
    rw[<- hF]at q
    refine tR 3 [] λb3 _ _=>tV 0 (iv ((j:Int)+1)) (λF C=>(Ay 18 (j:Int) underlying3 (by omega))) (tR 2 [] λb4 _ _=>tB I (y.n-(j+1)) (by omega) [true,true] ⟨j+1,b,rfl,rfl,rfl,rfl,by omega,q,bi A O N⟩ (λF=>trivial))
  .refine tI ((decide ((j:Int)<(y.n:Int)))) false (E' (by omega)) ?_;rw[mN (show ls.length<=j by omega)]at q O
   have hK:=Fl.pick G O q;refine tR 7 [6,0,2,1,4,8] λb5 _ _=>?_;by_cases H:b.b=Bf
   .refine Is 52 (λE D f=>∃ (_:Unit),E=[(4,pt (d 0) 0),(5,.bool false),(6,iv 0)]/\D=[⟨(d 0),.cells #[iv b.w.k,iv b.w.c,iv b.w.s,iv b.w.n,iv b.w.v] 40,.l,false⟩,⟨(o 0),.cells #[iv b.bu,iv b.b.r,iv b.b.n,iv b.w.k,iv b.w.c,iv b.w.s,iv b.w.n,iv b.w.v] 162,.l,false⟩]/\f=[]) (λJ I=>?_) ?_
    .refine JW 3 6 ?_ ?_
     .refine tR 1 [1] λb6 _ _=>tT 5 (.bool false) (λ_=>(IX (x:=(.tmp 49)) (y:=(.tmp 50)) b.b Bf H)) (tR 4 [13,0,0,14,16] λb7 _ _=>tD I [true,true] ⟨(),rfl,rfl,rfl⟩ (λF=>trivial))
     .refine tR 2 [0,0,7,1] λb8 _ _=>tT 5 (.bool false) (λ_=>(IX (x:=(.tmp 49)) (y:=(.tmp 50)) b.b Bf H)) (tR 3 [14,16] λb9 _ _=>tD I [true,true] ⟨(),rfl,rfl,rfl⟩ (λF=>trivial))
    rintro _ _ _ ⟨_,rfl,rfl,rfl⟩ _ _ _;exact tX λF C=>qE3 4 5 6 40 0 (d 0) #[iv b.w.k,iv b.w.c,iv b.w.s,iv b.w.n,iv b.w.v] (.bool false) (iv 0) λ_=>QR hK (M' H) (CgQ.af C)
   .refine Is 52 (λE D f=>∃ (_:Unit),E=[(4,pt (d 0) 0),(5,.bool true),(6,iv 0)]/\D=[⟨(d 0),.cells #[iv b.w.k,iv b.w.c,iv b.w.s,iv b.w.n,iv b.w.v] 40,.l,false⟩,⟨(o 0),.cells #[iv b.bu,iv b.b.r,iv b.b.n,iv b.w.k,iv b.w.c,iv b.w.s,iv b.w.n,iv b.w.v] 162,.l,false⟩]/\f=[]) (λJ I=>?_) ?_
    .refine JW 3 6 ?_ ?_
     .refine tR 1 [1] λc0 _ _=>tT 5 (.bool true) (λ_=>(IY (x:=(.tmp 49)) (y:=(.tmp 50)) b.b Bf H)) (tR 4 [13,0,0,14,16] λc1 _ _=>tD I [true,true] ⟨(),rfl,rfl,rfl⟩ (λF=>trivial))
     .refine tR 2 [0,0,7,1] λc2 _ _=>tT 5 (.bool true) (λ_=>(IY (x:=(.tmp 49)) (y:=(.tmp 50)) b.b Bf H)) (tR 3 [14,16] λc3 _ _=>tD I [true,true] ⟨(),rfl,rfl,rfl⟩ (λF=>trivial))
    rintro _ _ _ ⟨_,rfl,rfl,rfl⟩ _ _ _;exact tX λF C=>qE3 4 5 6 40 0 (d 0) #[iv b.w.k,iv b.w.c,iv b.w.s,iv b.w.n,iv b.w.v] (.bool true) (iv 0) λ_=>QR hK (E' H) (CgQ.af C)
 .refine tC1 1 (λF C=>Ew (r:=false) (E' G)) λ_=>tR 10 [0,0] λc4 _ _=>tX λF C=>qE3 4 5 6 40 0 (d 0) #[iv 0,iv 0,iv 0,iv 0,iv 0] (.bool false) (iv 2) λ_=>by rw[(Mf G).1,(Mf G).2.1,(Mf G).2.2];exact⟨rfl,CgQ.af C⟩
def gz:Gh:=⟨λ_=>.z,λ_=>0⟩
theorem E7:gz.t b∉([.n 60 0]:List Tg):=by simp[gz]
def QB(x:NX)(k:Nat):List Value:=(List.range k).map λj=>S3.v (x.hv j)
theorem Wc(x:NX)(k:Nat):QB x (k+1)=QB x k++[S3.v (x.hv k)]:=by unfold QB;rw[oZ,ng];rfl
theorem ef{τ:Tg}{e:TypeId}{y:S3}{x:NX}{r:Rnd}(h:OwnS g w τ false e 1 y (QB x 5))(A:∀ j,j<5->Sv w (x.hv j).v (r.an j).vs):Svv w y.v (r.kc.map (·.vs)):=by
 have s:=h.len;have t:y.n=5:=by simp[QB]at s;omega
 obtain⟨b,o,i,_⟩:=h.cell (j:=0) (u:=S3.v (x.hv 0)) rfl;refine⟨⟨y.a,y.c,by unfold S3.v;rw[t];rfl,.inr ⟨b,0,o,i,λj l k=>?_⟩⟩,by show 5<=5864062014634;decide⟩;have f:j<5:=by have:=(U'.1 k).1;exact this
 have m:(QB x 5)[j]?=some (S3.v (x.hv j)):=by rcases rC f with rfl|rfl|rfl|rfl|rfl<;>rfl
 obtain⟨B,d,_,q⟩:=h.cell m;rw[o]at d
 simp only[Y',Addr.mk.injEq,and_true]at d;subst d;refine⟨S3.v (x.hv j),by rw[nA];exact q,?_⟩;have p:=A j f;rcases rC f with rfl|rfl|rfl|rfl|rfl<;>(simp[Rnd.kc]at k;subst k;exact p)
theorem VE{l:List Cmd}{f:Cmd->Bool}{j:Nat}(h:l[j]?=some c):(l.drop j).find? f=if f c then some c else(l.drop (j+1)).find? f:=by
 rw[DY h,px];split<;>simp_all
theorem KK(h:NS i nb ob g w p ls ts){w0:World}(hB:Base w0 g w)(hT:Tabs w0)(s:Nat)(hq:p.av.fv.length<100000000)(a4:p.ae.length<100000000) :
  Calls prog 122 #[pt nb 0,iv (s:Int)] w λe w'=>e=.returned (.tuple #[.agg (cmC ((p.ry s).getD V1)),.bool (p.ry s).isSome])/\Bw w w':=by
 obtain⟨x,lt,tl,P,hO,hg⟩:=h;have hQ:=P.fv.rd;have hA:=P.ae.rd;have b8:=hQ.len;have hH:∀ j,j<5->Sv w (x.hv j).v (p.av.an j).vs:=λj Q=>(P.an j Q).s;have a2:Base w0 gz w:=⟨hB.b,λ_ _=>rfl⟩;refine gI (fn:=f122) [.n 60 0] gz func122 (λ_ _=>⟨rfl,rfl⟩) (Cu ⟨nb,.cells (AH i ob p x) 114,.z,false⟩ (λ_=>⟨P.row,rfl,λh=>(by cases h),λh=>absurd rfl h⟩) (by kernel_rfl) ?_);refine qR [] 21 [1,0,0] λa g1 w1 c1=>Cc 63 [(0,pt nb 0),(1,iv (s:Int)),(4,pt (a 0) 0),(6,sn),(19,.agg #[iv ((p.av.an 0).p.r),iv ((p.av.an 0).p.n),S3.v (x.hv 0),iv ((p.av.an 1).p.r),iv ((p.av.an 1).p.n),S3.v (x.hv 1),iv ((p.av.an 2).p.r),iv ((p.av.an 2).p.n),S3.v (x.hv 2),iv ((p.av.an 3).p.r),iv ((p.av.an 3).p.n),S3.v (x.hv 3),iv ((p.av.an 4).p.r),iv ((p.av.an 4).p.n),S3.v (x.hv 4)]),(20,iv 0)] [true,true] [⟨nb,.cells (AH i ob p x) 114,.z,false⟩,⟨(a 0),.cells #[iv 0,iv 0,iv 0,iv 0,iv 0] 40,.l,false⟩] (λk M w' e L=>∃ (k0:Nat) (y:S3),k=5-k0/\k0<=5/\e=[(0,pt nb 0),(1,iv (s:Int)),(4,pt (a 0) 0),(6,S3.v y),(19,.agg #[iv (p.av.an 0).p.r,iv (p.av.an 0).p.n,S3.v (x.hv 0),iv (p.av.an 1).p.r,iv (p.av.an 1).p.n,S3.v (x.hv 1),iv (p.av.an 2).p.r,iv (p.av.an 2).p.n,S3.v (x.hv 2),iv (p.av.an 3).p.r,iv (p.av.an 3).p.n,S3.v (x.hv 3),iv (p.av.an 4).p.r,iv (p.av.an 4).p.n,S3.v (x.hv 4)]),(20,iv (k0:Int))]/\L=[⟨nb,.cells (AH i ob p x) 114,.z,false⟩,⟨(a 0),.cells #[iv 0,iv 0,iv 0,iv 0,iv 0] 40,.l,false⟩]/\OwnS M w' (.n 60 0) false 95 1 y (QB x k0)/\Cg w.heap.size [.n 60 0] gz w M w') (by kernel_rfl) (by kernel_rfl) (by kernel_rfl) (by kernel_rfl) 5 (λK=>?_) ?_
 .exact⟨0,s30,rfl,by omega,rfl,rfl,OwnS.nil _ _ _ _ _ _,(c1.nil [.n 60 0])⟩
 .rintro k gr wr _ zr _ ⟨k0,y,rfl,hk0,rfl,rfl,hy,hC⟩ J hJ;refine qR [] 5 [] λs2 g2 w2 t=>?_;by_cases h1:k0<5
  .refine qI ((decide ((k0:Int)<5))) true (M' (by omega)) (qR [] 5 [] λs3 g3 w3 c3=>?_);refine di 0 (.agg #[iv (p.av.an k0).p.r,iv (p.av.an k0).p.n,S3.v (x.hv k0)]) (λK=>(by rcases rC h1 with rfl|rfl|rfl|rfl|rfl<;>kernel_rfl)) (by kernel_rfl) ?_;refine qR [] 8 [0,0,2,0,2,0,0] λs4 g4 w4 c4=>?_;have c0:y.n=k0:=by have:=hy.len;simp[QB]at this;omega
   refine KG 4 (x:=y) 235 235 95 1 24 (.slice none 0 0) ⟨(s4 1),0,none⟩ 1 1 [S3.v (x.hv k0)] (((hy.ch t).ch c3).ch c4) (by kernel_rfl) (by kernel_rfl) (by kernel_rfl) underlying235 (by kernel_rfl) (by kernel_rfl) (by decide) (by decide) rfl (by simp[Value.oneCell']) (λK=>C6 K 3 (s4 1) [S3.v (x.hv k0)] 95 .z true (by kernel_rfl)) (by unfold maxLen;omega) (by omega) ?_;intro y5 g5 w5 a5 n5 a0 G5;have c5:=a0 w.heap.size [.n 60 0] (D'.2 rfl);refine qR [] 4 [] λs6 g6 w6 c6=>qV 0 (iv ((k0:Int)+1)) (Ay 20 (k0:Int) underlying3 (by omega)) (qR [] 2 [] λs7 g7 w7 c7=>qB [true,true,false,false] λz K0 K=>hJ (5-(k0+1)) _ _ _ z _ (by omega) ⟨k0+1,y5,rfl,by omega,rfl,rfl,(by rw[Wc];exact((a5.ch c6).ch c7)),((((((hC.n t).n c3).n c4).trans c5).n c6).n c7)⟩ K)
  .refine qI ((decide ((k0:Int)<5))) false (E' (by omega)) ?_;obtain rfl:k0=5:=by omega
   refine qR [] 5 [] λs8 g8 w8 F=>?_;have hD:=((hC.n t).n F);have hS:=ef (r:=p.av) ((hy.ch t).ch F) (λj Q=>(hH j Q).af (hD.af (λ_ _=>E7)));refine qC 2 (ZH _ _ (s:Int) w8 hS ((a2.ch hD).tn hT)) ?_;rintro e' w9 ⟨rfl,b9⟩;refine⟨_,rfl,b9,?_⟩;have Z:=Cg.ed (B:=w.heap.size) (T:=[]) (g:=g8) b9;refine qR [] 15 [0,0,2,0] λd0 a6 e3 o=>?_;by_cases G:(BY (p.av.kc.map (·.vs)) (s:Int))≠0
   .refine qI (((BY (p.av.kc.map (·.vs)) (s:Int)) != 0)) true (by simpa using G) (qR [] 6 [1,0] λd1 a7 e4 R=>?_);rw[show p.ry s=none from if_pos G];exact qE2 4 5 40 1 (a 0) (cmC V1) (.bool false) λK=>⟨rfl,Cg.af (((((hC.n t).n F).n Z).n o).n R) (λ_ _=>E7)⟩
   .refine qI (((BY (p.av.kc.map (·.vs)) (s:Int)) != 0)) false (by simpa using G) (qR [] 6 [] λd2 a8 e5 C=>?_);by_cases N:(Ea (p.av.kc.map (·.vs)) (s:Int))=true
    .refine qI ((Ea (p.av.kc.map (·.vs)) (s:Int))) true N (qR [] 6 [2,1,0] λd3 a9 e6 S=>?_);rw[show p.ry s=some (GD (p.av.kc.map (·.vs)) (s:Int))from(if_neg G).trans (if_pos N)];exact qE2 4 5 40 1 (a 0) (cmC (GD (p.av.kc.map (·.vs)) (s:Int))) (.bool true) λK=>⟨rfl,Cg.af ((((((hC.n t).n F).n Z).n o).n C).n S) (λ_ _=>E7)⟩
    .refine qI ((Ea (p.av.kc.map (·.vs)) (s:Int))) false (by simpa using N) (qR [] 14 [0] λd4 b0 e7 U=>?_);have hX:p.ry s=p.av.fv.find? (λc=>decide (c∉p.ae)):=(if_neg G).trans (if_neg N);refine Cc 63 [(0,pt nb 0),(4,pt (a 0) 0),(46,S3.v x.fv),(47,iv (x.fv.n:Int)),(48,iv 0)] [true,true,false] [⟨nb,.cells (AH i ob p x) 114,.z,false⟩,⟨(a 0),.cells #[iv 0,iv 0,iv 0,iv 0,iv 0] 40,.l,false⟩] (λk M w' e L=>∃ j:Nat,k=p.av.fv.length-j/\j<=p.av.fv.length/\e=[(0,pt nb 0),(4,pt (a 0) 0),(46,S3.v x.fv),(47,iv (x.fv.n:Int)),(48,iv (j:Int))]/\L=[⟨nb,.cells (AH i ob p x) 114,.z,false⟩,⟨(a 0),.cells #[iv 0,iv 0,iv 0,iv 0,iv 0] 40,.l,false⟩]/\(p.av.fv.drop j).find? (λc=>decide (c∉p.ae))=p.ry s/\Cg w.heap.size [.n 60 0] gz w M w') (by kernel_rfl) (by kernel_rfl) (by kernel_rfl) (by kernel_rfl) p.av.fv.length (λK=>?_) ?_
     .exact⟨0,rfl,by omega,rfl,rfl,by rw[hX];rfl,((((((hC.n t).n F).n Z).n o).n C).n U)⟩
     .rintro k gr wr _ zr _ ⟨j,rfl,Q,rfl,rfl,hI,hC2⟩ J hJ;refine qR [] 5 [] λd5 b1 e8 d=>?_;by_cases h4:j<p.av.fv.length
      .refine qI ((decide ((j:Int)<(x.fv.n:Int)))) true (M' (by omega)) ?_;obtain⟨c,H⟩:∃ c,p.av.fv[j]?=some c:=⟨_,G' h4⟩;obtain⟨bx,ox,I⟩:=hQ.addr h4;rw[VE H]at hI
       refine qR [] 5 [] λd6 b2 e9 m=>qV 0 (pt bx (ox+5*j)) (O6 I j (by omega)) ?_;have a3:=hQ.af (((hC2.n d).n m).af (λ_ _=>E7));refine qV 1 (.agg #[iv c.k,iv c.c,iv c.s,iv c.n,iv c.v]) (W9 c λq_ u hu=>a3.cellAt I H hu) (qR [] 11 [0,0,2,0,8,0,2,4,6,8,0,10,2] λd7 a1 f0 q=>qC 6 (FH (l:=p.ae) (hA.af ((((hC2.n d).n m).n q).af (λ_ _=>E7))) a4 c) ?_);rintro e' f1 ⟨rfl,A⟩;refine⟨_,rfl,A,?_⟩;have D:=Cg.ed (B:=w.heap.size) (T:=[]) (g:=a1) A;refine qR [] 2 [14] λd8 b3 f2 E=>?_;by_cases O:c∈p.ae
       .refine qI ((!(decide (c∈p.ae)))) false (by simpa using O) (qR [] 3 [] λd9 b4 f3 V=>qV 0 (iv ((j:Int)+1)) (Ay 48 (j:Int) underlying3 (by omega)) (qR [] 2 [] λe0 b5 f4 W=>qB [true,true,false] λz K0 K=>hJ (p.av.fv.length-(j+1)) _ _ _ z _ (by omega) ⟨j+1,rfl,by omega,rfl,rfl,(by rw[<- hI,if_neg (by simpa using O)]),(((((((hC2.n d).n m).n q).n D).n E).n V).n W)⟩ K))
       .refine qI ((!(decide (c∈p.ae)))) true (by simpa using O) (qR [] 6 [2,1,0] λe1 b6 f5 X=>?_);rw[if_pos (by simpa using O)]at hI
        rw[<- hI];exact qE2 4 5 40 1 (a 0) (cmC c) (.bool true) λK=>⟨rfl,Cg.af ((((((hC2.n d).n m).n q).n D).n E).n X) (λ_ _=>E7)⟩
      .refine qI ((decide ((j:Int)<(x.fv.n:Int)))) false (E' (by omega)) (qR [] 7 [1,0] λe2 b7 f6 Y=>?_);obtain rfl:j=p.av.fv.length:=by omega
       rw[oI]at hI
       rw[<- hI];exact qE2 4 5 40 1 (a 0) (cmC V1) (.bool false) λK=>⟨rfl,Cg.af ((hC2.n d).n Y) (λ_ _=>E7)⟩
theorem Oc(h:NS i nb ob g w p ls ts){b:Bool}(a:p.av.rH=b) :
  Calls prog 121 #[pt nb 11] w λe w'=>e=.returned (.bool b)/\Bw w w':=by subst a;exact So h
theorem QE(h:NS i nb ob g w p ls ts){b:World}(c:Base b g w)(d:Tabs b)(s:Nat)(j:p.av.fv.length<100000000)(a:p.ae.length<100000000){o:Option Cmd}(f:p.ry s=o) :
  Calls prog 122 #[pt nb 0,iv (s:Int)] w λe w'=>e=.returned (.tuple #[.agg (cmC (o.getD V1)),.bool o.isSome])/\Bw w w':=by subst f;exact KK h c d s j a
theorem bO(p:Nod)(v:Vt):(p.cn v).1.av=p.av:=by
 unfold Nod.cn;repeat' split
 all_goals rfl
theorem QV(h:NS i nb ob g w p ls ts){w0:World}(hB:Base w0 g w)(hT:Tabs w0)(hq:p.av.fv.length<100000000)(V:p.ae.length<100000000)(hb:p.bw.length<100000000)(a9:p.vo.vs.length<100000000) :
  Calls prog 81 #[pt nb 0] w (NP i nb ob g w (.tuple #[]) p.cF ls ts):=by
 obtain⟨x,lt,tl,m,o,hg⟩:=h;have hn:x.ae.n=p.ae.length:=m.ae.num;refine gI (fn:=f81) (TN i) g func81 hg (qN m (qO o (qR [] 18 [0,0,2,0,2] λs1 g1 w1 j=>?_)));by_cases h1:p.leads=false
 .refine Af λK=>?_;have N3:NS i nb ob g1 w1 p ls ts:=(nsC m o j K);refine qC 1 (Fv N3 h1) ?_;rintro Q w4 ⟨rfl,b4⟩;refine⟨_,rfl,b4,?_⟩;have c4:=Cg.ed (B:=w.heap.size) (T:=[]) (g:=g1) b4;refine qR [] 21 [] λs5 g5 w5 c5=>qE (.tuple #[]) λK=>?_;rw[show p.cF=p from by unfold Nod.cF;rw[if_pos (.inl h1)]];exact⟨_,rfl,(nsC m o ((j.n c4).n c5) K),(((j.nil (TN i)).n c4).n c5)⟩
 .have h10:p.leads=true:=by simpa using h1
  refine Af λK=>?_;have N8:NS i nb ob g1 w1 p ls ts:=(nsC m o j K);refine qC 1 (Fv N8 h10) ?_;rintro Q w9 ⟨rfl,b9⟩;refine⟨_,rfl,b9,?_⟩;have k:=Cg.ed (B:=w.heap.size) (T:=[]) (g:=g1) b9;refine qR [] 6 [2] λc8 t Z a=>?_;by_cases h2:p.av.rH=false
  .refine Af λK=>?_;have a1:NS i nb ob t Z p ls ts:=(nsC m o ((j.n k).n a) K);refine qC 8 (Oc a1 h2) ?_;rintro Q d8 ⟨rfl,D⟩;refine⟨_,rfl,D,?_⟩;have H:=Cg.ed (B:=w.heap.size) (T:=[]) (g:=t) D;refine qR [] 14 [] λd0 b5 d9 I=>qE (.tuple #[]) λK=>?_;rw[show p.cF=p from by unfold Nod.cF;rw[if_pos (.inr (.inl h2))]];exact⟨_,rfl,(nsC m o ((((j.n k).n a).n H).n I) K),(((((j.nil (TN i)).n k).n a).n H).n I)⟩
  .have h20:p.av.rH=true:=by simpa using h2
   refine Af λK=>?_;have a2:NS i nb ob t Z p ls ts:=(nsC m o ((j.n k).n a) K);refine qC 8 (Oc a2 h20) ?_;rintro Q e0 ⟨rfl,E⟩;refine⟨_,rfl,E,?_⟩;have b:=Cg.ed (B:=w.heap.size) (T:=[]) (g:=t) E;refine qR [] 13 [2,0] λd1 b6 e1 d=>?_;by_cases h3:(x.ae.n:Int)<(p.av.next:Int)
   .have h30:p.ae.length<p.av.next:=by omega
    refine qI ((decide ((x.ae.n:Int)<(p.av.next:Int)))) true (M' (by omega)) (qE (.tuple #[]) λK=>?_);rw[show p.cF=p from by unfold Nod.cF;rw[if_pos (.inr (.inr h30))]];exact⟨_,rfl,(nsC m o ((((j.n k).n a).n b).n d) K),(((((j.nil (TN i)).n k).n a).n b).n d)⟩
   .refine qI ((decide ((x.ae.n:Int)<(p.av.next:Int)))) false (E' (by omega)) ?_;have A:¬ (p.leads=false\/p.av.rH=false\/p.ae.length<p.av.next):=by rintro(h|h|h);exact h1 h;exact h2 h;omega
    refine qR [] 5 [2] λd2 u a0 e=>?_;cases ho:p.ry x.ae.n with
    | none =>
     refine Af λK=>?_;have a3:NS i nb ob u a0 p ls ts:=(nsC m o (((((j.n k).n a).n b).n d).n e) K);refine qC 2 (QE a3 (hB.ch ((((((j.nil (TN i)).n k).n a).n b).n d).n e) (B1 i)) hT x.ae.n hq V ho) ?_;rintro Q e2 ⟨rfl,F⟩;refine⟨_,rfl,F,?_⟩;have J:=Cg.ed (B:=w.heap.size) (T:=[]) (g:=u) F;refine qR [] 14 [0,0,3,0] λd3 b7 e3 L=>qE (.tuple #[]) λK=>?_;rw[show p.cF=p from by unfold Nod.cF;rw[if_neg A,<- hn,ho]];exact⟨_,rfl,(nsC m o (((((((j.n k).n a).n b).n d).n e).n J).n L) K),((((((((j.nil (TN i)).n k).n a).n b).n d).n e).n J).n L)⟩
    | some c =>
     refine Af λK=>?_;have a4:NS i nb ob u a0 p ls ts:=(nsC m o (((((j.n k).n a).n b).n d).n e) K);refine qC 2 (QE a4 (hB.ch ((((((j.nil (TN i)).n k).n a).n b).n d).n e) (B1 i)) hT x.ae.n hq V ho) ?_;rintro Q e4 ⟨rfl,G⟩;refine⟨_,rfl,G,?_⟩;have q:=Cg.ed (B:=w.heap.size) (T:=[]) (g:=u) G;refine qR [] 34 [0,0,3,0,11,0,2,2,4,6,8,10,12,0,14,3,16,19,0,0,21,4,0,2,4] λX b8 e5 r=>qS 2 [false,false,true,true,true] m o (((((((j.n k).n a).n b).n d).n e).n q).n r) (λa5=>Oy a5 (hB.ch ((((((((j.nil (TN i)).n k).n a).n b).n d).n e).n q).n r) (B1 i)) hT (⟨(x.ae.n:Int),p.av.jv,c⟩:Vt) a9) λc0 e6 b1 W Y v y M=>qR [] 2 [] λd4 c2 e7 s=>?_;by_cases R:(p.cn (⟨(x.ae.n:Int),p.av.jv,c⟩:Vt)).2≠0
     .refine qI (((p.cn (⟨(x.ae.n:Int),p.av.jv,c⟩:Vt)).2 != 0)) true (by simpa using R) (qE (.tuple #[]) λK=>?_);rw[show p.cF=(p.cn (⟨(x.ae.n:Int),p.av.jv,c⟩:Vt)).1 from by rw[Vg R];unfold Nod.cF;rw[if_neg A,<- hn,ho];exact if_pos R];exact⟨_,rfl,(nsC v y s K),((((((((((j.nil (TN i)).n k).n a).n b).n d).n e).n q).n r).trans (M)).n s)⟩
     .refine qI (((p.cn (⟨(x.ae.n:Int),p.av.jv,c⟩:Vt)).2 != 0)) false (by simpa using R) (qR [] 5 [0] λd5 c3 e8 N=>qV 2 (iv ((x.ae.n:Int)+1)) (Ay 55 (x.ae.n:Int) underlying3 (by omega)) (qR [.n 0 i] 9 [3,1,0] λd6 a8 b0 O=>?_));rw[show p.cF=Nod.wait { (p.cn (⟨(x.ae.n:Int),p.av.jv,c⟩:Vt)).1 with av:={ (p.cn (⟨(x.ae.n:Int),p.av.jv,c⟩:Vt)).1.av with next:=x.ae.n+1 } } (.prop (⟨(x.ae.n:Int),p.av.jv,c⟩:Vt))from by unfold Nod.cF;rw[if_neg A,<- hn,ho,bO];exact if_neg R];refine Af λK=>?_;obtain⟨z1,z2⟩:=K.rY 0 (s1 0) (.cells #[pt nb 0] 89) false (by kernel_rfl);obtain⟨z3,z4⟩:=K.rY 2 (X 1) (.cells (vtA (⟨(x.ae.n:Int),p.av.jv,c⟩:Vt)) 162) false (by kernel_rfl);have C:=((s.nil ([.n 0 i]:List Tg)).n N).trans (O);have a6:NS i nb ob a8 b0 ({ (p.cn (⟨(x.ae.n:Int),p.av.jv,c⟩:Vt)).1 with av:={ (p.cn (⟨(x.ae.n:Int),p.av.jv,c⟩:Vt)).1.av with next:=x.ae.n+1 } }) ls ts:=⟨b1,W,Y,K.sY 3 v C,y.ch C (hn:=by simp<;>omega),K.new⟩;refine qS0 2 [true,true,true,false,false] (AV a6 (by show(p.cn (⟨(x.ae.n:Int),p.av.jv,c⟩:Vt)).1.bw.length<_;rw[Ho];exact hb) _ _ (.prop (⟨(x.ae.n:Int),p.av.jv,c⟩:Vt)) ⟨(s1 0),(X 1),rfl,⟨z1,z2⟩,⟨z3,z4⟩⟩) λc6 e9 f1 b2 b3 S U a7=>qR [] 1 [] λd7 c7 f0 P=>qF S U P ((((((((((((((j.nil (TN i)).n k).n a).n b).n d).n e).n q).n r).trans (M)).n s).n N).trans (O.mono (by simp[TN]))).trans (a7)).n P)
end
end Go.Proofs.YtdnmoonbpfmijaaGreatDoor
