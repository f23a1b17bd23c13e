/- Part 9 of the walk. -/
import Derived.LoopN
import Derived.Test.YtdjfdfpkkenjbacGreatDoorZ8
set_option maxRecDepth 100000
set_option maxHeartbeats 4000000
open Go.Proofs.Tryz
set_option linter.unusedVariables false
namespace Go.Proofs.YtdjfdfpkkenjbacGreatDoor
open Go.RowKit
section
variable{P:Program}{fn:Func}{R:Ending->World->Prop}{B:Nat}{T:List Tg}{g:Gh}{w:World}
theorem fB{s:Xs}(k n:Nat)(a:List (Nat × Value))(m:List Bool)(i:List Sh)(o:SG s.K=true)(q:s.f.n=n)(y:a.map (λp=>lk s.f.z s.f.e p.1)=a.map (·.2))(u:BM (AI m s.L)=i)
  (h:∀ J:Nat->Act->World->Prop,(∀ (m:Nat) (e:List (Nat × Value)) (z:Nat->Value) (L:List Sh) (g:Gh) (w:World),GG P fn R B T (ei s n (J m) e z L) g w->Kn B g w L->J (m+1) (⟨n,e,z⟩:Fm).act w)->∀ z,GG P fn R B T (ei s n (J k) a z i) g w):GG P fn R B T s g w:=by
 refine gFm a y λz=>?_;obtain⟨K,f,L⟩:=s;simp only at q;subst q;have j:BM (AI m L)=i:=u;have v:GG P fn R B T ⟨K,⟨f.n,a,z⟩,BM (AI m L)⟩ g w->GG P fn R B T ⟨K,⟨f.n,a,z⟩,L⟩ g w:=λh=>⟨λd=>h.ex (d.sub (DD m L)).sq⟩;refine v ?_;rw[j];cases K with
 | nil=>cases o
 | cons t K =>
  cases t with
  | c x =>
   cases x with
   | loop b =>
    refine⟨λd=>?_⟩;exact wp_loop_rounds (k+1) ((h (Code.rounds P b (Kq P (bodyPost P fn R) K)) (λm e z L g w r d=>r.ex d) z).ex d)
   | _=>cases o
  | _=>cases o
end
section
variable{fn:Func}{R:Ending->World->Prop}{B:Nat}{T:List Tg}{g:Gh}{w:World}
theorem gN{s:Xs}(d:Nat)(r i:Nat)(c:D5 s d=some (Instr.makeMap 116 none>>=λv=>pure (.value v)))
  (e:(nxt s d undef s.L).o.map Ob.l'=(nxt s d undef s.L).o.map Ob.r')
  (q:∀ b g' w',w.heap.size<=b->AskAt g' w' (.n r i) b (λ_=>none)->(∀ B T,Cg B T g w g' w')->(∀ b,w'.heap.size<=b->g'.t b=.z/\g'.k b=0)->GG prog fn R B T (nxt s d (.map (some b)) s.L).s g' w'):GG prog fn R B T s g w:=by
 refine L9 d s.L e (Cp c) λm A j o f=>?_;have u:(Instr.makeMap 116 none).run prog w=.ok (.map (some w.heap.size)) (w.alloc (.map #[] 0)):=by
  simp[Instr.makeMap,go_sem]
 have h:∀ B T,Cg B T g w (Pb g w (.n r i) 0) (w.alloc (.map #[] 0)):=λB T =>
  ⟨rfl,rfl,rfl,by simp,λb a=>.inl (if_neg (by omega)),λb a=>by show _<=(if b=w.heap.size then _ else g.k b);rw[if_neg (by omega)];exact A' _,λb a _ _=>if_neg (by omega),λb a _ _=>heap_alloc_old w _ a,λb a j C=>World.cell?_of_block (w:=w) (heap_alloc_old w _ a)⟩
 have l:∀ b,(w.alloc (.map #[] 0)).heap.size<=b->(Pb g w (.n r i) 0).t b=.z/\(Pb g w (.n r i) 0).k b=0:=λb a=>by
  have p:w.heap.size+1<=b:=by simpa using a
  show(if b=w.heap.size then _ else g.t b)=.z/\(if b=w.heap.size then _ else g.k b)=0;rw[if_neg (by omega),if_neg (by omega)];exact m.new b (by omega)
 refine⟨.map (some w.heap.size),_,Pb g w (.n r i) 0,.inl ?_,m.ch (h _ []) l (by simp),q _ _ _ (A' _) ⟨if_pos rfl,if_pos rfl,[],0,heap_alloc_new _ _,λx y=>absurd y O',nM,nM,λ_=>rfl⟩ h l⟩;rw[DQ c f,Sem.run_bind,u,Result.andThen_ok];rfl
end
section
def jR(a:Acc)(y:S3)(b:Nat):Array Value:=((AF 0 0 (Cz.bare true [] 0 a []) (NX.mk s30 y s30 s30 s30 s30 (λ_=>s30) (some b))).toList.drop 6).toArray
variable{W w:World}{b:Bal}{d:List Int}{g:Gh}{i j nb ob:Nat}{l:List Vt}{ls:List Let}{p:Nod}{s:Int}{ts:List Tol}{v:Vt}{vs:List Value}{x:S3}
theorem Bf(i:Nat)(o:∀ b,w.heap.size<=b->g.t b=.z/\g.k b=0)(a:Acc)(y:S3) :
  Calls prog 47 #[.agg #[iv a.p.r,iv a.p.n,S3.v y]] w λe w'=>∃ (b:Nat) (g':Gh),e=.returned (.agg (jR a y b))/\AskAt g' w' (.n 5 i) b (λ_=>none)/\(∀ b,w'.heap.size<=b->g'.t b=.z/\g'.k b=0)/\Cg w.heap.size [] g w g' w':=by
 refine gI (fn:=f47) [] g func47 o (qR [] 8 [0,0,1,0,0] λs u C l=>gN 1 5 i (by kernel_rfl) (by kernel_rfl) ?_);intro h x D q j c B;have m:=c w.heap.size [];refine qR [] 3 [1,0] λs3 A E d=>qE1 2 118 1 (s 1) (jR a y h) λK=>⟨h,_,rfl,(j.ch d),K.new,((l.trans m).trans d)⟩
theorem Yo(s:Int){n:Nat}{w:World}(h:Sl w x.v d)(a:n<=d.length){N:Int}(b:(n:Int)=N) :
  Calls prog 136 #[.agg #[x.v,iv s],iv N] w λe w'=>∃ y:S3,e=.returned (.agg #[y.v,iv N])/\Sl w' y.v (d.take n)/\Nb w.heap.size y (d.take n)/\Bw w w':=by
 subst b;refine(JU x.v d s n w h a).mono ?_;rintro e w' ⟨y,rfl,f,c⟩;obtain⟨y,rfl,i,g⟩:=J6 (l:=d.take n) (by rw[j',nr a];exact f) (by rw[j'];have:=h.len;omega) (λz j=>h.byte z (mx j));exact⟨y,rfl,i,g,c⟩
theorem YU(s:Int){w:World}(h:Sl w x.v d){t:Bool}(a:decide (AR d s)=t) :
  Calls prog 135 #[.agg #[x.v,iv s]] w λe w'=>e=.returned (.bool t)/\Bw w w':=by
 subst a;exact LK x.v d s w h
theorem eF(h:Sl w x.v d) :
  Calls prog 134 #[.agg #[x.v,iv s]] w λe w'=>∃ y:S3,e=.returned (.tuple #[.agg #[y.v,iv (Ik d s)],iv (Db d s)])/\Sl w' y.v (Hm d s)/\Nb w.heap.size y (Hm d s)/\Bw w w':=by
 refine kIn func134 (kR 10 [0,0,1,0,0] λb H g=>?_);obtain⟨t,j⟩:∃ t,decide (AR d s)=t:=⟨_,rfl⟩;refine kC 1 (YU s (h.af g) j) ?_;rintro _ I ⟨rfl,i⟩;refine⟨_,rfl,i,?_⟩;refine kR 2 [] λC J k=>?_;by_cases a:AR d s
 .refine kI ((!t)) false (by rw[<- j,P' a];rfl) ?_;rw[show Db d s=0 from if_pos a,show Hm d s=d from if_pos a,show Ik d s=(d.length:Int)from if_pos a];have m:=FT h;have A:d.take d.length=d:=nS;refine kR 7 [0,0] λD L r=>?_;have f:=(btr (btr (btr g i) k) r);refine kC 4 (Yo s (n:=d.length) (N:=(x.n:Int)) (h.af f) (A' _) (by rw[m])) ?_;rintro _ M ⟨y,rfl,p,o,l⟩;refine⟨_,rfl,l,?_⟩;rw[A]at p o
  rw[<- m];refine kF 3 [1,0] λE O u B=>?_;have q:=((btr f l).trans u);exact qE2 2 3 121 1 (b 1) #[S3.v y,iv (x.n:Int)] (iv 0) λK=>⟨y,rfl,(p.kept B),o.mono f.size,q⟩
 .refine kI ((!t)) true (by rw[<- j,G' a];rfl) ?_;rw[show Db d s=5 from if_neg a,show Hm d s=[]from if_neg a,show Ik d s=0 from if_neg a];refine kF 6 [1,0] λF P z G=>?_;have c:=((btr (btr g i) k).trans z);exact qE2 2 3 121 1 (b 1) #[S3.v s30,iv 0] (iv 5) λK=>⟨s30,rfl,Nt _,λh=>absurd rfl h,c⟩
theorem XK{k:Int}(h:Sl w x.v d)(L:-9223372036854775808<=k)(M:k<=9223372036854775807) :
  Calls prog 94 #[.agg #[x.v,iv s],iv k] w λe w'=>∃ y:S3,e=.returned (.tuple #[.agg #[y.v,iv (Ky d s k)],iv (Gn d s k)])/\Sl w' y.v (Kx d s k)/\Nb w.heap.size y (Kx d s k)/\Bw w w':=by
 refine kIn func94 (kR 10 [0,0,1,0,0] λf w1 j=>?_);obtain⟨t,A⟩:∃ t,decide (AR d s)=t:=⟨_,rfl⟩;refine kC 1 (YU s (h.af j) A) ?_;rintro _ w2 ⟨rfl,l⟩;refine⟨_,rfl,l,?_⟩;refine kR 2 [] λT w3 u=>?_;by_cases c:AR d s
 .refine kI ((!t)) false (by rw[<- A,P' c];rfl) (kR 7 [] λU w4 C=>?_);by_cases m:k<0
  .refine kI ((decide (k<0))) true (P' m) ?_;have a:Gn d s k=2:=(if_neg (λg=>g c)).trans (if_pos m);rw[show Kx d s k=[]from if_neg (by rw[a];decide),show Ky d s k=0 from if_neg (by rw[a];decide),a];refine kF 6 [1,0] λV w5 H q5=>?_;have G:=((btr (btr (btr j l) u) C).trans H);exact qE2 4 5 121 1 (f 1) #[S3.v s30,iv 0] (iv 2) λK=>⟨s30,rfl,Nt _,λh=>absurd rfl h,G⟩
  .refine kI ((decide (k<0))) false (G' m) ?_;have a:Gn d s k=0:=(if_neg (λg=>g c)).trans (if_neg m);rw[show Kx d s k=d.take (Gp d s k).toNat from if_pos a,show Ky d s k=Gp d s k from if_pos a,a];have Z:=FT h;have Y:=h.len;have X:0<=s/\s<=(d.length:Int):=⟨c.2.1,c.2.2⟩;obtain⟨n,D⟩:∃ n:Nat,(n:Int)=s+min k ((x.n:Int)-s):=⟨(s+min k ((x.n:Int)-s)).toNat,by omega⟩;have J:Gp d s k=(n:Int):=by unfold Gp;split<;>omega
   have z:n<=d.length:=by omega
   rw[J,mM,D];refine kR 12 [0,0,0,0] λW w7 I=>kV 9 (iv ((x.n:Int)-s)) (ZF (x:=(.tmp 19)) (y:=(.tmp 21)) (x.n:Int) s underlying3 (by omega)) (kV 10 (iv (min k ((x.n:Int)-s))) (iF #[3,3] 3 k ((x.n:Int)-s)) (kV 11 (iv (s+min k ((x.n:Int)-s))) (Mb (x:=(.tmp 15)) (y:=(.tmp 23)) s (min k ((x.n:Int)-s)) underlying3 (by omega)) ?_));have b:=(btr (btr (btr (btr j l) u) C) I);refine kC 12 (Yo s (n:=n) (h.af b) z D) ?_;rintro _ Q ⟨y,rfl,O,N,i⟩;refine⟨_,rfl,i,?_⟩;refine kF 3 [1,0] λE R q B=>?_;have o:=((btr b i).trans q);exact qE2 4 5 121 1 (f 1) #[S3.v y,iv (s+min k ((x.n:Int)-s))] (iv 0) λK=>⟨y,rfl,(O.kept B),N.mono b.size,o⟩
 .refine kI ((!t)) true (by rw[<- A,G' c];rfl) ?_;have a:Gn d s k=5:=if_pos c;rw[show Kx d s k=[]from if_neg (by rw[a];decide),show Ky d s k=0 from if_neg (by rw[a];decide),a];refine kF 6 [1,0] λF S r P=>?_;have p:=((btr (btr j l) u).trans r);exact qE2 4 5 121 1 (f 1) #[S3.v s30,iv 0] (iv 5) λK=>⟨s30,rfl,Nt _,λh=>absurd rfl h,p⟩
theorem Pends.nil(g:Gh)(w:World)(nb:Nat):Pends g w nb [] []:=⟨rfl,λk v q h=>by cases h⟩
theorem XL(h:NS i nb ob g w p ls ts)(k:Int)(G:-9223372036854775808<=k)(H:k<=9223372036854775807) :
  Calls prog 53 #[pt nb 0,iv k] w (NP i nb ob g w (.tuple #[]) (if p.up then p.ib k else p) ls ts):=by
 obtain⟨x,lt,P,u,y,Z⟩:=h;refine gI (fn:=f53) (TN i) g func53 Z (qN u (qO y (qR [] 9 [0] λs1 g1 w1 b=>?_)));by_cases q:p.up=true
 .refine qI ((!p.up)) false (by simpa using q) ?_;rw[if_pos q];refine qR [] 8 [0] λs2 O w2 c=>Af λKq=>?_;have X:=(u.tape.ch (b.trans c)).s;have W:∀ z,w2.heap.size<=z->O.t z=.z:=λz hz=>(Kq.new z hz).1;refine qC 5 (XK (s:=p.sy) (k:=k) X G H) ?_;rintro e' w3 ⟨A,rfl,m,I,N⟩;refine⟨_,rfl,N,?_⟩;have o:=Cg.ed (B:=w.heap.size) (T:=[]) (g:=O) N;have a0:=FT m;have M:FSl _ _ A _:=⟨m,λhl a Y=>W _ (I hl a Y)⟩;refine qR [] 13 [0,0,2,0] λs4 g4 w4 j=>?_;by_cases r:Gn p.d p.sy k≠0
  .refine qI (((Gn p.d p.sy k) != 0)) true (by simpa using r) (qE (.tuple #[]) λK=>?_);rw[show p.ib k=p from if_pos r];exact⟨_,rfl,(nsC u y (((b.n c).n o).n j) K),((((b.nil (TN i)).n c).n o).n j)⟩
  .refine qI (((Gn p.d p.sy k) != 0)) false (by simpa using r) (qR [] 8 [7,0,2,4,8,10,12] λs7 V w7 E=>Ct 33 (λR w' e L=>e=[(0,pt nb 0)]/\L=[⟨nb,.cells (AF i ob (p.bare false (Kx p.d p.sy k) (Ky p.d p.sy k) El []) (NX.mk A s30 s30 s30 s30 s30 (λ_=>s30) none)) 123,.n 0 i,false⟩,⟨ob,.cells #[S3.v lt,S3.v P] 96,.n 50 0,false⟩,⟨(s4 0),.cells #[S3.v A,iv (Ky p.d p.sy k)] 121,.z,false⟩]/\True/\Cg w.heap.size ([.n 0 i]:List Tg) V w7 R w') (by kernel_rfl) ?_ ?_)
   .intro J hJ
    (exact Du 3 7 (by kernel_rfl) (by(refine qR [.n 0 i] 9 [2,15,0,1,16,18,21,0,1,22,24,27,0,1] λa1 S a3 C=>?_;exact qB [true,true,true] λz Q K=>hJ _ _ _ z _ ⟨rfl,rfl,trivial,C⟩ K)) (by(refine qR [.n 0 i] 9 [0,1,7,2,16,18,21,0,1,22,24,27,0,1] λa2 U a4 D=>?_;exact qB [true,true,true] λz Q K=>hJ _ _ _ z _ ⟨rfl,rfl,trivial,D⟩ K)))
   rintro g8 w8 _ z8 _ ⟨rfl,rfl,_,F⟩;refine qE (.tuple #[]) λK=>?_;rw[show p.ib k=(p.bare false (Kx p.d p.sy k) (Ky p.d p.sy k) El [])from if_neg r];exact⟨_,rfl,⟨(NX.mk A s30 s30 s30 s30 s30 (λ_=>s30) none),lt,P,K.nd 0 (((M.ch j).ch E).ch F) ⟨Sv.nil _,λh=>absurd rfl h⟩ (λ_ _=>⟨Sv.nil _,λh=>absurd rfl h⟩) ⟨[],OwnS.nil _ _ _ _ _ _,Pends.nil _ _ _⟩ (OwnS.nil _ _ _ _ _ _) (OwnS.nil _ _ _ _ _ _) (OwnS.nil _ _ _ _ _ _) rfl (λh=>by cases h),y.ch ((((((b.nil ([.n 0 i]:List Tg)).n c).n o).n j).n E).trans (F)) (hn:=by simp<;>omega),K.new⟩,((((((b.nil (TN i)).n c).n o).n j).n E).trans (F.mono (by simp[TN])))⟩
 .refine qI ((!p.up)) true (by simpa using q) (qE (.tuple #[]) λK=>?_);rw[if_neg q];exact⟨_,rfl,(nsC u y b K),(b.nil (TN i))⟩
theorem FI(h:NS i nb ob g w p ls ts){w0:World}(hB:Base w0 g w)(hT:Tabs w0)(b:Bal) :
  Calls prog 82 #[pt nb 0,.agg #[iv b.r,iv b.n]] w λe w'=>∃ (y:S3) (g':Gh),e=.returned (.tuple #[y.v,iv (p.an b).2.2])/\FSv g' w' y (p.an b).2.1/\NS i nb ob g' w' (p.an b).1 ls ts/\Cg w.heap.size (TN i) g w g' w':=by
 obtain⟨x,lt,tl,k,U,hg⟩:=h;have hA:p.vo=⟨p.vo.p,p.vo.vs⟩:=rfl;refine gI (fn:=f82) (TN i) g func82 hg (qN k (qO U (qR [] 14 [0,0,15,0,2,4,6,8,0,10,2] λs1 g1 w1 c1=>Ct 55 (λg' w' e L=>∃ (ys zs:S3) (bA:Nat),e=[(0,pt nb 0),(3,pt (s1 0) 0),(6,pt bA 0),(7,S3.v zs),(8,iv (Cl p.vo b))]/\L=[⟨nb,.cells (AF i ob p x) 123,.n 0 i,false⟩,⟨ob,.cells #[S3.v lt,S3.v tl] 96,.n 50 0,false⟩,⟨(s1 0),.cells #[iv b.r,iv b.n] 104,.z,false⟩,⟨bA,.cells #[iv (Fq p.vo b).r,iv (Fq p.vo b).n,S3.v ys] 107,.l,false⟩]/\FSv g' w' ys (Ea p.vo b)/\FSv g' w' zs (Ea p.vo b)/\Cg w.heap.size [] g w g' w') (by kernel_rfl) ?_ ?_)))
 .intro J hJ;refine Du 6 11 (by kernel_rfl) ?_ ?_
  .refine Af λc8=>?_;have V:=(k.ic.ch c1).s;have d1:=hB.ch c1;have b0:∀ z,w1.heap.size<=z->g1.t z=.z:=λz Z=>(c8.new z Z).1;refine qC 6 (Dm p.vo.p _ p.vo.vs b w1 V (d1.tn hT)) ?_;rintro e' w5 ⟨y5,z5,rfl,d3,d5,b5⟩;refine⟨_,rfl,b5,?_⟩;have c5:=Cg.ed (B:=w.heap.size) (T:=[]) (g:=g1) b5;obtain⟨e3,rfl,e7,c0⟩:=Eo d3 b0 (mg (CW _ _) V.len);obtain⟨e5,rfl,e9,c3⟩:=Eo d5 b0 (mg (CW _ _) V.len);refine qR [] 9 [14,16,18,20,23,1,0,25,3,0,26,28] λs6 g6 w6 c6=>qB [true,true,true,true] λz K0 K=>hJ _ _ _ z _ ⟨e3,e5,(s6 0),rfl,rfl,(c0.ch c6),(c3.ch c6),((c1.trans c5).trans c6)⟩ K
  .refine qR [] 1 [1,0] λs7 g7 w7 c7=>Af λd0=>?_;have W:=(k.ic.ch (c1.trans c7)).s;have d2:=hB.ch (c1.trans c7);have b1:∀ z,w7.heap.size<=z->g7.t z=.z:=λz Z=>(d0.new z Z).1;refine qC 6 (Dm p.vo.p _ p.vo.vs b w7 W (d2.tn hT)) ?_;rintro e' w9 ⟨y9,z9,rfl,d4,d6,b9⟩;refine⟨_,rfl,b9,?_⟩;have c9:=Cg.ed (B:=w.heap.size) (T:=[]) (g:=g7) b9;obtain⟨e4,rfl,e8,c2⟩:=Eo d4 b1 (mg (CW _ _) W.len);obtain⟨e6,rfl,f0,c4⟩:=Eo d6 b1 (mg (CW _ _) W.len);refine qR [] 8 [14,16,18,20,25,3,0,26,28] λg3 f1 h7 Q=>qB [true,true,true,true] λz K0 K=>hJ _ _ _ z _ ⟨e4,e6,(s7 0),rfl,rfl,(c2.ch Q),(c4.ch Q),(((c1.trans c7).trans c9).trans Q)⟩ K
 .rintro g2 w2 _ z2 _ ⟨ys,zs,bA,rfl,rfl,hys,hzs,hc⟩;refine qR [] 6 [] λg4 f2 h8 c=>?_;by_cases h1:Cl p.vo b≠0
  .refine qI (((Cl p.vo b) != 0)) true (by simpa using h1) (qR [] 6 [] λg5 f3 h9 a4=>qE (.tuple #[S3.v s30,iv (Cl p.vo b)]) λK=>?_);rw[show p.an b=(p,[],(Cl p.vo b))from if_pos h1];exact⟨s30,_,rfl,⟨Sv.nil _,λh=>absurd rfl h⟩,(nsC k U ((hc.n c).n a4) K),(((hc.nil (TN i)).n c).n a4)⟩
  .refine qI (((Cl p.vo b) != 0)) false (by simpa using h1) ?_;have H:Cl p.vo b=0:=by simpa using h1
   obtain⟨e1,e2⟩:=i8 H;rw[e2]at hys hzs
   refine qR [] 11 [8,0,2,2,4,6,8,10,12,0] λg8 f4 i0 j=>?_;by_cases h2:b=p.vo.p
   .refine qT 7 (.bool false) (λ_=>(IL (x:=(.tmp 25)) (y:=(.tmp 31)) b p.vo.p h2)) (qR [.n 0 i] 18 [3,0,1] λg9 f5 i1 E=>qE (.tuple #[S3.v zs,iv 0]) λK=>?_);rw[show p.an b=({ p with vo:=⟨b,p.vo.vs⟩ },p.vo.vs,0)from by unfold Nod.an;rw[if_neg (by simpa using H),if_pos h2]];have o:=(((hc.nil ([.n 0 i]:List Tg)).n c).n j).trans (E);have D:Tg.z∉([.n 0 i]:List Tg):=by simp
    obtain⟨q1,q2,q3⟩:=K.rm 0 nb (.cells (AF i ob { p with vo:=⟨Fq p.vo b,p.vo.vs⟩ } { x with ic:=ys }) 123) 0 i (by kernel_rfl);rw[e1]at q1
    obtain⟨q4,q5,q6⟩:=K.rm 1 ob (.cells #[S3.v lt,S3.v tl] 96) 50 0 (by kernel_rfl);exact⟨zs,_,rfl,(((hzs.ch c).ch j).ch E),⟨{ x with ic:=ys },lt,tl,⟨q1,q2,q3,k.tape.ch o D,(((hys.ch c).ch j).ch E),BA k.al o D,Ci k.br o D (by simp),k.fa.ch o,k.ae.ch o,k.au.ch o,k.bw.ch o,k.rF⟩,⟨q4,q5,q6,En U.bm o D (by simp),U.eb.ch o⟩,K.new⟩,((((hc.nil (TN i)).n c).n j).trans (E.mono (by simp[TN])))⟩
   .refine qT 7 (.bool true) (λ_=>(IM (x:=(.tmp 25)) (y:=(.tmp 31)) b p.vo.p h2)) (qR [] 9 [12,0,2,4,6,0,8,2] λh0 a6 d9 m=>Ct 55 (λg' w' e L=>∃ (tz:S3) (bT:Nat),e=[(0,pt nb 0),(6,pt bA 0),(7,S3.v zs),(9,pt bT 0),(10,iv (CK p.d p.sy (Ab b) (Bu b)))]/\L=[⟨nb,.cells (AF i ob p x) 123,.n 0 i,false⟩,⟨ob,.cells #[S3.v lt,S3.v tl] 96,.n 50 0,false⟩,⟨(s1 0),.cells #[iv b.r,iv b.n] 104,.z,false⟩,⟨bA,.cells #[iv (Fq p.vo b).r,iv (Fq p.vo b).n,S3.v ys] 107,.l,false⟩,⟨bT,.cells #[S3.v tz,iv (GP p.d p.sy (Ab b) (Bu b))] 121,.l,false⟩]/\FSl g' w' tz (FY p.d p.sy (Ab b) (Bu b))/\FSv g' w' ys p.vo.vs/\FSv g' w' zs p.vo.vs/\Cg w.heap.size [] g w g' w') (by kernel_rfl) ?_ ?_)
    .intro J hJ;refine Du 5 9 (by kernel_rfl) ?_ ?_
     .refine Af λa0=>?_;have b2:=(k.tape.ch (((hc.trans c).trans j).trans m) (by simp)).s;have I:=hB.ch (((hc.trans c).trans j).trans m) (by simp);have a8:∀ z,d9.heap.size<=z->a6.t z=.z:=λz Z=>(a0.new z Z).1;refine qC 5 (Kr (s:=p.sy) (b:=b) b2 (I.tt hT) (I.tn hT)) ?_;rintro e' i2 ⟨N,rfl,b7,b4,a2⟩;refine⟨_,rfl,a2,?_⟩;have R:=Cg.ed (B:=w.heap.size) (T:=[]) (g:=a6) a2;have X:FSl _ _ N _:=⟨b7,λhl a ha=>a8 _ (b4 hl a ha)⟩;refine qR [] 7 [12,14,16,19,1,0,21,4,0,22] λd7 f6 i3 F=>qB [true,true,true,true,true] λz K0 K=>hJ _ _ _ z _ ⟨N,(d7 0),rfl,rfl,(X.ch F),(((((hys.ch c).ch j).ch m).ch R).ch F),(((((hzs.ch c).ch j).ch m).ch R).ch F),(((((hc.trans c).trans j).trans m).trans R).trans F)⟩ K
     .refine qR [] 1 [1,0] λd8 a7 e0 A=>Af λa1=>?_;have b3:=(k.tape.ch ((((hc.trans c).trans j).trans m).trans A) (by simp)).s;have M:=hB.ch ((((hc.trans c).trans j).trans m).trans A) (by simp);have a9:∀ z,e0.heap.size<=z->a7.t z=.z:=λz Z=>(a1.new z Z).1;refine qC 5 (Kr (s:=p.sy) (b:=b) b3 (M.tt hT) (M.tn hT)) ?_;rintro e' i4 ⟨O,rfl,b8,b6,a3⟩;refine⟨_,rfl,a3,?_⟩;have S:=Cg.ed (B:=w.heap.size) (T:=[]) (g:=a7) a3;have Y:FSl _ _ O _:=⟨b8,λhl a ha=>a9 _ (b6 hl a ha)⟩;refine qR [] 6 [12,14,16,21,4,0,22] λh4 f7 i5 G=>qB [true,true,true,true,true] λz K0 K=>hJ _ _ _ z _ ⟨O,(d8 0),rfl,rfl,(Y.ch G),((((((hys.ch c).ch j).ch m).ch A).ch S).ch G),((((((hzs.ch c).ch j).ch m).ch A).ch S).ch G),((((((hc.trans c).trans j).trans m).trans A).trans S).trans G)⟩ K
    .rintro g18 w18 _ z18 _ ⟨tz,bT,rfl,rfl,htz,hys,hzs,hc⟩;refine qR [] 6 [] λh5 f8 i6 u=>?_;by_cases h3:CK p.d p.sy (Ab b) (Bu b)≠0
     .refine qI (((CK p.d p.sy (Ab b) (Bu b)) != 0)) true (by simpa using h3) (qR [] 6 [] λh6 f9 i7 a5=>qE (.tuple #[S3.v s30,iv (CK p.d p.sy (Ab b) (Bu b))]) λK=>?_);rw[show p.an b=(p,[],(CK p.d p.sy (Ab b) (Bu b)))from by unfold Nod.an;rw[if_neg (by simpa using H),if_neg h2,if_pos h3]];exact⟨s30,_,rfl,⟨Sv.nil _,λh=>absurd rfl h⟩,(nsC k U ((hc.n u).n a5) K),(((hc.nil (TN i)).n u).n a5)⟩
     .refine qI (((CK p.d p.sy (Ab b) (Bu b)) != 0)) false (by simpa using h3) (qR [.n 0 i] 23 [4,0,1,3,0,1] λs30 g0 i9 C=>qE (.tuple #[S3.v zs,iv 0]) λK=>?_);rw[show p.an b=({ p with d:=FY p.d p.sy (Ab b) (Bu b),sy:=GP p.d p.sy (Ab b) (Bu b),vo:=⟨b,p.vo.vs⟩ },p.vo.vs,0)from by unfold Nod.an;rw[if_neg (by simpa using H),if_neg h2,if_neg h3]];have q:=((hc.nil ([.n 0 i]:List Tg)).n u).trans (C);have P:Tg.z∉([.n 0 i]:List Tg):=by simp
      obtain⟨q1,q2,q3⟩:=K.rm 0 nb (.cells (AF i ob { p with d:=FY p.d p.sy (Ab b) (Bu b),sy:=GP p.d p.sy (Ab b) (Bu b),vo:=⟨Fq p.vo b,p.vo.vs⟩ } { x with ic:=ys,tape:=tz }) 123) 0 i (by kernel_rfl);rw[e1]at q1
      obtain⟨q4,q5,q6⟩:=K.rm 1 ob (.cells #[S3.v lt,S3.v tl] 96) 50 0 (by kernel_rfl);exact⟨zs,_,rfl,((hzs.ch u).ch C),⟨{ x with ic:=ys,tape:=tz },lt,tl,⟨q1,q2,q3,((htz.ch u).ch C),((hys.ch u).ch C),BA k.al q P,Ci k.br q P (by simp),k.fa.ch q,k.ae.ch q,k.au.ch q,k.bw.ch q,k.rF⟩,⟨q4,q5,q6,En U.bm q P (by simp),U.eb.ch q⟩,K.new⟩,(((hc.nil (TN i)).n u).trans (C.mono (by simp[TN])))⟩
def S9(l:List Vt)(v:Vt):Int:=if v∈l then((l.findIdx λu=>decide (u=v)):Int)else -1
theorem Y1(l:List Vt)(v:Vt):decide (0<=S9 l v)=decide (v∈l):=by
 unfold S9;by_cases a:v∈l
 .rw[if_pos a,P' a];exact P' (by omega)
 .rw[if_neg a,G' a];rfl
theorem cW(h:l[j]?=some v)(a:∀ i,i<j->l[i]?≠some v):S9 l v=(j:Int):=by
 have d:v∈l:=mD h;obtain⟨c,e⟩:=V'.1 h;unfold S9;rw[if_pos d]
 congr 1
 rw[List.findIdx_eq c];exact⟨by simp[e],λi b=>by have:=a i b;rw[H' (by omega)]at this;simpa using this⟩
theorem SC(h:Sv w x.v l)(hb:l.length<100000000)(v:Vt) :
  Calls prog 178 #[x.v,.agg #[iv v.bn,iv v.b.r,iv v.b.n,iv v.w.k,iv v.w.c,iv v.w.s,iv v.w.n,iv v.w.v]] w λe w'=>e=.returned (iv (S9 l v))/\Bw w w':=by
 have hn:x.n=l.length:=by obtain⟨a,Q,H⟩:=h.shape;simp only[Value.slice.injEq]at H;exact H.2.1
 refine gI (fn:=f178) [] gh0 func178 (λ_ _=>⟨rfl,rfl⟩) (qR [] 13 [0,0] λA g1 w1 M=>Cc 19 [(0,S3.v x),(3,pt (A 0) 0),(7,iv (x.n:Int)),(8,iv 0)] [true] [⟨(A 0),.cells #[iv v.bn,iv v.b.r,iv v.b.n,iv v.w.k,iv v.w.c,iv v.w.s,iv v.w.n,iv v.w.v] 164,.z,false⟩] (λk R w' e L=>∃ j:Nat,k=l.length-j/\j<=l.length/\e=[(0,S3.v x),(3,pt (A 0) 0),(7,iv (x.n:Int)),(8,iv (j:Int))]/\L=[⟨(A 0),.cells #[iv v.bn,iv v.b.r,iv v.b.n,iv v.w.k,iv v.w.c,iv v.w.s,iv v.w.n,iv v.w.v] 164,.z,false⟩]/\(∀ i,i<j->l[i]?≠some v)/\Cg w.heap.size [] gh0 w R w') (by kernel_rfl) (by kernel_rfl) (by kernel_rfl) (by kernel_rfl) l.length (λK=>?_) ?_)
 .exact⟨0,rfl,by omega,rfl,rfl,λi o=>absurd o (by omega),M⟩
 .rintro k gr wr _ zr _ ⟨j,rfl,hj,rfl,rfl,hI,hC⟩ J hJ;refine qR [] 5 [] λs2 g2 w2 q=>?_;by_cases T:j<l.length
  .refine qI ((decide ((j:Int)<(x.n:Int)))) true (P' (by omega)) ?_;obtain⟨d,m⟩:∃ d,l[j]?=some d:=⟨_,H' T⟩;obtain⟨bx,I,F,D,g⟩:=h.spot j d m;refine qR [] 13 [6,0,0,2,4] λs3 g3 w3 C=>qT 3 (pt bx (I+8*j)) (λ_=>(UH F j (by omega))) ?_;have V:=Cg.af (hC.trans (q.trans C)) (λ_ _=>O');refine qV 4 (.agg #[iv d.bn,iv d.b.r,iv d.b.n,iv d.w.k,iv d.w.c,iv d.w.s,iv d.w.n,iv d.w.v]) (dX d λi u X=>(V.cell (p:=⟨bx,I+8*j+i,none⟩) D).trans (g i u X)) (qT 5 (.bool (decide (v=d))) (λ_=>(kg (x:=(.tmp 11)) (y:=(.tmp 15)) v d)) (qR [] 1 [] λs6 g6 w6 G=>?_));by_cases t:v=d
   .refine qI (decide (v=d)) true (P' t) (qR [] 5 [] λs7 g7 w7 N=>qE (iv (j:Int)) λK=>⟨by rw[cW (by rw[t];exact m) hI],Cg.af (hC.trans (((q.trans C).trans G).trans N)) (λ_ _=>O')⟩)
   .refine qI (decide (v=d)) false (G' t) (qR [] 3 [] λs8 g8 w8 O=>qV 0 (iv ((j:Int)+1)) (Bj 8 (j:Int) underlying3 (by omega)) (qR [] 2 [] λs9 g9 w9 P=>qB [true] λz K0 K=>hJ (l.length-(j+1)) _ _ _ z _ (by omega) ⟨j+1,rfl,by omega,rfl,rfl,λi o=>?_,hC.trans ((((q.trans C).trans G).trans O).trans P)⟩ K));rcases mZ i j with h4|h4
    .exact hI i h4
    .rw[show i=j by omega,m];intro U;exact t (by simpa using U.symm)
  .refine qI ((decide ((j:Int)<(x.n:Int)))) false (G' (by omega)) (qR [] 5 [] λY S Z B=>?_);have E:v∉l:=λW=>by obtain⟨i,o⟩:=nw.1 W;exact hI i (by have:=(V'.1 o).1;omega) o
   exact qE (iv (-1)) λK=>⟨by unfold S9;rw[if_neg E],Cg.af (hC.trans (q.trans B)) (λ_ _=>O')⟩
theorem MY(h:Sv w x.v l)(p:l.length<100000000)(v:Vt) :
  Calls prog 148 #[x.v,.agg #[iv v.bn,iv v.b.r,iv v.b.n,iv v.w.k,iv v.w.c,iv v.w.s,iv v.w.n,iv v.w.v]] w λe w'=>e=.returned (.bool (decide (v∈l)))/\Bw w w':=by
 refine gI (fn:=f148) [] gh0 func148 (λ_ _=>⟨rfl,rfl⟩) (qR [] 9 [0,0,0] λu o y i=>?_);have a:=Cg.af i (λ_ _=>O');refine qC 2 (SC (h.af a) p v) ?_;rintro q z ⟨rfl,d⟩;refine⟨_,rfl,d,?_⟩;have j:=Cg.ed (B:=w.heap.size) (T:=[]) (g:=o) d;refine qR [] 3 [] λs3 t A m=>qE (.bool (decide (0<=S9 l v))) λK=>⟨by rw[Y1],Cg.af ((i.trans j).trans m) (λ_ _=>O')⟩
theorem Oj(h:NS i nb ob g w p ls ts){w0:World}(hB:Base w0 g w)(hT:Tabs w0)(v:Vt)(hb:p.vo.vs.length<100000000) :
  Calls prog 115 #[pt nb 0,.agg #[iv v.bn,iv v.b.r,iv v.b.n,iv v.w.k,iv v.w.c,iv v.w.s,iv v.w.n,iv v.w.v]] w (NP i nb ob g w (iv (p.bN v).2) (p.bN v).1 ls ts):=by
 obtain⟨x,lt,tl,u,U,hg⟩:=h;refine gI (fn:=f115) (TN i) g func115 hg (qN u (qO U (qR [] 13 [0,0,13,0,2,4,6,8,0,10,2] λs1 g1 w1 Y=>Ct 52 (λZ w' e L=>∃ (ys:S3) (bA:Nat),e=[(0,pt nb 0),(3,pt (s1 0) 0),(5,pt bA 0),(6,iv (Ba p.vo v))]/\L=[⟨nb,.cells (AF i ob p x) 123,.n 0 i,false⟩,⟨ob,.cells #[S3.v lt,S3.v tl] 96,.n 50 0,false⟩,⟨(s1 0),.cells #[iv v.bn,iv v.b.r,iv v.b.n,iv v.w.k,iv v.w.c,iv v.w.s,iv v.w.n,iv v.w.v] 164,.z,false⟩,⟨bA,.cells #[iv (BI p.vo v).r,iv (BI p.vo v).n,S3.v ys] 107,.l,false⟩]/\FSv Z w' ys (Br p.vo v)/\Cg w.heap.size [] g w Z w') (by kernel_rfl) ?_ ?_)))
 .intro J hJ;refine Du 6 10 (by kernel_rfl) ?_ ?_
  .refine Af λc8=>?_;have d7:=(u.ic.ch Y).s;have d2:=hB.ch Y;have d4:∀ z,w1.heap.size<=z->g1.t z=.z:=λz X=>(c8.new z X).1;refine qC 6 (Cv p.vo.p _ p.vo.vs v w1 d7 (d2.tn hT)) ?_;rintro e' w5 ⟨y5,rfl,d9,g3,b5⟩;refine⟨_,rfl,b5,?_⟩;have c5:=Cg.ed (B:=w.heap.size) (T:=[]) (g:=g1) b5;obtain⟨e7,rfl,e9,c3⟩:=Eo d9 d4 (by omega);refine qR [] 7 [14,16,18,21,1,0,23,3,0,24] λs6 g6 w6 c6=>qB [true,true,true,true] λz K0 K=>hJ _ _ _ z _ ⟨e7,(s6 0),rfl,rfl,(c3.ch c6),((Y.trans c5).trans c6)⟩ K
  .refine qR [] 1 [1,0] λs7 g7 w7 c7=>Af λd0=>?_;have d8:=(u.ic.ch (Y.trans c7)).s;have d3:=hB.ch (Y.trans c7);have d5:∀ z,w7.heap.size<=z->g7.t z=.z:=λz X=>(d0.new z X).1;refine qC 6 (Cv p.vo.p _ p.vo.vs v w7 d8 (d3.tn hT)) ?_;rintro e' w9 ⟨y9,rfl,e0,g4,b9⟩;refine⟨_,rfl,b9,?_⟩;have c9:=Cg.ed (B:=w.heap.size) (T:=[]) (g:=g7) b9;obtain⟨e8,rfl,f0,c4⟩:=Eo e0 d5 (by omega);refine qR [] 6 [14,16,18,23,3,0,24] λg5 f1 i0 a5=>qB [true,true,true,true] λz K0 K=>hJ _ _ _ z _ ⟨e8,(s7 0),rfl,rfl,(c4.ch a5),(((Y.trans c7).trans c9).trans a5)⟩ K
 .rintro g2 w2 _ z2 _ ⟨ys,bA,rfl,rfl,hys,hc⟩;refine qR [] 6 [] λg8 f2 i1 j=>?_;by_cases h1:Ba p.vo v≠0
  .refine qI (((Ba p.vo v) != 0)) true (by simpa using h1) (qR [] 5 [] λg9 f3 i2 a6=>qE (iv (Ba p.vo v)) λK=>?_);rw[show p.bN v=(p,(Ba p.vo v))from if_pos h1];exact⟨_,rfl,(nsC u U ((hc.n j).n a6) K),(((hc.nil (TN i)).n j).n a6)⟩
  .refine qI (((Ba p.vo v) != 0)) false (by simpa using h1) ?_;have H:Ba p.vo v=0:=by simpa using h1
   obtain⟨e1,e2⟩:=DM H;rw[e2]at hys
   refine qR [] 11 [9,0,2,4,6,8,10,0,12,2] λh0 d1 i3 m=>?_;have d6:=(u.ic.ch ((hc.trans j).trans m) (by simp)).s;refine qC 7 (MY d6 hb v) ?_;rintro e' i4 ⟨rfl,a2⟩;refine⟨_,rfl,a2,?_⟩;have o:=Cg.ed (B:=w.heap.size) (T:=[]) (g:=d1) a2;refine qR [] 2 [16] λh4 f4 i5 q=>?_;by_cases h2:v∈p.vo.vs
   .refine qI ((!(decide (v∈p.vo.vs)))) false (by simpa using h2) (qR [.n 0 i] 14 [3,0,1] λh5 f5 i6 Q=>qE (iv 0) λK=>?_);rw[show p.bN v=({ p with vo:=⟨v.b,Bo p.vo.vs v⟩ },0)from by unfold Nod.bN;rw[if_neg (by simpa using H),if_pos h2]];have y:=(((((hc.nil ([.n 0 i]:List Tg)).n j).n m).n o).n q).trans (Q);have E:Tg.z∉([.n 0 i]:List Tg):=by simp
    obtain⟨q1,q2,q3⟩:=K.rm 0 nb (.cells (AF i ob { p with vo:=⟨BI p.vo v,Bo p.vo.vs v⟩ } { x with ic:=ys }) 123) 0 i (by kernel_rfl);rw[e1]at q1
    obtain⟨q4,q5,q6⟩:=K.rm 1 ob (.cells #[S3.v lt,S3.v tl] 96) 50 0 (by kernel_rfl);exact⟨_,rfl,⟨{ x with ic:=ys },lt,tl,⟨q1,q2,q3,u.tape.ch y E,(((((hys.ch j).ch m).ch o).ch q).ch Q),BA u.al y E,Ci u.br y E (by simp),u.fa.ch y,u.ae.ch y,u.au.ch y,u.bw.ch y,u.rF⟩,⟨q4,q5,q6,En U.bm y E (by simp),U.eb.ch y⟩,K.new⟩,((((((hc.nil (TN i)).n j).n m).n o).n q).trans (Q.mono (by simp[TN])))⟩
   .refine qI ((!(decide (v∈p.vo.vs)))) true (by simpa using h2) (qR [] 7 [12,0,2,4,6,0,8,2] λh6 b0 e5 C=>Ct 52 (λZ w' e L=>∃ (tz:S3) (bT:Nat),e=[(0,pt nb 0),(5,pt bA 0),(7,pt bT 0),(8,iv (CK p.d p.sy (Ah v) (Bk v)))]/\L=[⟨nb,.cells (AF i ob p x) 123,.n 0 i,false⟩,⟨ob,.cells #[S3.v lt,S3.v tl] 96,.n 50 0,false⟩,⟨(s1 0),.cells #[iv v.bn,iv v.b.r,iv v.b.n,iv v.w.k,iv v.w.c,iv v.w.s,iv v.w.n,iv v.w.v] 164,.z,false⟩,⟨bA,.cells #[iv (BI p.vo v).r,iv (BI p.vo v).n,S3.v ys] 107,.l,false⟩,⟨bT,.cells #[S3.v tz,iv (GP p.d p.sy (Ah v) (Bk v))] 121,.l,false⟩]/\FSl Z w' tz (FY p.d p.sy (Ah v) (Bk v))/\FSv Z w' ys (Bo p.vo.vs v)/\Cg w.heap.size [] g w Z w') (by kernel_rfl) ?_ ?_)
    .intro J hJ;refine Du 5 9 (by kernel_rfl) ?_ ?_
     .refine Af λa0=>?_;have b4:=(u.tape.ch (((((hc.trans j).trans m).trans o).trans q).trans C) (by simp)).s;have I:=hB.ch (((((hc.trans j).trans m).trans o).trans q).trans C) (by simp);have b2:∀ z,e5.heap.size<=z->b0.t z=.z:=λz X=>(a0.new z X).1;refine qC 5 (Ru (s:=p.sy) (v:=v) b4 (I.tt hT) (I.tn hT)) ?_;rintro e' i7 ⟨N,rfl,c0,b7,a3⟩;refine⟨_,rfl,a3,?_⟩;have a7:=Cg.ed (B:=w.heap.size) (T:=[]) (g:=b0) a3;have V:FSl _ _ N _:=⟨c0,λhl a ha=>b2 _ (b7 hl a ha)⟩;refine qR [] 7 [12,14,16,19,1,0,21,4,0,22] λe3 f6 i8 R=>qB [true,true,true,true,true] λz K0 K=>hJ _ _ _ z _ ⟨N,(e3 0),rfl,rfl,(V.ch R),(((((((hys.ch j).ch m).ch o).ch q).ch C).ch a7).ch R),(((((((hc.trans j).trans m).trans o).trans q).trans C).trans a7).trans R)⟩ K
     .refine qR [] 1 [1,0] λe4 b1 e6 F=>Af λa1=>?_;have b6:=(u.tape.ch ((((((hc.trans j).trans m).trans o).trans q).trans C).trans F) (by simp)).s;have M:=hB.ch ((((((hc.trans j).trans m).trans o).trans q).trans C).trans F) (by simp);have b3:∀ z,e6.heap.size<=z->b1.t z=.z:=λz X=>(a1.new z X).1;refine qC 5 (Ru (s:=p.sy) (v:=v) b6 (M.tt hT) (M.tn hT)) ?_;rintro e' i9 ⟨O,rfl,c2,b8,a4⟩;refine⟨_,rfl,a4,?_⟩;have a8:=Cg.ed (B:=w.heap.size) (T:=[]) (g:=b1) a4;have W:FSl _ _ O _:=⟨c2,λhl a ha=>b3 _ (b8 hl a ha)⟩;refine qR [] 6 [12,14,16,21,4,0,22] λh7 f7 j0 S=>qB [true,true,true,true,true] λz K0 K=>hJ _ _ _ z _ ⟨O,(e4 0),rfl,rfl,(W.ch S),((((((((hys.ch j).ch m).ch o).ch q).ch C).ch F).ch a8).ch S),((((((((hc.trans j).trans m).trans o).trans q).trans C).trans F).trans a8).trans S)⟩ K
    .rintro g20 w20 _ z20 _ ⟨tz,bT,rfl,rfl,htz,hys,hc⟩;refine qR [] 6 [] λh8 f8 j1 D=>?_;by_cases h3:CK p.d p.sy (Ah v) (Bk v)≠0
     .refine qI (((CK p.d p.sy (Ah v) (Bk v)) != 0)) true (by simpa using h3) (qR [] 5 [] λs30 f9 j2 a9=>qE (iv (CK p.d p.sy (Ah v) (Bk v))) λK=>?_);rw[show p.bN v=(p,(CK p.d p.sy (Ah v) (Bk v)))from by unfold Nod.bN;rw[if_neg (by simpa using H),if_neg h2,if_pos h3]];exact⟨_,rfl,(nsC u U ((hc.n D).n a9) K),(((hc.nil (TN i)).n D).n a9)⟩
     .refine qI (((CK p.d p.sy (Ah v) (Bk v)) != 0)) false (by simpa using h3) (qR [.n 0 i] 21 [4,0,1,3,0,1] λh9 g0 j3 G=>qE (iv 0) λK=>?_);rw[show p.bN v=({ p with d:=FY p.d p.sy (Ah v) (Bk v),sy:=GP p.d p.sy (Ah v) (Bk v),vo:=⟨v.b,Bo p.vo.vs v⟩ },0)from by unfold Nod.bN;rw[if_neg (by simpa using H),if_neg h2,if_neg h3]];have A:=((hc.nil ([.n 0 i]:List Tg)).n D).trans (G);have P:Tg.z∉([.n 0 i]:List Tg):=by simp
      obtain⟨q1,q2,q3⟩:=K.rm 0 nb (.cells (AF i ob { p with d:=FY p.d p.sy (Ah v) (Bk v),sy:=GP p.d p.sy (Ah v) (Bk v),vo:=⟨BI p.vo v,Bo p.vo.vs v⟩ } { x with ic:=ys,tape:=tz }) 123) 0 i (by kernel_rfl);rw[e1]at q1
      obtain⟨q4,q5,q6⟩:=K.rm 1 ob (.cells #[S3.v lt,S3.v tl] 96) 50 0 (by kernel_rfl);exact⟨_,rfl,⟨{ x with ic:=ys,tape:=tz },lt,tl,⟨q1,q2,q3,((htz.ch D).ch G),((hys.ch D).ch G),BA u.al A P,Ci u.br A P (by simp),u.fa.ch A,u.ae.ch A,u.au.ch A,u.bw.ch A,u.rF⟩,⟨q4,q5,q6,En U.bm A P (by simp),U.eb.ch A⟩,K.new⟩,(((hc.nil (TN i)).n D).trans (G.mono (by simp[TN])))⟩
theorem LV(h:(p.an b).2.2≠0):(p.an b).1=p:=by
 unfold Nod.an at h ⊢;split
 .rfl
 .rename_i h1
  rw[if_neg h1]at h
  split
  .rename_i h2;rw[if_pos h2]at h;exact absurd rfl h
  .rename_i h2
   rw[if_neg h2]at h
   split
   .rfl
   .rename_i h3;rw[if_neg h3]at h;exact absurd rfl h
theorem UY(h:(p.bN v).2≠0):(p.bN v).1=p:=by
 unfold Nod.bN at h ⊢;split
 .rfl
 .rename_i h1
  rw[if_neg h1]at h
  split
  .rename_i h2;rw[if_pos h2]at h;exact absurd rfl h
  .rename_i h2
   rw[if_neg h2]at h
   split
   .rfl
   .rename_i h3;rw[if_neg h3]at h;exact absurd rfl h
theorem FP(p:Nod)(b:Bal):(p.an b).1.br=p.br:=by
 unfold Nod.an
 repeat' split
 all_goals rfl
theorem Hi(p:Nod)(v:Vt):(p.bN v).1.br=p.br:=by
 unfold Nod.bN
 repeat' split
 all_goals rfl
theorem IW(h:NS i nb ob g w p ls ts){w0:World}(hB:Base w0 g w)(hT:Tabs w0)(o:Nat)(l:Let)(hl:CQ g w o l)(hk:l.kind=0)(hb:p.br.length<100000000) :
  Calls prog 70 #[pt nb 0,pt o 0] w (NP i nb ob g w (.tuple #[]) (p.take l) ls ts):=by
 obtain⟨x,lt,tl,W,X,hg⟩:=h;refine gI (fn:=f70) (TN i) g func70 hg (qN W (qO X ?_));have V:=hl;obtain⟨vs,wh,G,b5,b6⟩:=hl;refine Cr ⟨o,.cells (FF l vs wh) 166,.z,false⟩ (λ_=>⟨G.r,G.z,λh=>(by cases h),λh=>absurd rfl h⟩) (by kernel_rfl) ?_;refine qR [] 12 [0,0,0,0,5,0,3,2,4,4,6,8,2] λd g1 w1 q=>Ct 27 (λS w' e L=>∃ (yv:S3) (b4:Nat),e=[(2,pt (d 0) 0),(3,pt (d 1) 0),(4,pt b4 0),(5,iv (p.an l.fv).2.2)]/\L=[⟨o,.cells (FF l vs wh) 166,.z,false⟩,⟨(d 0),.cells #[pt nb 0] 99,.z,false⟩,⟨(d 1),.cells #[pt o 0] 167,.z,false⟩,⟨b4,.cells #[S3.v yv] 105,.l,false⟩]/\FSv S w' yv (p.an l.fv).2.1/\NS i nb ob S w' (p.an l.fv).1 ls ts/\Cg w.heap.size (TN i) g w S w') (by kernel_rfl) ?_ ?_
 .intro J hJ;refine Du 5 9 (by kernel_rfl) ?_ ?_
  .refine Af λK=>?_;have N4:NS i nb ob g1 w1 p ls ts:=(nsC W X q K);refine qG 5 (TN i) [false,false,true,true,true] (FI N4 (hB.ch (q.nil (TN i)) (Bx i)) hT l.fv) ?_;rintro e' w4 ⟨y4,g4,rfl,Y,M4,H⟩;refine⟨_,g4,rfl,H,M4.new,?_⟩;replace H:=H.ret (B:=w.heap.size);refine qR [] 7 [12,14,16,19,1,0,21,3,0,22] λs6 g6 w6 Q=>qB [true,true,true,true] λz M K=>hJ _ _ _ z _ ⟨y4,(s6 0),rfl,rfl,(Y.ch Q),NS.qM M4 Q M.new,(((q.nil (TN i)).trans (H)).n Q)⟩ K
  .refine qR [] 1 [1,0] λs7 g7 w7 R=>Af λK=>?_;have N8:NS i nb ob g7 w7 p ls ts:=(nsC W X (q.n R) K);refine qG 5 (TN i) [false,false,true,true,true,true] (FI N8 (hB.ch ((q.nil (TN i)).n R) (Bx i)) hT l.fv) ?_;rintro e' w8 ⟨y8,g8,rfl,Z,M8,I⟩;refine⟨_,g8,rfl,I,M8.new,?_⟩;replace I:=I.ret (B:=w.heap.size);refine qR [] 6 [12,14,16,21,3,0,22] λb8 a6 d0 j=>qB [true,true,true,true] λz M K=>hJ _ _ _ z _ ⟨y8,(s7 0),rfl,rfl,(Z.ch j),NS.qM M8 j M.new,((((q.nil (TN i)).n R).trans (I)).n j)⟩ K
 .rintro g2 w2 _ z2 _ ⟨yv,b4,rfl,rfl,hyv,hM,hc⟩;obtain⟨x1,b7,c9,k,m,b3⟩:=hM;refine qN k (qO m (jD 3 b4 (by kernel_rfl) λa7 a=>qR [] 6 [] λb9 a8 d1 b=>?_));by_cases A:(p.an l.fv).2.2≠0
  .refine qI (((p.an l.fv).2.2 != 0)) true (by simpa using A) (qR [] 8 [6,0,1,2,2,4,6,8,0,10] λc0 T a0 t=>?_);have hp:=LV A;rw[show p.take l=p.ew l.src (p.an l.fv).2.2 from by unfold Nod.take;rw[hk];exact if_pos A];refine Af λK=>?_;have s:NS i nb ob T a0 ((p.an l.fv).1) ls ts:=(nsC k m ((a.n b).n t) K);rw[hp]at s
   refine qS0 6 [true,true,true,true,false,false] (Me s hb l.src (p.an l.fv).2.2) λa9 d2 d6 a2 a4 C E O=>qR [] 1 [] λc2 b0 d3 u=>qF C E u ((((((hc).n a).n b).n t).trans (O)).n u)
  .refine qI (((p.an l.fv).2.2 != 0)) false (by simpa using A) (qR [] 4 [1] λc3 U a1 c=>?_);rw[show p.take l=(p.an l.fv).1.wait (.prom l.src l.fv (p.an l.fv).2.1)from by unfold Nod.take;rw[hk];exact if_neg A];refine Af λK=>?_;obtain⟨z1,z2⟩:=K.rk 1 (d 0) (.cells #[pt nb 0] 99) false (by kernel_rfl);obtain⟨z3,z4⟩:=K.rk 2 (d 1) (.cells #[pt o 0] 167) false (by kernel_rfl);obtain⟨z5,z6⟩:=K.rk 3 b4 (.cells #[S3.v yv] 105) false (by kernel_rfl);have N:NS i nb ob U a1 ((p.an l.fv).1) ls ts:=(nsC k m ((a.n b).n c) K);refine qS0 2 [true,true,true,true,false,false] (AU N (by rw[FP];exact hb) _ _ (.prom l.src l.fv (p.an l.fv).2.1) ⟨(d 0),(d 1),b4,yv,o,l,rfl,⟨z1,z2⟩,⟨z3,z4⟩,⟨z5,z6⟩,(((hyv.ch a).ch b).ch c),V.ch ((((hc).n a).n b).n c) (Bx i),rfl,rfl⟩) λb1 d4 d7 a3 a5 D F P=>qR [] 1 [] λc5 b2 d5 y=>qF D F y ((((((hc).n a).n b).n c).trans (P)).n y)
theorem JK(h:NS i nb ob g w p ls ts){R:World}(X:Base R g w)(Y:Tabs R)(s:Nat)(l:Let)(O:CQ g w s l)(N:l.kind=3)(M:p.br.length<100000000)(E:p.vo.vs.length<100000000) :
  Calls prog 73 #[pt nb 0,pt s 0] w (NP i nb ob g w (.tuple #[]) (p.take l) ls ts):=by
 obtain⟨x,lt,tl,J,L,Z⟩:=h;refine gI (fn:=f73) (TN i) g func73 Z (qN J (qO L ?_));have B:=O;obtain⟨vs,wh,q,a0,a1⟩:=O;refine Cr ⟨s,.cells (FF l vs wh) 166,.z,false⟩ (λ_=>⟨q.r,q.z,λh=>(by cases h),λh=>absurd rfl h⟩) (by kernel_rfl) ?_;refine qR [] 13 [0,0,0,0,5,0,3,2,4,4,6,8,2] λt g1 w1 b=>qS 5 [false,false,true,true,true] J L b (λS=>Oj S (X.ch (b.nil (TN i)) (Bx i)) Y l.bN E) λg2 w2 x2 a2 a6 k o y=>qR [] 7 [12] λs4 g4 w4 d=>?_;by_cases e:(p.bN l.bN).2≠0
 .refine qI (((p.bN l.bN).2 != 0)) true (by simpa using e) (qR [] 8 [6,0,1,2,2,4,6,8,0,10] λs5 W w5 H=>?_);have hp:=UY e;rw[show p.take l=p.ew l.src (p.bN l.bN).2 from by unfold Nod.take;rw[N];exact if_pos e];refine Af λK=>?_;have G:NS i nb ob W w5 ((p.bN l.bN).1) ls ts:=(nsC k o (d.n H) K);rw[hp]at G
  refine qS0 6 [true,true,true,false,false] (Me G M l.src (p.bN l.bN).2) λg6 w6 x6 a3 a7 C D T=>qR [] 1 [] λs8 g8 w8 I=>qF C D I ((((((b.nil (TN i)).trans (y)).n d).n H).trans (T)).n I)
 .refine qI (((p.bN l.bN).2 != 0)) false (by simpa using e) (qR [] 4 [1] λa4 A F a=>?_);rw[show p.take l=(p.bN l.bN).1.wait (.voted l.src l.bN)from by unfold Nod.take;rw[N];exact if_neg e];refine Af λK=>?_;obtain⟨z1,z2⟩:=K.rk 1 (t 0) (.cells #[pt nb 0] 99) false (by kernel_rfl);obtain⟨z3,z4⟩:=K.rk 2 (t 1) (.cells #[pt s 0] 167) false (by kernel_rfl);have u:NS i nb ob A F ((p.bN l.bN).1) ls ts:=(nsC k o (d.n a) K);refine qS0 2 [true,true,true,false,false] (AU u (by rw[Hi];exact M) _ _ (.voted l.src l.bN) ⟨(t 0),(t 1),s,l,rfl,⟨z1,z2⟩,⟨z3,z4⟩,B.ch ((((b.nil (TN i)).trans (y)).n d).n a) (Bx i),rfl,rfl⟩) λU a8 b0 P Q j m v=>qR [] 1 [] λa5 V a9 c=>qF j m c ((((((b.nil (TN i)).trans (y)).n d).n a).trans (v)).n c)
theorem PB(h:NS i nb ob g w p ls ts)(d:Nat)(l:Let)(F:CQ g w d l)(E:l.kind=5)(O:p.br.length<100000000)(y:p.ae.length<100000000)(A:l.fm.length<100000000) :
  Calls prog 75 #[pt nb 0,pt d 0] w (NP i nb ob g w (.tuple #[]) (p.take l) ls ts):=by
 obtain⟨x,lt,tl,e,t,P⟩:=h;refine gI (fn:=f75) (TN i) g func75 P (qN e (qO t ?_));have o:=F;have hn:=e.ae.num;obtain⟨V,G,c,Q,B⟩:=F;refine Cr ⟨d,.cells (FF l V G) 166,.z,false⟩ (λ_=>⟨c.r,c.z,λh=>(by cases h),λh=>absurd rfl h⟩) (by kernel_rfl) ?_;refine qR [] 20 [0,0,0,0,11,0,4,2,4,6,2,8,3,10,12,14,16,0,18,20] λj g1 w1 a=>?_;by_cases D:p.ae.length<l.bn
 .refine qI ((decide ((x.ae.n:Int)<(l.bn:Int)))) true (P' (by omega)) (qR [] 4 [3] λs2 N X k=>?_);rw[show p.take l=p.wait (.askNews l.src)from by unfold Nod.take;rw[E];exact if_pos D];refine Af λK=>?_;obtain⟨Y,Z⟩:=K.rk 3 (j 0) (.cells #[pt nb 0] 99) false (by kernel_rfl);obtain⟨z3,z4⟩:=K.rk 4 (j 1) (.cells #[pt d 0] 167) false (by kernel_rfl);have H:NS i nb ob N X p ls ts:=(nsC e t (a.n k) K);refine qS0 2 [false,false,true,true,true] (AU H O _ _ (.askNews l.src) ⟨(j 0),(j 1),d,l,rfl,⟨Y,Z⟩,⟨z3,z4⟩,o.ch ((a.nil (TN i)).n k) (Bx i),rfl⟩) λg3 w3 x3 R T q u J=>qR [] 1 [] λs5 g5 w5 C=>qF q u C ((((a.nil (TN i)).n k).trans (J)).n C)
 .refine qI ((decide ((x.ae.n:Int)<(l.bn:Int)))) false (G' (by omega)) (qR [] 11 [9,0,3,2,4,4,6,8,2,10,4,12,14,16,2] λs7 g7 w7 m=>?_);rw[show p.take l=p.ia l.bn l.fm from by unfold Nod.take;rw[E];exact if_neg D];refine qS 9 [false,false,true,true,true] e t (a.n m) (λI=>Of I l.bn l.fm G (B.ch ((a.nil (TN i)).n m) (Bx i)) (by omega) y A) λg8 w8 x8 lt8 U s v L=>qR [] 1 [] λS M W b=>qF s v b ((((a.nil (TN i)).n m).trans (L)).n b)
theorem Nl(h:NS i nb ob g w p ls ts){D:World}(I:Base D g w)(J:Tabs D)(M:i<5)(K:ls.length<90000000){a d:Nat}(y:Box g w a #[pt nb 0] 99)(A:Box g w d #[iv v.bn,iv v.b.r,iv v.b.n,iv v.w.k,iv v.w.c,iv v.w.s,iv v.w.n,iv v.w.v] 164)(q:p.ae.length<=40) :
  Calls prog 133 #[pt a 0,pt d 0] w (NP i nb ob g w (.tuple #[]) (p.count i v) (ls++BV i { BD 3 with bN:=v } 5) ts):=by
 obtain⟨x,lt,Z,B,C,L⟩:=h;refine gI (fn:=f133) (TN i) g func133 L (qN B (qO C (Cr ⟨a,.cells #[pt nb 0] 99,.z,false⟩ (λ_=>⟨y.r,y.z,λh=>(by cases h),λh=>absurd rfl h⟩) (by kernel_rfl) ?_)));refine Cr ⟨d,.cells #[iv v.bn,iv v.b.r,iv v.b.n,iv v.w.k,iv v.w.c,iv v.w.s,iv v.w.n,iv v.w.v] 164,.z,false⟩ (λ_=>⟨A.r,A.z,λh=>(by cases h),λh=>absurd rfl h⟩) (by kernel_rfl) ?_;refine qR [] 8 [6,0,2,2,2,4,6,8,0,10,3] λW R w1 e=>qS 6 [false,false,true,true] B C e (λE=>NK E (I.ch (e.nil (TN i)) (Bx i)) J i M v q) λS w2 x2 N P j m G=>qR [] 5 [0,1] λX T w4 t=>qS 3 [true,true,false,false] j m t (λF=>EE F K { BD 3 with bN:=v } s30 s30 ⟨Sv.nil _,λh=>absurd rfl h⟩ (Rc.nil _ _)) λU w5 x5 O Q l o H=>qR [] 1 [] λY V w7 u=>qF l o u (((((e.nil (TN i)).trans (G)).n t).trans (H)).n u)
theorem SN{C:List Vt}{j:S3}(h:NS i nb ob g w p ls ts){H:World}(N:Base H g w)(O:Tabs H)(R:i<5)(P:ls.length<90000000){k l m:Nat}(a:Box g w k #[pt nb 0] 99)(F:Box g w l #[iv b.r,iv b.n] 104)(G:Box g w m #[S3.v j] 105)(S:FSv g w j C)(B:(p.av.al i).vs.length<100000000) :
  Calls prog 84 #[pt k 0,pt l 0,pt m 0] w (NP i nb ob g w (.tuple #[]) (if p.vo.p≠b then p else{ p with av:=p.av.qQ i C }) (if p.vo.p≠b then ls else(ls++BV i { BD 0 with fv:=b } 5)) ts):=by
 obtain⟨x,lt,tl,o,t,Q⟩:=h;refine gI (fn:=f84) (TN i) g func84 Q (qN o (qO t (Cr ⟨k,.cells #[pt nb 0] 99,.z,false⟩ (λ_=>⟨a.r,a.z,λh=>(by cases h),λh=>absurd rfl h⟩) (by kernel_rfl) ?_)));refine Cr ⟨l,.cells #[iv b.r,iv b.n] 104,.z,false⟩ (λ_=>⟨F.r,F.z,λh=>(by cases h),λh=>absurd rfl h⟩) (by kernel_rfl) ?_;refine Cr ⟨m,.cells #[S3.v j] 105,.z,false⟩ (λ_=>⟨G.r,G.z,λh=>(by cases h),λh=>absurd rfl h⟩) (by kernel_rfl) ?_;refine qR [] 10 [8,0,2,2,4,6,8,10,0,12,3] λs1 Y w1 c=>?_;by_cases a:p.vo.p≠b
 .refine qT 7 (.bool true) (λ_=>(IM (x:=(.tmp 8)) (y:=(.tmp 9)) p.vo.p b a)) (qR [] 2 [] λs2 Z w2 D=>?_);rw[if_pos a,if_pos a];exact qF o t (c.n D) ((c.nil (TN i)).n D)
 .have h10:p.vo.p=b:=by simpa using a
  refine qT 7 (.bool false) (λ_=>(IL (x:=(.tmp 8)) (y:=(.tmp 9)) p.vo.p b h10)) ?_;rw[if_neg a,if_neg a];refine qR [] 14 [9,0,2,2,4,6,8,2,10,12,14,0,16,4] λs4 g4 w4 e=>qS 9 [false,false,true,true,true] o t (c.n e) (λI=>Q3 I (N.ch ((c.nil (TN i)).n e) (Bx i)) O i R C j (S.ch ((c.nil (TN i)).n e) (Bx i)) B) λg5 w5 x5 T V q u K=>qR [] 5 [0,1] λs7 g7 w7 E=>qS 3 [true,true,true,false,false] q u E (λJ=>EE J P { BD 0 with fv:=b } s30 s30 ⟨Sv.nil _,λh=>absurd rfl h⟩ (Rc.nil _ _)) λg8 w8 x8 lt8 W s A L=>qR [] 1 [] λU M X d=>qF s A d ((((((c.nil (TN i)).n e).trans (K)).n E).trans (L)).n d)
def Nod.hZ(p:Nod)(i:Nat):Pend->Nod
 | .began b vs=>if p.vo.p≠b then p else{ p with av:=p.av.qQ i vs }
 | .prop v=>p.count i v
 | _=>p
def Nod.pd(p:Nod)(i:Nat):Pend->List Let
 | .began b vs=>if p.vo.p≠b then[]else BV i { BD 0 with fv:=b } 5
 | .prom to b vs=>[{ BD 1 with fv:=b,ic:=vs,fm:=p.ae,src:=i,dst:=to }]
 | .voted to v=>[{ BD 4 with bN:=v,src:=i,dst:=to }]
 | .ew to b=>[{ BD 2 with fv:=b,src:=i,dst:=to }]
 | .prop v=>BV i { BD 3 with bN:=v } 5
 | .askNews to=>[{ BD 6 with bn:=p.ae.length,src:=i,dst:=to }]
 | .start=>BV i (BD 6) 5
 | .tell to bn=>[{ BD 5 with src:=i,dst:=to,bn:=bn,fm:=p.ae.drop bn }]
def RC(p:Nod)(i:Nat):Pend->Prop
 | .began _ _=>(p.av.al i).vs.length<100000000
 | .prop _=>p.ae.length<=40
 | .tell _ bn=>bn<=p.ae.length
 | _=>True
theorem fx{P:Program}{s:Xs}{S:Sem Next}{r:Result Next}(h:D5 s i=some S)(a:S.run P W=r):Df P s i W=some r:=by
 unfold Df;unfold D5 at h;cases hx:opN s i with
 | none=>rw[hx]at h;cases h
 | some x =>
  rw[hx]at h
  simp only[m5,X']at h ⊢;rw[h,a]
theorem He(h:NS i nb ob g w p ls ts){z:World}(s:Base z g w)(t:Tabs z)(y:i<5)(f:ls.length<90000000){v:Value}(q:Pend)(o:RC p i q)(j:KX g w nb v q) :
  ∃ (F:FuncId) (cs:Array Value),v=.func (.func F) #[] cs/\(∀ W,(Go.callFunc F (#[]++cs)).run prog W=.ok (.enter F cs) W)/\Calls prog F cs w (NP i nb ob g w (.tuple #[]) (p.hZ i q) (ls++p.pd i q) ts):=by
 cases q with
 | began b vs =>
  obtain⟨k,b2,b3,x,e,a,c,d,n⟩:=j;refine⟨_,_,e,λW=>by kernel_rfl,?_⟩;have:=SN h s t y f a c d n o;unfold Nod.hZ Nod.pd;by_cases m:p.vo.p≠b
  .rw[if_pos m,if_pos m]at this;simp only[if_pos m,mI];exact this
  .rw[if_neg m,if_neg m]at this;simp only[if_neg m];exact this
 | prom to b vs =>
  obtain⟨k,b2,b3,x,r,l,e,a,c,d,n,A,rfl,rfl⟩:=j;exact⟨_,_,e,λW=>(by kernel_rfl),Ho h f a c d A n⟩
 | voted to u =>
  obtain⟨k,b2,r,l,e,a,c,d,rfl,rfl⟩:=j;exact⟨_,_,e,λW=>(by kernel_rfl),Il (b3:=0) h f a c d⟩
 | ew to b =>
  obtain⟨k,b2,b3,e,a,c,d⟩:=j;exact⟨_,_,e,λW=>(by kernel_rfl),Py h f a c d⟩
 | prop u =>
  obtain⟨k,b2,e,a,c⟩:=j;exact⟨_,_,e,λW=>(by kernel_rfl),Nl h s t y f a c o⟩
 | askNews to =>
  obtain⟨k,b2,r,l,e,a,c,d,rfl⟩:=j;exact⟨_,_,e,λW=>(by kernel_rfl),Mx (b3:=0) h f a c d⟩
 | start =>
  obtain⟨k,e,a⟩:=j;exact⟨_,_,e,λW=>(by kernel_rfl),Ro (b2:=0) (b3:=0) h f a⟩
 | tell to bn =>
  obtain⟨k,b2,r,l,e,a,c,d,rfl,rfl⟩:=j;exact⟨_,_,e,λW=>(by kernel_rfl),JJ (b3:=0) h f a c d o⟩
structure FzL(g:Gh)(w:World)(x:S3)(vs:List Value):Prop where
 n:x.n=vs.length
 at_:∀ j u,vs[j]?=some u->∃ b,x.a=some ⟨b,0,none⟩/\b<w.heap.size/\j<g.k b/\w.cell? ⟨b,j,none⟩=some u
theorem OwnS.fz{τ:Tg}{e:TypeId}(h:OwnS g w τ true e 1 x vs):FzL g w x vs:=by
 refine⟨by have:=h.len;omega,λj u d=>?_⟩;obtain⟨b,a,f,i⟩:=h.cell d;have c:j<vs.length:=(V'.1 d).1;refine⟨b,a,f,?_,i⟩;rcases h.ex with⟨h4,_⟩|⟨b',cur,h4,_,_,_,_,_,_,h8⟩
 .rw[h4]at a;cases a
 .rw[a]at h4
  simp only[X',Addr.mk.injEq,and_true]at h4;subst h4;rw[h8,if_pos rfl];exact c
theorem FzL.ch{B:Nat}{T:List Tg}{d:Gh}{f:World}(h:FzL g w x vs)(c:Cg B T g w d f):FzL d f x vs :=
 ⟨h.n,λj u m=>by
  obtain⟨b,i,a,e,k⟩:=h.at_ j u m;exact⟨b,i,Z' a c.size,Z' e (c.ry b a),(c.rp b a j e).trans k⟩⟩
theorem fK{b c:Nat}(d:x.a=some ⟨b,c,none⟩)(j:Nat)(f:j<x.n):(Instr.indexAt 108 x.v (iv (j:Int))).run prog W=.ok (pt b (c+1*j)) W:=by
 unfold S3.v;rw[d];exact Nn (P:=prog) (e:=1) (z:=1) underlying108 (by kernel_rfl) (by kernel_rfl) f _ rfl
def lr(i:Nat):List Pend->Nod->List Let->Nod × List Let
 | [],p,ls=>(p,ls)
 | q::l,p,ls=>lr i l (p.hZ i q) (ls++p.pd i q)
def GQ(i:Nat):List Pend->Nod->List Let->Prop
 | [],_,_=>True
 | q::l,p,ls=>RC p i q/\ls.length<90000000/\GQ i l (p.hZ i q) (ls++p.pd i q)
def Nod.qJ(p:Nod):Nod:=if p.sy<(p.d.length:Int)then{ p with d:=Hm p.d p.sy,sy:=Ik p.d p.sy }else p
theorem Qk{l:List Pend}{c:Pend}(h:l[j]?=some c):l.drop j=c::l.drop (j+1):=by
 obtain⟨a,b⟩:=V'.1 h;rw[<- b];exact m9 a
theorem eG(h:NS i nb ob g w p ls ts){w0:World}(hB:Base w0 g w)(hT:Tabs w0)(hi:i<5)(Y:GQ i p.br { p.qJ with br:=[] } ls)(f5:p.br.length<100000000) :
  Calls prog 90 #[pt nb 0] w (NP i nb ob g w (.tuple #[]) (if p.sy<(p.d.length:Int)/\Db p.d p.sy≠0 then(p,ls)else lr i p.br { p.qJ with br:=[] } ls).1 (if p.sy<(p.d.length:Int)/\Db p.d p.sy≠0 then(p,ls)else lr i p.br { p.qJ with br:=[] } ls).2 ts):=by
 obtain⟨x,lt,tl,m,hO,hg⟩:=h;have f7:x.tape.n=p.d.length:=by obtain⟨a,e6,hh⟩:=m.tape.s.qW;have:=m.tape.s.len;simp only[S3.v,Value.slice.injEq]at hh;exact hh.2.1
 refine gI (fn:=f90) (TN i) g func90 hg (qN m (qO hO ?_));obtain⟨pv,hP,I⟩:=m.br;have hF:=hP.fz;have f6:x.synced.n=p.br.length:=by rw[hF.n];exact I.len
 refine qR [] 16 [12,0,2,4,6,8,0,10,12,14,16,18,0,20,22] λs1 g1 w1 c1=>?_;by_cases h1:p.sy<(x.tape.n:Int)
 .refine qI ((decide (p.sy<(x.tape.n:Int)))) true (P' (by omega)) (qR [] 6 [0] λs2 g2 w2 c2=>Af λKq=>?_);have hS:=(m.tape.ch (c1.trans c2)).s;have hG:∀ z,w2.heap.size<=z->g2.t z=.z:=λz hz=>(Kq.new z hz).1;refine qC 4 (eF (s:=p.sy) hS) ?_;rintro e' w3 ⟨tz,rfl,b4,d6,b3⟩;refine⟨_,rfl,b3,?_⟩;have c3:=Cg.ed (B:=w.heap.size) (T:=[]) (g:=g2) b3;have f8:=FT b4;have d7:FSl _ _ tz _:=⟨b4,λhl a ha=>hG _ (d6 hl a ha)⟩;refine qR [] 13 [0,0,2,0] λs4 g4 w4 c4=>?_;by_cases E:Db p.d p.sy≠0
  .refine qI (((Db p.d p.sy) != 0)) true (by simpa using E) (qE (.tuple #[]) λK=>?_);rw[if_pos ⟨by omega,E⟩];exact⟨_,rfl,(nsC m hO (((c1.n c2).n c3).n c4) K),((((c1.nil (TN i)).n c2).n c3).n c4)⟩
  .refine qI (((Db p.d p.sy) != 0)) false (by simpa using E) ?_;have O:p.qJ={ p with d:=Hm p.d p.sy,sy:=Ik p.d p.sy }:=if_pos (by omega);rw[show(if p.sy<(p.d.length:Int)/\Db p.d p.sy≠0 then(p,ls)else lr i p.br { p.qJ with br:=[] } ls)=lr i p.br ({ p with d:=Hm p.d p.sy,sy:=Ik p.d p.sy,br:=[] }:Nod) ls from by rw[if_neg (by rintro⟨_,h⟩;exact E h),O]];rw[show{ p.qJ with br:=[] }=({ p with d:=Hm p.d p.sy,sy:=Ik p.d p.sy,br:=[] }:Nod)from by rw[O]]at Y
   refine qR [.n 0 i] 32 [2,0,1,0,0,1] λs7 g7 w7 c7=>I3 [true,true,false] ?_;refine Cc 51 [(42,S3.v x.synced),(43,iv (x.synced.n:Int)),(44,iv 0)] [false,false] [] (λk g' w' e L=>∃ (j:Nat) (q:Nod) (l2:List Let),k=p.br.length-j/\j<=p.br.length/\e=[(42,S3.v x.synced),(43,iv (x.synced.n:Int)),(44,iv (j:Int))]/\L=[]/\NS i nb ob g' w' q l2 ts/\lr i (p.br.drop j) q l2=lr i p.br ({ p with d:=Hm p.d p.sy,sy:=Ik p.d p.sy,br:=[] }:Nod) ls/\GQ i (p.br.drop j) q l2/\Cg w.heap.size (TN i) g w g' w') (by kernel_rfl) (by kernel_rfl) (by kernel_rfl) (by kernel_rfl) p.br.length (λK=>?_) ?_
   .have C8:=((((c1.nil ([.n 0 i]:List Tg)).n c2).n c3).n c4).trans (c7);have Z8:Tg.z∉([.n 0 i]:List Tg):=by simp
    exact⟨0,({ p with d:=Hm p.d p.sy,sy:=Ik p.d p.sy,br:=[] }:Nod),ls,rfl,by omega,rfl,rfl,⟨({ x with tape:=tz,synced:=s30 }:NX),lt,tl,K.nd 0 ((d7.ch c4).ch c7) (m.ic.ch C8 Z8) (BA m.al C8 Z8) ⟨[],OwnS.nil _ _ _ _ _ _,⟨rfl,λk v q h=>by cases h⟩⟩ (m.fa.ch C8) (m.ae.ch C8) (m.au.ch C8) (m.bw.ch C8) m.rF,hO.ch C8 Z8 (by simp<;>omega),K.new⟩,rfl,Y,(((((c1.nil (TN i)).n c2).n c3).n c4).trans (c7.mono (by simp[TN])))⟩
   .rintro k gr wr _ zr _ ⟨j,q,l2,rfl,hj,rfl,rfl,hM,hI,hK,hC⟩ J hJ;obtain⟨xr,d8,d9,o,r,d4⟩:=id hM;refine qN o (qO r (qR [] 5 [] λs9 g9 w9 Q=>?_));by_cases h5:j<p.br.length
    .refine qI ((decide ((j:Int)<(x.synced.n:Int)))) true (P' (by omega)) ?_;obtain⟨D,N⟩:∃ D,p.br[j]?=some D:=⟨_,H' h5⟩;obtain⟨v,hv⟩:∃ v,pv[j]?=some v:=⟨_,H' (by rw[I.len];exact h5)⟩;rw[Qk N]at hI hK
     obtain⟨G,H,a1⟩:=hK;have F:=hF.ch hC;obtain⟨bx,P,d2,d5,d3⟩:=F.at_ j v hv;have M:=(I.at_ j v D hv N).ch hC (Bx i);refine qR [] 5 [] λf9 c0 e0 u=>qV 0 (pt bx (0+1*j)) (fK P j (by omega)) (Af λK=>?_);have b5:NS i nb ob c0 e0 q l2 ts:=(nsC o r (Q.n u) K);obtain⟨Z,A,e2,a2,_⟩:=He b5 (hB.ch (((hC.n Q).n u)) (Bx i)) hT hi H D G (M.ch ((Q.nil (TN i)).n u) (Bx i));subst e2;have a0:=F.ch (Q.trans u);refine qV 1 (.func (.func Z) #[] A) (BT (ty:=1) (b:=bx) (k:=0+1*j) (v:=.func (.func Z) #[] A) underlying1 rfl (by rw[mU,qz];obtain⟨b2,E,_,_,h4⟩:=a0.at_ j _ hv;rw[P]at E;simp only[X',Addr.mk.injEq,and_true]at E;subst E;exact h4)) (qR [] 4 [] λg0 c5 e1 S=>Af λK=>?_);have b6:NS i nb ob c5 e1 q l2 ts:=(nsC o r ((Q.n u).n S) K);obtain⟨F3,b9,e3,_,C⟩:=He b6 (hB.ch ((((hC.n Q).n u).n S)) (Bx i)) hT hi H D G (M.ch (((Q.nil (TN i)).n u).n S) (Bx i));simp only[Value.func.injEq,Fn.func.injEq,true_and]at e3;obtain⟨rfl,rfl⟩:=e3;refine S1 1 Z A (TN i) [false,false] (λW=>fx (by kernel_rfl) (a2 W)) (by kernel_rfl) (by kernel_rfl) (by kernel_rfl) C ?_;rintro e' i0 ⟨c6,rfl,a3,U⟩;refine⟨_,c6,rfl,U,a3.new,?_⟩;replace U:=U.ret (B:=w.heap.size);refine qR [] 3 [] λg3 e7 i1 a5=>qV 0 (iv ((j:Int)+1)) (Bj 44 (j:Int) underlying3 (by omega)) (qR [] 2 [] λg5 e8 i2 a6=>qB [] λz K0 K=>hJ (p.br.length-(j+1)) _ _ _ z _ (by omega) ⟨j+1,q.hZ i D,l2++q.pd i D,rfl,by omega,rfl,rfl,NS.qM a3 (a5.trans a6) K0.new,hI,a1,((((((hC.n Q).n u).n S).trans U).n a5).n a6)⟩ K)
    .refine qI ((decide ((j:Int)<(x.synced.n:Int)))) false (G' (by omega)) (qR [] 1 [] λg6 e9 i3 a7=>?_);obtain rfl:j=p.br.length:=by omega
     rw[nR]at hI
     rw[<- hI];exact qF o r (Q.n a7) ((hC.n Q).n a7)
 .refine qI ((decide (p.sy<(x.tape.n:Int)))) false (G' (by omega)) ?_;have O:p.qJ=p:=if_neg (by omega);rw[show(if p.sy<(p.d.length:Int)/\Db p.d p.sy≠0 then(p,ls)else lr i p.br { p.qJ with br:=[] } ls)=lr i p.br ({ p with br:=[] }:Nod) ls from by rw[if_neg (by rintro⟨h,_⟩;omega),O]];rw[show{ p.qJ with br:=[] }=({ p with br:=[] }:Nod)from by rw[O]]at Y
  refine qR [.n 0 i] 25 [0,0,1] λg8 f0 i4 a8=>Cc 51 [(42,S3.v x.synced),(43,iv (x.synced.n:Int)),(44,iv 0)] [false,false] [] (λk g' w' e L=>∃ (j:Nat) (q:Nod) (l2:List Let),k=p.br.length-j/\j<=p.br.length/\e=[(42,S3.v x.synced),(43,iv (x.synced.n:Int)),(44,iv (j:Int))]/\L=[]/\NS i nb ob g' w' q l2 ts/\lr i (p.br.drop j) q l2=lr i p.br ({ p with br:=[] }:Nod) ls/\GQ i (p.br.drop j) q l2/\Cg w.heap.size (TN i) g w g' w') (by kernel_rfl) (by kernel_rfl) (by kernel_rfl) (by kernel_rfl) p.br.length (λK=>?_) ?_
  .have C22:=(c1.nil ([.n 0 i]:List Tg)).trans (a8);have R:Tg.z∉([.n 0 i]:List Tg):=by simp
   exact⟨0,({ p with br:=[] }:Nod),ls,rfl,by omega,rfl,rfl,⟨({ x with synced:=s30 }:NX),lt,tl,K.nd 0 (m.tape.ch C22 R) (m.ic.ch C22 R) (BA m.al C22 R) ⟨[],OwnS.nil _ _ _ _ _ _,⟨rfl,λk v q h=>by cases h⟩⟩ (m.fa.ch C22) (m.ae.ch C22) (m.au.ch C22) (m.bw.ch C22) m.rF,hO.ch C22 R (by simp<;>omega),K.new⟩,rfl,Y,((c1.nil (TN i)).trans (a8.mono (by simp[TN])))⟩
  .rintro k gr wr _ zr _ ⟨j,q,l2,rfl,hj,rfl,rfl,hM,hI,hK,hC⟩ J hJ;obtain⟨xr,d8,d9,o,r,d4⟩:=id hM;refine qN o (qO r (qR [] 5 [] λh0 f1 i5 c=>?_));by_cases h5:j<p.br.length
   .refine qI ((decide ((j:Int)<(x.synced.n:Int)))) true (P' (by omega)) ?_;obtain⟨D,N⟩:∃ D,p.br[j]?=some D:=⟨_,H' h5⟩;obtain⟨v,hv⟩:∃ v,pv[j]?=some v:=⟨_,H' (by rw[I.len];exact h5)⟩;rw[Qk N]at hI hK
    obtain⟨G,H,a1⟩:=hK;have F:=hF.ch hC;obtain⟨bx,P,d2,d5,d3⟩:=F.at_ j v hv;have M:=(I.at_ j v D hv N).ch hC (Bx i);refine qR [] 5 [] λh3 c8 e4 y=>qV 0 (pt bx (0+1*j)) (fK P j (by omega)) (Af λK=>?_);have b7:NS i nb ob c8 e4 q l2 ts:=(nsC o r (c.n y) K);obtain⟨Z,A,e2,a2,_⟩:=He b7 (hB.ch (((hC.n c).n y)) (Bx i)) hT hi H D G (M.ch ((c.nil (TN i)).n y) (Bx i));subst e2;have a0:=F.ch (c.trans y);refine qV 1 (.func (.func Z) #[] A) (BT (ty:=1) (b:=bx) (k:=0+1*j) (v:=.func (.func Z) #[] A) underlying1 rfl (by rw[mU,qz];obtain⟨b2,E,_,_,h4⟩:=a0.at_ j _ hv;rw[P]at E;simp only[X',Addr.mk.injEq,and_true]at E;subst E;exact h4)) (qR [] 4 [] λh6 d0 e5 V=>Af λK=>?_);have b8:NS i nb ob d0 e5 q l2 ts:=(nsC o r ((c.n y).n V) K);obtain⟨F3,b9,e3,_,C⟩:=He b8 (hB.ch ((((hC.n c).n y).n V)) (Bx i)) hT hi H D G (M.ch (((c.nil (TN i)).n y).n V) (Bx i));simp only[Value.func.injEq,Fn.func.injEq,true_and]at e3;obtain⟨rfl,rfl⟩:=e3;refine S1 1 Z A (TN i) [false,false] (λW=>fx (by kernel_rfl) (a2 W)) (by kernel_rfl) (by kernel_rfl) (by kernel_rfl) C ?_;rintro e' i6 ⟨d1,rfl,a4,X⟩;refine⟨_,d1,rfl,X,a4.new,?_⟩;replace X:=X.ret (B:=w.heap.size);refine qR [] 3 [] λh7 f2 i7 a9=>qV 0 (iv ((j:Int)+1)) (Bj 44 (j:Int) underlying3 (by omega)) (qR [] 2 [] λh8 f3 i8 b0=>qB [] λz K0 K=>hJ (p.br.length-(j+1)) _ _ _ z _ (by omega) ⟨j+1,q.hZ i D,l2++q.pd i D,rfl,by omega,rfl,rfl,NS.qM a4 (a9.trans b0) K0.new,hI,a1,((((((hC.n c).n y).n V).trans X).n a9).n b0)⟩ K)
   .refine qI ((decide ((j:Int)<(x.synced.n:Int)))) false (G' (by omega)) (qR [] 1 [] λh9 f4 i9 b1=>?_);obtain rfl:j=p.br.length:=by omega
    rw[nR]at hI
    rw[<- hI];exact qF o r (c.n b1) ((hC.n c).n b1)
end
end Go.Proofs.YtdjfdfpkkenjbacGreatDoor
