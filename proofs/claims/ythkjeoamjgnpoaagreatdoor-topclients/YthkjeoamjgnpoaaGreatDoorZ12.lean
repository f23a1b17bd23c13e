/- Part 12 of the walk. -/
import Derived.Test.YthkjeoamjgnpoaaGreatDoorZ11
set_option maxRecDepth 100000
set_option maxHeartbeats 4000000
open Go.Proofs.Tryz
set_option linter.unusedVariables false
namespace Go.Proofs.YthkjeoamjgnpoaaGreatDoor
section
open Go.RowKit
section
theorem Rd(p:Nod)(b:Bal):(p.au b).1.ae=p.ae:=by
 unfold Nod.au;repeat' split
 all_goals rfl
variable{B C b i j mb n ob sz tb:Nat}{F:Nat->Lac}{M:Meet}{W w w' w0:World}{e:TypeId}{g g':Gh}{k:Int}{ly tv y:S3}{nb:Nat->Nat}{vs xs:List Value}{x:Lac}{ys:Nat->S3}
theorem Zi{nb:Nat}{p:Nod}{U:List Let}{V:List Tol}(h:NS i nb ob g w p U V){w0:World}(hB:Base w0 g w)(hT:Tabs w0)(hb:p.bu.length<100000000)(hr:p.cF<1000000000000)(b3:-1000000000000<p.cF)(hv:p.vo.p.r<1000000000000) :
  Calls prog 56 #[pt nb 0] w (NP i nb ob g w (.tuple #[]) (if p.up then p.lead i else p) U V):=by
 obtain⟨x,lt,tl,Z,hO,hg⟩:=h;refine gI (fn:=f56) (TN i) g func56 hg (qN Z (qO hO (qR [] 13 [0,0,2,0] λm g1 w1 I=>?_)));by_cases T:p.up=true
 .refine qI ((!p.up)) false (by simpa using T) ?_;rw[if_pos T];refine qR [] 15 [21,0,2,2,4,6,8,0,10,2,12,14,16,18,20,22,0] λs2 g2 w2 R=>qT 12 (iv (max p.cF p.vo.p.r)) (λ_=>(l9 #[3,3] 3 p.cF p.vo.p.r)) (qT 13 (iv ((max p.cF p.vo.p.r)+1)) (λ_=>(AX 23 (max p.cF p.vo.p.r) underlying3 (by omega))) (qR [] 12 [28,2,30,32,34,0,36,39,0,0,41,3,0,2,3] λo g4 w4 S=>Af λK=>?_));have N5:NS i nb ob g4 w4 p U V:=(nsC Z hO ((I.n R).n S) K);refine qG 2 (TN i) [false,false,true,true] (FI N5 (hB.ch (((I.nil (TN i)).n R).n S) (Bx i)) hT (⟨(max p.cF p.vo.p.r)+1,(i:Int)⟩:Bal)) ?_;rintro e' w5 ⟨u,g5,rfl,a0,M5,L⟩;refine⟨_,g5,rfl,L,M5.new,?_⟩;replace L:=L.ret (B:=w.heap.size);obtain⟨c,e,j,a,H,b2⟩:=M5;refine qN a (qO H (qR [] 13 [0,0,4,0] λq g7 w7 M=>?_));by_cases N:(p.au (⟨(max p.cF p.vo.p.r)+1,(i:Int)⟩:Bal)).2.2≠0
  .refine qI (((p.au (⟨(max p.cF p.vo.p.r)+1,(i:Int)⟩:Bal)).2.2 != 0)) true (by simpa using N) (qE (.tuple #[]) λK=>?_);rw[show p.lead i=(p.au (⟨(max p.cF p.vo.p.r)+1,(i:Int)⟩:Bal)).1 from by rw[Mm N];exact if_pos N];exact⟨_,rfl,(nsC a H M K),(((((I.nil (TN i)).n R).n S).trans (L)).n M)⟩
  .refine qI (((p.au (⟨(max p.cF p.vo.p.r)+1,(i:Int)⟩:Bal)).2.2 != 0)) false (by simpa using N) (qR [.n 0 i] 17 [0,1,2,1] λb4 a4 c6 y=>gd 5 64 [(1,pt (m 0) 0),(2,pt (o 0) 0),(3,pt (q 0) 0),(44,iv 0)] [true,true,true,true,true] [⟨(m 0),.cells #[pt nb 0] 116,.z,false⟩,⟨(o 0),.cells #[iv ((max p.cF p.vo.p.r)+1),iv (i:Int)] 121,.z,false⟩,⟨nb,.cells (AJ i ob ({ (p.au (⟨(max p.cF p.vo.p.r)+1,(i:Int)⟩:Bal)).1 with bn:=⟨(⟨(max p.cF p.vo.p.r)+1,(i:Int)⟩:Bal),λ_=>false,λ_=>Em,λk=>if k<0 then c.ae.n else 0,0,[]⟩ }) ({ c with hv:=λ_=>s30,fa:=s30 })) 136,.n 0 i,false⟩,⟨ob,.cells #[S3.v e,S3.v j] 113,.n 50 0,false⟩,⟨(q 0),.cells #[S3.v u] 122,.z,false⟩] (by kernel_rfl) (by kernel_rfl) (by kernel_rfl) (by kernel_rfl) λs b z=>qR [.n 0 i] 35 [13,0,0,2,4,0,6,8,10,12,2,14,16,18,20,22,24,27,2,1] λb5 a5 c8 A=>EP (s 5) 64 [(1,pt (m 0) 0),(2,pt (o 0) 0),(3,pt (q 0) 0),(44,iv 1)] [true,true,true,true,true] [⟨(m 0),.cells #[pt nb 0] 116,.z,false⟩,⟨(o 0),.cells #[iv ((max p.cF p.vo.p.r)+1),iv (i:Int)] 121,.z,false⟩,⟨nb,.cells (AJ i ob ({ (p.au (⟨(max p.cF p.vo.p.r)+1,(i:Int)⟩:Bal)).1 with bn:=⟨(⟨(max p.cF p.vo.p.r)+1,(i:Int)⟩:Bal),λ_=>false,λ_=>Em,λk=>if k<1 then c.ae.n else 0,0,[]⟩ }) ({ c with hv:=λ_=>s30,fa:=s30 })) 136,.n 0 i,false⟩,⟨ob,.cells #[S3.v e,S3.v j] 113,.n 50 0,false⟩,⟨(q 0),.cells #[S3.v u] 122,.z,false⟩] (by kernel_rfl) (by kernel_rfl) (by kernel_rfl) (by kernel_rfl) (by kernel_rfl) λz Q K=>b 4 _ _ _ _ _ ?_ K);refine qR [.n 0 i] 35 [13,0,0,2,4,0,6,8,10,12,2,14,16,18,20,22,24,27,2,1] λb6 a6 c9 C=>EP (s 4) 64 [(1,pt (m 0) 0),(2,pt (o 0) 0),(3,pt (q 0) 0),(44,iv 2)] [true,true,true,true,true] [⟨(m 0),.cells #[pt nb 0] 116,.z,false⟩,⟨(o 0),.cells #[iv ((max p.cF p.vo.p.r)+1),iv (i:Int)] 121,.z,false⟩,⟨nb,.cells (AJ i ob ({ (p.au (⟨(max p.cF p.vo.p.r)+1,(i:Int)⟩:Bal)).1 with bn:=⟨(⟨(max p.cF p.vo.p.r)+1,(i:Int)⟩:Bal),λ_=>false,λ_=>Em,λk=>if k<2 then c.ae.n else 0,0,[]⟩ }) ({ c with hv:=λ_=>s30,fa:=s30 })) 136,.n 0 i,false⟩,⟨ob,.cells #[S3.v e,S3.v j] 113,.n 50 0,false⟩,⟨(q 0),.cells #[S3.v u] 122,.z,false⟩] (by kernel_rfl) (by kernel_rfl) (by kernel_rfl) (by kernel_rfl) (by kernel_rfl) λz Q K=>b 3 _ _ _ _ _ ?_ K;refine qR [.n 0 i] 35 [13,0,0,2,4,0,6,8,10,12,2,14,16,18,20,22,24,27,2,1] λb7 a7 d0 D=>EP (s 3) 64 [(1,pt (m 0) 0),(2,pt (o 0) 0),(3,pt (q 0) 0),(44,iv 3)] [true,true,true,true,true] [⟨(m 0),.cells #[pt nb 0] 116,.z,false⟩,⟨(o 0),.cells #[iv ((max p.cF p.vo.p.r)+1),iv (i:Int)] 121,.z,false⟩,⟨nb,.cells (AJ i ob ({ (p.au (⟨(max p.cF p.vo.p.r)+1,(i:Int)⟩:Bal)).1 with bn:=⟨(⟨(max p.cF p.vo.p.r)+1,(i:Int)⟩:Bal),λ_=>false,λ_=>Em,λk=>if k<3 then c.ae.n else 0,0,[]⟩ }) ({ c with hv:=λ_=>s30,fa:=s30 })) 136,.n 0 i,false⟩,⟨ob,.cells #[S3.v e,S3.v j] 113,.n 50 0,false⟩,⟨(q 0),.cells #[S3.v u] 122,.z,false⟩] (by kernel_rfl) (by kernel_rfl) (by kernel_rfl) (by kernel_rfl) (by kernel_rfl) λz Q K=>b 2 _ _ _ _ _ ?_ K;refine qR [.n 0 i] 35 [13,0,0,2,4,0,6,8,10,12,2,14,16,18,20,22,24,27,2,1] λb8 a8 d1 E=>EP (s 2) 64 [(1,pt (m 0) 0),(2,pt (o 0) 0),(3,pt (q 0) 0),(44,iv 4)] [true,true,true,true,true] [⟨(m 0),.cells #[pt nb 0] 116,.z,false⟩,⟨(o 0),.cells #[iv ((max p.cF p.vo.p.r)+1),iv (i:Int)] 121,.z,false⟩,⟨nb,.cells (AJ i ob ({ (p.au (⟨(max p.cF p.vo.p.r)+1,(i:Int)⟩:Bal)).1 with bn:=⟨(⟨(max p.cF p.vo.p.r)+1,(i:Int)⟩:Bal),λ_=>false,λ_=>Em,λk=>if k<4 then c.ae.n else 0,0,[]⟩ }) ({ c with hv:=λ_=>s30,fa:=s30 })) 136,.n 0 i,false⟩,⟨ob,.cells #[S3.v e,S3.v j] 113,.n 50 0,false⟩,⟨(q 0),.cells #[S3.v u] 122,.z,false⟩] (by kernel_rfl) (by kernel_rfl) (by kernel_rfl) (by kernel_rfl) (by kernel_rfl) λz Q K=>b 1 _ _ _ _ _ ?_ K;refine qR [.n 0 i] 35 [13,0,0,2,4,0,6,8,10,12,2,14,16,18,20,22,24,27,2,1] λb9 a9 d2 F=>EP (s 1) 64 [(1,pt (m 0) 0),(2,pt (o 0) 0),(3,pt (q 0) 0),(44,iv 5)] [true,true,true,true,true] [⟨(m 0),.cells #[pt nb 0] 116,.z,false⟩,⟨(o 0),.cells #[iv ((max p.cF p.vo.p.r)+1),iv (i:Int)] 121,.z,false⟩,⟨nb,.cells (AJ i ob ({ (p.au (⟨(max p.cF p.vo.p.r)+1,(i:Int)⟩:Bal)).1 with bn:=⟨(⟨(max p.cF p.vo.p.r)+1,(i:Int)⟩:Bal),λ_=>false,λ_=>Em,λk=>if k<5 then c.ae.n else 0,0,[]⟩ }) ({ c with hv:=λ_=>s30,fa:=s30 })) 136,.n 0 i,false⟩,⟨ob,.cells #[S3.v e,S3.v j] 113,.n 50 0,false⟩,⟨(q 0),.cells #[S3.v u] 122,.z,false⟩] (by kernel_rfl) (by kernel_rfl) (by kernel_rfl) (by kernel_rfl) (by kernel_rfl) λz Q K=>b 0 _ _ _ _ _ ?_ K;refine qR [] 10 [0] λc0 Y a1 G=>?_;have hn:c.ae.n=p.ae.length:=by have:=a.ae.num;rw[Rd]at this;exact this
   rw[show p.lead i=Nod.wait { (p.au (⟨(max p.cF p.vo.p.r)+1,(i:Int)⟩:Bal)).1 with bn:=⟨(⟨(max p.cF p.vo.p.r)+1,(i:Int)⟩:Bal),λ_=>false,λ_=>Em,λ_=>c.ae.n,0,[]⟩ } (.began (⟨(max p.cF p.vo.p.r)+1,(i:Int)⟩:Bal) (p.au (⟨(max p.cF p.vo.p.r)+1,(i:Int)⟩:Bal)).2.1)from by rw[hn];exact if_neg N];refine Af λK=>?_;obtain⟨z1,z2⟩:=K.sI 0 (m 0) (.cells #[pt nb 0] 116) false (by kernel_rfl);obtain⟨z3,z4⟩:=K.sI 1 (o 0) (.cells #[iv (⟨(max p.cF p.vo.p.r)+1,(i:Int)⟩:Bal).r,iv (⟨(max p.cF p.vo.p.r)+1,(i:Int)⟩:Bal).n] 121) false (by kernel_rfl);obtain⟨z5,z6⟩:=K.sI 4 (q 0) (.cells #[S3.v u] 122) false (by kernel_rfl);have d:=(((((((M.nil ([.n 0 i]:List Tg)).trans (y)).trans (A)).trans (C)).trans (D)).trans (E)).trans (F)).n G;have t:Tg.z∉([.n 0 i]:List Tg):=by simp
   have W:NS i nb ob Y a1 ({ (p.au (⟨(max p.cF p.vo.p.r)+1,(i:Int)⟩:Bal)).1 with bn:=⟨(⟨(max p.cF p.vo.p.r)+1,(i:Int)⟩:Bal),λ_=>false,λ_=>Em,λ_=>c.ae.n,0,[]⟩ }) U V:=⟨{ c with hv:=λ_=>s30,fa:=s30 },e,j,K.nd 2 (a.tape.ch d t) (a.mv.ch d t) (λ_ _=>⟨Sv.nil _,λh=>absurd rfl h⟩) (Ci a.bu d t (by simp)) (OwnS.nil _ _ _ _ _ _) (a.ae.ch d) (a.av.ch d) (a.bN.ch d) a.sS,H.ch d t (by simp<;>omega),K.new⟩;refine qS0 2 [true,true,false,false,true] (AY W (by show(p.au (⟨(max p.cF p.vo.p.r)+1,(i:Int)⟩:Bal)).1.bu.length<_;rw[FP];exact hb) _ _ (.began (⟨(max p.cF p.vo.p.r)+1,(i:Int)⟩:Bal) (p.au (⟨(max p.cF p.vo.p.r)+1,(i:Int)⟩:Bal)).2.1) ⟨(m 0),(o 0),(q 0),u,rfl,⟨z1,z2⟩,⟨z3,z4⟩,⟨z5,z6⟩,((((((((a0.ch M).ch y).ch A).ch C).ch D).ch E).ch F).ch G)⟩) λb0 d3 d5 a2 a3 O P X=>qR [] 1 [] λc3 b1 d4 J=>qF O P J ((((((((((((((I.nil (TN i)).n R).n S).trans (L)).n M).trans (y.mono (by simp[TN]))).trans (A.mono (by simp[TN]))).trans (C.mono (by simp[TN]))).trans (D.mono (by simp[TN]))).trans (E.mono (by simp[TN]))).trans (F.mono (by simp[TN]))).n G).trans (X)).n J)
 .refine qI ((!p.up)) true (by simpa using T) (qE (.tuple #[]) λK=>?_);rw[if_neg T];exact⟨_,rfl,(nsC Z hO I K),(I.nil (TN i))⟩
theorem m9(h:1<=k/\k<=9):k=1\/k=2\/k=3\/k=4\/k=5\/k=6\/k=7\/k=8\/k=9:=by omega
theorem ir(h:MS mb tb ob nb g w M){w0:World}(C:Base w0 g w)(D:Tabs w0)(x:Lac)(dv:S3)(hd:Sl w dv.v x.d)(E:LacOk x){n:Nat}(y:MOk n M)(hn:n<=1000000) :
  Calls prog 35 #[pt mb 0,.agg #[iv x.k,iv x.n,iv x.a,iv x.p,dv.v]] w (MP mb tb ob nb g w (.tuple #[]) (M.act x)):=by
 obtain⟨j,a8,e⟩:∃ j:Nat,x.n=(j:Int)/\j<5:=by
  cases hu:Gj x.k with
  | true=>have:=E.n hu;exact⟨x.n.toNat,by omega,by omega⟩
  | false=>have:=E.n0 hu;exact⟨0,by omega,by omega⟩
 obtain⟨at_,a7,i⟩:∃ at_:Nat,x.a=(at_:Int)/\at_<=1048576:=by
  cases hu:Ir x.k with
  | true=>have:=E.a hu;exact⟨x.a.toNat,by omega,by omega⟩
  | false=>have:=E.a0 hu;exact⟨0,by omega,by omega⟩
 have d6:0<=x.p/\x.p<=100000:=by
  cases hu:Is x.k with
  | true=>exact E.p hu
  | false=>have:=E.p0 hu;omega
 have a9:=E.k;obtain⟨k,xn,xa,p,d⟩:=x;simp only at a8 a7 d6 a9 hd ⊢;subst a8 a7;clear E;have hp:=y.ab j e;have h7:=y.wt;have h6:=y.ed;have h4:=Ez (M.ab j).bu;have h5:=Ri M e;have h8:=co M e;have h3:=y.bad j e;refine gI (fn:=f35) TM g func35 h.new (Cq ⟨mb,_,.z,false⟩ (λ_=>⟨h.box.r,h.box.z,λh=>(by cases h),λh=>absurd rfl h⟩) (by kernel_rfl) ?_);refine qR [] 11 [0,0,8,0,2,4,1,6,8] λj3 g1 w1 b=>?_;refine Q5 5 (pt mb j) false (λW hW=>(by rcases se e with rfl|rfl|rfl|rfl|rfl<;>kernel_rfl)) (by kernel_rfl) ?_;refine qU 6 (pt (nb j) 0) (λW hW=>(Da underlying116 rfl (UR (AR.at (hW rfl) 0 mb (.cells (mtA nb ob tb) 119) .z (by kernel_rfl)) e))) (qR [] 13 [14,1] λj4 g3 w3 c=>?_);rcases m9 a9 with rfl|rfl|rfl|rfl|rfl|rfl|rfl|rfl|rfl
 .refine qR [] 5 [1] λj5 g4 w4 c4=>?_;rw[show M.act ⟨1,(j:Int),(at_:Int),p,d⟩=(M.set j ((M.ab j).sj j d M.ed).1 M.br ((M.ab j).sj j d M.ed).2)from rfl];refine Af λK=>?_;have N5:MS mb tb ob nb g4 w4 M:=(h.sr ((b.trans c).trans c4) K.new);refine qG 3 TM [true,true] ((N5).call e (Xe ((N5).ns e) (C.ch (((b.nil TM).n c).n c4) F4) D dv d (hd.af (Cg.af ((b.trans c).trans c4) (λ_ _=>Q'))) hp (by omega) (by omega) (by omega) rfl rfl)) ?_;rintro A w5 ⟨g5,rfl,M5,c5⟩;refine⟨_,g5,rfl,c5,M5.new,?_⟩;replace c5:=c5.ret (B:=w.heap.size);refine qR [] 2 [] λj6 g6 w6 c6=>qE (.tuple #[]) λK=>⟨_,rfl,(M5.sr c6 K.new),(((((b.nil TM).n c).n c4).trans (c5)).n c6)⟩
 .refine qR [] 9 [] λj7 g7 w7 c7=>?_;rw[show M.act ⟨2,(j:Int),(at_:Int),p,d⟩=(M.set j (if(M.ab j).up then(M.ab j).lead j else(M.ab j)) M.br M.ed)from rfl];refine Af λK=>?_;have N8:MS mb tb ob nb g7 w7 M:=(h.sr ((b.trans c).trans c7) K.new);refine qG 1 TM [true,true] ((N8).call e (Zi ((N8).ns e) (C.ch (((b.nil TM).n c).n c7) F4) D (by omega) (by have:=hp.ro;omega) (by have:=hp.ro;omega) (by have:=hp.vp.uF;omega))) ?_;rintro A w8 ⟨g8,rfl,M8,c8⟩;refine⟨_,g8,rfl,c8,M8.new,?_⟩;replace c8:=c8.ret (B:=w.heap.size);refine qR [] 2 [] λj8 g9 w9 c9=>qE (.tuple #[]) λK=>⟨_,rfl,(M8.sr c9 K.new),(((((b.nil TM).n c).n c7).trans (c8)).n c9)⟩
 .refine qR [] 15 [] λe4 b4 d7 F=>?_;rw[show M.act ⟨3,(j:Int),(at_:Int),p,d⟩=(M.set j (if(M.ab j).up then((M.ab j).piece j M.br M.ed).1 else(M.ab j)) (if(M.ab j).up then((M.ab j).piece j M.br M.ed).2.1 else M.br) (if(M.ab j).up then((M.ab j).piece j M.br M.ed).2.2 else M.ed))from rfl];refine Af λK=>?_;have U:MS mb tb ob nb b4 d7 M:=(h.sr ((b.trans c).trans F) K.new);refine qG 1 TM [true,true] ((U).call e (ZU ((U).ns e) (C.ch (((b.nil TM).n c).n F) F4) D e hp (by omega) y.br (by omega))) ?_;rintro A h9 ⟨b5,rfl,N,l⟩;refine⟨_,b5,rfl,l,N.new,?_⟩;replace l:=l.ret (B:=w.heap.size);refine qR [] 2 [] λe5 f8 i0 Y=>qE (.tuple #[]) λK=>⟨_,rfl,(N.sr Y K.new),(((((b.nil TM).n c).n F).trans (l)).n Y)⟩
 .refine qR [] 28 [1,1] λe6 b6 d8 G=>?_;rw[show M.act ⟨4,(j:Int),(at_:Int),p,d⟩=(M.move 4 at_)from rfl];refine Af λK=>?_;have b0:MS mb tb ob nb b6 d8 M:=(h.sr ((b.trans c).trans G) K.new);refine qG 5 TM [true,true] (Md b0 (C.ch (((b.nil TM).n c).n G) F4) D 4 at_ i y hn) ?_;rintro A i1 ⟨b7,rfl,O,m⟩;refine⟨_,b7,rfl,m,O.new,?_⟩;replace m:=m.ret (B:=w.heap.size);refine qR [] 2 [] λe7 f9 i2 Z=>qE (.tuple #[]) λK=>⟨_,rfl,(O.sr Z K.new),(((((b.nil TM).n c).n G).trans (m)).n Z)⟩
 .refine qR [] 34 [1,1] λe8 b8 d9 H=>?_;rw[show M.act ⟨5,(j:Int),(at_:Int),p,d⟩=(M.move 5 at_)from rfl];refine Af λK=>?_;have b1:MS mb tb ob nb b8 d9 M:=(h.sr ((b.trans c).trans H) K.new);refine qG 5 TM [true,true] (Md b1 (C.ch (((b.nil TM).n c).n H) F4) D 5 at_ i y hn) ?_;rintro A i3 ⟨b9,rfl,P,o⟩;refine⟨_,b9,rfl,o,P.new,?_⟩;replace o:=o.ret (B:=w.heap.size);refine qR [] 2 [] λe9 g0 i4 a1=>qE (.tuple #[]) λK=>⟨_,rfl,(P.sr a1 K.new),(((((b.nil TM).n c).n H).trans (o)).n a1)⟩
 .refine qR [] 37 [1,1] λf0 c0 e0 I=>?_;rw[show M.act ⟨6,(j:Int),(at_:Int),p,d⟩=(M.move 6 at_)from rfl];refine Af λK=>?_;have b2:MS mb tb ob nb c0 e0 M:=(h.sr ((b.trans c).trans I) K.new);refine qG 5 TM [true,true] (Md b2 (C.ch (((b.nil TM).n c).n I) F4) D 6 at_ i y hn) ?_;rintro A i5 ⟨c2,rfl,Q,q⟩;refine⟨_,c2,rfl,q,Q.new,?_⟩;replace q:=q.ret (B:=w.heap.size);refine qR [] 2 [] λf1 g2 i6 a2=>qE (.tuple #[]) λK=>⟨_,rfl,(Q.sr a2 K.new),(((((b.nil TM).n c).n I).trans (q)).n a2)⟩
 .refine qR [] 39 [] λf2 d0 e1 J=>?_;rw[show M.act ⟨7,(j:Int),(at_:Int),p,d⟩=M.si from rfl];refine Af λK=>?_;have b3:MS mb tb ob nb d0 e1 M:=(h.sr ((b.trans c).trans J) K.new);refine qG 1 TM [true,true] (Qk b3 (C.ch (((b.nil TM).n c).n J) F4) D y hn) ?_;rintro A i7 ⟨d1,rfl,R,s⟩;refine⟨_,d1,rfl,s,R.new,?_⟩;replace s:=s.ret (B:=w.heap.size);refine qR [] 2 [] λf3 h0 i8 a3=>qE (.tuple #[]) λK=>⟨_,rfl,(R.sr a3 K.new),(((((b.nil TM).n c).n J).trans (s)).n a3)⟩
 .refine qR [] 47 [1] λf4 d2 e2 a4=>?_;rw[show M.act ⟨8,(j:Int),(at_:Int),p,d⟩=(M.set j (if(M.ab j).up then(M.ab j).lp p else(M.ab j)) M.br M.ed)from rfl];refine Af λK=>?_;have V:MS mb tb ob nb d2 e2 M:=(h.sr ((b.trans c).trans a4) K.new);refine qG 3 TM [true,true] ((V).call e (Yf ((V).ns e) p (by omega) (by omega))) ?_;rintro A i9 ⟨d3,rfl,S,t⟩;refine⟨_,d3,rfl,t,S.new,?_⟩;replace t:=t.ret (B:=w.heap.size);refine qR [] 2 [] λf5 h1 j0 a5=>qE (.tuple #[]) λK=>⟨_,rfl,(S.sr a5 K.new),(((((b.nil TM).n c).n a4).trans (t)).n a5)⟩
 .refine qR [] 51 [] λf6 d4 e3 L=>?_;rw[show M.act ⟨9,(j:Int),(at_:Int),p,d⟩=(M.set j (if(M.ab j).up then(M.ab j)else(M.ab j).start) M.br M.ed)from rfl];refine Af λK=>?_;have X:MS mb tb ob nb d4 e3 M:=(h.sr ((b.trans c).trans L) K.new);refine qG 1 TM [true,true] ((X).call e (aS ((X).ns e) (C.ch (((b.nil TM).n c).n L) F4) D)) ?_;rintro A j1 ⟨d5,rfl,T,u⟩;refine⟨_,d5,rfl,u,T.new,?_⟩;replace u:=u.ret (B:=w.heap.size);refine qR [] 2 [] λf7 h2 j2 a6=>qE (.tuple #[]) λK=>⟨_,rfl,(T.sr a6 K.new),(((((b.nil TM).n c).n L).trans (u)).n a6)⟩
theorem gg{f:Bool}(h:OwnS g' w' (.n 60 0) f e sz y xs)(c:Cg w.heap.size [.n 60 0] gz w g' w'):∀ a,y.a=some a->w.heap.size<=a.block:=by
 intro a d;rcases h.ex with⟨h1,_⟩|⟨b,_,h1,_,_,_,_,_,h7,_⟩
 .rw[h1]at d;cases d
 .rw[h1]at d
  simp only[Z']at d;subst d;rcases nU b w.heap.size with hlt|hge
  .have:=c.tag hlt (λh=>hlt);rw[h7]at this;cases this
  .exact hge
theorem Se{x:S3}(h:RdV w x 5 vs)(I:∀ u∈vs,u.oneCell'=true)(M:x.n<100000000) :
  Calls prog 63 #[x.v] w λe w'=>∃ y:S3,e=.returned y.v/\RdV w' y 5 vs/\y.n=x.n/\(vs≠[]->∀ a,y.a=some a->w.heap.size<=a.block)/\Bw w w':=by
 obtain⟨T,c,k⟩:=x;simp only at M;refine gI (fn:=f63) [.n 60 0] gz func63 (λ_ _=>⟨rfl,rfl⟩) (qR [] 8 [] λU Z w1 d=>?_);by_cases C:T=none
 .subst C;have o:k=0:=h.th rfl;have q:c=0:=by have:=h.cap;simp only at this;omega
  subst o q;refine qV 1 (.bool true) (eK (z:=⟨none,0,0⟩) (t:=45) (e:=24) (x:=(.tmp 3)) (y:=(.const (sn))) rfl underlying45 (by kernel_rfl)) (qR [] 6 [] λV g2 w2 F=>qE (S3.v s30) λK=>⟨s30,rfl,⟨h.len,A' _,λ_=>rfl,.inl rfl⟩,rfl,λ_ a L=>(by cases L),Cg.af ((d.nil [.n 60 0]).n F) (λ_ _=>E9)⟩)
 .obtain⟨ad,rfl⟩:=ph.1 C;refine qV 1 (.bool false) (eK (z:=⟨some ad,c,k⟩) (t:=45) (e:=24) (x:=(.tmp 3)) (y:=(.const (sn))) rfl underlying45 (by kernel_rfl)) (qR [] 7 [62,0] λb H S g=>?_);by_cases D:c=0
  .subst D;obtain⟨s,r⟩:∃ s,prog.info? 24=some s:=oA.1 (by kernel_rfl);refine qV 2 (.slice (some ⟨(b 0),0,none⟩) 0 0) (gj 45 45 24 s underlying45 r (b 0) ad k) (qR [] 2 [] λW g4 w4 G=>qE (S3.v ⟨some ⟨(b 0),0,none⟩,0,0⟩) λK=>⟨_,rfl,⟨h.len,A' _,λh=>(by cases h),.inl rfl⟩,rfl,λO=>absurd (Y' (by rw[h.len];exact rC 5)) O,Cg.af (((d.nil [.n 60 0]).n g).n G) (λ_ _=>E9)⟩)
  .obtain⟨bx,ox,hx1,hx2,hx3⟩:∃ bx ox,(some ad:Option Addr)=some ⟨bx,ox,none⟩/\bx<w.heap.size/\∀ j u,vs[j]?=some u->w.cell? ⟨bx,ox+j,none⟩=some u:=by rcases h.ex with h|h;exact absurd h D;exact h
   simp only[Z']at hx1;subst hx1;refine Af λK=>?_;obtain⟨P,Q,R⟩:=K.ux 0 (b 0) (.cells #[] 24) 60 0 true (by kernel_rfl);have J:OwnS H S (.n 60 0) true 24 5 ⟨some ⟨(b 0),0,none⟩,0,0⟩ []:=⟨rfl,.inr ⟨(b 0),#[],rfl,P,A' _,nH _,rfl,rfl,Q,R⟩⟩;refine I8 [false] ?_;have m:=Cg.af ((d.nil [.n 60 0]).n g) (λ_ _=>E9);refine KD 2 (x:=⟨some ⟨(b 0),0,none⟩,0,0⟩) 45 45 24 5 40 (.agg #[iv 0,iv 0,iv 0,iv 0,iv 0]) ⟨bx,ox,none⟩ c k vs J (by kernel_rfl) (by kernel_rfl) (by kernel_rfl) underlying45 (by kernel_rfl) (by kernel_rfl) (by decide) (by omega) h.len I (λK j u N=>by rw[K7];exact(m.cell (p:=⟨bx,ox+j,none⟩) hx2).trans (hx3 j u N)) (by show 0+c<=_;unfold maxLen;omega) (by show(0+c)*40<=_;omega) ?_;intro E g5 w5 A n5 l Y;have B:=l w.heap.size [.n 60 0] (D'.2 rfl);refine qR [] 2 [] λX g6 w6 i=>qE (S3.v E) λK=>⟨E,rfl,(by have:=(A.ch i).rv;rwa [oJ]at this),(by rw[n5];show 0+c=c;omega),λ_=>gg (A.ch i) ((((d.nil [.n 60 0]).n g).trans B).n i),Cg.af ((((d.nil [.n 60 0]).n g).trans B).n i) (λ_ _=>E9)⟩
theorem Lx{x:S3}(h:RdV w x 5 vs)(I:∀ u∈vs,u.oneCell'=true)(M:x.n<100000000) :
  Calls prog 62 #[x.v] w λe w'=>∃ y:S3,e=.returned y.v/\RdV w' y 5 vs/\y.n=x.n/\(vs≠[]->∀ a,y.a=some a->w.heap.size<=a.block)/\Bw w w':=by
 obtain⟨T,c,k⟩:=x;simp only at M;refine gI (fn:=f62) [.n 60 0] gz func62 (λ_ _=>⟨rfl,rfl⟩) (qR [] 8 [] λU Z w1 d=>?_);by_cases C:T=none
 .subst C;have o:k=0:=h.th rfl;have q:c=0:=by have:=h.cap;simp only at this;omega
  subst o q;refine qV 1 (.bool true) (eK (z:=⟨none,0,0⟩) (t:=39) (e:=142) (x:=(.tmp 3)) (y:=(.const (sn))) rfl underlying39 (by kernel_rfl)) (qR [] 6 [] λV g2 w2 F=>qE (S3.v s30) λK=>⟨s30,rfl,⟨h.len,A' _,λ_=>rfl,.inl rfl⟩,rfl,λ_ a L=>(by cases L),Cg.af ((d.nil [.n 60 0]).n F) (λ_ _=>E9)⟩)
 .obtain⟨ad,rfl⟩:=ph.1 C;refine qV 1 (.bool false) (eK (z:=⟨some ad,c,k⟩) (t:=39) (e:=142) (x:=(.tmp 3)) (y:=(.const (sn))) rfl underlying39 (by kernel_rfl)) (qR [] 7 [62,0] λb H S g=>?_);by_cases D:c=0
  .subst D;obtain⟨s,r⟩:∃ s,prog.info? 142=some s:=oA.1 (by kernel_rfl);refine qV 2 (.slice (some ⟨(b 0),0,none⟩) 0 0) (gj 39 39 142 s underlying39 r (b 0) ad k) (qR [] 2 [] λW g4 w4 G=>qE (S3.v ⟨some ⟨(b 0),0,none⟩,0,0⟩) λK=>⟨_,rfl,⟨h.len,A' _,λh=>(by cases h),.inl rfl⟩,rfl,λO=>absurd (Y' (by rw[h.len];exact rC 5)) O,Cg.af (((d.nil [.n 60 0]).n g).n G) (λ_ _=>E9)⟩)
  .obtain⟨bx,ox,hx1,hx2,hx3⟩:∃ bx ox,(some ad:Option Addr)=some ⟨bx,ox,none⟩/\bx<w.heap.size/\∀ j u,vs[j]?=some u->w.cell? ⟨bx,ox+j,none⟩=some u:=by rcases h.ex with h|h;exact absurd h D;exact h
   simp only[Z']at hx1;subst hx1;refine Af λK=>?_;obtain⟨P,Q,R⟩:=K.ux 0 (b 0) (.cells #[] 142) 60 0 true (by kernel_rfl);have J:OwnS H S (.n 60 0) true 142 5 ⟨some ⟨(b 0),0,none⟩,0,0⟩ []:=⟨rfl,.inr ⟨(b 0),#[],rfl,P,A' _,nH _,rfl,rfl,Q,R⟩⟩;refine I8 [false] ?_;have m:=Cg.af ((d.nil [.n 60 0]).n g) (λ_ _=>E9);refine KD 2 (x:=⟨some ⟨(b 0),0,none⟩,0,0⟩) 39 39 142 5 40 (.agg #[iv 0,iv 0,iv 0,iv 0,iv 0]) ⟨bx,ox,none⟩ c k vs J (by kernel_rfl) (by kernel_rfl) (by kernel_rfl) underlying39 (by kernel_rfl) (by kernel_rfl) (by decide) (by omega) h.len I (λK j u N=>by rw[K7];exact(m.cell (p:=⟨bx,ox+j,none⟩) hx2).trans (hx3 j u N)) (by show 0+c<=_;unfold maxLen;omega) (by show(0+c)*40<=_;omega) ?_;intro E g5 w5 A n5 l Y;have B:=l w.heap.size [.n 60 0] (D'.2 rfl);refine qR [] 2 [] λX g6 w6 i=>qE (S3.v E) λK=>⟨E,rfl,(by have:=(A.ch i).rv;rwa [oJ]at this),(by rw[n5];show 0+c=c;omega),λ_=>gg (A.ch i) ((((d.nil [.n 60 0]).n g).trans B).n i),Cg.af ((((d.nil [.n 60 0]).n g).trans B).n i) (λ_ _=>E9)⟩
def KL(M:Meet)(ly tv:S3):Array Value:=#[iv (M.br.length:Int),.bool (M.ab 0).up,.bool (M.ab 1).up,.bool (M.ab 2).up,.bool (M.ab 3).up,.bool (M.ab 4).up,S3.v ly,iv ((M.ab 0).bad:Int),iv ((M.ab 1).bad:Int),iv ((M.ab 2).bad:Int),iv ((M.ab 3).bad:Int),iv ((M.ab 4).bad:Int),S3.v tv]
structure OutW(w:World)(M:Meet)(ly tv:S3)(ys:Nat->S3):Prop where
 sH:RdV w ly 1 [S3.v (ys 0),S3.v (ys 1),S3.v (ys 2),S3.v (ys 3),S3.v (ys 4)]
 log:∀ j,j<5->RdC w (ys j) ((M.ab j).ae.take (M.ab j).done)
 ed:RdV w tv 5 (M.ed.flatMap FY)
structure OutN(B:Nat)(M:Meet)(ly tv:S3)(ys:Nat->S3):Prop where
 sH:∀ a,ly.a=some a->B<=a.block
 log:∀ j,j<5->cmL ((M.ab j).ae.take (M.ab j).done)≠[]->∀ a,(ys j).a=some a->B<=a.block
 ed:M.ed.flatMap FY≠[]->∀ a,tv.a=some a->B<=a.block
theorem OutW.ch(h:OutW w M ly tv ys)(hn:OutN B M ly tv ys)(e:∀ b,B<=b->g.t b=.z)(c:Cg C [] g w g' w'):OutW w' M ly tv ys :=
 ⟨((⟨h.sH,λ_ a d=>e _ (hn.sH a d)⟩:FzV g w ly 1 _).ch c).rd,λj i=>(((⟨(h.log j i).rv,λf a d=>e _ (hn.log j i f a d)⟩:FzV g w (ys j) 5 _).ch c).rd).rc,((⟨h.ed,λf a d=>e _ (hn.ed f a d)⟩:FzV g w tv 5 _).ch c).rd⟩
theorem Vn(d:List Tol):∀ u∈d.flatMap FY,u.oneCell'=true:=by
 intro u b;obtain⟨c,_,a⟩:=pW.1 b;simp only[FY,mZ,Q',or_false]at a;rcases a with rfl|rfl|rfl|rfl|rfl<;>rfl
theorem bi{P:Program}{c:Func}{R:Ending->World->Prop}{Φ:List Fa}{s:Xs}(b:Nat)(o:Obj)(a:w0.heap[b]?=some o)(h:GT P c R w0 Φ ⟨s.K,s.f,BN s.L++[⟨b,o,.z,false⟩]⟩ g w):GT P c R w0 Φ s g w :=
 ⟨λF C=>Cq ⟨b,o,.z,false⟩ (λ_=>⟨((CgQ.af C).block b (rl a)).trans a,C.tag (rl a) (λ_=>rl a),(λh=>by cases h),λh=>absurd rfl h⟩) rfl (h.ex F C)⟩
theorem iG(h:MS mb tb ob nb g w0 M)(b:Bw w0 w){i:Nat}(c:i<5)(a:(M.ab i).done<=(M.ab i).ae.length) :
  Calls prog 64 #[pt (nb i) 0] w λe w'=>∃ y:S3,e=.returned y.v/\RdC w' y ((M.ab i).ae.take (M.ab i).done)/\Bw w w' :=
 UL ((h.sr (Cg.eb (B:=0) b) λd a=>h.new d (mS b.size a)).ns c) a
theorem lw(a:i<5):(Instr.index 117 (.agg #[pt (nb 0) 0,pt (nb 1) 0,pt (nb 2) 0,pt (nb 3) 0,pt (nb 4) 0]) (iv (i:Int))).run prog W=.ok (pt (nb i) 0) W:=by
 rcases se a with rfl|rfl|rfl|rfl|rfl<;>kernel_rfl
def ysL(ys:Nat->S3)(i:Nat):List Value:=(List.range i).map λj=>S3.v (ys j)
def Gq(f:Nat->Bool)(i:Nat)(b:Bool):Nat->Bool:=λj=>bif Nat.beq j i then b else f j
def KF(f:Nat->Int)(i:Nat)(b:Int):Nat->Int:=λj=>bif Nat.beq j i then b else f j
def sa(M:Meet)(i:Nat):Nat->Bool:=λj=>bif Nat.blt j i then(M.ab j).up else false
def CK(M:Meet)(i:Nat):Nat->Int:=λj=>bif Nat.blt j i then((M.ab j).bad:Int)else 0
theorem PY(j i:Nat):Nat.blt j (i+1)=bif Nat.beq j i then true else Nat.blt j i:=by
 rw[Bool.eq_iff_iff];rcases qy j i with h|h|h
 .simp[Nat.blt,show Nat.beq j i=false from Bool.eq_false_iff.2 λe=>by have:=Nat.eq_of_beq_eq_true e;omega];omega
 .subst h;simp[Nat.blt,Nat.beq_refl]
 .simp[Nat.blt,show Nat.beq j i=false from Bool.eq_false_iff.2 λe=>by have:=Nat.eq_of_beq_eq_true e;omega];omega
theorem jB(M:Meet)(i:Nat):Gq (sa M i) i (M.ab i).up=sa M (i+1):=by
 funext j
 unfold Gq sa;rw[PY];cases h:Nat.beq j i
 .rfl
 .rw[nD h];rfl
theorem gV(M:Meet)(i:Nat):KF (CK M i) i ((M.ab i).bad:Int)=CK M (i+1):=by
 funext j
 unfold KF CK;rw[PY];cases h:Nat.beq j i
 .rfl
 .rw[nD h];rfl
def Lgs(g:Gh)(w:World)(M:Meet)(ys:Nat->S3)(i:Nat):Prop:=∀ j,j<i->FzV g w (ys j) 5 (cmL ((M.ab j).ae.take (M.ab j).done))
def Fa.lg(M:Meet)(ys:Nat->S3)(i:Nat):Fa:=⟨none,λg w=>Lgs g w M ys i,λhz _ c h j hj=>(h j hj).ch c hz⟩
def yup(ys:Nat->S3)(i:Nat)(y:S3):Nat->S3:=λj=>if j=i then y else ys j
theorem dV(h:Lgs g w M ys i)(k:FzV g w y 5 (cmL ((M.ab i).ae.take (M.ab i).done))):Lgs g w M (yup ys i y) (i+1):=by
 intro j a;unfold yup;split
 .rename_i e;rw[e];exact k
 .exact h j (by omega)
theorem ml(a:Nat->S3)(i:Nat)(y:S3):ysL (yup a i y) (i+1)=ysL a i++[S3.v y]:=by
 unfold ysL;rw[pg,nG]
 congr 1
 .apply rm;intro j b;have:=pM.1 b;unfold yup;rw[if_neg (by omega)]
 .simp[yup]
theorem fZ(h:∀ j,j<i->cmL ((M.ab j).ae.take (M.ab j).done)≠[]->∀ a,(ys j).a=some a->B<=a.block)(k:cmL ((M.ab i).ae.take (M.ab i).done)≠[]->∀ a,y.a=some a->B<=a.block):∀ j,j<i+1->cmL ((M.ab j).ae.take (M.ab j).done)≠[]->∀ a,(yup ys i y j).a=some a->B<=a.block:=by
 intro j b;unfold yup;split
 .rename_i e;rw[e];exact k
 .exact h j (by omega)
theorem iU{x:S3}(h:OwnS g w (.n 60 0) true e sz x xs)(C:Cg w0.heap.size TQ gS w0 g w):∀ a,x.a=some a->w0.heap.size<=a.block:=by
 intro a c;rcases h.ex with⟨h1,_⟩|⟨b,cur,h1,_,_,_,_,_,h7,_⟩
 .rw[h1]at c;cases c
 .rw[h1]at c;cases c
  refine qW λd=>?_;have:=C.tag d (λ_=>d);rw[h7]at this
  cases this
theorem QY(h:MS mb tb ob nb g w M)(hd:∀ i,i<5->(M.ab i).done<=(M.ab i).ae.length/\(M.ab i).ae.length<=40)(b2:M.br.length<100000000)(b5:M.ed.length<100000000) :
  Calls prog 36 #[pt mb 0] w λe w'=>∃ (ly tv:S3) (ys:Nat->S3),e=.returned (.agg (KL M ly tv))/\OutW w' M ly tv ys/\OutN w.heap.size M ly tv ys/\Bw w w':=by
 obtain⟨lt,tl,E⟩:=h.out;obtain⟨bs,hL,R⟩:=E.br;have S:lt.n=M.br.length:=by have:=hL.len;have:=R.len;simp at *;omega
 have b6:tl.n=M.ed.length:=by have Z:=E.ed.len;rw[GN]at Z;omega
 refine tIn [] func36 trivial (bi mb _ h.box.r ?_);refine bi ob _ E.row ?_;refine tR 21 [1,0,19,0,2,4,6,0,8,10,12,1,14,16,18,20,22,0,24,26,28,1] λb _ _=>Je 55 (λy t c=>∃ (tv:S3) (m:Nat),y=[(0,pt mb 0),(2,pt (b 0) 0),(3,pt m 0)]/\t=[⟨mb,.cells (mtA nb ob tb) 119,.z,false⟩,⟨ob,.cells #[S3.v lt,S3.v tl] 113,.z,false⟩,⟨(b 0),.cells #[iv 0,.bool false,.bool false,.bool false,.bool false,.bool false,sn,iv 0,iv 0,iv 0,iv 0,iv 0,sn] 41,.l,false⟩,⟨m,.cells #[iv (lt.n:Int),.bool false,.bool false,.bool false,.bool false,.bool false,sn,iv 0,iv 0,iv 0,iv 0,iv 0,S3.v tv] 41,.l,false⟩]/\c=[Fa.zv tv 5 (M.ed.flatMap FY)]/\(M.ed.flatMap FY≠[]->∀ a,tv.a=some a->w.heap.size<=a.block)) (λJ q=>?_) ?_
 .refine Hr 15 17 ?_ ?_
  .refine tF λ_ D=>?_;have T:=D.size;refine tC 15 (λF C=>Lx (E.ed.rv.af (CgQ.af C)) (Vn _) (by omega)) λB=>?_;rintro _ _ ⟨tv,rfl,A,_,f,b4⟩;refine⟨_,Fa.zv tv 5 (M.ed.flatMap FY)::_,rfl,b4,λF=>⟨⟨A,λp a o=>B _ (f p a o)⟩,F⟩,?_⟩;refine tR 4 [32,35,1,0,37,3,0] λX _ _=>tD q [true,true,true,true] ⟨tv,(X 0),rfl,rfl,rfl,λp a o=>mS T (f p a o)⟩ (λF=>⟨F.1,trivial⟩)
  .refine tR 1 [1,0] λY _ _=>tF λ_ D=>?_;have U:=D.size;refine tC 15 (λF C=>Lx (E.ed.rv.af (CgQ.af C)) (Vn _) (by omega)) λB=>?_;rintro _ _ ⟨tv,rfl,A,_,f,b8⟩;refine⟨_,Fa.zv tv 5 (M.ed.flatMap FY)::_,rfl,b8,λF=>⟨⟨A,λp a o=>B _ (f p a o)⟩,F⟩,?_⟩;refine tR 3 [32,37,3,0] λb9 _ _=>tD q [true,true,true,true] ⟨tv,(Y 0),rfl,rfl,rfl,λp a o=>mS U (f p a o)⟩ (λF=>⟨F.1,trivial⟩)
 rintro _ _ _ ⟨tv,m,rfl,rfl,rfl,f⟩ _ _ _;refine tR 10 [0] λa1 _ _=>Ek 55 [(2,pt (b 0) 0),(3,pt m 0),(26,.agg #[pt (nb 0) 0,pt (nb 1) 0,pt (nb 2) 0,pt (nb 3) 0,pt (nb 4) 0]),(27,iv 0)] [true,false,true,true] [⟨mb,.cells (mtA nb ob tb) 119,.z,false⟩,⟨(b 0),.cells #[iv 0,.bool false,.bool false,.bool false,.bool false,.bool false,sn,iv 0,iv 0,iv 0,iv 0,iv 0,sn] 41,.l,false⟩,⟨m,.cells #[iv (lt.n:Int),.bool false,.bool false,.bool false,.bool false,.bool false,sn,iv 0,iv 0,iv 0,iv 0,iv 0,S3.v tv] 41,.l,false⟩] [Fa.zv tv 5 (M.ed.flatMap FY),Fa.ow 0 45 1 s30 (ysL (λ_=>s30) 0),Fa.lg M (λ_=>s30) 0] (λkk y t c=>∃ (i:Nat) (ly:S3) (ys:Nat->S3),kk=5-i/\y=[(2,pt (b 0) 0),(3,pt m 0),(26,.agg #[pt (nb 0) 0,pt (nb 1) 0,pt (nb 2) 0,pt (nb 3) 0,pt (nb 4) 0]),(27,iv (i:Int))]/\t=[⟨mb,.cells (mtA nb ob tb) 119,.z,false⟩,⟨(b 0),.cells #[iv 0,.bool false,.bool false,.bool false,.bool false,.bool false,sn,iv 0,iv 0,iv 0,iv 0,iv 0,sn] 41,.l,false⟩,⟨m,.cells #[iv (lt.n:Int),.bool (sa M i 0),.bool (sa M i 1),.bool (sa M i 2),.bool (sa M i 3),.bool (sa M i 4),S3.v ly,iv (CK M i 0),iv (CK M i 1),iv (CK M i 2),iv (CK M i 3),iv (CK M i 4),S3.v tv] 41,.l,false⟩]/\c=[Fa.zv tv 5 (M.ed.flatMap FY),Fa.ow 0 45 1 ly (ysL ys i),Fa.lg M ys i]/\i<=5/\ly.n=i/\(∀ j,j<i->cmL ((M.ab j).ae.take (M.ab j).done)≠[]->∀ a,(ys j).a=some a->w.heap.size<=a.block)) (5) ⟨0,s30,λ_=>s30,rfl,rfl,rfl,rfl,by omega,rfl,λj G=>absurd G (pf _)⟩ (λF=>⟨F.1,OwnS.nil _ _ _ _ _ _,(λj G=>absurd G (pf _)),trivial⟩) ?_;rintro k _ _ _ ⟨i,ly,ys,rfl,rfl,rfl,rfl,hi,a0,hw⟩ _ _ _ J q;refine tR 5 [] λa2 _ _=>?_;by_cases Z:i<5
 .refine tI ((decide ((i:Int)<5))) true (O' (by omega)) ?_;have d:i<5:=by omega
  obtain⟨x,hN⟩:=h.ab i d;refine tR 6 [] λa3 _ _=>tV 1 (pt (nb i) 0) (λF C=>(lw d)) (bi (nb i) _ hN.row ?_);refine tR 4 [] λa4 _ _=>Je 55 (λy t c=>y=[(2,pt (b 0) 0),(3,pt m 0),(26,.agg #[pt (nb 0) 0,pt (nb 1) 0,pt (nb 2) 0,pt (nb 3) 0,pt (nb 4) 0]),(27,iv (i:Int)),(4,iv (i:Int)),(5,pt (nb i) 0)]/\t=[⟨mb,.cells (mtA nb ob tb) 119,.z,false⟩,⟨(b 0),.cells #[iv 0,.bool false,.bool false,.bool false,.bool false,.bool false,sn,iv 0,iv 0,iv 0,iv 0,iv 0,sn] 41,.l,false⟩,⟨m,.cells #[iv (lt.n:Int),.bool (Gq (sa M i) i (M.ab i).up 0),.bool (Gq (sa M i) i (M.ab i).up 1),.bool (Gq (sa M i) i (M.ab i).up 2),.bool (Gq (sa M i) i (M.ab i).up 3),.bool (Gq (sa M i) i (M.ab i).up 4),S3.v ly,iv (CK M i 0),iv (CK M i 1),iv (CK M i 2),iv (CK M i 3),iv (CK M i 4),S3.v tv] 41,.l,false⟩,⟨(nb i),.cells (AJ i ob (M.ab i) x) 136,.z,false⟩]/\c=[Fa.zv tv 5 (M.ed.flatMap FY),Fa.ow 0 45 1 ly (ysL ys i),Fa.lg M ys i]) (λJ q=>?_) ?_
  .rcases se d with rfl|rfl|rfl|rfl|rfl<;>exact tR 10 [3,2,0] λa5 _ _=>tD q [true,true,true,true] ⟨rfl,rfl,rfl⟩ (λF=>F)
  rintro _ _ _ ⟨rfl,rfl,rfl⟩ _ _ _;refine tR 1 [] λa6 _ _=>Je 55 (λy t c=>y=[(2,pt (b 0) 0),(3,pt m 0),(26,.agg #[pt (nb 0) 0,pt (nb 1) 0,pt (nb 2) 0,pt (nb 3) 0,pt (nb 4) 0]),(27,iv (i:Int)),(4,iv (i:Int)),(5,pt (nb i) 0)]/\t=[⟨mb,.cells (mtA nb ob tb) 119,.z,false⟩,⟨(b 0),.cells #[iv 0,.bool false,.bool false,.bool false,.bool false,.bool false,sn,iv 0,iv 0,iv 0,iv 0,iv 0,sn] 41,.l,false⟩,⟨m,.cells #[iv (lt.n:Int),.bool (Gq (sa M i) i (M.ab i).up 0),.bool (Gq (sa M i) i (M.ab i).up 1),.bool (Gq (sa M i) i (M.ab i).up 2),.bool (Gq (sa M i) i (M.ab i).up 3),.bool (Gq (sa M i) i (M.ab i).up 4),S3.v ly,iv (KF (CK M i) i ((M.ab i).bad:Int) 0),iv (KF (CK M i) i ((M.ab i).bad:Int) 1),iv (KF (CK M i) i ((M.ab i).bad:Int) 2),iv (KF (CK M i) i ((M.ab i).bad:Int) 3),iv (KF (CK M i) i ((M.ab i).bad:Int) 4),S3.v tv] 41,.l,false⟩,⟨(nb i),.cells (AJ i ob (M.ab i) x) 136,.z,false⟩]/\c=[Fa.zv tv 5 (M.ed.flatMap FY),Fa.ow 0 45 1 ly (ysL ys i),Fa.lg M ys i]) (λJ q=>?_) ?_
  .rcases se d with rfl|rfl|rfl|rfl|rfl<;>exact tR 10 [3,2,0] λa7 _ _=>tD q [true,true,true,true] ⟨rfl,rfl,rfl⟩ (λF=>F)
  rintro _ _ _ ⟨rfl,rfl,rfl⟩ _ _ _;refine tR 4 [8,0,2,2,4] λa8 _ _=>tC 3 (λF C=>iG h (CgQ.af C) d (hd i d).1) λB=>?_;rintro _ _ ⟨yl,rfl,I,P⟩;refine⟨_,_,rfl,P,id,?_⟩;have V:yl.n<100000000:=by rw[I.len,j'];have:=hd i d;omega
  refine tF λ_ D=>?_;have H:=D.size;refine tC 4 (λF C=>Se I.rv (λu hu=>Pe _ u hu) V) λB=>?_;rintro _ _ ⟨O,rfl,W,_,L,Q⟩;refine⟨_,Fa.zv O 5 (cmL ((M.ab i).ae.take (M.ab i).done))::_,rfl,Q,λF=>⟨⟨W,λp a o=>B _ (L p a o)⟩,F⟩,?_⟩;refine tR 1 [11,0,0] λs _ _=>R7 6 0 (x:=ly) 37 37 45 1 24 sn ⟨(s 0),0,none⟩ 1 1 [S3.v O] (λF=>F.2.2.1) [Fa.zv tv 5 (M.ed.flatMap FY),Fa.lg M (yup ys i O) (i+1)] (λF=>⟨F.2.1,dV F.2.2.2.1 F.1,trivial⟩) rfl (by simp[TQ]) rfl (by simp[Value.oneCell']) (λF K=>Dz K 4 (s 0) [S3.v O] 45 .z true (by kernel_rfl)) (by unfold maxLen;omega) (by omega) λN _ _ b7=>tR 5 [14,17,2,0] λa9 _ _=>tV 0 (iv ((i:Int)+1)) (λF C=>(AX 27 (i:Int) underlying3 (by omega))) (tR 2 [] λb0 _ _=>tB q (5-(i+1)) (by omega) [true,true,true,false,false] (L':=[⟨mb,.cells (mtA nb ob tb) 119,.z,false⟩,⟨(b 0),.cells #[iv 0,.bool false,.bool false,.bool false,.bool false,.bool false,sn,iv 0,iv 0,iv 0,iv 0,iv 0,sn] 41,.l,false⟩,⟨m,.cells #[iv (lt.n:Int),.bool (Gq (sa M i) i (M.ab i).up 0),.bool (Gq (sa M i) i (M.ab i).up 1),.bool (Gq (sa M i) i (M.ab i).up 2),.bool (Gq (sa M i) i (M.ab i).up 3),.bool (Gq (sa M i) i (M.ab i).up 4),S3.v N,iv (KF (CK M i) i ((M.ab i).bad:Int) 0),iv (KF (CK M i) i ((M.ab i).bad:Int) 1),iv (KF (CK M i) i ((M.ab i).bad:Int) 2),iv (KF (CK M i) i ((M.ab i).bad:Int) 3),iv (KF (CK M i) i ((M.ab i).bad:Int) 4),S3.v tv] 41,.l,false⟩]) ⟨i+1,N,yup ys i O,rfl,rfl,(by rw[jB,gV]),rfl,by omega,by omega,fZ hw (λp a o=>mS H (L p a o))⟩ (λF=>⟨F.2.1,(by rw[ml];exact F.1),F.2.2.1,trivial⟩))
 .refine tI ((decide ((i:Int)<5))) false (H' (by omega)) ?_;obtain rfl:i=5:=by omega
  refine tR 6 [2,1,0] λb1 _ _=>?_;have hA:KL M ly tv=#[iv (lt.n:Int),.bool (sa M 5 0),.bool (sa M 5 1),.bool (sa M 5 2),.bool (sa M 5 3),.bool (sa M 5 4),S3.v ly,iv (CK M 5 0),iv (CK M 5 1),iv (CK M 5 2),iv (CK M 5 3),iv (CK M 5 4),S3.v tv]:=by rw[S];rfl
  exact tX λF C=>qE1 2 41 1 (b 0) #[iv (lt.n:Int),.bool (sa M 5 0),.bool (sa M 5 1),.bool (sa M 5 2),.bool (sa M 5 3),.bool (sa M 5 4),S3.v ly,iv (CK M 5 0),iv (CK M 5 1),iv (CK M 5 2),iv (CK M 5 3),iv (CK M 5 4),S3.v tv] λ_=>⟨ly,tv,ys,by rw[hA],⟨F.2.1.rv,λj G=>(F.2.2.1 j G).rd.rc,F.1.rd⟩,⟨iU F.2.1 C,hw,f⟩,CgQ.af C⟩
theorem Zp(h:1<=k/\k<=9):Calls prog 50 #[iv k] w λe w'=>e=.returned (.bool true)/\Bw w w':=by
 refine tIn [] func50 trivial (tR 7 [] λa _ _=>tV 1 (.bool true) (λF C=>(rGe (t:=3) (m:=k) (n:=1) (x:=(.tmp 3)) (y:=(.const (iv 1))) (O' h.1))) (tR 6 [] λb _ _=>tE (.bool (decide (k<10))) λ_ B=>⟨by rw[O' (show k<10 by omega)],B⟩))
theorem Zf:Calls prog 80 #[iv k] w λe w'=>e=.returned (.bool (k==1))/\Bw w w':=by
 refine tIn [] func80 trivial (tR 10 [] λa _ _=>tE (.bool (k==1)) λ_ B=>⟨rfl,B⟩)
theorem QH:Calls prog 79 #[pt b 0] w λe w'=>e=.returned (.agg #[pt b 1,pt b 2,pt b 3])/\Bw w w':=by
 refine tIn [] func79 trivial (tR 18 [1,0,10,0,2,4,6,8,10,12,14,16,18,21,0,0] λa _ _=>tX λF C=>qE1 2 160 0 (a 0) #[pt b 1,pt b 2,pt b 3] λ_=>⟨rfl,CgQ.af C⟩)
theorem Zr(h:j<3):j=0\/j=1\/j=2:=by omega
theorem IV(h:1<=k/\k<=9):(Instr.indexAt 166 (pt 1 0) (iv k)).run prog W=.ok (pt 1 (4*k.toNat)) W:=by
 have:=WX k.toNat (by omega) W
 rwa [pH (by omega)]at this
theorem LWTab.at(h:LWTab w){k:Int}(c:1<=k/\k<=9){j:Nat}(a:j<3){b:Bool}(e:MZ j k=b):w.cell? ⟨1,4*k.toNat+1+j,none⟩=some (.bool b):=by
 have:=h.has k.toNat j (by omega) a
 rwa [pH (by omega),e]at this
theorem i7(h:LacOk x)(hy:y.n=x.d.length)(i:LWTab w)(o:LBTab w):Calls prog 51 #[.agg #[iv x.k,iv x.n,iv x.a,iv x.p,S3.v y]] w λe w'=>e=.returned (.bool true)/\Bw w w':=by
 have f:=h.k;refine tIn [] func51 trivial (tR 8 [0,0] λc _ _=>tC1 0 (λF C=>QH (b:=(c 0))) λ_=>tR 3 [] λa0 _ _=>Ek 33 [(1,pt (c 0) 0),(5,.agg #[pt (c 0) 1,pt (c 0) 2,pt (c 0) 3]),(6,iv 0)] [true] [⟨(c 0),.cells #[iv x.k,iv x.n,iv x.a,iv x.p,S3.v y] 34,.z,false⟩] [] (λZ Y X l=>∃ (j:Nat),Z=3-j/\Y=[(1,pt (c 0) 0),(5,.agg #[pt (c 0) 1,pt (c 0) 2,pt (c 0) 3]),(6,iv (j:Int))]/\X=[⟨(c 0),.cells #[iv x.k,iv x.n,iv x.a,iv x.p,S3.v y] 34,.z,false⟩]/\l=[]/\j<=3) (3) ⟨0,rfl,rfl,rfl,rfl,by omega⟩ (λF=>trivial) ?_);rintro k _ _ _ ⟨j,rfl,rfl,rfl,rfl,hj⟩ _ _ _ J g;refine tR 5 [] λa1 _ _=>?_;by_cases h0:j<3
 .refine tI ((decide ((j:Int)<3))) true (O' (by omega)) ?_;rcases Zr (show j<3 by omega)with rfl|rfl|rfl
  .by_cases h1:Gj x.k=true
   .have hv:=h.n h1;refine tR 15 [22,0,2,0,4] λa2 _ _=>tT 3 (pt (1) (4*x.k.toNat)) (λ_=>(IV f)) (tR 2 [8,10] λa3 _ _=>tV 6 (.bool true) (λF C=>(Da underlying4 rfl ((i.af (CgQ.af C)).at f (j:=0) (by decide) (show Gj x.k=true from h1)))) (tR 4 [14,16,18,20,0] λa4 _ _=>tT 11 (.bool false) (λ_=>(rLt (t:=3) (m:=x.n) (n:=0) (x:=(.tmp 20)) (y:=(.const (iv 0))) (H' (by omega)))) (tR 6 [24,26,28,30,0,32,34] λa5 _ _=>tV 18 (iv 4) (λF C=>(Da underlying3 rfl ((o.af (CgQ.af C)).uD 0 (by decide)))) (tR 4 [38,40,42] λa6 _ _=>tI ((decide (4<x.n))) false (H' (by omega)) (tR 6 [] λq _ _=>tB g (3-1) (by omega) [true] ⟨1,rfl,rfl,rfl,rfl,by omega⟩ (λF=>trivial))))))
   .refine tR 15 [22,0,2,0,4] λr _ _=>tT 3 (pt (1) (4*x.k.toNat)) (λ_=>(IV f)) (tR 2 [8,10] λs _ _=>tV 6 (.bool false) (λF C=>(Da underlying4 rfl ((i.af (CgQ.af C)).at f (j:=0) (by decide) (show Gj x.k=false from(by simpa using h1))))) (tR 23 [14,16,18,20,22,24,26,28,30,32,34,36,38,40,42] λu _ _=>tB g (3-1) (by omega) [true] ⟨1,rfl,rfl,rfl,rfl,by omega⟩ (λF=>trivial)))
  .by_cases h1:Ir x.k=true
   .have hv:=h.a h1;refine tR 15 [22,0,2,0,4] λA _ _=>tT 3 (pt (1) (4*x.k.toNat)) (λ_=>(IV f)) (tR 2 [8,10] λD _ _=>tV 6 (.bool true) (λF C=>(Da underlying4 rfl ((i.af (CgQ.af C)).at f (j:=1) (by decide) (show Ir x.k=true from h1)))) (tR 4 [14,16,18,20,0] λE _ _=>tT 11 (.bool false) (λ_=>(rLt (t:=3) (m:=x.a) (n:=0) (x:=(.tmp 20)) (y:=(.const (iv 0))) (H' (by omega)))) (tR 6 [24,26,28,30,0,32,34] λG _ _=>tV 18 (iv 1048576) (λF C=>(Da underlying3 rfl ((o.af (CgQ.af C)).uD 1 (by decide)))) (tR 4 [38,40,42] λH _ _=>tI ((decide (1048576<x.a))) false (H' (by omega)) (tR 6 [] λI _ _=>tB g (3-2) (by omega) [true] ⟨2,rfl,rfl,rfl,rfl,by omega⟩ (λF=>trivial))))))
   .refine tR 15 [22,0,2,0,4] λK _ _=>tT 3 (pt (1) (4*x.k.toNat)) (λ_=>(IV f)) (tR 2 [8,10] λL _ _=>tV 6 (.bool false) (λF C=>(Da underlying4 rfl ((i.af (CgQ.af C)).at f (j:=1) (by decide) (show Ir x.k=false from(by simpa using h1))))) (tR 23 [14,16,18,20,22,24,26,28,30,32,34,36,38,40,42] λM _ _=>tB g (3-2) (by omega) [true] ⟨2,rfl,rfl,rfl,rfl,by omega⟩ (λF=>trivial)))
  .by_cases h1:Is x.k=true
   .have hv:=h.p h1;refine tR 15 [22,0,2,0,4] λN _ _=>tT 3 (pt (1) (4*x.k.toNat)) (λ_=>(IV f)) (tR 2 [8,10] λO _ _=>tV 6 (.bool true) (λF C=>(Da underlying4 rfl ((i.af (CgQ.af C)).at f (j:=2) (by decide) (show Is x.k=true from h1)))) (tR 4 [14,16,18,20,0] λP _ _=>tT 11 (.bool false) (λ_=>(rLt (t:=3) (m:=x.p) (n:=0) (x:=(.tmp 20)) (y:=(.const (iv 0))) (H' (by omega)))) (tR 6 [24,26,28,30,0,32,34] λQ _ _=>tV 18 (iv 100000) (λF C=>(Da underlying3 rfl ((o.af (CgQ.af C)).uD 2 (by decide)))) (tR 4 [38,40,42] λR _ _=>tI ((decide (100000<x.p))) false (H' (by omega)) (tR 6 [] λS _ _=>tB g (3-3) (by omega) [true] ⟨3,rfl,rfl,rfl,rfl,by omega⟩ (λF=>trivial))))))
   .refine tR 15 [22,0,2,0,4] λT _ _=>tT 3 (pt (1) (4*x.k.toNat)) (λ_=>(IV f)) (tR 2 [8,10] λU _ _=>tV 6 (.bool false) (λF C=>(Da underlying4 rfl ((i.af (CgQ.af C)).at f (j:=2) (by decide) (show Is x.k=false from(by simpa using h1))))) (tR 23 [14,16,18,20,22,24,26,28,30,32,34,36,38,40,42] λV _ _=>tB g (3-3) (by omega) [true] ⟨3,rfl,rfl,rfl,rfl,by omega⟩ (λF=>trivial)))
 .refine tI ((decide ((j:Int)<3))) false (H' (by omega)) (tR 5 [] λW _ _=>tE (.bool true) λ_ B=>⟨rfl,B⟩)
theorem dk(h:LacOk x)(hy:y.n=x.d.length)(o:LWTab w)(tb:LBTab w):Calls prog 52 #[.agg #[iv x.k,iv x.n,iv x.a,iv x.p,S3.v y]] w λe w'=>e=.returned (.bool true)/\Bw w w':=by
 have g:=h.k;refine tIn [] func52 trivial (tR 8 [0,0] λc _ _=>tC1 0 (λF C=>QH (b:=(c 0))) λ_=>tR 3 [] λa1 _ _=>Ek 34 [(1,pt (c 0) 0),(5,.agg #[pt (c 0) 1,pt (c 0) 2,pt (c 0) 3]),(6,iv 0)] [true] [⟨(c 0),.cells #[iv x.k,iv x.n,iv x.a,iv x.p,S3.v y] 34,.z,false⟩] [] (λkk Y X i=>∃ (j:Nat),kk=3-j/\Y=[(1,pt (c 0) 0),(5,.agg #[pt (c 0) 1,pt (c 0) 2,pt (c 0) 3]),(6,iv (j:Int))]/\X=[⟨(c 0),.cells #[iv x.k,iv x.n,iv x.a,iv x.p,S3.v y] 34,.z,false⟩]/\i=[]/\j<=3) (3) ⟨0,rfl,rfl,rfl,rfl,by omega⟩ (λF=>trivial) ?_);rintro k _ _ _ ⟨j,rfl,rfl,rfl,rfl,hj⟩ _ _ _ J f;refine tR 5 [] λa2 _ _=>?_;by_cases h0:j<3
 .refine tI ((decide ((j:Int)<3))) true (O' (by omega)) ?_;rcases Zr (show j<3 by omega)with rfl|rfl|rfl
  .by_cases h1:Gj x.k=true
   .by_cases h2:x.n=0
    .refine tR 15 [0] λa3 _ _=>tV 3 (.bool false) (λF C=>(IS (t:=3) (m:=x.n) (n:=0) (x:=(.tmp 12)) (y:=(.const (iv 0))) (by simpa using h2))) (tR 18 [] λa4 _ _=>tB f (3-1) (by omega) [true] ⟨1,rfl,rfl,rfl,rfl,by omega⟩ (λF=>trivial))
    .refine tR 15 [0] λa5 _ _=>tV 3 (.bool true) (λF C=>(IS (t:=3) (m:=x.n) (n:=0) (x:=(.tmp 12)) (y:=(.const (iv 0))) (by simpa using h2))) (tR 4 [0] λa6 _ _=>tV 8 (pt (1) (4*x.k.toNat)) (λF C=>(IV g)) (tR 2 [] λa7 _ _=>tV 11 (.bool true) (λF C=>(Da underlying4 rfl ((o.af (CgQ.af C)).at g (j:=0) (by decide) (show Gj x.k=true from h1)))) (tR 10 [] λq _ _=>tB f (3-1) (by omega) [true] ⟨1,rfl,rfl,rfl,rfl,by omega⟩ (λF=>trivial))))
   .have h2:x.n=0:=h.n0 (by simpa using h1);refine tR 15 [0] λr _ _=>tV 3 (.bool false) (λF C=>(IS (t:=3) (m:=x.n) (n:=0) (x:=(.tmp 12)) (y:=(.const (iv 0))) (by simpa using h2))) (tR 18 [] λs _ _=>tB f (3-1) (by omega) [true] ⟨1,rfl,rfl,rfl,rfl,by omega⟩ (λF=>trivial))
  .by_cases h1:Ir x.k=true
   .by_cases h2:x.a=0
    .refine tR 15 [0] λu _ _=>tV 3 (.bool false) (λF C=>(IS (t:=3) (m:=x.a) (n:=0) (x:=(.tmp 12)) (y:=(.const (iv 0))) (by simpa using h2))) (tR 18 [] λA _ _=>tB f (3-2) (by omega) [true] ⟨2,rfl,rfl,rfl,rfl,by omega⟩ (λF=>trivial))
    .refine tR 15 [0] λD _ _=>tV 3 (.bool true) (λF C=>(IS (t:=3) (m:=x.a) (n:=0) (x:=(.tmp 12)) (y:=(.const (iv 0))) (by simpa using h2))) (tR 4 [0] λE _ _=>tV 8 (pt (1) (4*x.k.toNat)) (λF C=>(IV g)) (tR 2 [] λG _ _=>tV 11 (.bool true) (λF C=>(Da underlying4 rfl ((o.af (CgQ.af C)).at g (j:=1) (by decide) (show Ir x.k=true from h1)))) (tR 10 [] λH _ _=>tB f (3-2) (by omega) [true] ⟨2,rfl,rfl,rfl,rfl,by omega⟩ (λF=>trivial))))
   .have h2:x.a=0:=h.a0 (by simpa using h1);refine tR 15 [0] λI _ _=>tV 3 (.bool false) (λF C=>(IS (t:=3) (m:=x.a) (n:=0) (x:=(.tmp 12)) (y:=(.const (iv 0))) (by simpa using h2))) (tR 18 [] λK _ _=>tB f (3-2) (by omega) [true] ⟨2,rfl,rfl,rfl,rfl,by omega⟩ (λF=>trivial))
  .by_cases h1:Is x.k=true
   .by_cases h2:x.p=0
    .refine tR 15 [0] λL _ _=>tV 3 (.bool false) (λF C=>(IS (t:=3) (m:=x.p) (n:=0) (x:=(.tmp 12)) (y:=(.const (iv 0))) (by simpa using h2))) (tR 18 [] λM _ _=>tB f (3-3) (by omega) [true] ⟨3,rfl,rfl,rfl,rfl,by omega⟩ (λF=>trivial))
    .refine tR 15 [0] λN _ _=>tV 3 (.bool true) (λF C=>(IS (t:=3) (m:=x.p) (n:=0) (x:=(.tmp 12)) (y:=(.const (iv 0))) (by simpa using h2))) (tR 4 [0] λO _ _=>tV 8 (pt (1) (4*x.k.toNat)) (λF C=>(IV g)) (tR 2 [] λP _ _=>tV 11 (.bool true) (λF C=>(Da underlying4 rfl ((o.af (CgQ.af C)).at g (j:=2) (by decide) (show Is x.k=true from h1)))) (tR 10 [] λQ _ _=>tB f (3-3) (by omega) [true] ⟨3,rfl,rfl,rfl,rfl,by omega⟩ (λF=>trivial))))
   .have h2:x.p=0:=h.p0 (by simpa using h1);refine tR 15 [0] λR _ _=>tV 3 (.bool false) (λF C=>(IS (t:=3) (m:=x.p) (n:=0) (x:=(.tmp 12)) (y:=(.const (iv 0))) (by simpa using h2))) (tR 18 [] λS _ _=>tB f (3-3) (by omega) [true] ⟨3,rfl,rfl,rfl,rfl,by omega⟩ (λF=>trivial))
 .refine tI ((decide ((j:Int)<3))) false (H' (by omega)) (tR 6 [0] λT _ _=>?_);by_cases Z:y.n=0
  .refine tV 3 (.bool true) (λF C=>(GA (t:=3) (m:=(y.n:Int)) (n:=0) (x:=(.tmp 27)) (y:=(.const (iv 0))) (by simp;omega))) (tR 7 [] λU _ _=>tE (.bool true) λ_ B=>⟨rfl,B⟩)
  .refine tV 3 (.bool false) (λF C=>(GA (t:=3) (m:=(y.n:Int)) (n:=0) (x:=(.tmp 27)) (y:=(.const (iv 0))) (by simp;omega))) (tR 3 [0] λV _ _=>tC1 7 (λF C=>Zf (k:=x.k)) λ_=>tR 3 [] λW _ _=>?_);have l:x.k=1:=nQ λe=>Z (by rw[hy,h.d0 e];rfl);exact tE (.bool (x.k==1)) λ_ B=>⟨by rw[l];rfl,B⟩
theorem RZ(h:LacOk x)(b:y.n=x.d.length)(f:LWTab w)(c:LBTab w):Calls prog 33 #[.agg #[iv x.k,iv x.n,iv x.a,iv x.p,S3.v y]] w λe w'=>e=.returned (iv 0)/\Bw w w':=by
 have o:=h.d;refine tIn [] func33 trivial (tR 10 [0,0,0] λg _ _=>tC1 2 (λF C=>Zp h.k) λ_=>tR 8 [0] λi _ _=>tC1 1 (λF C=>i7 h b (f.af (CgQ.af C)) (c.af (CgQ.af C))) λ_=>tR 12 [0] λj _ _=>tI ((decide (2000<(y.n:Int)))) false (H' (by omega)) (tR 5 [0] λl _ _=>tC1 1 (λF C=>dk h b (f.af (CgQ.af C)) (c.af (CgQ.af C))) λ_=>tR 8 [] λm _ _=>tE (iv 0) λ_ B=>⟨rfl,B⟩))
def laV(x:Lac)(y:Value):List Value:=[.int .i64 x.k,.int .i64 x.n,.int .i64 x.a,.int .i64 x.p,y]
def zLa:Value:=.agg #[.int .i64 0,.int .i64 0,.int .i64 0,.int .i64 0,.slice none 0 0]
def m7:Lac:=⟨0,0,0,0,[]⟩
structure Sk(w:World)(x:Value)(F:Nat->Lac)(n:Nat):Prop where
 ex:∃ a cap,x=.slice a n cap/\(n=0\/∃ b off,a=some ⟨b,off,none⟩/\b<w.heap.size/\∀ i,i<n->∃ y,w.rangeAt b (off+5*i) (laV (F i) y)/\Sl w y (F i).d)
 len:n<=2513169434916
theorem Sk.af{x:Value}(h:Sk w x F n)(e:Bw w w'):Sk w' x F n:=by
 obtain⟨⟨a,c,rfl,d⟩,f⟩:=h;refine⟨⟨a,c,rfl,?_⟩,f⟩;rcases d with d|⟨b,off,ha,hbs,hcell⟩
 .exact .inl d
 .refine .inr ⟨b,off,ha,X' hbs e.size,λi l=>?_⟩;obtain⟨y,g,k⟩:=hcell i l;exact⟨y,λj u m=>(e.cell (p:=⟨b,off+5*i+j,none⟩) hbs).trans (g j u m),k.af e⟩
theorem Sk.shape{x:Value}(h:Sk w x F n):∃ a cap,x=.slice a n cap:=by
 obtain⟨⟨a,cap,e,_⟩,_⟩:=h;exact⟨a,cap,e⟩
theorem Sk.spot{a:Option Addr}{c:Nat}(h:Sk w (.slice a n c) F n)(i:Nat)(j:i<n):∃ b off xa xm xp,a=some ⟨b,off,none⟩/\b<w.heap.size/\w.rangeAt b (off+5*i) (laV (F i) (.slice xa xm xp))/\Sl w (.slice xa xm xp) (F i).d:=by
 obtain⟨⟨k,f,e,g⟩,_⟩:=h;simp only[Value.slice.injEq]at e;obtain⟨rfl,_,rfl⟩:=e;rcases g with rfl|⟨b,off,rfl,hb,hcell⟩
 .omega
 .obtain⟨y,h3,h4⟩:=hcell i j;obtain⟨xa,xp,rfl⟩:=h4.sx;exact⟨b,off,xa,_,xp,rfl,hb,h3,h4⟩
def laF(l:List Lac):Nat->Lac:=λi=>l.getD i m7
theorem Pq{l:List Lac}(h:i<l.length):laF l i=l[i]:=by simp[laF,List.getD,List.getElem?_eq_getElem h]
def Jt(F:Nat->Lac)(n:Nat):List Lac:=(List.range n).map F
theorem X4(F:Nat->Lac)(n:Nat):(Jt F n).length=n:=by simp[Jt]
theorem cA(h:j<n):(Jt F n).drop j=F j::(Jt F n).drop (j+1):=by
 have a:(Jt F n)[j]?=some (F j):=by simp[Jt,h]
 obtain⟨b,c⟩:=V'.1 a;rw[<- c];exact n7 b
def ep:Array Value:=#[iv 0,.bool false,.bool false,.bool false,.bool false,.bool false,S3.v s30,iv 0,iv 0,iv 0,iv 0,iv 0,S3.v s30]
def TR:List Tg:=.n 70 0::TM
theorem jP:Tg.z∉TR:=by simp[TR,TM,TN]
theorem jM:∀ t∈TM,t∈TR:=λt h=>I' _ h
theorem Oh:gS.t b∉TR:=jP
theorem Base.self(w:World):Base w gS w:=⟨Below.refl _ _,λ_ _=>rfl⟩
theorem am{d:Option Addr}{a c:Nat}(f:d=some ⟨b,a,none⟩)(j:Nat)(g:j<n):(Instr.indexAt 35 (.slice d n c) (iv (j:Int))).run prog W=.ok (pt b (a+5*j)) W:=by
 subst f;exact P6 (P:=prog) (e:=34) (z:=5) underlying35 (by kernel_rfl) (by kernel_rfl) g _ rfl
theorem l7{k:Nat}{y:Value}(h:W.rangeAt b k (laV x y)):(Instr.loadAt 34 (pt b k)).run prog W=.ok (.agg #[iv x.k,iv x.n,iv x.a,iv x.p,y]) W:=by
 have c:=run_loadVar_mid (P:=prog) W b k 34 (laV x y) _ h underlying34 rfl (by kernel_rfl);simp only[Instr.loadAt,Instr.sureAddr,Sem.run_bind,Sem.run_pure,Result.andThen_ok];exact c
theorem OutN.mono(h:OutN B M ly tv ys)(b:C<=B):OutN C M ly tv ys:=⟨λa e=>mS b (h.sH a e),λj d c a e=>mS b (h.log j d c a e),λc a e=>mS b (h.ed c a e)⟩
theorem eX{lv:S3}(h:Sk w lv.v F n)(a9:∀ i,i<n->LacOk (F i))(f2:n<=100000)(hT:Tabs w)(tw:LWTab w)(tb:LBTab w) :
  Calls prog 19 #[lv.v] w λe w'=>Bw w w'/\∃ (ly tv:S3) (ys:Nat->S3),e=.returned (.tuple #[.agg (KL (Ao.dc (Jt F n)) ly tv),iv 0])/\OutW w' (Ao.dc (Jt F n)) ly tv ys/\OutN w.heap.size (Ao.dc (Jt F n)) ly tv ys:=by
 obtain⟨X,lq,H⟩:=lv;have f4:lq=n:=by obtain⟨a,e1,hh⟩:=h.shape;simp only[S3.v,Value.slice.injEq]at hh;exact hh.2.1
 subst lq;have f3:=h.len;obtain⟨G,E⟩:∃ G,Jt F n=G:=⟨_,rfl⟩;have f1:G.length=n:=by rw[<- E];exact X4 F n
 rw[E];refine gI (fn:=f19) TR gS func19 (λ_ _=>⟨rfl,rfl⟩) (qR [] 12 [1,0] λd g1 w1 c1=>qI ((decide (100000<(n:Int)))) false (H' (by omega)) (qR [] 9 [] λh7 g3 w3 c3=>Cd 40 [(0,.slice X n H),(2,pt (d 0) 0),(14,.slice X n H),(15,iv (n:Int)),(16,iv 0)] [true] [⟨(d 0),.cells ep 41,.l,false⟩] (λk g' w' e L=>∃ j:Nat,k=n-j/\j<=n/\e=[(0,.slice X n H),(2,pt (d 0) 0),(14,.slice X n H),(15,iv (n:Int)),(16,iv (j:Int))]/\L=[⟨(d 0),.cells ep 41,.l,false⟩]/\Cg w.heap.size TR gS w g' w') (by kernel_rfl) (by kernel_rfl) (by kernel_rfl) (by kernel_rfl) n (λK=>?_) ?_))
 .exact⟨0,rfl,nH _,rfl,rfl,((c1.nil TR).n c3)⟩
 .rintro k gr wr _ zr _ ⟨j,rfl,hj,rfl,rfl,hC⟩ J hJ;refine qR [] 5 [] λh8 g4 w4 c4=>?_;by_cases h0:j<n
  .refine qI ((decide ((j:Int)<(n:Int)))) true (O' (by omega)) (qR [] 5 [] λh9 g5 w5 c5=>?_);obtain⟨b,r,I,M,N,R,Q,S,U⟩:=h.spot j h0;refine qV 0 (pt b (r+5*j)) (am R (n:=n) (c:=H) j h0) (qV 1 (.agg #[iv (F j).k,iv (F j).n,iv (F j).a,iv (F j).p,.slice I M N]) (l7 (x:=F j) (y:=.slice I M N) (λq u W=>(((Cg.af (((hC).n c4).n c5) (λ_ _=>Oh))).cell (p:=⟨b,r+5*j+q,none⟩) Q).trans (S q u W))) (qR [] 6 [0,0,1,0,1] λi0 g7 w7 c7=>?_));have a1:=(Cg.af ((((hC).n c4).n c5).n c7) (λ_ _=>Oh));refine qC 1 (RZ (x:=F j) (y:=⟨I,M,N⟩) (a9 j h0) (FT (x:=⟨I,M,N⟩) U) (tw.af a1) (tb.af a1)) ?_;rintro e' w8 ⟨rfl,b8⟩;refine⟨_,rfl,b8,?_⟩;have c8:=Cg.eb (B:=w.heap.size) (T:=[]) (g:=g7) b8;refine qR [] 7 [] λi1 g9 w9 c9=>qR [] 4 [] λd0 e2 f7 b2=>qV 0 (iv ((j:Int)+1)) (AX 16 (j:Int) underlying3 (by omega)) (qR [] 2 [] λd1 e3 f8 b3=>qB [true,false] λz K0 K=>hJ (n-(j+1)) _ _ _ z _ (by omega) ⟨j+1,rfl,by omega,rfl,rfl,((((((((hC).n c4).n c5).n c7).n c8).n c9).n b2).n b3)⟩ K)
  .refine qI ((decide ((j:Int)<(n:Int)))) false (H' (by omega)) ?_;obtain rfl:j=n:=by omega
   refine qR [] 3 [] λd2 e4 f9 b4=>Af λK=>qG 0 [.n 70 0] [true] (Me K.new) ?_;rintro e' g0 ⟨mb,V,ob,nb,b6,rfl,a6,s⟩;refine⟨_,b6,rfl,s,a6.new,?_⟩;replace s:=s.ret (B:=w.heap.size);refine qR [] 10 [] λd3 e5 g2 a2=>Cd 40 [(2,pt (d 0) 0),(7,pt mb 0),(28,.slice X j H),(29,iv (j:Int)),(30,iv 0)] [true] [⟨(d 0),.cells ep 41,.l,false⟩] (λk g' w' e L=>∃ (i:Nat) (A:Meet),k=j-i/\i<=j/\e=[(2,pt (d 0) 0),(7,pt mb 0),(28,.slice X j H),(29,iv (j:Int)),(30,iv (i:Int))]/\L=[⟨(d 0),.cells ep 41,.l,false⟩]/\MS mb V ob nb g' w' A/\(G.drop i).foldl Meet.act A=Ao.dc G/\MOk i A/\Cg w.heap.size TR gS w g' w') (by kernel_rfl) (by kernel_rfl) (by kernel_rfl) (by kernel_rfl) j (λK=>?_) ?_
   .exact⟨0,Ao,rfl,nH _,rfl,rfl,(a6.sr a2 K.new),rfl,MOk.zero,(((((hC).n c4).n b4).trans (s.mono (by simp[TR]))).n a2)⟩
   .rintro k gq wq _ zq _ ⟨i,A,rfl,hi,rfl,rfl,hM,hI2,hA,hC2⟩ J2 hJ2;refine qR [] 5 [] λd4 e6 g6 m=>?_;by_cases h3:i<j
    .refine qI ((decide ((i:Int)<(j:Int)))) true (O' (by omega)) ?_;rw[<- E,cA h3,E,rY]at hI2
     have a8:LacOk (F i):=a9 i h3;refine qR [] 5 [] λd5 e7 g8 o=>?_;obtain⟨b,r,I,M,N,R,Q,S,U⟩:=h.spot i h3;refine qV 0 (pt b (r+5*i)) (am R (n:=j) (c:=H) i h3) (qV 1 (.agg #[iv (F i).k,iv (F i).n,iv (F i).a,iv (F i).p,.slice I M N]) (l7 (x:=F i) (y:=.slice I M N) (λq u W=>(((Cg.af (((hC2).n m).n o) (λ_ _=>Oh))).cell (p:=⟨b,r+5*i+q,none⟩) Q).trans (S q u W))) (qR [] 6 [0,0,1,0,1] λd6 b7 c6 C=>Af λK=>?_));have NM:MS mb V ob nb b7 c6 A:=(hM.sr ((m.trans o).trans C) K.new);have b1:=(Cg.af ((((hC2).n m).n o).n C) (λ_ _=>Oh));refine qG 2 TM [true,true] (ir NM ((Base.self w).ch ((((hC2).n m).n o).n C) jP) hT (F i) ⟨I,M,N⟩ (U.af b1) a8 hA (by omega)) ?_;rintro e' h1 ⟨b9,rfl,Y,D⟩;refine⟨_,b9,rfl,D,Y.new,?_⟩;replace D:=D.ret (B:=w.heap.size);refine qR [] 3 [] λd7 e8 h2 a3=>qV 0 (iv ((i:Int)+1)) (AX 30 (i:Int) underlying3 (by omega)) (qR [] 2 [] λd8 e9 h4 a4=>qB [true,false] λz K0 K=>hJ2 (j-(i+1)) _ _ _ z _ (by omega) ⟨i+1,A.act (F i),rfl,by omega,rfl,rfl,(Y.sr (a3.trans a4) K0.new),hI2,hA.act (by omega) a8,(((((((hC2).n m).n o).n C).trans (D.mono jM)).n a3).n a4)⟩ K)
    .refine qI ((decide ((i:Int)<(j:Int)))) false (H' (by omega)) ?_;obtain rfl:i=j:=by omega
     rw[oc (by omega)]at hI2
     replace hI2:A=Ao.dc G:=hI2;subst hI2;refine qR [] 4 [] λd9 P b0 O=>Af λK=>?_;have NM:MS mb V ob nb P b0 (Ao.dc G):=(hM.sr (m.trans O) K.new);have f6:=hA.wt;have f5:=hA.ed;have c0:∀ b,b0.heap.size<=b->P.t b=.z:=λb hb=>(K.new b hb).1;have a0:=(Cg.af (((hC2).n m).n O) (λ_ _=>Oh));refine qC 1 (QY NM (λq W=>⟨(hA.ab q W).dn,(hA.ab q W).ag⟩) (by omega) (by omega)) ?_;rintro e' h5 ⟨ly,tv,ys,rfl,c2,a7,Z⟩;refine⟨_,rfl,Z,?_⟩;have b5:=Cg.eb (B:=w.heap.size) (T:=[]) (g:=P) Z;refine qR [] 3 [0,0] λe0 f0 h6 a5=>qE2 2 3 41 0 (d 0) (KL (Ao.dc G) ly tv) (iv 0) λK=>⟨(Cg.af (((((hC2).n m).n O).n b5).n a5) (λ_ _=>Oh)),ly,tv,ys,rfl,(c2.ch a7 c0 a5),a7.mono a0.size⟩
end
end
section
def I64(n:Int):Prop:=-9223372036854775808<=n/\n<=9223372036854775807
end
section
open Go.RowKit
section
variable{B b i j off sz:Nat}{L:List Lac}{M:Meet}{T:List Tg}{W w w' w0:World}{a:Lac}{g g':Gh}{l:List (Lac × S3)}{ly tv x:S3}{ys:Nat->S3}{α:Type}
theorem tbA(h:Tabs w0)(C:Cg w0.heap.size TQ gS w0 g w):Tabs w:=⟨h.t.af (CgQ.af C),h.n.af (CgQ.af C),h.q.af h.q.pos (CgQ.af C)⟩
def V6(w:World):Prop:=Tabs w/\LWTab w/\LBTab w
theorem tb5(h:V6 w0)(C:Cg w0.heap.size TQ gS w0 g w):V6 w:=⟨tbA h.1 C,h.2.1.af (CgQ.af C),h.2.2.af (CgQ.af C)⟩
theorem UB{f:α->List Value}(d:∀ a,(f a).length=sz)(l:List α){i j:Nat}{a:α}{u:Value}(b:l[i]?=some a)(e:(f a)[j]?=some u):(l.flatMap f)[sz*i+j]?=some u:=by
 have g:j<sz:=by rw[<- d a];exact(V'.1 e).1
 induction l generalizing i with
 | nil=>cases b
 | cons c l ih =>
  rw[pz];cases i with
  | zero =>
   simp only[oE,Z']at b;subst b;rw[nk (by rw[d];omega),Nat.mul_zero,nM];exact e
  | succ i =>
   rw[nr (by rw[d,Nat.mul_succ];omega),d,show sz*(i+1)+j-sz=sz*i+j by rw[Nat.mul_succ];omega];exact ih (by simpa using b)
theorem Q2{f:α->List Value}(b:∀ a,(f a).length=sz)(l:List α):(l.flatMap f).length=l.length*sz:=by
 induction l with
 | nil=>simp
 | cons c l ih=>rw[pz,G',b,ih,nK,qx];omega
theorem cR{l:List Cmd}(h:RdV w x 5 (cmL l)):x.n=l.length:=h.rc.len
def acV(l:List (Lac × S3)):List Value:=l.flatMap λp=>laV p.1 p.2.v
theorem It(l:List (Lac × S3))(x:Lac)(y:S3):acV (l++[(x,y)])=acV l++laV x y.v:=by simp[acV]
theorem KU(l:List (Lac × S3)):(acV l).length=l.length*5:=Q2 (f:=λp:Lac × S3=>laV p.1 p.2.v) (λ_=>rfl) l
theorem Uo(l:List (Lac × S3)):∀ u∈acV l,u.oneCell'=true:=by
 intro u b;obtain⟨p,_,a⟩:=pW.1 b;simp[laV]at a
 rcases a with rfl|rfl|rfl|rfl|rfl<;>rfl
def Dat(g:Gh)(w:World)(l:List (Lac × S3)):Prop:=∀ p∈l,FSl g w p.2 p.1.d
theorem Dat.ch(h:Dat g w l)(c:Cg B T g w g' w')(b:Tg.z∉T:=by simp):Dat g' w' l:=λp a=>(h p a).ch c b
theorem Dat.snoc(h:Dat g w l){x:Lac}{y:S3}(k:FSl g w y x.d):Dat g w (l++[(x,y)]):=λp a=>(P'.1 a).elim (h p) λe=>by rw[D'.1 e];exact k
theorem Dat.app{m:List (Lac × S3)}(h:Dat g w l)(k:Dat g w m):Dat g w (l++m):=λp a=>(P'.1 a).elim (h p) (k p)
def Fa.ac(x:S3)(l:List (Lac × S3)):Fa:=⟨none,λg w=>FzV g w x 5 (acV l)/\Dat g w l,λhz _ c h=>⟨h.1.ch c hz,h.2.ch c hz⟩⟩
def Fa.oa(r:Nat)(x:S3)(l:List (Lac × S3)):Fa:=⟨some r,λg w=>OwnS g w (.n 60 r) true 34 5 x (acV l)/\Dat g w l,λhz hr c h=>⟨h.1.ch c (hr r rfl) (by simp),h.2.ch c hz⟩⟩
def Fa.dt(l:List (Lac × S3)):Fa:=⟨none,λg w=>Dat g w l,λhz _ c h=>h.ch c hz⟩
structure AcR(w:World)(x:S3)(L:List Lac)(l:List (Lac × S3)):Prop where
 e:l.map (·.1)=L
 r:RdV w x 5 (acV l)
 d:∀ p∈l,Sl w p.2.v p.1.d
theorem AcR.of(h:(Fa.ac x l).p g w){L:List Lac}(e:l.map (·.1)=L):AcR w x L l:=⟨e,h.1.rd,λp a=>(h.2 p a).s⟩
theorem AcR.oo{r:Nat}(h:(Fa.oa r x l).p g w){L:List Lac}(e:l.map (·.1)=L):AcR w x L l:=⟨e,h.1.rv,λp a=>(h.2 p a).s⟩
theorem AcR.n(h:AcR w x L l):x.n=L.length:=by
 have:=h.r.len;rw[KU]at this
 rw[<- h.e,nA];omega
theorem AcR.sk(h:AcR w x L l)(q:L.length<=1000000):Sk w x.v (laF L) L.length:=by
 have o:=h.n;refine⟨⟨x.a,x.c,by rw[<- o],?_⟩,by omega⟩;rcases h.r.ex with h1|⟨b,off,h1,h2,h3⟩
 .exact .inl (by omega)
 .refine .inr ⟨b,off,h1,h2,λi k=>?_⟩;have g:i<l.length:=by rw[<- h.e,nA]at k;exact k
  refine⟨l[i].2.v,λj u m=>?_,?_⟩
  .rw[oh];refine h3 _ u (UB (f:=λp:Lac × S3=>laV p.1 p.2.v) (λ_=>rfl) l (E' g) ?_);have:laF L i=l[i].1:=by rw[Pq k];simp[<- h.e]
   rw[this]at m;exact m
  .have:laF L i=l[i].1:=by rw[Pq k];simp[<- h.e]
   rw[this];exact h.d _ (nJ g)
theorem AcR.spot(h:AcR w x L l){i:Nat}{a:Lac}(g:L[i]?=some a):∃ b off y,x.a=some ⟨b,off,none⟩/\w.rangeAt b (off+5*i) (laV a (S3.v y))/\Sl w y.v a.d/\i<x.n:=by
 have t:=h.n;have k:=(V'.1 g).1;have c:i<l.length:=by rw[<- h.e,nA]at k;exact k
 have e:l[i].1=a:=by
  have:=(V'.1 g).2;rw[<- this];simp[<- h.e]
 obtain⟨b,off,m,s,o⟩:=h.r.spot (i:=i) (by omega);refine⟨b,off,l[i].2,m,λj u q=>?_,?_,by omega⟩
 .refine o j u (UB (f:=λp:Lac × S3=>laV p.1 p.2.v) (λ_=>rfl) l (E' c) ?_);rw[e];exact q
 .rw[<- e];exact h.d _ (nJ c)
theorem X3(L:List Lac):Jt (laF L) L.length=L:=by
 apply pI
 .simp[Jt]
 .intro i h1 h2;simp[Jt,Pq h2]
def Meet.log(M:Meet)(j:Nat):List Cmd:=(M.ab j).ae.take (M.ab j).done
structure OutF(g:Gh)(w:World)(ly tv:S3)(ys:Nat->S3)(M:Meet):Prop where
 sH:FzV g w ly 1 [S3.v (ys 0),S3.v (ys 1),S3.v (ys 2),S3.v (ys 3),S3.v (ys 4)]
 log:∀ j,j<5->FzV g w (ys j) 5 (cmL (M.log j))
 ed:FzV g w tv 5 (M.ed.flatMap FY)
theorem OutF.ch(h:OutF g w ly tv ys M)(c:Cg B T g w g' w')(a:Tg.z∉T:=by simp):OutF g' w' ly tv ys M:=⟨h.sH.ch c a,λj b=>(h.log j b).ch c a,h.ed.ch c a⟩
def Fa.ot(ly tv:S3)(ys:Nat->S3)(M:Meet):Fa:=⟨none,λg w=>OutF g w ly tv ys M,λhz _ c h=>h.ch c hz⟩
theorem UW(h:OutW w M ly tv ys)(n:OutN B M ly tv ys)(G:∀ b,B<=b->g.t b=.z):OutF g w ly tv ys M :=
 ⟨⟨h.sH,λ_ a c=>G _ (n.sH a c)⟩,λj e=>⟨(h.log j e).rv,λd a c=>G _ (n.log j e d a c)⟩,⟨h.ed,λd a c=>G _ (n.ed d a c)⟩⟩
theorem OutW.n5(h:OutW w M ly tv ys):ly.n=5:=by have:=h.sH.len;simp at this;omega
def rnP(l:List Lac):List (Lac × S3):=l.map λa=>(a,s30)
theorem eO(l:List Lac):(rnP l).map (·.1)=l:=by simp[rnP,Function.comp_def]
theorem PB(g:Gh)(w:World){l:List Lac}(h:∀ a∈l,a.d=[]):Dat g w (rnP l):=by
 intro p c;obtain⟨a,b,rfl⟩:=nw.1 c;show FSl g w s30 a.d;rw[h a b];exact VW g w
theorem IW(l:List Lac)(a:Lac):rnP (l++[a])=rnP l++[(a,s30)]:=by simp[rnP]
theorem Vd(l m:List Lac):rnP (l++m)=rnP l++rnP m:=by simp[rnP]
theorem Le(l:List Lac):(rnP l).length=l.length:=by simp[rnP]
theorem Id(m:Nat):(Al m).length=6*m:=by
 induction m with
 | zero=>rfl
 | succ m ih=>rw[Al,G',ih];show _+6=_;omega
def AG(k:Int)(j:Nat):List Lac:=(List.range j).map λn:Nat=>acN k (n:Int)
theorem BS(k:Int)(j:Nat):AG k (j+1)=AG k j++[acN k (j:Int)]:=by simp[AG,List.range_succ]
theorem YZ(k:Int)(j:Nat):(AG k j).length=j:=by simp[AG]
theorem OC{many:Nat}(h:RdV w x 5 (acV l))(P:∀ p∈l,Sl w p.2.v p.1.d)(hm:l.length+6*many<=1000000) :
  Calls prog 20 #[x.v,iv (many:Int)] w λe w'=>∃ y:S3,e=.returned y.v/\OwN w.heap.size w' 34 5 y (acV (l++rnP (Dr many)))/\Bw w w':=by
 have t:x.n=l.length:=by have:=h.len;rw[KU]at this;omega
 refine tIn [Fa.ac x l] func20 ⟨⟨h.fz,λp R=>⟨P p R,λ_ _ _=>rfl⟩⟩,trivial⟩ (tR 7 [] λV _ _=>gw 1 0 x (acV l) 35 35 34 5 56 zLa (λF=>F.1.1.rd) [Fa.dt l] (λF=>⟨F.1.2,trivial⟩) rfl (by simp[TQ]) (Uo l) (by rw[t];unfold maxLen;omega) (by omega) λu _ _ n0=>tR 8 [] λW _ _=>Ek 39 [(1,iv (many:Int)),(5,S3.v u),(6,iv 0)] [] [] [Fa.oa 0 u (l++rnP (AG 9 0))] (λo g f a=>∃ (j:Nat) (y:S3),o=5-j/\g=[(1,iv (many:Int)),(5,S3.v y),(6,iv (j:Int))]/\f=[]/\a=[Fa.oa 0 y (l++rnP (AG 9 j))]/\j<=5/\y.n=l.length+j) (5) ⟨0,u,rfl,rfl,rfl,rfl,by omega,by omega⟩ (λF=>⟨by rw[show rnP (AG 9 0)=[]from rfl,nB];exact⟨F.1,F.2.1⟩,trivial⟩) ?_);rintro k _ _ _ ⟨j,y,rfl,rfl,rfl,rfl,Q,m⟩ _ _ _ J O;refine tR 6 [] λX _ _=>?_;by_cases h1:j<5
 .refine tI ((decide ((j:Int)<5))) true (O' (by omega)) (tR 8 [0,0] λq _ _=>R7 4 0 (x:=y) 35 35 34 5 56 zLa ⟨(q 0),0,none⟩ 1 1 [iv 9,iv (j:Int),iv 0,iv 0,sn] (λF=>F.1.1) [Fa.dt ((l++rnP (AG 9 j))++[(acN 9 (j:Int),s30)])] (λF=>⟨Dat.snoc F.1.2 (VW _ _),trivial⟩) rfl (by simp[TQ]) rfl (by simp[Value.oneCell']) (λF K=>Dz K 0 (q 0) [iv 9,iv (j:Int),iv 0,iv 0,sn] 34 .z true (by kernel_rfl)) (by unfold maxLen;omega) (by omega) λU _ _ n6=>tR 5 [] λY _ _=>tV 1 (iv ((j:Int)+1)) (λF C=>(AX 13 (j:Int) underlying3 (by omega))) (tR 2 [] λZ _ _=>tB O (5-(j+1)) (by omega) [false] ⟨j+1,U,rfl,rfl,rfl,rfl,by omega,by omega⟩ (λF=>by rw[BS,IW,<- mY];exact⟨⟨(by rw[It];exact F.1),F.2.1⟩,trivial⟩)))
 .refine tI ((decide ((j:Int)<5))) false (H' (by omega)) ?_;obtain rfl:j=5:=by omega
  refine tR 7 [] λa0 _ _=>Ek 39 [(1,iv (many:Int)),(5,S3.v y),(7,iv 0)] [] [] [Fa.oa 0 y (l++rnP (Az++Al 0))] (λo g f a=>∃ (i:Nat) (y:S3),o=many-i/\g=[(1,iv (many:Int)),(5,S3.v y),(7,iv (i:Int))]/\f=[]/\a=[Fa.oa 0 y (l++rnP (Az++Al i))]/\i<=many/\y.n=l.length+(5+6*i)) (many) ⟨0,y,rfl,rfl,rfl,rfl,by omega,by omega⟩ (λF=>⟨F.1,trivial⟩) ?_;rintro k _ _ _ ⟨i,y,rfl,rfl,rfl,rfl,hi,m⟩ _ _ _ Jb r;refine tR 7 [] λD _ _=>?_;by_cases h2:i<many
  .refine tI ((decide ((i:Int)<(many:Int)))) true (O' (by omega)) (tR 9 [] λE _ _=>Ek 39 [(1,iv (many:Int)),(5,S3.v y),(7,iv (i:Int)),(8,iv 0)] [] [] [Fa.oa 0 y (l++rnP (Az++Al i++AG 3 0))] (λo g f a=>∃ (j:Nat) (y:S3),o=5-j/\g=[(1,iv (many:Int)),(5,S3.v y),(7,iv (i:Int)),(8,iv (j:Int))]/\f=[]/\a=[Fa.oa 0 y (l++rnP (Az++Al i++AG 3 j))]/\j<=5/\y.n=l.length+(5+6*i+j)) (5) ⟨0,y,rfl,rfl,rfl,rfl,by omega,by omega⟩ (λF=>⟨by rw[show AG 3 0=[]from rfl,nB];exact F.1,trivial⟩) ?_);rintro k _ _ _ ⟨j,y,rfl,rfl,rfl,rfl,Q,m⟩ _ _ _ Jc s;refine tR 6 [] λG _ _=>?_;by_cases h3:j<5
   .refine tI ((decide ((j:Int)<5))) true (O' (by omega)) (tR 8 [0,0] λb _ _=>R7 4 0 (x:=y) 35 35 34 5 56 zLa ⟨(b 0),0,none⟩ 1 1 [iv 3,iv (j:Int),iv 0,iv 0,sn] (λF=>F.1.1) [Fa.dt ((l++rnP (Az++Al i++AG 3 j))++[(acN 3 (j:Int),s30)])] (λF=>⟨Dat.snoc F.1.2 (VW _ _),trivial⟩) rfl (by simp[TQ]) rfl (by simp[Value.oneCell']) (λF K=>Dz K 0 (b 0) [iv 3,iv (j:Int),iv 0,iv 0,sn] 34 .z true (by kernel_rfl)) (by unfold maxLen;omega) (by omega) λA _ _ S=>tR 5 [] λH _ _=>tV 1 (iv ((j:Int)+1)) (λF C=>(AX 27 (j:Int) underlying3 (by omega))) (tR 2 [] λI _ _=>tB s (5-(j+1)) (by omega) [false] ⟨j+1,A,rfl,rfl,rfl,rfl,by omega,by omega⟩ (λF=>by rw[BS,<- mY (Az++Al i),IW,<- mY l];exact⟨⟨(by rw[It];exact F.1),F.2.1⟩,trivial⟩)))
   .refine tI ((decide ((j:Int)<5))) false (H' (by omega)) ?_;obtain rfl:j=5:=by omega
    refine tR 5 [0,0] λc _ _=>R7 3 0 (x:=y) 35 35 34 5 56 zLa ⟨(c 0),0,none⟩ 1 1 [iv 7,iv 0,iv 0,iv 0,sn] (λF=>F.1.1) [Fa.dt ((l++rnP (Az++Al i++AG 3 5))++[(acN 7 0,s30)])] (λF=>⟨Dat.snoc F.1.2 (VW _ _),trivial⟩) rfl (by simp[TQ]) rfl (by simp[Value.oneCell']) (λF K=>Dz K 0 (c 0) [iv 7,iv 0,iv 0,iv 0,sn] 34 .z true (by kernel_rfl)) (by unfold maxLen;omega) (by omega) λB _ _ T=>tR 5 [] λL _ _=>tV 1 (iv ((i:Int)+1)) (λF C=>(AX 23 (i:Int) underlying3 (by omega))) (tR 2 [] λM _ _=>tB r (many-(i+1)) (by omega) [false] ⟨i+1,B,rfl,rfl,rfl,rfl,by omega,by omega⟩ (λF=>by rw[show Az++Al (i+1)=Az++Al i++AG 3 5++[acN 7 0]by rw[Al,<- mY,mY _ (AG 3 5)];rfl,IW,<- mY l];exact⟨⟨(by rw[It];exact F.1),F.2.1⟩,trivial⟩))
  .refine tI ((decide ((i:Int)<(many:Int)))) false (H' (by omega)) ?_;obtain rfl:i=many:=by omega
   refine tR 6 [] λN _ _=>tX λF C=>qE (S3.v y) λ_=>⟨y,rfl,F.1.1.own C,CgQ.af C⟩
theorem YY(k:Int)(j:Nat):∀ a∈AG k j,a.d=[]:=by
 intro a b;obtain⟨n,_,rfl⟩:=nw.1 b;rfl
theorem Y5(m:Nat):∀ a∈Al m,a.d=[]:=by
 induction m with
 | zero=>intro a b;cases b
 | succ m ih =>
  intro a b;rcases P'.1 b with h|h
  .exact ih a h
  .rcases P'.1 h with h|h
   .exact YY 3 5 a h
   .rw[D'.1 h];rfl
theorem aB(m:Nat):∀ a∈Dr m,a.d=[]:=by
 intro a b;rcases P'.1 b with h|h
 .exact YY 9 5 a h
 .exact Y5 m a h
theorem GD(m:Nat):(Dr m).length=5+6*m:=by unfold Dr;rw[G',Id];rfl
theorem mr(h:AcR w x L l)(g:x.a=some ⟨b,off,none⟩)(f:L[i]?=some a):w.cell? ⟨b,off+5*i,none⟩=some (iv a.k):=by
 obtain⟨j,d,y,c,e,_,_⟩:=h.spot f;rw[g]at c
 cases c;exact e 0 _ rfl
theorem Wu(h:L[i]?=some a):Fq (L.take (i+1))=if hvy a then Fq (L.take i)+20 else Fq (L.take i):=by
 unfold Fq;rw[oF,h,oY];cases hh:hvy a<;>simp[hh];omega
theorem UO(L:List Lac):Fq L<=100+20*L.length:=by
 unfold Fq;have:=pQ hvy L;omega
theorem YJ(m:Nat)(n:Int):(Cv m n).length=11+6*m:=by unfold Cv;rw[G',G',GD,GD,nN];omega
theorem TT{n:Int}(h:AcR w x L l)(hm:L.length<=2000) :
  Calls prog 8 #[x.v,iv n] w λe w'=>∃ y:S3,e=.returned y.v/\OwN w.heap.size w' 34 5 y (acV (l++rnP (DX L n)))/\Bw w w':=by
 have U:x.n=L.length:=h.n;have c4:l.length=L.length:=by rw[<- h.e,nA]
 refine tIn [Fa.ac x l] func8 ⟨⟨h.r.fz,λp hp=>⟨h.d p hp,λ_ _ _=>rfl⟩⟩,trivial⟩ (tR 14 [] λc6 _ _=>Ek 44 [(0,S3.v x),(1,iv n),(5,iv 100),(6,iv 0)] [] [] [Fa.ac x l] (λV D B f=>∃ (i m:Nat),V=L.length-i/\D=[(0,S3.v x),(1,iv n),(5,iv (m:Int)),(6,iv (i:Int))]/\B=[]/\f=[Fa.ac x l]/\i<=L.length/\m=Fq (L.take i)) (L.length) ⟨0,100,rfl,rfl,rfl,rfl,by omega,rfl⟩ (λF=>⟨F.1,trivial⟩) ?_);rintro k _ _ _ ⟨i,m,rfl,rfl,rfl,rfl,hi,g⟩ _ _ _ J o;refine tR 8 [] λc7 _ _=>?_;by_cases h1:i<L.length
 .refine tI ((decide ((i:Int)<(x.n:Int)))) true (O' (by omega)) ?_;have s:=UO (L.take i);rw[<- g,j']at s
  obtain⟨a,S⟩:∃ a,L[i]?=some a:=⟨_,E' (by omega)⟩;refine tF λF _=>?_;obtain⟨b,W,yd,I,_,_,hin⟩:=(AcR.of F.1 h.e).spot S;refine tR 7 [] λc8 _ _=>tV 2 (pt b (W+5*i)) (λF C=>(am (c:=x.c) I i hin)) (tR 1 [] λc9 _ _=>tV 4 (iv a.k) (λF C=>(Da underlying3 rfl (mr (AcR.of F.1 h.e) I S))) (tR 1 [] λd0 _ _=>Je 44 (λD B f=>∃ (N:Nat),D=[(0,S3.v x),(1,iv n),(5,iv (N:Int)),(6,iv (i:Int))]/\B=[]/\f=[Fa.ac x l]/\N=(if hvy a then m+20 else m)) (λJ o=>?_) ?_))
  .refine tR 7 [] λd1 _ _=>?_;by_cases A:a.k=1
   .refine tI ((a.k==1)) true (by simpa using A) (tR 1 [] λd2 _ _=>tI ((a.k==1)) true (by simpa using A) (tR 2 [] λd3 _ _=>tV 1 (iv ((m:Int)+20)) (λF C=>(JG (x:=(.tmp 25)) (y:=(.const (iv 20))) (m:Int) 20 underlying3 (by omega))) (tR 3 [] λd4 _ _=>tD o [] ⟨m+20,rfl,rfl,rfl,(if_pos (by simp[hvy,A])).symm⟩ (λF=>⟨F.1,trivial⟩))))
   .refine tI ((a.k==1)) false (by simpa using A) (tR 5 [] λa1 _ _=>?_);by_cases E:a.k=2
    .refine tI ((a.k==2)) true (by simpa using E) (tR 1 [] λa2 _ _=>tI ((a.k==2)) true (by simpa using E) (tR 2 [] λa3 _ _=>tV 1 (iv ((m:Int)+20)) (λF C=>(JG (x:=(.tmp 25)) (y:=(.const (iv 20))) (m:Int) 20 underlying3 (by omega))) (tR 3 [] λa4 _ _=>tD o [] ⟨m+20,rfl,rfl,rfl,(if_pos (by simp[hvy,E])).symm⟩ (λF=>⟨F.1,trivial⟩))))
    .refine tI ((a.k==2)) false (by simpa using E) (tR 5 [] λa5 _ _=>?_);by_cases G:a.k=6
     .refine tI ((a.k==6)) true (by simpa using G) (tR 1 [] λa6 _ _=>tI ((a.k==6)) true (by simpa using G) (tR 2 [] λa7 _ _=>tV 1 (iv ((m:Int)+20)) (λF C=>(JG (x:=(.tmp 25)) (y:=(.const (iv 20))) (m:Int) 20 underlying3 (by omega))) (tR 3 [] λa8 _ _=>tD o [] ⟨m+20,rfl,rfl,rfl,(if_pos (by simp[hvy,G])).symm⟩ (λF=>⟨F.1,trivial⟩))))
     .refine tI ((a.k==6)) false (by simpa using G) (tR 4 [] λa9 _ _=>?_);by_cases M:a.k=8
      .refine tI ((a.k==8)) true (by simpa using M) (tR 2 [] λb0 _ _=>tV 1 (iv ((m:Int)+20)) (λF C=>(JG (x:=(.tmp 25)) (y:=(.const (iv 20))) (m:Int) 20 underlying3 (by omega))) (tR 3 [] λb1 _ _=>tD o [] ⟨m+20,rfl,rfl,rfl,(if_pos (by simp[hvy,M])).symm⟩ (λF=>⟨F.1,trivial⟩)))
      .refine tI ((a.k==8)) false (by simpa using M) (tR 2 [] λb2 _ _=>tD o [] ⟨m,rfl,rfl,rfl,(if_neg (by simp[hvy,A,E,G,M])).symm⟩ (λF=>⟨F.1,trivial⟩))
  rintro _ _ _ ⟨N,rfl,rfl,rfl,T⟩ _ _ _;refine tR 3 [] λb3 _ _=>tV 1 (iv ((i:Int)+1)) (λF C=>(AX 13 (i:Int) underlying3 (by omega))) (tR 2 [] λb4 _ _=>tB o (L.length-(i+1)) (by omega) [] ⟨i+1,N,rfl,rfl,rfl,rfl,by omega,(by rw[T,Wu S,<- g])⟩ (λF=>⟨F.1,trivial⟩))
 .refine tI ((decide ((i:Int)<(x.n:Int)))) false (H' (by omega)) ?_;rw[show L.take i=L from nf (by omega)]at g
  have s:=UO L;rw[<- g]at s
  refine tR 4 [] λb5 _ _=>gw 1 0 x (acV l) 35 35 34 5 56 zLa (λF=>F.1.1.rd) [Fa.dt l] (λF=>⟨F.1.2,trivial⟩) rfl (by simp[TQ]) (Uo l) (by rw[U];unfold maxLen;omega) (by omega) λZ _ _ n0=>tR 8 [] λb6 _ _=>Ek 44 [(1,iv n),(5,iv (m:Int)),(7,S3.v Z),(8,iv 0)] [] [] [Fa.oa 0 Z (l++rnP [])] (λV D B f=>∃ (j:Nat) (y:S3) (Q:List Lac),V=2-j/\D=[(1,iv n),(5,iv (m:Int)),(7,S3.v y),(8,iv (j:Int))]/\B=[]/\f=[Fa.oa 0 y (l++rnP Q)]/\j<=2/\Q.length<=j*300000/\Q=(List.replicate j (Cv m n)).flatten) (2) ⟨0,Z,[],rfl,rfl,rfl,rfl,by omega,by simp,by simp⟩ (λF=>⟨by rw[show rnP []=[]from rfl,nB];exact⟨F.1,F.2.1⟩,trivial⟩) ?_;rintro k _ _ _ ⟨j,y,Q,rfl,rfl,rfl,rfl,hj,c3,hQ⟩ _ _ _ J o;refine tR 6 [] λb7 _ _=>?_;by_cases A:j<2
  .refine tI ((decide ((j:Int)<2))) true (O' (by omega)) (tR 6 [] λb8 _ _=>tG 1 [] 0 (λF C=>OC (many:=0) (AcR.oo F.1 rfl).r (AcR.oo F.1 rfl).d (by rw[G',Le];omega)) λNz=>?_);rintro _ _ ⟨X,rfl,H,O⟩;have t:X.n=((l++rnP Q)++rnP (Dr 0)).length:=by have:=H.len;rw[KU]at this;omega
   simp only[G',Le,GD]at t;refine⟨_,[Fa.oa 0 X ((l++rnP Q)++rnP (Dr 0))],_,_,_,_,rfl,O,H,λ_=>⟨λF R _=>⟨⟨R,Dat.app F.1.2 (PB _ _ (aB _))⟩,trivial⟩,?_⟩⟩;refine tR 8 [0,0] λq _ _=>R7 4 0 (x:=X) 35 35 34 5 56 zLa ⟨(q 0),0,none⟩ 1 1 [iv 2,iv n,iv 0,iv 0,sn] (λF=>F.1.1) [Fa.dt ((l++rnP Q++rnP (Dr 0))++[(acN 2 n,s30)])] (λF=>⟨Dat.snoc F.1.2 (VW _ _),trivial⟩) rfl (by simp[TQ]) rfl (by simp[Value.oneCell']) (λF K=>Dz K 0 (q 0) [iv 2,iv n,iv 0,iv 0,sn] 34 .z true (by kernel_rfl)) (by unfold maxLen;omega) (by omega) λa0 _ _ c5=>tCv [Fa.oa 0 a0 (l++rnP (Q++Dr 0++[acN 2 n]))] (λF=>by rw[IW,Vd,<- mY l,<- mY l];exact⟨⟨(by rw[It];exact F.1),F.2.1⟩,trivial⟩) (tR 5 [] λb9 _ _=>tG 2 [false] 0 (λF C=>OC (many:=m) (AcR.oo F.1 rfl).r (AcR.oo F.1 rfl).d (by rw[G',Le,G',G',GD,nN];omega)) λNz=>?_);rintro _ _ ⟨Y,rfl,H,P⟩;have u:Y.n=((l++rnP (Q++Dr 0++[acN 2 n]))++rnP (Dr m)).length:=by have:=H.len;rw[KU]at this;omega
   simp only[G',Le,GD,nN]at u;refine⟨_,[Fa.oa 0 Y ((l++rnP (Q++Dr 0++[acN 2 n]))++rnP (Dr m))],_,_,_,_,rfl,P,H,λ_=>⟨λF R _=>⟨⟨R,Dat.app F.1.2 (PB _ _ (aB _))⟩,trivial⟩,?_⟩⟩;refine tR 5 [] λc0 _ _=>tV 1 (iv ((j:Int)+1)) (λF C=>(AX 31 (j:Int) underlying3 (by omega))) (tR 2 [] λc1 _ _=>?_);exact tB o (2-(j+1)) (by omega) [] ⟨j+1,Y,Q++Cv m n,rfl,rfl,rfl,rfl,by omega,(by rw[G',YJ];omega),(by rw[hQ];rcases(show j=0\/j=1 by omega)with rfl|rfl<;>simp)⟩ (λF=>by rw[show Q++Cv m n=Q++Dr 0++[acN 2 n]++Dr m by simp[Cv,List.append_assoc],Vd _ (Dr m),<- mY l];exact F)
  .refine tI ((decide ((j:Int)<2))) false (H' (by omega)) ?_;obtain rfl:j=2:=by omega
   refine tR 6 [] λc2 _ _=>?_;have hS:Q=DX L n:=by rw[hQ,g];simp[DX]
   rw[<- hS];exact tX λF C=>qE (S3.v y) λ_=>⟨y,rfl,F.1.1.own C,CgQ.af C⟩
theorem UX(h:OutF g w ly tv ys M):OutW w M ly tv ys:=⟨h.sH.rd,λj a=>(h.log j a).rd.rc,h.ed.rd⟩
theorem jt(h:Sk w x.v (laF L) L.length)(m:∀ a∈L,LacOk a)(l:L.length<=100000)(b:V6 w){M:Meet}(j:Ao.dc L=M) :
  Calls prog 19 #[x.v] w λe w'=>∃ (ly tv:S3) (ys:Nat->S3),e=.returned (.tuple #[.agg (KL M ly tv),iv 0])/\OutW w' M ly tv ys/\OutN w.heap.size M ly tv ys/\Bw w w':=by
 subst j;refine(eX h (λi c=>by rw[Pq c];exact m _ (nJ c)) l b.1 b.2.1 b.2.2).mono ?_;rw[X3];rintro e w' ⟨k,ly,tv,ys,d,f,g⟩;exact⟨ly,tv,ys,d,f,g,k⟩
theorem jn(h:Sk w x.v (laF L) L.length)(y:∀ a∈L,LacOk a)(t:L.length<=100000)(s:V6 w){M:Meet}(r:Ao.dc L=M) :
  Calls prog 7 #[x.v] w λe w'=>∃ (ly tv:S3) (ys:Nat->S3),e=.returned (.tuple #[.agg (KL M ly tv),.bool true])/\OutW w' M ly tv ys/\OutN w.heap.size M ly tv ys/\Bw w w':=by
 refine tIn [] func7 trivial (tR 8 [1,0] λb _ _=>tF λ_ k=>?_);have d:=k.size;refine tC 1 (λF C=>jt (h.af (CgQ.af C)) y t (tb5 s C) r) λo=>?_;rintro _ _ ⟨ly,tv,ys,rfl,j,i,p⟩;refine⟨_,Fa.ot ly tv ys M::_,rfl,p,λF=>⟨UW j i o,F⟩,?_⟩;refine tR 14 [0,0,1,0,9,0,1,2,4,6,8] λf _ _=>Je 20 (λq m c=>∃ (_:Unit),q=[(2,pt (b 0) 0),(3,.bool ((ly.n:Int)==5))]/\m=[⟨(b 0),.cells (KL M ly tv) 41,.l,false⟩,⟨(f 0),.cells (KL M ly tv) 41,.z,false⟩]/\c=[Fa.ot ly tv ys M]) (λJ g=>?_) ?_
 .refine Hr 5 9 ?_ ?_
  .refine tR 7 [1,12,14,16,19,0,0,20] λA _ _=>tD g [true,true] ⟨(),rfl,rfl,rfl⟩ (λF=>⟨F.1,trivial⟩)
  .refine tR 7 [0,0,11,1,12,14,16,20] λB _ _=>tD g [true,true] ⟨(),rfl,rfl,rfl⟩ (λF=>⟨F.1,trivial⟩)
 rintro _ _ _ ⟨_,rfl,rfl,rfl⟩ _ _ _;have u:(((ly.n:Nat):Int)==5)=true:=by rw[j.n5];rfl
 exact tX λF C=>qE2 2 3 41 0 (b 0) (KL M ly tv) (.bool ((ly.n:Int)==5)) λ_=>⟨ly,tv,ys,by rw[u],UX F.1,i.mono d,CgQ.af C⟩
theorem jm(h:AcR w x L l)(f:∀ a∈L,LacOk a)(d:L.length<=100000)(c:V6 w){M:Meet}(b:Ao.dc L=M) :
  Calls prog 7 #[x.v] w λe w'=>∃ (ly tv:S3) (ys:Nat->S3),e=.returned (.tuple #[.agg (KL M ly tv),.bool true])/\OutW w' M ly tv ys/\OutN w.heap.size M ly tv ys/\Bw w w':=jn (h.sk (by omega)) f d c b
def lgN(M:Meet):Nat->Option Nat
 | 0=>none
 | n+1=>if(((lgN M n).map M.log).getD []).length<(M.log n).length then some n else lgN M n
def lgY(ys:Nat->S3)(o:Option Nat):S3:=(o.map ys).getD s30
theorem Zl{n:Nat}(h:lgN M n=some j):j<n:=by
 induction n with
 | zero=>cases h
 | succ n ih =>
  rw[lgN]at h
  split at h
  .cases h;omega
  .have:=ih h;omega
theorem Zm(h:OutF g w ly tv ys M){n:Nat}(a:n<=5):FzV g w (lgY ys (lgN M n)) 5 (cmL (((lgN M n).map M.log).getD [])):=by
 cases hh:lgN M n with
 | none=>exact⟨⟨rfl,A' _,λ_=>rfl,.inl rfl⟩,λe=>absurd rfl e⟩
 | some j=>exact h.log j (X' (Zl hh) a)
theorem gn(c:x.a=some ⟨b,off,none⟩)(j:Nat)(d:j<x.n):(Instr.indexAt 37 x.v (iv (j:Int))).run prog W=.ok (pt b (off+j)) W:=by
 obtain⟨f,h,g⟩:=x;simp only at c d;subst c;exact P6 (P:=prog) (e:=45) (z:=1) underlying37 (by kernel_rfl) (by kernel_rfl) d _ (by rw[r9])
theorem UM(h:RdV w ly 1 [S3.v (ys 0),S3.v (ys 1),S3.v (ys 2),S3.v (ys 3),S3.v (ys 4)])(c:ly.a=some ⟨b,off,none⟩)(d:j<5):w.cell? ⟨b,off+j,none⟩=some (S3.v (ys j)):=by
 rcases h.ex with h1|⟨b',off',h1,h2,h3⟩
 .have:=h.len;simp at this;omega
 .rw[c]at h1;cases h1
  refine h3 j _ ?_;rcases se d with rfl|rfl|rfl|rfl|rfl<;>rfl
theorem mc{l:List Tol}(h:RdV w x 5 (l.flatMap FY)):x.n=l.length:=by
 have:=h.len;rw[Q2 (f:=FY) (sz:=5) (λ_=>rfl)]at this
 omega
theorem Te(h:OutW w M ly tv ys) :
  Calls prog 9 #[.agg (KL M ly tv)] w λe w'=>e=.returned (S3.v (lgY ys (lgN M 5)))/\Bw w w':=by
 have L:=h.n5;refine tIn [Fa.ot ly tv ys M] func9 ⟨⟨h.sH.fz,λj t=>(h.log j t).rv.fz,h.ed.fz⟩,trivial⟩ (tR 15 [0,0] λc _ _=>Ek 27 [(1,pt (c 0) 0),(3,sn),(4,iv 0)] [true] [⟨(c 0),.cells #[iv (M.br.length:Int),.bool (M.ab 0).up,.bool (M.ab 1).up,.bool (M.ab 2).up,.bool (M.ab 3).up,.bool (M.ab 4).up,S3.v ly,iv ((M.ab 0).bad:Int),iv ((M.ab 1).bad:Int),iv ((M.ab 2).bad:Int),iv ((M.ab 3).bad:Int),iv ((M.ab 4).bad:Int),S3.v tv] 41,.z,false⟩] [Fa.ot ly tv ys M] (λu q p f=>∃ (i:Nat),u=5-i/\q=[(1,pt (c 0) 0),(3,S3.v (lgY ys (lgN M i))),(4,iv (i:Int))]/\p=[⟨(c 0),.cells (KL M ly tv) 41,.z,false⟩]/\f=[Fa.ot ly tv ys M]/\i<=5) (5) ⟨0,rfl,rfl,rfl,rfl,by omega⟩ (λF=>F) ?_);rintro k _ _ _ ⟨i,rfl,rfl,rfl,rfl,K⟩ _ _ _ J g;refine tR 9 [0] λx _ _=>?_;by_cases H:i<5
 .refine tI ((decide ((i:Int)<(ly.n:Int)))) true (O' (by omega)) (tF λF _=>?_);obtain⟨b,d,a,_⟩:=F.1.sH.rd.spot (i:=i) (by omega);have r:=cR (F.1.log i (by omega)).rd;have s:=cR (Zm F.1 (n:=i) (by omega)).rd;refine tR 8 [0] λy _ _=>tV 3 (pt b (d+i)) (λF C=>(gn a i (by omega))) (tV 4 (S3.v (ys i)) (λF C=>(Da underlying45 rfl (UM F.1.sH.rd a (by omega)))) (tR 5 [] λA _ _=>?_));by_cases I:(((lgN M i).map M.log).getD []).length<(M.log i).length
  .refine tI ((decide (((lgY ys (lgN M i)).n:Int)<((ys i).n:Int)))) true (O' (by omega)) (tR 4 [0] λD _ _=>tV 3 (pt b (d+i)) (λF C=>(gn a i (by omega))) (tV 4 (S3.v (ys i)) (λF C=>(Da underlying45 rfl (UM F.1.sH.rd a (by omega)))) (tR 5 [] λE _ _=>tV 1 (iv ((i:Int)+1)) (λF C=>(AX 10 (i:Int) underlying3 (by omega))) (tR 2 [] λG _ _=>tB g (5-(i+1)) (by omega) [true] ⟨i+1,rfl,(by rw[show lgN M (i+1)=some i from if_pos (by omega)]),rfl,rfl,by omega⟩ (λF=>F)))))
  .refine tI ((decide (((lgY ys (lgN M i)).n:Int)<((ys i).n:Int)))) false (H' (by omega)) (tR 4 [] λl _ _=>tV 1 (iv ((i:Int)+1)) (λF C=>(AX 10 (i:Int) underlying3 (by omega))) (tR 2 [] λm _ _=>tB g (5-(i+1)) (by omega) [true] ⟨i+1,rfl,(by rw[show lgN M (i+1)=lgN M i from if_neg (by omega)]),rfl,rfl,by omega⟩ (λF=>F)))
 .refine tI ((decide ((i:Int)<(ly.n:Int)))) false (H' (by omega)) (tR 6 [] λo _ _=>?_);obtain rfl:i=5:=by omega
  exact tE (S3.v (lgY ys (lgN M 5))) λ_ B=>⟨rfl,B⟩
theorem eU{L:List Sh}(h:AR L W)(k b:Nat)(news:List Value)(e:TypeId)(t:Tg)(v:Bool)(d:L[k]?=some ⟨b,.cells news.toArray e,t,v⟩){j:Nat}{u:Value}(c:news[j]?=some u):W.cell? ⟨b,j,none⟩=some u:=by
 have a:W.heap[b]?=some (.cells news.toArray e):=h _ (np d);rw[cell_of_row _ _ _ _ _ _ a];simpa using c
end
end
end Go.Proofs.YthkjeoamjgnpoaaGreatDoor
