/- Part 14 of the walk. -/
import Derived.Test.YtdjfdfpkkenjbacGreatDoorZ13
set_option maxRecDepth 100000
set_option maxHeartbeats 4000000
open Go.Proofs.Tryz
set_option linter.unusedVariables false
namespace Go.Proofs.YtdjfdfpkkenjbacGreatDoor
open Go.RowKit
section
theorem QT(p:Nod)(b:Bal):(p.an b).1.ae=p.ae:=by
 unfold Nod.an;repeat' split
 all_goals rfl
variable{B C b i j mb n ob sz tb:Nat}{F:Nat->Lac}{M:Meet}{W w w' w0:World}{e:TypeId}{g g':Gh}{k:Int}{ly tv y:S3}{nb:Nat->Nat}{vs xs:List Value}{x:Lac}{ys:Nat->S3}
theorem YK{nb:Nat}{p:Nod}{U:List Let}{V:List Tol}(h:NS i nb ob g w p U V){w0:World}(hB:Base w0 g w)(hT:Tabs w0)(hb:p.br.length<100000000)(hr:p.cF<1000000000000)(b3:-1000000000000<p.cF)(hv:p.vo.p.r<1000000000000) :
  Calls prog 49 #[pt nb 0] w (NP i nb ob g w (.tuple #[]) (if p.up then p.lead i else p) U V):=by
 obtain⟨x,lt,tl,Z,hO,hg⟩:=h;refine gI (fn:=f49) (TN i) g func49 hg (qN Z (qO hO (qR [] 13 [0,0,2,0] λm g1 w1 I=>?_)));by_cases T:p.up=true
 .refine qI ((!p.up)) false (by simpa using T) ?_;rw[if_pos T];refine qR [] 15 [21,0,2,2,4,6,8,0,10,2,12,14,16,18,20,22,0] λs2 g2 w2 R=>qT 12 (iv (max p.cF p.vo.p.r)) (λ_=>(km #[3,3] 3 p.cF p.vo.p.r)) (qT 13 (iv ((max p.cF p.vo.p.r)+1)) (λ_=>(Bj 23 (max p.cF p.vo.p.r) underlying3 (by omega))) (qR [] 12 [28,2,30,32,34,0,36,39,0,0,41,3,0,2,3] λo g4 w4 S=>Af λK=>?_));have N5:NS i nb ob g4 w4 p U V:=(nsC Z hO ((I.n R).n S) K);refine qG 2 (TN i) [false,false,true,true] (FI N5 (hB.ch (((I.nil (TN i)).n R).n S) (Bx i)) hT (⟨(max p.cF p.vo.p.r)+1,(i:Int)⟩:Bal)) ?_;rintro e' w5 ⟨u,g5,rfl,a0,M5,L⟩;refine⟨_,g5,rfl,L,M5.new,?_⟩;replace L:=L.ret (B:=w.heap.size);obtain⟨c,e,j,a,H,b2⟩:=M5;refine qN a (qO H (qR [] 13 [0,0,4,0] λq g7 w7 M=>?_));by_cases N:(p.an (⟨(max p.cF p.vo.p.r)+1,(i:Int)⟩:Bal)).2.2≠0
  .refine qI (((p.an (⟨(max p.cF p.vo.p.r)+1,(i:Int)⟩:Bal)).2.2 != 0)) true (by simpa using N) (qE (.tuple #[]) λK=>?_);rw[show p.lead i=(p.an (⟨(max p.cF p.vo.p.r)+1,(i:Int)⟩:Bal)).1 from by rw[LV N];exact if_pos N];exact⟨_,rfl,(nsC a H M K),(((((I.nil (TN i)).n R).n S).trans (L)).n M)⟩
  .refine qI (((p.an (⟨(max p.cF p.vo.p.r)+1,(i:Int)⟩:Bal)).2.2 != 0)) false (by simpa using N) (qR [.n 0 i] 17 [0,1,2,1] λb4 a4 c6 y=>fB 5 64 [(1,pt (m 0) 0),(2,pt (o 0) 0),(3,pt (q 0) 0),(44,iv 0)] [true,true,true,true,true] [⟨(m 0),.cells #[pt nb 0] 99,.z,false⟩,⟨(o 0),.cells #[iv ((max p.cF p.vo.p.r)+1),iv (i:Int)] 104,.z,false⟩,⟨nb,.cells (AF i ob ({ (p.an (⟨(max p.cF p.vo.p.r)+1,(i:Int)⟩:Bal)).1 with av:=⟨(⟨(max p.cF p.vo.p.r)+1,(i:Int)⟩:Bal),λ_=>false,λ_=>El,λk=>if k<0 then c.ae.n else 0,0,[]⟩ }) ({ c with hv:=λ_=>s30,fa:=s30 })) 123,.n 0 i,false⟩,⟨ob,.cells #[S3.v e,S3.v j] 96,.n 50 0,false⟩,⟨(q 0),.cells #[S3.v u] 105,.z,false⟩] (by kernel_rfl) (by kernel_rfl) (by kernel_rfl) (by kernel_rfl) λs b z=>qR [.n 0 i] 35 [13,0,0,2,4,0,6,8,10,12,2,14,16,18,20,22,24,27,2,1] λb5 a5 c8 A=>EO (s 5) 64 [(1,pt (m 0) 0),(2,pt (o 0) 0),(3,pt (q 0) 0),(44,iv 1)] [true,true,true,true,true] [⟨(m 0),.cells #[pt nb 0] 99,.z,false⟩,⟨(o 0),.cells #[iv ((max p.cF p.vo.p.r)+1),iv (i:Int)] 104,.z,false⟩,⟨nb,.cells (AF i ob ({ (p.an (⟨(max p.cF p.vo.p.r)+1,(i:Int)⟩:Bal)).1 with av:=⟨(⟨(max p.cF p.vo.p.r)+1,(i:Int)⟩:Bal),λ_=>false,λ_=>El,λk=>if k<1 then c.ae.n else 0,0,[]⟩ }) ({ c with hv:=λ_=>s30,fa:=s30 })) 123,.n 0 i,false⟩,⟨ob,.cells #[S3.v e,S3.v j] 96,.n 50 0,false⟩,⟨(q 0),.cells #[S3.v u] 105,.z,false⟩] (by kernel_rfl) (by kernel_rfl) (by kernel_rfl) (by kernel_rfl) (by kernel_rfl) λz Q K=>b 4 _ _ _ _ _ ?_ K);refine qR [.n 0 i] 35 [13,0,0,2,4,0,6,8,10,12,2,14,16,18,20,22,24,27,2,1] λb6 a6 c9 C=>EO (s 4) 64 [(1,pt (m 0) 0),(2,pt (o 0) 0),(3,pt (q 0) 0),(44,iv 2)] [true,true,true,true,true] [⟨(m 0),.cells #[pt nb 0] 99,.z,false⟩,⟨(o 0),.cells #[iv ((max p.cF p.vo.p.r)+1),iv (i:Int)] 104,.z,false⟩,⟨nb,.cells (AF i ob ({ (p.an (⟨(max p.cF p.vo.p.r)+1,(i:Int)⟩:Bal)).1 with av:=⟨(⟨(max p.cF p.vo.p.r)+1,(i:Int)⟩:Bal),λ_=>false,λ_=>El,λk=>if k<2 then c.ae.n else 0,0,[]⟩ }) ({ c with hv:=λ_=>s30,fa:=s30 })) 123,.n 0 i,false⟩,⟨ob,.cells #[S3.v e,S3.v j] 96,.n 50 0,false⟩,⟨(q 0),.cells #[S3.v u] 105,.z,false⟩] (by kernel_rfl) (by kernel_rfl) (by kernel_rfl) (by kernel_rfl) (by kernel_rfl) λz Q K=>b 3 _ _ _ _ _ ?_ K;refine qR [.n 0 i] 35 [13,0,0,2,4,0,6,8,10,12,2,14,16,18,20,22,24,27,2,1] λb7 a7 d0 D=>EO (s 3) 64 [(1,pt (m 0) 0),(2,pt (o 0) 0),(3,pt (q 0) 0),(44,iv 3)] [true,true,true,true,true] [⟨(m 0),.cells #[pt nb 0] 99,.z,false⟩,⟨(o 0),.cells #[iv ((max p.cF p.vo.p.r)+1),iv (i:Int)] 104,.z,false⟩,⟨nb,.cells (AF i ob ({ (p.an (⟨(max p.cF p.vo.p.r)+1,(i:Int)⟩:Bal)).1 with av:=⟨(⟨(max p.cF p.vo.p.r)+1,(i:Int)⟩:Bal),λ_=>false,λ_=>El,λk=>if k<3 then c.ae.n else 0,0,[]⟩ }) ({ c with hv:=λ_=>s30,fa:=s30 })) 123,.n 0 i,false⟩,⟨ob,.cells #[S3.v e,S3.v j] 96,.n 50 0,false⟩,⟨(q 0),.cells #[S3.v u] 105,.z,false⟩] (by kernel_rfl) (by kernel_rfl) (by kernel_rfl) (by kernel_rfl) (by kernel_rfl) λz Q K=>b 2 _ _ _ _ _ ?_ K;refine qR [.n 0 i] 35 [13,0,0,2,4,0,6,8,10,12,2,14,16,18,20,22,24,27,2,1] λb8 a8 d1 E=>EO (s 2) 64 [(1,pt (m 0) 0),(2,pt (o 0) 0),(3,pt (q 0) 0),(44,iv 4)] [true,true,true,true,true] [⟨(m 0),.cells #[pt nb 0] 99,.z,false⟩,⟨(o 0),.cells #[iv ((max p.cF p.vo.p.r)+1),iv (i:Int)] 104,.z,false⟩,⟨nb,.cells (AF i ob ({ (p.an (⟨(max p.cF p.vo.p.r)+1,(i:Int)⟩:Bal)).1 with av:=⟨(⟨(max p.cF p.vo.p.r)+1,(i:Int)⟩:Bal),λ_=>false,λ_=>El,λk=>if k<4 then c.ae.n else 0,0,[]⟩ }) ({ c with hv:=λ_=>s30,fa:=s30 })) 123,.n 0 i,false⟩,⟨ob,.cells #[S3.v e,S3.v j] 96,.n 50 0,false⟩,⟨(q 0),.cells #[S3.v u] 105,.z,false⟩] (by kernel_rfl) (by kernel_rfl) (by kernel_rfl) (by kernel_rfl) (by kernel_rfl) λz Q K=>b 1 _ _ _ _ _ ?_ K;refine qR [.n 0 i] 35 [13,0,0,2,4,0,6,8,10,12,2,14,16,18,20,22,24,27,2,1] λb9 a9 d2 F=>EO (s 1) 64 [(1,pt (m 0) 0),(2,pt (o 0) 0),(3,pt (q 0) 0),(44,iv 5)] [true,true,true,true,true] [⟨(m 0),.cells #[pt nb 0] 99,.z,false⟩,⟨(o 0),.cells #[iv ((max p.cF p.vo.p.r)+1),iv (i:Int)] 104,.z,false⟩,⟨nb,.cells (AF i ob ({ (p.an (⟨(max p.cF p.vo.p.r)+1,(i:Int)⟩:Bal)).1 with av:=⟨(⟨(max p.cF p.vo.p.r)+1,(i:Int)⟩:Bal),λ_=>false,λ_=>El,λk=>if k<5 then c.ae.n else 0,0,[]⟩ }) ({ c with hv:=λ_=>s30,fa:=s30 })) 123,.n 0 i,false⟩,⟨ob,.cells #[S3.v e,S3.v j] 96,.n 50 0,false⟩,⟨(q 0),.cells #[S3.v u] 105,.z,false⟩] (by kernel_rfl) (by kernel_rfl) (by kernel_rfl) (by kernel_rfl) (by kernel_rfl) λz Q K=>b 0 _ _ _ _ _ ?_ K;refine qR [] 10 [0] λc0 Y a1 G=>?_;have hn:c.ae.n=p.ae.length:=by have:=a.ae.num;rw[QT]at this;exact this
   rw[show p.lead i=Nod.wait { (p.an (⟨(max p.cF p.vo.p.r)+1,(i:Int)⟩:Bal)).1 with av:=⟨(⟨(max p.cF p.vo.p.r)+1,(i:Int)⟩:Bal),λ_=>false,λ_=>El,λ_=>c.ae.n,0,[]⟩ } (.began (⟨(max p.cF p.vo.p.r)+1,(i:Int)⟩:Bal) (p.an (⟨(max p.cF p.vo.p.r)+1,(i:Int)⟩:Bal)).2.1)from by rw[hn];exact if_neg N];refine Af λK=>?_;obtain⟨z1,z2⟩:=K.rk 0 (m 0) (.cells #[pt nb 0] 99) false (by kernel_rfl);obtain⟨z3,z4⟩:=K.rk 1 (o 0) (.cells #[iv (⟨(max p.cF p.vo.p.r)+1,(i:Int)⟩:Bal).r,iv (⟨(max p.cF p.vo.p.r)+1,(i:Int)⟩:Bal).n] 104) false (by kernel_rfl);obtain⟨z5,z6⟩:=K.rk 4 (q 0) (.cells #[S3.v u] 105) false (by kernel_rfl);have d:=(((((((M.nil ([.n 0 i]:List Tg)).trans (y)).trans (A)).trans (C)).trans (D)).trans (E)).trans (F)).n G;have t:Tg.z∉([.n 0 i]:List Tg):=by simp
   have W:NS i nb ob Y a1 ({ (p.an (⟨(max p.cF p.vo.p.r)+1,(i:Int)⟩:Bal)).1 with av:=⟨(⟨(max p.cF p.vo.p.r)+1,(i:Int)⟩:Bal),λ_=>false,λ_=>El,λ_=>c.ae.n,0,[]⟩ }) U V:=⟨{ c with hv:=λ_=>s30,fa:=s30 },e,j,K.nd 2 (a.tape.ch d t) (a.ic.ch d t) (λ_ _=>⟨Sv.nil _,λh=>absurd rfl h⟩) (Ci a.br d t (by simp)) (OwnS.nil _ _ _ _ _ _) (a.ae.ch d) (a.au.ch d) (a.bw.ch d) a.rF,H.ch d t (by simp<;>omega),K.new⟩;refine qS0 2 [true,true,false,false,true] (AU W (by show(p.an (⟨(max p.cF p.vo.p.r)+1,(i:Int)⟩:Bal)).1.br.length<_;rw[FP];exact hb) _ _ (.began (⟨(max p.cF p.vo.p.r)+1,(i:Int)⟩:Bal) (p.an (⟨(max p.cF p.vo.p.r)+1,(i:Int)⟩:Bal)).2.1) ⟨(m 0),(o 0),(q 0),u,rfl,⟨z1,z2⟩,⟨z3,z4⟩,⟨z5,z6⟩,((((((((a0.ch M).ch y).ch A).ch C).ch D).ch E).ch F).ch G)⟩) λb0 d3 d5 a2 a3 O P X=>qR [] 1 [] λc3 b1 d4 J=>qF O P J ((((((((((((((I.nil (TN i)).n R).n S).trans (L)).n M).trans (y.mono (by simp[TN]))).trans (A.mono (by simp[TN]))).trans (C.mono (by simp[TN]))).trans (D.mono (by simp[TN]))).trans (E.mono (by simp[TN]))).trans (F.mono (by simp[TN]))).n G).trans (X)).n J)
 .refine qI ((!p.up)) true (by simpa using T) (qE (.tuple #[]) λK=>?_);rw[if_neg T];exact⟨_,rfl,(nsC Z hO I K),(I.nil (TN i))⟩
theorem lJ(h:1<=k/\k<=9):k=1\/k=2\/k=3\/k=4\/k=5\/k=6\/k=7\/k=8\/k=9:=by omega
theorem gE(h:MS mb tb ob nb g w M){w0:World}(C:Base w0 g w)(D:Tabs w0)(x:Lac)(dv:S3)(hd:Sl w dv.v x.d)(E:LacOk x){n:Nat}(y:MOk n M)(hn:n<=1000000) :
  Calls prog 30 #[pt mb 0,.agg #[iv x.k,iv x.n,iv x.a,iv x.p,dv.v]] w (MP mb tb ob nb g w (.tuple #[]) (M.act x)):=by
 obtain⟨j,a8,e⟩:∃ j:Nat,x.n=(j:Int)/\j<5:=by
  cases hu:Gf x.k with
  | true=>have:=E.n hu;exact⟨x.n.toNat,by omega,by omega⟩
  | false=>have:=E.n0 hu;exact⟨0,by omega,by omega⟩
 obtain⟨at_,a7,i⟩:∃ at_:Nat,x.a=(at_:Int)/\at_<=1048576:=by
  cases hu:In x.k with
  | true=>have:=E.a hu;exact⟨x.a.toNat,by omega,by omega⟩
  | false=>have:=E.a0 hu;exact⟨0,by omega,by omega⟩
 have d6:0<=x.p/\x.p<=100000:=by
  cases hu:Io x.k with
  | true=>exact E.p hu
  | false=>have:=E.p0 hu;omega
 have a9:=E.k;obtain⟨k,xn,xa,p,d⟩:=x;simp only at a8 a7 d6 a9 hd ⊢;subst a8 a7;clear E;have hp:=y.ab j e;have h7:=y.wt;have h6:=y.eb;have h4:=Ex (M.ab j).br;have h5:=QY M e;have h8:=kW M e;have h3:=y.bad j e;refine gI (fn:=f30) TM g func30 h.new (Cr ⟨mb,_,.z,false⟩ (λ_=>⟨h.box.r,h.box.z,λh=>(by cases h),λh=>absurd rfl h⟩) (by kernel_rfl) ?_);refine qR [] 11 [0,0,8,0,2,4,1,6,8] λj3 g1 w1 b=>?_;refine Qw 5 (pt mb j) false (λW hW=>(by rcases qk e with rfl|rfl|rfl|rfl|rfl<;>kernel_rfl)) (by kernel_rfl) ?_;refine qU 6 (pt (nb j) 0) (λW hW=>(BT underlying99 rfl (UA (AZ.at (hW rfl) 0 mb (.cells (mtA nb ob tb) 102) .z (by kernel_rfl)) e))) (qR [] 13 [14,1] λj4 g3 w3 c=>?_);rcases lJ a9 with rfl|rfl|rfl|rfl|rfl|rfl|rfl|rfl|rfl
 .refine qR [] 5 [1] λj5 g4 w4 c4=>?_;rw[show M.act ⟨1,(j:Int),(at_:Int),p,d⟩=(M.set j ((M.ab j).qK j d M.eb).1 M.bm ((M.ab j).qK j d M.eb).2)from rfl];refine Af λK=>?_;have N5:MS mb tb ob nb g4 w4 M:=(h.qM ((b.trans c).trans c4) K.new);refine qG 3 TM [true,true] ((N5).call e (WI ((N5).ns e) (C.ch (((b.nil TM).n c).n c4) F1) D dv d (hd.af (Cg.af ((b.trans c).trans c4) (λ_ _=>O'))) hp (by omega) (by omega) (by omega) rfl rfl)) ?_;rintro A w5 ⟨g5,rfl,M5,c5⟩;refine⟨_,g5,rfl,c5,M5.new,?_⟩;replace c5:=c5.ret (B:=w.heap.size);refine qR [] 2 [] λj6 g6 w6 c6=>qE (.tuple #[]) λK=>⟨_,rfl,(M5.qM c6 K.new),(((((b.nil TM).n c).n c4).trans (c5)).n c6)⟩
 .refine qR [] 9 [] λj7 g7 w7 c7=>?_;rw[show M.act ⟨2,(j:Int),(at_:Int),p,d⟩=(M.set j (if(M.ab j).up then(M.ab j).lead j else(M.ab j)) M.bm M.eb)from rfl];refine Af λK=>?_;have N8:MS mb tb ob nb g7 w7 M:=(h.qM ((b.trans c).trans c7) K.new);refine qG 1 TM [true,true] ((N8).call e (YK ((N8).ns e) (C.ch (((b.nil TM).n c).n c7) F1) D (by omega) (by have:=hp.ro;omega) (by have:=hp.ro;omega) (by have:=hp.vp.sT;omega))) ?_;rintro A w8 ⟨g8,rfl,M8,c8⟩;refine⟨_,g8,rfl,c8,M8.new,?_⟩;replace c8:=c8.ret (B:=w.heap.size);refine qR [] 2 [] λj8 g9 w9 c9=>qE (.tuple #[]) λK=>⟨_,rfl,(M8.qM c9 K.new),(((((b.nil TM).n c).n c7).trans (c8)).n c9)⟩
 .refine qR [] 15 [] λe4 b4 d7 F=>?_;rw[show M.act ⟨3,(j:Int),(at_:Int),p,d⟩=(M.set j (if(M.ab j).up then((M.ab j).piece j M.bm M.eb).1 else(M.ab j)) (if(M.ab j).up then((M.ab j).piece j M.bm M.eb).2.1 else M.bm) (if(M.ab j).up then((M.ab j).piece j M.bm M.eb).2.2 else M.eb))from rfl];refine Af λK=>?_;have U:MS mb tb ob nb b4 d7 M:=(h.qM ((b.trans c).trans F) K.new);refine qG 1 TM [true,true] ((U).call e (Zu ((U).ns e) (C.ch (((b.nil TM).n c).n F) F1) D e hp (by omega) y.bm (by omega))) ?_;rintro A h9 ⟨b5,rfl,N,l⟩;refine⟨_,b5,rfl,l,N.new,?_⟩;replace l:=l.ret (B:=w.heap.size);refine qR [] 2 [] λe5 f8 i0 Y=>qE (.tuple #[]) λK=>⟨_,rfl,(N.qM Y K.new),(((((b.nil TM).n c).n F).trans (l)).n Y)⟩
 .refine qR [] 28 [1,1] λe6 b6 d8 G=>?_;rw[show M.act ⟨4,(j:Int),(at_:Int),p,d⟩=(M.move 4 at_)from rfl];refine Af λK=>?_;have b0:MS mb tb ob nb b6 d8 M:=(h.qM ((b.trans c).trans G) K.new);refine qG 5 TM [true,true] (LM b0 (C.ch (((b.nil TM).n c).n G) F1) D 4 at_ i y hn) ?_;rintro A i1 ⟨b7,rfl,O,m⟩;refine⟨_,b7,rfl,m,O.new,?_⟩;replace m:=m.ret (B:=w.heap.size);refine qR [] 2 [] λe7 f9 i2 Z=>qE (.tuple #[]) λK=>⟨_,rfl,(O.qM Z K.new),(((((b.nil TM).n c).n G).trans (m)).n Z)⟩
 .refine qR [] 34 [1,1] λe8 b8 d9 H=>?_;rw[show M.act ⟨5,(j:Int),(at_:Int),p,d⟩=(M.move 5 at_)from rfl];refine Af λK=>?_;have b1:MS mb tb ob nb b8 d9 M:=(h.qM ((b.trans c).trans H) K.new);refine qG 5 TM [true,true] (LM b1 (C.ch (((b.nil TM).n c).n H) F1) D 5 at_ i y hn) ?_;rintro A i3 ⟨b9,rfl,P,o⟩;refine⟨_,b9,rfl,o,P.new,?_⟩;replace o:=o.ret (B:=w.heap.size);refine qR [] 2 [] λe9 g0 i4 a1=>qE (.tuple #[]) λK=>⟨_,rfl,(P.qM a1 K.new),(((((b.nil TM).n c).n H).trans (o)).n a1)⟩
 .refine qR [] 37 [1,1] λf0 c0 e0 I=>?_;rw[show M.act ⟨6,(j:Int),(at_:Int),p,d⟩=(M.move 6 at_)from rfl];refine Af λK=>?_;have b2:MS mb tb ob nb c0 e0 M:=(h.qM ((b.trans c).trans I) K.new);refine qG 5 TM [true,true] (LM b2 (C.ch (((b.nil TM).n c).n I) F1) D 6 at_ i y hn) ?_;rintro A i5 ⟨c2,rfl,Q,q⟩;refine⟨_,c2,rfl,q,Q.new,?_⟩;replace q:=q.ret (B:=w.heap.size);refine qR [] 2 [] λf1 g2 i6 a2=>qE (.tuple #[]) λK=>⟨_,rfl,(Q.qM a2 K.new),(((((b.nil TM).n c).n I).trans (q)).n a2)⟩
 .refine qR [] 39 [] λf2 d0 e1 J=>?_;rw[show M.act ⟨7,(j:Int),(at_:Int),p,d⟩=M.qH from rfl];refine Af λK=>?_;have b3:MS mb tb ob nb d0 e1 M:=(h.qM ((b.trans c).trans J) K.new);refine qG 1 TM [true,true] (Qd b3 (C.ch (((b.nil TM).n c).n J) F1) D y hn) ?_;rintro A i7 ⟨d1,rfl,R,s⟩;refine⟨_,d1,rfl,s,R.new,?_⟩;replace s:=s.ret (B:=w.heap.size);refine qR [] 2 [] λf3 h0 i8 a3=>qE (.tuple #[]) λK=>⟨_,rfl,(R.qM a3 K.new),(((((b.nil TM).n c).n J).trans (s)).n a3)⟩
 .refine qR [] 47 [1] λf4 d2 e2 a4=>?_;rw[show M.act ⟨8,(j:Int),(at_:Int),p,d⟩=(M.set j (if(M.ab j).up then(M.ab j).ib p else(M.ab j)) M.bm M.eb)from rfl];refine Af λK=>?_;have V:MS mb tb ob nb d2 e2 M:=(h.qM ((b.trans c).trans a4) K.new);refine qG 3 TM [true,true] ((V).call e (XL ((V).ns e) p (by omega) (by omega))) ?_;rintro A i9 ⟨d3,rfl,S,t⟩;refine⟨_,d3,rfl,t,S.new,?_⟩;replace t:=t.ret (B:=w.heap.size);refine qR [] 2 [] λf5 h1 j0 a5=>qE (.tuple #[]) λK=>⟨_,rfl,(S.qM a5 K.new),(((((b.nil TM).n c).n a4).trans (t)).n a5)⟩
 .refine qR [] 51 [] λf6 d4 e3 L=>?_;rw[show M.act ⟨9,(j:Int),(at_:Int),p,d⟩=(M.set j (if(M.ab j).up then(M.ab j)else(M.ab j).start) M.bm M.eb)from rfl];refine Af λK=>?_;have X:MS mb tb ob nb d4 e3 M:=(h.qM ((b.trans c).trans L) K.new);refine qG 1 TM [true,true] ((X).call e (ah ((X).ns e) (C.ch (((b.nil TM).n c).n L) F1) D)) ?_;rintro A j1 ⟨d5,rfl,T,u⟩;refine⟨_,d5,rfl,u,T.new,?_⟩;replace u:=u.ret (B:=w.heap.size);refine qR [] 2 [] λf7 h2 j2 a6=>qE (.tuple #[]) λK=>⟨_,rfl,(T.qM a6 K.new),(((((b.nil TM).n c).n L).trans (u)).n a6)⟩
theorem fE{f:Bool}(h:OwnS g' w' (.n 60 0) f e sz y xs)(c:Cg w.heap.size [.n 60 0] gz w g' w'):∀ a,y.a=some a->w.heap.size<=a.block:=by
 intro a d;rcases h.ex with⟨h1,_⟩|⟨b,_,h1,_,_,_,_,_,h7,_⟩
 .rw[h1]at d;cases d
 .rw[h1]at d
  simp only[X']at d;subst d;rcases mZ b w.heap.size with hlt|hge
  .have:=c.tag hlt (λh=>hlt);rw[h7]at this;cases this
  .exact hge
theorem RR{x:S3}(h:RdV w x 5 vs)(I:∀ u∈vs,u.oneCell'=true)(M:x.n<100000000) :
  Calls prog 56 #[x.v] w λe w'=>∃ y:S3,e=.returned y.v/\RdV w' y 5 vs/\y.n=x.n/\(vs≠[]->∀ a,y.a=some a->w.heap.size<=a.block)/\Bw w w':=by
 obtain⟨T,c,k⟩:=x;simp only at M;refine gI (fn:=f56) [.n 60 0] gz func56 (λ_ _=>⟨rfl,rfl⟩) (qR [] 8 [] λU Z w1 d=>?_);by_cases C:T=none
 .subst C;have o:k=0:=h.rQ rfl;have q:c=0:=by have:=h.cap;simp only at this;omega
  subst o q;refine qV 1 (.bool true) (dY (z:=⟨none,0,0⟩) (t:=49) (e:=24) (x:=(.tmp 3)) (y:=(.const (sn))) rfl underlying49 (by kernel_rfl)) (qR [] 6 [] λV g2 w2 F=>qE (S3.v s30) λK=>⟨s30,rfl,⟨h.len,A' _,λ_=>rfl,.inl rfl⟩,rfl,λ_ a L=>(by cases L),Cg.af ((d.nil [.n 60 0]).n F) (λ_ _=>E6)⟩)
 .obtain⟨ad,rfl⟩:=nX.1 C;refine qV 1 (.bool false) (dY (z:=⟨some ad,c,k⟩) (t:=49) (e:=24) (x:=(.tmp 3)) (y:=(.const (sn))) rfl underlying49 (by kernel_rfl)) (qR [] 7 [62,0] λb H S g=>?_);by_cases D:c=0
  .subst D;obtain⟨s,r⟩:∃ s,prog.info? 24=some s:=nm.1 (by kernel_rfl);refine qV 2 (.slice (some ⟨(b 0),0,none⟩) 0 0) (fI 49 49 24 s underlying49 r (b 0) ad k) (qR [] 2 [] λW g4 w4 G=>qE (S3.v ⟨some ⟨(b 0),0,none⟩,0,0⟩) λK=>⟨_,rfl,⟨h.len,A' _,λh=>(by cases h),.inl rfl⟩,rfl,λO=>absurd (Y' (by rw[h.len];exact pU 5)) O,Cg.af (((d.nil [.n 60 0]).n g).n G) (λ_ _=>E6)⟩)
  .obtain⟨bx,ox,hx1,hx2,hx3⟩:∃ bx ox,(some ad:Option Addr)=some ⟨bx,ox,none⟩/\bx<w.heap.size/\∀ j u,vs[j]?=some u->w.cell? ⟨bx,ox+j,none⟩=some u:=by rcases h.ex with h|h;exact absurd h D;exact h
   simp only[X']at hx1;subst hx1;refine Af λK=>?_;obtain⟨P,Q,R⟩:=K.sK 0 (b 0) (.cells #[] 24) 60 0 true (by kernel_rfl);have J:OwnS H S (.n 60 0) true 24 5 ⟨some ⟨(b 0),0,none⟩,0,0⟩ []:=⟨rfl,.inr ⟨(b 0),#[],rfl,P,A' _,mL _,rfl,rfl,Q,R⟩⟩;refine I3 [false] ?_;have m:=Cg.af ((d.nil [.n 60 0]).n g) (λ_ _=>E6);refine K3 2 (x:=⟨some ⟨(b 0),0,none⟩,0,0⟩) 49 49 24 5 40 (.agg #[iv 0,iv 0,iv 0,iv 0,iv 0]) ⟨bx,ox,none⟩ c k vs J (by kernel_rfl) (by kernel_rfl) (by kernel_rfl) underlying49 (by kernel_rfl) (by kernel_rfl) (by decide) (by omega) h.len I (λK j u N=>by rw[Kv];exact(m.cell (p:=⟨bx,ox+j,none⟩) hx2).trans (hx3 j u N)) (by show 0+c<=_;unfold maxLen;omega) (by show(0+c)*40<=_;omega) ?_;intro E g5 w5 A n5 l Y;have B:=l w.heap.size [.n 60 0] (D'.2 rfl);refine qR [] 2 [] λX g6 w6 i=>qE (S3.v E) λK=>⟨E,rfl,(by have:=(A.ch i).rv;rwa [nC]at this),(by rw[n5];show 0+c=c;omega),λ_=>fE (A.ch i) ((((d.nil [.n 60 0]).n g).trans B).n i),Cg.af ((((d.nil [.n 60 0]).n g).trans B).n i) (λ_ _=>E6)⟩
theorem Lj{x:S3}(h:RdV w x 5 vs)(I:∀ u∈vs,u.oneCell'=true)(M:x.n<100000000) :
  Calls prog 55 #[x.v] w λe w'=>∃ y:S3,e=.returned y.v/\RdV w' y 5 vs/\y.n=x.n/\(vs≠[]->∀ a,y.a=some a->w.heap.size<=a.block)/\Bw w w':=by
 obtain⟨T,c,k⟩:=x;simp only at M;refine gI (fn:=f55) [.n 60 0] gz func55 (λ_ _=>⟨rfl,rfl⟩) (qR [] 8 [] λU Z w1 d=>?_);by_cases C:T=none
 .subst C;have o:k=0:=h.rQ rfl;have q:c=0:=by have:=h.cap;simp only at this;omega
  subst o q;refine qV 1 (.bool true) (dY (z:=⟨none,0,0⟩) (t:=40) (e:=48) (x:=(.tmp 3)) (y:=(.const (sn))) rfl underlying40 (by kernel_rfl)) (qR [] 6 [] λV g2 w2 F=>qE (S3.v s30) λK=>⟨s30,rfl,⟨h.len,A' _,λ_=>rfl,.inl rfl⟩,rfl,λ_ a L=>(by cases L),Cg.af ((d.nil [.n 60 0]).n F) (λ_ _=>E6)⟩)
 .obtain⟨ad,rfl⟩:=nX.1 C;refine qV 1 (.bool false) (dY (z:=⟨some ad,c,k⟩) (t:=40) (e:=48) (x:=(.tmp 3)) (y:=(.const (sn))) rfl underlying40 (by kernel_rfl)) (qR [] 7 [62,0] λb H S g=>?_);by_cases D:c=0
  .subst D;obtain⟨s,r⟩:∃ s,prog.info? 48=some s:=nm.1 (by kernel_rfl);refine qV 2 (.slice (some ⟨(b 0),0,none⟩) 0 0) (fI 40 40 48 s underlying40 r (b 0) ad k) (qR [] 2 [] λW g4 w4 G=>qE (S3.v ⟨some ⟨(b 0),0,none⟩,0,0⟩) λK=>⟨_,rfl,⟨h.len,A' _,λh=>(by cases h),.inl rfl⟩,rfl,λO=>absurd (Y' (by rw[h.len];exact pU 5)) O,Cg.af (((d.nil [.n 60 0]).n g).n G) (λ_ _=>E6)⟩)
  .obtain⟨bx,ox,hx1,hx2,hx3⟩:∃ bx ox,(some ad:Option Addr)=some ⟨bx,ox,none⟩/\bx<w.heap.size/\∀ j u,vs[j]?=some u->w.cell? ⟨bx,ox+j,none⟩=some u:=by rcases h.ex with h|h;exact absurd h D;exact h
   simp only[X']at hx1;subst hx1;refine Af λK=>?_;obtain⟨P,Q,R⟩:=K.sK 0 (b 0) (.cells #[] 48) 60 0 true (by kernel_rfl);have J:OwnS H S (.n 60 0) true 48 5 ⟨some ⟨(b 0),0,none⟩,0,0⟩ []:=⟨rfl,.inr ⟨(b 0),#[],rfl,P,A' _,mL _,rfl,rfl,Q,R⟩⟩;refine I3 [false] ?_;have m:=Cg.af ((d.nil [.n 60 0]).n g) (λ_ _=>E6);refine K3 2 (x:=⟨some ⟨(b 0),0,none⟩,0,0⟩) 40 40 48 5 40 (.agg #[iv 0,iv 0,iv 0,iv 0,iv 0]) ⟨bx,ox,none⟩ c k vs J (by kernel_rfl) (by kernel_rfl) (by kernel_rfl) underlying40 (by kernel_rfl) (by kernel_rfl) (by decide) (by omega) h.len I (λK j u N=>by rw[Kv];exact(m.cell (p:=⟨bx,ox+j,none⟩) hx2).trans (hx3 j u N)) (by show 0+c<=_;unfold maxLen;omega) (by show(0+c)*40<=_;omega) ?_;intro E g5 w5 A n5 l Y;have B:=l w.heap.size [.n 60 0] (D'.2 rfl);refine qR [] 2 [] λX g6 w6 i=>qE (S3.v E) λK=>⟨E,rfl,(by have:=(A.ch i).rv;rwa [nC]at this),(by rw[n5];show 0+c=c;omega),λ_=>fE (A.ch i) ((((d.nil [.n 60 0]).n g).trans B).n i),Cg.af ((((d.nil [.n 60 0]).n g).trans B).n i) (λ_ _=>E6)⟩
def Nk(M:Meet)(ly tv:S3):Array Value:=#[iv (M.bm.length:Int),.bool (M.ab 0).up,.bool (M.ab 1).up,.bool (M.ab 2).up,.bool (M.ab 3).up,.bool (M.ab 4).up,S3.v ly,iv ((M.ab 0).bad:Int),iv ((M.ab 1).bad:Int),iv ((M.ab 2).bad:Int),iv ((M.ab 3).bad:Int),iv ((M.ab 4).bad:Int),S3.v tv]
structure OutW(w:World)(M:Meet)(ly tv:S3)(ys:Nat->S3):Prop where
 qP:RdV w ly 1 [S3.v (ys 0),S3.v (ys 1),S3.v (ys 2),S3.v (ys 3),S3.v (ys 4)]
 log:∀ j,j<5->RdC w (ys j) ((M.ab j).ae.take (M.ab j).done)
 eb:RdV w tv 5 (M.eb.flatMap Es)
structure OutN(B:Nat)(M:Meet)(ly tv:S3)(ys:Nat->S3):Prop where
 qP:∀ a,ly.a=some a->B<=a.block
 log:∀ j,j<5->cmL ((M.ab j).ae.take (M.ab j).done)≠[]->∀ a,(ys j).a=some a->B<=a.block
 eb:M.eb.flatMap Es≠[]->∀ a,tv.a=some a->B<=a.block
theorem OutW.ch(h:OutW w M ly tv ys)(hn:OutN B M ly tv ys)(e:∀ b,B<=b->g.t b=.z)(c:Cg C [] g w g' w'):OutW w' M ly tv ys :=
 ⟨((⟨h.qP,λ_ a d=>e _ (hn.qP a d)⟩:FzV g w ly 1 _).ch c).rd,λj i=>(((⟨(h.log j i).rv,λf a d=>e _ (hn.log j i f a d)⟩:FzV g w (ys j) 5 _).ch c).rd).rc,((⟨h.eb,λf a d=>e _ (hn.eb f a d)⟩:FzV g w tv 5 _).ch c).rd⟩
theorem US(d:List Tol):∀ u∈d.flatMap Es,u.oneCell'=true:=by
 intro u b;obtain⟨c,_,a⟩:=oU.1 b;simp only[Es,mp,O',or_false]at a;rcases a with rfl|rfl|rfl|rfl|rfl<;>rfl
theorem aG{P:Program}{c:Func}{R:Ending->World->Prop}{Φ:List Fa}{s:Xs}(b:Nat)(o:Obj)(a:w0.heap[b]?=some o)(h:GT P c R w0 Φ ⟨s.K,s.f,BM s.L++[⟨b,o,.z,false⟩]⟩ g w):GT P c R w0 Φ s g w :=
 ⟨λF C=>Cr ⟨b,o,.z,false⟩ (λ_=>⟨((CgQ.af C).block b (rl a)).trans a,C.tag (rl a) (λ_=>rl a),(λh=>by cases h),λh=>absurd rfl h⟩) rfl (h.ex F C)⟩
theorem gZ(h:MS mb tb ob nb g w0 M)(b:Bw w0 w){i:Nat}(c:i<5)(a:(M.ab i).done<=(M.ab i).ae.length) :
  Calls prog 57 #[pt (nb i) 0] w λe w'=>∃ y:S3,e=.returned y.v/\RdC w' y ((M.ab i).ae.take (M.ab i).done)/\Bw w w' :=
 U5 ((h.qM (Cg.ed (B:=0) b) λd a=>h.new d (mg b.size a)).ns c) a
theorem kh(a:i<5):(Instr.index 100 (.agg #[pt (nb 0) 0,pt (nb 1) 0,pt (nb 2) 0,pt (nb 3) 0,pt (nb 4) 0]) (iv (i:Int))).run prog W=.ok (pt (nb i) 0) W:=by
 rcases qk a with rfl|rfl|rfl|rfl|rfl<;>kernel_rfl
def ysL(ys:Nat->S3)(i:Nat):List Value:=(List.range i).map λj=>S3.v (ys j)
def Gl(f:Nat->Bool)(i:Nat)(b:Bool):Nat->Bool:=λj=>bif Nat.beq j i then b else f j
def K4(f:Nat->Int)(i:Nat)(b:Int):Nat->Int:=λj=>bif Nat.beq j i then b else f j
def ov(M:Meet)(i:Nat):Nat->Bool:=λj=>bif Nat.blt j i then(M.ab j).up else false
def CN(M:Meet)(i:Nat):Nat->Int:=λj=>bif Nat.blt j i then((M.ab j).bad:Int)else 0
theorem PR(j i:Nat):Nat.blt j (i+1)=bif Nat.beq j i then true else Nat.blt j i:=by
 rw[Bool.eq_iff_iff];rcases py j i with h|h|h
 .simp[Nat.blt,show Nat.beq j i=false from Bool.eq_false_iff.2 λe=>by have:=Nat.eq_of_beq_eq_true e;omega];omega
 .subst h;simp[Nat.blt,Nat.beq_refl]
 .simp[Nat.blt,show Nat.beq j i=false from Bool.eq_false_iff.2 λe=>by have:=Nat.eq_of_beq_eq_true e;omega];omega
theorem jd(M:Meet)(i:Nat):Gl (ov M i) i (M.ab i).up=ov M (i+1):=by
 funext j
 unfold Gl ov;rw[PR];cases h:Nat.beq j i
 .rfl
 .rw[mH h];rfl
theorem gk(M:Meet)(i:Nat):K4 (CN M i) i ((M.ab i).bad:Int)=CN M (i+1):=by
 funext j
 unfold K4 CN;rw[PR];cases h:Nat.beq j i
 .rfl
 .rw[mH h];rfl
def Lgs(g:Gh)(w:World)(M:Meet)(ys:Nat->S3)(i:Nat):Prop:=∀ j,j<i->FzV g w (ys j) 5 (cmL ((M.ab j).ae.take (M.ab j).done))
def Fa.lg(M:Meet)(ys:Nat->S3)(i:Nat):Fa:=⟨none,λg w=>Lgs g w M ys i,λhz _ c h j hj=>(h j hj).ch c hz⟩
def yup(ys:Nat->S3)(i:Nat)(y:S3):Nat->S3:=λj=>if j=i then y else ys j
theorem dm(h:Lgs g w M ys i)(k:FzV g w y 5 (cmL ((M.ab i).ae.take (M.ab i).done))):Lgs g w M (yup ys i y) (i+1):=by
 intro j a;unfold yup;split
 .rename_i e;rw[e];exact k
 .exact h j (by omega)
theorem lf(a:Nat->S3)(i:Nat)(y:S3):ysL (yup a i y) (i+1)=ysL a i++[S3.v y]:=by
 unfold ysL;rw[oq,mK]
 congr 1
 .apply pN;intro j b;have:=oJ.1 b;unfold yup;rw[if_neg (by omega)]
 .simp[yup]
theorem fw(h:∀ j,j<i->cmL ((M.ab j).ae.take (M.ab j).done)≠[]->∀ a,(ys j).a=some a->B<=a.block)(k:cmL ((M.ab i).ae.take (M.ab i).done)≠[]->∀ a,y.a=some a->B<=a.block):∀ j,j<i+1->cmL ((M.ab j).ae.take (M.ab j).done)≠[]->∀ a,(yup ys i y j).a=some a->B<=a.block:=by
 intro j b;unfold yup;split
 .rename_i e;rw[e];exact k
 .exact h j (by omega)
theorem iw{x:S3}(h:OwnS g w (.n 60 0) true e sz x xs)(C:Cg w0.heap.size TQ gS w0 g w):∀ a,x.a=some a->w0.heap.size<=a.block:=by
 intro a c;rcases h.ex with⟨h1,_⟩|⟨b,cur,h1,_,_,_,_,_,h7,_⟩
 .rw[h1]at c;cases c
 .rw[h1]at c;cases c
  refine pH λd=>?_;have:=C.tag d (λ_=>d);rw[h7]at this
  cases this
theorem QP(h:MS mb tb ob nb g w M)(hd:∀ i,i<5->(M.ab i).done<=(M.ab i).ae.length/\(M.ab i).ae.length<=40)(b2:M.bm.length<100000000)(b5:M.eb.length<100000000) :
  Calls prog 31 #[pt mb 0] w λe w'=>∃ (ly tv:S3) (ys:Nat->S3),e=.returned (.agg (Nk M ly tv))/\OutW w' M ly tv ys/\OutN w.heap.size M ly tv ys/\Bw w w':=by
 obtain⟨lt,tl,E⟩:=h.out;obtain⟨bs,hL,R⟩:=E.bm;have S:lt.n=M.bm.length:=by have:=hL.len;have:=R.len;simp at *;omega
 have b6:tl.n=M.eb.length:=by have Z:=E.eb.len;rw[GF]at Z;omega
 refine tIn [] func31 trivial (aG mb _ h.box.r ?_);refine aG ob _ E.row ?_;refine tR 21 [1,0,19,0,2,4,6,0,8,10,12,1,14,16,18,20,22,0,24,26,28,1] λb _ _=>KE 55 (λy t c=>∃ (tv:S3) (m:Nat),y=[(0,pt mb 0),(2,pt (b 0) 0),(3,pt m 0)]/\t=[⟨mb,.cells (mtA nb ob tb) 102,.z,false⟩,⟨ob,.cells #[S3.v lt,S3.v tl] 96,.z,false⟩,⟨(b 0),.cells #[iv 0,.bool false,.bool false,.bool false,.bool false,.bool false,sn,iv 0,iv 0,iv 0,iv 0,iv 0,sn] 42,.l,false⟩,⟨m,.cells #[iv (lt.n:Int),.bool false,.bool false,.bool false,.bool false,.bool false,sn,iv 0,iv 0,iv 0,iv 0,iv 0,S3.v tv] 42,.l,false⟩]/\c=[Fa.zv tv 5 (M.eb.flatMap Es)]/\(M.eb.flatMap Es≠[]->∀ a,tv.a=some a->w.heap.size<=a.block)) (λJ q=>?_) ?_
 .refine Fv 15 17 ?_ ?_
  .refine tF λ_ D=>?_;have T:=D.size;refine tC 15 (λF C=>Lj (E.eb.rv.af (CgQ.af C)) (US _) (by omega)) λB=>?_;rintro _ _ ⟨tv,rfl,A,_,f,b4⟩;refine⟨_,Fa.zv tv 5 (M.eb.flatMap Es)::_,rfl,b4,λF=>⟨⟨A,λp a o=>B _ (f p a o)⟩,F⟩,?_⟩;refine tR 4 [32,35,1,0,37,3,0] λX _ _=>tD q [true,true,true,true] ⟨tv,(X 0),rfl,rfl,rfl,λp a o=>mg T (f p a o)⟩ (λF=>⟨F.1,trivial⟩)
  .refine tR 1 [1,0] λY _ _=>tF λ_ D=>?_;have U:=D.size;refine tC 15 (λF C=>Lj (E.eb.rv.af (CgQ.af C)) (US _) (by omega)) λB=>?_;rintro _ _ ⟨tv,rfl,A,_,f,b8⟩;refine⟨_,Fa.zv tv 5 (M.eb.flatMap Es)::_,rfl,b8,λF=>⟨⟨A,λp a o=>B _ (f p a o)⟩,F⟩,?_⟩;refine tR 3 [32,37,3,0] λb9 _ _=>tD q [true,true,true,true] ⟨tv,(Y 0),rfl,rfl,rfl,λp a o=>mg U (f p a o)⟩ (λF=>⟨F.1,trivial⟩)
 rintro _ _ _ ⟨tv,m,rfl,rfl,rfl,f⟩ _ _ _;refine tR 10 [0] λa1 _ _=>Fu 55 [(2,pt (b 0) 0),(3,pt m 0),(26,.agg #[pt (nb 0) 0,pt (nb 1) 0,pt (nb 2) 0,pt (nb 3) 0,pt (nb 4) 0]),(27,iv 0)] [true,false,true,true] [⟨mb,.cells (mtA nb ob tb) 102,.z,false⟩,⟨(b 0),.cells #[iv 0,.bool false,.bool false,.bool false,.bool false,.bool false,sn,iv 0,iv 0,iv 0,iv 0,iv 0,sn] 42,.l,false⟩,⟨m,.cells #[iv (lt.n:Int),.bool false,.bool false,.bool false,.bool false,.bool false,sn,iv 0,iv 0,iv 0,iv 0,iv 0,S3.v tv] 42,.l,false⟩] [Fa.zv tv 5 (M.eb.flatMap Es),Fa.ow 0 49 1 s30 (ysL (λ_=>s30) 0),Fa.lg M (λ_=>s30) 0] (λkk y t c=>∃ (i:Nat) (ly:S3) (ys:Nat->S3),kk=5-i/\y=[(2,pt (b 0) 0),(3,pt m 0),(26,.agg #[pt (nb 0) 0,pt (nb 1) 0,pt (nb 2) 0,pt (nb 3) 0,pt (nb 4) 0]),(27,iv (i:Int))]/\t=[⟨mb,.cells (mtA nb ob tb) 102,.z,false⟩,⟨(b 0),.cells #[iv 0,.bool false,.bool false,.bool false,.bool false,.bool false,sn,iv 0,iv 0,iv 0,iv 0,iv 0,sn] 42,.l,false⟩,⟨m,.cells #[iv (lt.n:Int),.bool (ov M i 0),.bool (ov M i 1),.bool (ov M i 2),.bool (ov M i 3),.bool (ov M i 4),S3.v ly,iv (CN M i 0),iv (CN M i 1),iv (CN M i 2),iv (CN M i 3),iv (CN M i 4),S3.v tv] 42,.l,false⟩]/\c=[Fa.zv tv 5 (M.eb.flatMap Es),Fa.ow 0 49 1 ly (ysL ys i),Fa.lg M ys i]/\i<=5/\ly.n=i/\(∀ j,j<i->cmL ((M.ab j).ae.take (M.ab j).done)≠[]->∀ a,(ys j).a=some a->w.heap.size<=a.block)) (5) ⟨0,s30,λ_=>s30,rfl,rfl,rfl,rfl,by omega,rfl,λj G=>absurd G (nW _)⟩ (λF=>⟨F.1,OwnS.nil _ _ _ _ _ _,(λj G=>absurd G (nW _)),trivial⟩) ?_;rintro k _ _ _ ⟨i,ly,ys,rfl,rfl,rfl,rfl,hi,a0,hw⟩ _ _ _ J q;refine tR 5 [] λa2 _ _=>?_;by_cases Z:i<5
 .refine tI ((decide ((i:Int)<5))) true (P' (by omega)) ?_;have d:i<5:=by omega
  obtain⟨x,hN⟩:=h.ab i d;refine tR 6 [] λa3 _ _=>tV 1 (pt (nb i) 0) (λF C=>(kh d)) (aG (nb i) _ hN.row ?_);refine tR 4 [] λa4 _ _=>KE 55 (λy t c=>y=[(2,pt (b 0) 0),(3,pt m 0),(26,.agg #[pt (nb 0) 0,pt (nb 1) 0,pt (nb 2) 0,pt (nb 3) 0,pt (nb 4) 0]),(27,iv (i:Int)),(4,iv (i:Int)),(5,pt (nb i) 0)]/\t=[⟨mb,.cells (mtA nb ob tb) 102,.z,false⟩,⟨(b 0),.cells #[iv 0,.bool false,.bool false,.bool false,.bool false,.bool false,sn,iv 0,iv 0,iv 0,iv 0,iv 0,sn] 42,.l,false⟩,⟨m,.cells #[iv (lt.n:Int),.bool (Gl (ov M i) i (M.ab i).up 0),.bool (Gl (ov M i) i (M.ab i).up 1),.bool (Gl (ov M i) i (M.ab i).up 2),.bool (Gl (ov M i) i (M.ab i).up 3),.bool (Gl (ov M i) i (M.ab i).up 4),S3.v ly,iv (CN M i 0),iv (CN M i 1),iv (CN M i 2),iv (CN M i 3),iv (CN M i 4),S3.v tv] 42,.l,false⟩,⟨(nb i),.cells (AF i ob (M.ab i) x) 123,.z,false⟩]/\c=[Fa.zv tv 5 (M.eb.flatMap Es),Fa.ow 0 49 1 ly (ysL ys i),Fa.lg M ys i]) (λJ q=>?_) ?_
  .rcases qk d with rfl|rfl|rfl|rfl|rfl<;>exact tR 10 [3,2,0] λa5 _ _=>tD q [true,true,true,true] ⟨rfl,rfl,rfl⟩ (λF=>F)
  rintro _ _ _ ⟨rfl,rfl,rfl⟩ _ _ _;refine tR 1 [] λa6 _ _=>KE 55 (λy t c=>y=[(2,pt (b 0) 0),(3,pt m 0),(26,.agg #[pt (nb 0) 0,pt (nb 1) 0,pt (nb 2) 0,pt (nb 3) 0,pt (nb 4) 0]),(27,iv (i:Int)),(4,iv (i:Int)),(5,pt (nb i) 0)]/\t=[⟨mb,.cells (mtA nb ob tb) 102,.z,false⟩,⟨(b 0),.cells #[iv 0,.bool false,.bool false,.bool false,.bool false,.bool false,sn,iv 0,iv 0,iv 0,iv 0,iv 0,sn] 42,.l,false⟩,⟨m,.cells #[iv (lt.n:Int),.bool (Gl (ov M i) i (M.ab i).up 0),.bool (Gl (ov M i) i (M.ab i).up 1),.bool (Gl (ov M i) i (M.ab i).up 2),.bool (Gl (ov M i) i (M.ab i).up 3),.bool (Gl (ov M i) i (M.ab i).up 4),S3.v ly,iv (K4 (CN M i) i ((M.ab i).bad:Int) 0),iv (K4 (CN M i) i ((M.ab i).bad:Int) 1),iv (K4 (CN M i) i ((M.ab i).bad:Int) 2),iv (K4 (CN M i) i ((M.ab i).bad:Int) 3),iv (K4 (CN M i) i ((M.ab i).bad:Int) 4),S3.v tv] 42,.l,false⟩,⟨(nb i),.cells (AF i ob (M.ab i) x) 123,.z,false⟩]/\c=[Fa.zv tv 5 (M.eb.flatMap Es),Fa.ow 0 49 1 ly (ysL ys i),Fa.lg M ys i]) (λJ q=>?_) ?_
  .rcases qk d with rfl|rfl|rfl|rfl|rfl<;>exact tR 10 [3,2,0] λa7 _ _=>tD q [true,true,true,true] ⟨rfl,rfl,rfl⟩ (λF=>F)
  rintro _ _ _ ⟨rfl,rfl,rfl⟩ _ _ _;refine tR 4 [8,0,2,2,4] λa8 _ _=>tC 3 (λF C=>gZ h (CgQ.af C) d (hd i d).1) λB=>?_;rintro _ _ ⟨yl,rfl,I,P⟩;refine⟨_,_,rfl,P,id,?_⟩;have V:yl.n<100000000:=by rw[I.len,j'];have:=hd i d;omega
  refine tF λ_ D=>?_;have H:=D.size;refine tC 4 (λF C=>RR I.rv (λu hu=>OT _ u hu) V) λB=>?_;rintro _ _ ⟨O,rfl,W,_,L,Q⟩;refine⟨_,Fa.zv O 5 (cmL ((M.ab i).ae.take (M.ab i).done))::_,rfl,Q,λF=>⟨⟨W,λp a o=>B _ (L p a o)⟩,F⟩,?_⟩;refine tR 1 [11,0,0] λs _ _=>Rv 6 0 (x:=ly) 38 38 49 1 24 sn ⟨(s 0),0,none⟩ 1 1 [S3.v O] (λF=>F.2.2.1) [Fa.zv tv 5 (M.eb.flatMap Es),Fa.lg M (yup ys i O) (i+1)] (λF=>⟨F.2.1,dm F.2.2.2.1 F.1,trivial⟩) rfl (by simp[TQ]) rfl (by simp[Value.oneCell']) (λF K=>Dx K 4 (s 0) [S3.v O] 49 .z true (by kernel_rfl)) (by unfold maxLen;omega) (by omega) λN _ _ b7=>tR 5 [14,17,2,0] λa9 _ _=>tV 0 (iv ((i:Int)+1)) (λF C=>(Bj 27 (i:Int) underlying3 (by omega))) (tR 2 [] λb0 _ _=>tB q (5-(i+1)) (by omega) [true,true,true,false,false] (L':=[⟨mb,.cells (mtA nb ob tb) 102,.z,false⟩,⟨(b 0),.cells #[iv 0,.bool false,.bool false,.bool false,.bool false,.bool false,sn,iv 0,iv 0,iv 0,iv 0,iv 0,sn] 42,.l,false⟩,⟨m,.cells #[iv (lt.n:Int),.bool (Gl (ov M i) i (M.ab i).up 0),.bool (Gl (ov M i) i (M.ab i).up 1),.bool (Gl (ov M i) i (M.ab i).up 2),.bool (Gl (ov M i) i (M.ab i).up 3),.bool (Gl (ov M i) i (M.ab i).up 4),S3.v N,iv (K4 (CN M i) i ((M.ab i).bad:Int) 0),iv (K4 (CN M i) i ((M.ab i).bad:Int) 1),iv (K4 (CN M i) i ((M.ab i).bad:Int) 2),iv (K4 (CN M i) i ((M.ab i).bad:Int) 3),iv (K4 (CN M i) i ((M.ab i).bad:Int) 4),S3.v tv] 42,.l,false⟩]) ⟨i+1,N,yup ys i O,rfl,rfl,(by rw[jd,gk]),rfl,by omega,by omega,fw hw (λp a o=>mg H (L p a o))⟩ (λF=>⟨F.2.1,(by rw[lf];exact F.1),F.2.2.1,trivial⟩))
 .refine tI ((decide ((i:Int)<5))) false (G' (by omega)) ?_;obtain rfl:i=5:=by omega
  refine tR 6 [2,1,0] λb1 _ _=>?_;have hA:Nk M ly tv=#[iv (lt.n:Int),.bool (ov M 5 0),.bool (ov M 5 1),.bool (ov M 5 2),.bool (ov M 5 3),.bool (ov M 5 4),S3.v ly,iv (CN M 5 0),iv (CN M 5 1),iv (CN M 5 2),iv (CN M 5 3),iv (CN M 5 4),S3.v tv]:=by rw[S];rfl
  exact tX λF C=>qE1 2 42 1 (b 0) #[iv (lt.n:Int),.bool (ov M 5 0),.bool (ov M 5 1),.bool (ov M 5 2),.bool (ov M 5 3),.bool (ov M 5 4),S3.v ly,iv (CN M 5 0),iv (CN M 5 1),iv (CN M 5 2),iv (CN M 5 3),iv (CN M 5 4),S3.v tv] λ_=>⟨ly,tv,ys,by rw[hA],⟨F.2.1.rv,λj G=>(F.2.2.1 j G).rd.rc,F.1.rd⟩,⟨iw F.2.1 C,hw,f⟩,CgQ.af C⟩
theorem YO(h:1<=k/\k<=9):Calls prog 43 #[iv k] w λe w'=>e=.returned (.bool true)/\Bw w w':=by
 refine tIn [] func43 trivial (tR 7 [] λa _ _=>tV 1 (.bool true) (λF C=>(rGe (t:=3) (m:=k) (n:=1) (x:=(.tmp 3)) (y:=(.const (iv 1))) (P' h.1))) (tR 6 [] λb _ _=>tE (.bool (decide (k<10))) λ_ B=>⟨by rw[P' (show k<10 by omega)],B⟩))
theorem YH:Calls prog 69 #[iv k] w λe w'=>e=.returned (.bool (k==1))/\Bw w w':=by
 refine tIn [] func69 trivial (tR 10 [] λa _ _=>tE (.bool (k==1)) λ_ B=>⟨rfl,B⟩)
theorem Q9:Calls prog 68 #[pt b 0] w λe w'=>e=.returned (.agg #[pt b 1,pt b 2,pt b 3])/\Bw w w':=by
 refine tIn [] func68 trivial (tR 18 [1,0,10,0,2,4,6,8,10,12,14,16,18,21,0,0] λa _ _=>tX λF C=>qE1 2 140 0 (a 0) #[pt b 1,pt b 2,pt b 3] λ_=>⟨rfl,CgQ.af C⟩)
theorem YQ(h:j<3):j=0\/j=1\/j=2:=by omega
theorem IN(h:1<=k/\k<=9):(Instr.indexAt 146 (pt 1 0) (iv k)).run prog W=.ok (pt 1 (4*k.toNat)) W:=by
 have:=W9 k.toNat (by omega) W
 rwa [oF (by omega)]at this
theorem LWTab.at(h:LWTab w){k:Int}(c:1<=k/\k<=9){j:Nat}(a:j<3){b:Bool}(e:MH j k=b):w.cell? ⟨1,4*k.toNat+1+j,none⟩=some (.bool b):=by
 have:=h.has k.toNat j (by omega) a
 rwa [oF (by omega),e]at this
theorem gP(h:LacOk x)(hy:y.n=x.d.length)(i:LWTab w)(o:LBTab w):Calls prog 44 #[.agg #[iv x.k,iv x.n,iv x.a,iv x.p,S3.v y]] w λe w'=>e=.returned (.bool true)/\Bw w w':=by
 have f:=h.k;refine tIn [] func44 trivial (tR 8 [0,0] λc _ _=>tC1 0 (λF C=>Q9 (b:=(c 0))) λ_=>tR 3 [] λa0 _ _=>Fu 33 [(1,pt (c 0) 0),(5,.agg #[pt (c 0) 1,pt (c 0) 2,pt (c 0) 3]),(6,iv 0)] [true] [⟨(c 0),.cells #[iv x.k,iv x.n,iv x.a,iv x.p,S3.v y] 36,.z,false⟩] [] (λZ Y X l=>∃ (j:Nat),Z=3-j/\Y=[(1,pt (c 0) 0),(5,.agg #[pt (c 0) 1,pt (c 0) 2,pt (c 0) 3]),(6,iv (j:Int))]/\X=[⟨(c 0),.cells #[iv x.k,iv x.n,iv x.a,iv x.p,S3.v y] 36,.z,false⟩]/\l=[]/\j<=3) (3) ⟨0,rfl,rfl,rfl,rfl,by omega⟩ (λF=>trivial) ?_);rintro k _ _ _ ⟨j,rfl,rfl,rfl,rfl,hj⟩ _ _ _ J g;refine tR 5 [] λa1 _ _=>?_;by_cases h0:j<3
 .refine tI ((decide ((j:Int)<3))) true (P' (by omega)) ?_;rcases YQ (show j<3 by omega)with rfl|rfl|rfl
  .by_cases h1:Gf x.k=true
   .have hv:=h.n h1;refine tR 15 [22,0,2,0,4] λa2 _ _=>tT 3 (pt (1) (4*x.k.toNat)) (λ_=>(IN f)) (tR 2 [8,10] λa3 _ _=>tV 6 (.bool true) (λF C=>(BT underlying4 rfl ((i.af (CgQ.af C)).at f (j:=0) (by decide) (show Gf x.k=true from h1)))) (tR 4 [14,16,18,20,0] λa4 _ _=>tT 11 (.bool false) (λ_=>(rLt (t:=3) (m:=x.n) (n:=0) (x:=(.tmp 20)) (y:=(.const (iv 0))) (G' (by omega)))) (tR 6 [24,26,28,30,0,32,34] λa5 _ _=>tV 18 (iv 4) (λF C=>(BT underlying3 rfl ((o.af (CgQ.af C)).sR 0 (by decide)))) (tR 4 [38,40,42] λa6 _ _=>tI ((decide (4<x.n))) false (G' (by omega)) (tR 6 [] λq _ _=>tB g (3-1) (by omega) [true] ⟨1,rfl,rfl,rfl,rfl,by omega⟩ (λF=>trivial))))))
   .refine tR 15 [22,0,2,0,4] λr _ _=>tT 3 (pt (1) (4*x.k.toNat)) (λ_=>(IN f)) (tR 2 [8,10] λs _ _=>tV 6 (.bool false) (λF C=>(BT underlying4 rfl ((i.af (CgQ.af C)).at f (j:=0) (by decide) (show Gf x.k=false from(by simpa using h1))))) (tR 23 [14,16,18,20,22,24,26,28,30,32,34,36,38,40,42] λu _ _=>tB g (3-1) (by omega) [true] ⟨1,rfl,rfl,rfl,rfl,by omega⟩ (λF=>trivial)))
  .by_cases h1:In x.k=true
   .have hv:=h.a h1;refine tR 15 [22,0,2,0,4] λA _ _=>tT 3 (pt (1) (4*x.k.toNat)) (λ_=>(IN f)) (tR 2 [8,10] λD _ _=>tV 6 (.bool true) (λF C=>(BT underlying4 rfl ((i.af (CgQ.af C)).at f (j:=1) (by decide) (show In x.k=true from h1)))) (tR 4 [14,16,18,20,0] λE _ _=>tT 11 (.bool false) (λ_=>(rLt (t:=3) (m:=x.a) (n:=0) (x:=(.tmp 20)) (y:=(.const (iv 0))) (G' (by omega)))) (tR 6 [24,26,28,30,0,32,34] λG _ _=>tV 18 (iv 1048576) (λF C=>(BT underlying3 rfl ((o.af (CgQ.af C)).sR 1 (by decide)))) (tR 4 [38,40,42] λH _ _=>tI ((decide (1048576<x.a))) false (G' (by omega)) (tR 6 [] λI _ _=>tB g (3-2) (by omega) [true] ⟨2,rfl,rfl,rfl,rfl,by omega⟩ (λF=>trivial))))))
   .refine tR 15 [22,0,2,0,4] λK _ _=>tT 3 (pt (1) (4*x.k.toNat)) (λ_=>(IN f)) (tR 2 [8,10] λL _ _=>tV 6 (.bool false) (λF C=>(BT underlying4 rfl ((i.af (CgQ.af C)).at f (j:=1) (by decide) (show In x.k=false from(by simpa using h1))))) (tR 23 [14,16,18,20,22,24,26,28,30,32,34,36,38,40,42] λM _ _=>tB g (3-2) (by omega) [true] ⟨2,rfl,rfl,rfl,rfl,by omega⟩ (λF=>trivial)))
  .by_cases h1:Io x.k=true
   .have hv:=h.p h1;refine tR 15 [22,0,2,0,4] λN _ _=>tT 3 (pt (1) (4*x.k.toNat)) (λ_=>(IN f)) (tR 2 [8,10] λO _ _=>tV 6 (.bool true) (λF C=>(BT underlying4 rfl ((i.af (CgQ.af C)).at f (j:=2) (by decide) (show Io x.k=true from h1)))) (tR 4 [14,16,18,20,0] λP _ _=>tT 11 (.bool false) (λ_=>(rLt (t:=3) (m:=x.p) (n:=0) (x:=(.tmp 20)) (y:=(.const (iv 0))) (G' (by omega)))) (tR 6 [24,26,28,30,0,32,34] λQ _ _=>tV 18 (iv 100000) (λF C=>(BT underlying3 rfl ((o.af (CgQ.af C)).sR 2 (by decide)))) (tR 4 [38,40,42] λR _ _=>tI ((decide (100000<x.p))) false (G' (by omega)) (tR 6 [] λS _ _=>tB g (3-3) (by omega) [true] ⟨3,rfl,rfl,rfl,rfl,by omega⟩ (λF=>trivial))))))
   .refine tR 15 [22,0,2,0,4] λT _ _=>tT 3 (pt (1) (4*x.k.toNat)) (λ_=>(IN f)) (tR 2 [8,10] λU _ _=>tV 6 (.bool false) (λF C=>(BT underlying4 rfl ((i.af (CgQ.af C)).at f (j:=2) (by decide) (show Io x.k=false from(by simpa using h1))))) (tR 23 [14,16,18,20,22,24,26,28,30,32,34,36,38,40,42] λV _ _=>tB g (3-3) (by omega) [true] ⟨3,rfl,rfl,rfl,rfl,by omega⟩ (λF=>trivial)))
 .refine tI ((decide ((j:Int)<3))) false (G' (by omega)) (tR 5 [] λW _ _=>tE (.bool true) λ_ B=>⟨rfl,B⟩)
theorem cI(h:LacOk x)(hy:y.n=x.d.length)(o:LWTab w)(tb:LBTab w):Calls prog 45 #[.agg #[iv x.k,iv x.n,iv x.a,iv x.p,S3.v y]] w λe w'=>e=.returned (.bool true)/\Bw w w':=by
 have g:=h.k;refine tIn [] func45 trivial (tR 8 [0,0] λc _ _=>tC1 0 (λF C=>Q9 (b:=(c 0))) λ_=>tR 3 [] λa1 _ _=>Fu 34 [(1,pt (c 0) 0),(5,.agg #[pt (c 0) 1,pt (c 0) 2,pt (c 0) 3]),(6,iv 0)] [true] [⟨(c 0),.cells #[iv x.k,iv x.n,iv x.a,iv x.p,S3.v y] 36,.z,false⟩] [] (λkk Y X i=>∃ (j:Nat),kk=3-j/\Y=[(1,pt (c 0) 0),(5,.agg #[pt (c 0) 1,pt (c 0) 2,pt (c 0) 3]),(6,iv (j:Int))]/\X=[⟨(c 0),.cells #[iv x.k,iv x.n,iv x.a,iv x.p,S3.v y] 36,.z,false⟩]/\i=[]/\j<=3) (3) ⟨0,rfl,rfl,rfl,rfl,by omega⟩ (λF=>trivial) ?_);rintro k _ _ _ ⟨j,rfl,rfl,rfl,rfl,hj⟩ _ _ _ J f;refine tR 5 [] λa2 _ _=>?_;by_cases h0:j<3
 .refine tI ((decide ((j:Int)<3))) true (P' (by omega)) ?_;rcases YQ (show j<3 by omega)with rfl|rfl|rfl
  .by_cases h1:Gf x.k=true
   .by_cases h2:x.n=0
    .refine tR 15 [0] λa3 _ _=>tV 3 (.bool false) (λF C=>(Hl (t:=3) (m:=x.n) (n:=0) (x:=(.tmp 12)) (y:=(.const (iv 0))) (by simpa using h2))) (tR 18 [] λa4 _ _=>tB f (3-1) (by omega) [true] ⟨1,rfl,rfl,rfl,rfl,by omega⟩ (λF=>trivial))
    .refine tR 15 [0] λa5 _ _=>tV 3 (.bool true) (λF C=>(Hl (t:=3) (m:=x.n) (n:=0) (x:=(.tmp 12)) (y:=(.const (iv 0))) (by simpa using h2))) (tR 4 [0] λa6 _ _=>tV 8 (pt (1) (4*x.k.toNat)) (λF C=>(IN g)) (tR 2 [] λa7 _ _=>tV 11 (.bool true) (λF C=>(BT underlying4 rfl ((o.af (CgQ.af C)).at g (j:=0) (by decide) (show Gf x.k=true from h1)))) (tR 10 [] λq _ _=>tB f (3-1) (by omega) [true] ⟨1,rfl,rfl,rfl,rfl,by omega⟩ (λF=>trivial))))
   .have h2:x.n=0:=h.n0 (by simpa using h1);refine tR 15 [0] λr _ _=>tV 3 (.bool false) (λF C=>(Hl (t:=3) (m:=x.n) (n:=0) (x:=(.tmp 12)) (y:=(.const (iv 0))) (by simpa using h2))) (tR 18 [] λs _ _=>tB f (3-1) (by omega) [true] ⟨1,rfl,rfl,rfl,rfl,by omega⟩ (λF=>trivial))
  .by_cases h1:In x.k=true
   .by_cases h2:x.a=0
    .refine tR 15 [0] λu _ _=>tV 3 (.bool false) (λF C=>(Hl (t:=3) (m:=x.a) (n:=0) (x:=(.tmp 12)) (y:=(.const (iv 0))) (by simpa using h2))) (tR 18 [] λA _ _=>tB f (3-2) (by omega) [true] ⟨2,rfl,rfl,rfl,rfl,by omega⟩ (λF=>trivial))
    .refine tR 15 [0] λD _ _=>tV 3 (.bool true) (λF C=>(Hl (t:=3) (m:=x.a) (n:=0) (x:=(.tmp 12)) (y:=(.const (iv 0))) (by simpa using h2))) (tR 4 [0] λE _ _=>tV 8 (pt (1) (4*x.k.toNat)) (λF C=>(IN g)) (tR 2 [] λG _ _=>tV 11 (.bool true) (λF C=>(BT underlying4 rfl ((o.af (CgQ.af C)).at g (j:=1) (by decide) (show In x.k=true from h1)))) (tR 10 [] λH _ _=>tB f (3-2) (by omega) [true] ⟨2,rfl,rfl,rfl,rfl,by omega⟩ (λF=>trivial))))
   .have h2:x.a=0:=h.a0 (by simpa using h1);refine tR 15 [0] λI _ _=>tV 3 (.bool false) (λF C=>(Hl (t:=3) (m:=x.a) (n:=0) (x:=(.tmp 12)) (y:=(.const (iv 0))) (by simpa using h2))) (tR 18 [] λK _ _=>tB f (3-2) (by omega) [true] ⟨2,rfl,rfl,rfl,rfl,by omega⟩ (λF=>trivial))
  .by_cases h1:Io x.k=true
   .by_cases h2:x.p=0
    .refine tR 15 [0] λL _ _=>tV 3 (.bool false) (λF C=>(Hl (t:=3) (m:=x.p) (n:=0) (x:=(.tmp 12)) (y:=(.const (iv 0))) (by simpa using h2))) (tR 18 [] λM _ _=>tB f (3-3) (by omega) [true] ⟨3,rfl,rfl,rfl,rfl,by omega⟩ (λF=>trivial))
    .refine tR 15 [0] λN _ _=>tV 3 (.bool true) (λF C=>(Hl (t:=3) (m:=x.p) (n:=0) (x:=(.tmp 12)) (y:=(.const (iv 0))) (by simpa using h2))) (tR 4 [0] λO _ _=>tV 8 (pt (1) (4*x.k.toNat)) (λF C=>(IN g)) (tR 2 [] λP _ _=>tV 11 (.bool true) (λF C=>(BT underlying4 rfl ((o.af (CgQ.af C)).at g (j:=2) (by decide) (show Io x.k=true from h1)))) (tR 10 [] λQ _ _=>tB f (3-3) (by omega) [true] ⟨3,rfl,rfl,rfl,rfl,by omega⟩ (λF=>trivial))))
   .have h2:x.p=0:=h.p0 (by simpa using h1);refine tR 15 [0] λR _ _=>tV 3 (.bool false) (λF C=>(Hl (t:=3) (m:=x.p) (n:=0) (x:=(.tmp 12)) (y:=(.const (iv 0))) (by simpa using h2))) (tR 18 [] λS _ _=>tB f (3-3) (by omega) [true] ⟨3,rfl,rfl,rfl,rfl,by omega⟩ (λF=>trivial))
 .refine tI ((decide ((j:Int)<3))) false (G' (by omega)) (tR 6 [0] λT _ _=>?_);by_cases Z:y.n=0
  .refine tV 3 (.bool true) (λF C=>(D4 (t:=3) (m:=(y.n:Int)) (n:=0) (x:=(.tmp 27)) (y:=(.const (iv 0))) (by simp;omega))) (tR 7 [] λU _ _=>tE (.bool true) λ_ B=>⟨rfl,B⟩)
  .refine tV 3 (.bool false) (λF C=>(D4 (t:=3) (m:=(y.n:Int)) (n:=0) (x:=(.tmp 27)) (y:=(.const (iv 0))) (by simp;omega))) (tR 3 [0] λV _ _=>tC1 7 (λF C=>YH (k:=x.k)) λ_=>tR 3 [] λW _ _=>?_);have l:x.k=1:=mV λe=>Z (by rw[hy,h.d0 e];rfl);exact tE (.bool (x.k==1)) λ_ B=>⟨by rw[l];rfl,B⟩
theorem RN(h:LacOk x)(b:y.n=x.d.length)(f:LWTab w)(c:LBTab w):Calls prog 28 #[.agg #[iv x.k,iv x.n,iv x.a,iv x.p,S3.v y]] w λe w'=>e=.returned (iv 0)/\Bw w w':=by
 have o:=h.d;refine tIn [] func28 trivial (tR 10 [0,0,0] λg _ _=>tC1 2 (λF C=>YO h.k) λ_=>tR 8 [0] λi _ _=>tC1 1 (λF C=>gP h b (f.af (CgQ.af C)) (c.af (CgQ.af C))) λ_=>tR 12 [0] λj _ _=>tI ((decide (2000<(y.n:Int)))) false (G' (by omega)) (tR 5 [0] λl _ _=>tC1 1 (λF C=>cI h b (f.af (CgQ.af C)) (c.af (CgQ.af C))) λ_=>tR 8 [] λm _ _=>tE (iv 0) λ_ B=>⟨rfl,B⟩))
def laV(x:Lac)(y:Value):List Value:=[.int .i64 x.k,.int .i64 x.n,.int .i64 x.a,.int .i64 x.p,y]
def zLa:Value:=.agg #[.int .i64 0,.int .i64 0,.int .i64 0,.int .i64 0,.slice none 0 0]
def lH:Lac:=⟨0,0,0,0,[]⟩
structure Sk(w:World)(x:Value)(F:Nat->Lac)(n:Nat):Prop where
 ex:∃ a cap,x=.slice a n cap/\(n=0\/∃ b off,a=some ⟨b,off,none⟩/\b<w.heap.size/\∀ i,i<n->∃ y,w.rangeAt b (off+5*i) (laV (F i) y)/\Sl w y (F i).d)
 len:n<=2513169434916
theorem Sk.af{x:Value}(h:Sk w x F n)(e:Bw w w'):Sk w' x F n:=by
 obtain⟨⟨a,c,rfl,d⟩,f⟩:=h;refine⟨⟨a,c,rfl,?_⟩,f⟩;rcases d with d|⟨b,off,ha,hbs,hcell⟩
 .exact .inl d
 .refine .inr ⟨b,off,ha,Z' hbs e.size,λi l=>?_⟩;obtain⟨y,g,k⟩:=hcell i l;exact⟨y,λj u m=>(e.cell (p:=⟨b,off+5*i+j,none⟩) hbs).trans (g j u m),k.af e⟩
theorem Sk.shape{x:Value}(h:Sk w x F n):∃ a cap,x=.slice a n cap:=by
 obtain⟨⟨a,cap,e,_⟩,_⟩:=h;exact⟨a,cap,e⟩
theorem Sk.spot{a:Option Addr}{c:Nat}(h:Sk w (.slice a n c) F n)(i:Nat)(j:i<n):∃ b off xa xm xp,a=some ⟨b,off,none⟩/\b<w.heap.size/\w.rangeAt b (off+5*i) (laV (F i) (.slice xa xm xp))/\Sl w (.slice xa xm xp) (F i).d:=by
 obtain⟨⟨k,f,e,g⟩,_⟩:=h;simp only[Value.slice.injEq]at e;obtain⟨rfl,_,rfl⟩:=e;rcases g with rfl|⟨b,off,rfl,hb,hcell⟩
 .omega
 .obtain⟨y,h3,h4⟩:=hcell i j;obtain⟨xa,xp,rfl⟩:=h4.qW;exact⟨b,off,xa,_,xp,rfl,hb,h3,h4⟩
def laF(l:List Lac):Nat->Lac:=λi=>l.getD i lH
theorem Pf{l:List Lac}(h:i<l.length):laF l i=l[i]:=by simp[laF,List.getD,List.getElem?_eq_getElem h]
def Jk(F:Nat->Lac)(n:Nat):List Lac:=(List.range n).map F
theorem Xl(F:Nat->Lac)(n:Nat):(Jk F n).length=n:=by simp[Jk]
theorem bF(h:j<n):(Jk F n).drop j=F j::(Jk F n).drop (j+1):=by
 have a:(Jk F n)[j]?=some (F j):=by simp[Jk,h]
 obtain⟨b,c⟩:=V'.1 a;rw[<- c];exact m9 b
def dG:Array Value:=#[iv 0,.bool false,.bool false,.bool false,.bool false,.bool false,S3.v s30,iv 0,iv 0,iv 0,iv 0,iv 0,S3.v s30]
def TR:List Tg:=.n 70 0::TM
theorem jo:Tg.z∉TR:=by simp[TR,TM,TN]
theorem jl:∀ t∈TM,t∈TR:=λt h=>I' _ h
theorem NR:gS.t b∉TR:=jo
theorem Base.self(w:World):Base w gS w:=⟨Below.refl _ _,λ_ _=>rfl⟩
theorem ZC{d:Option Addr}{a c:Nat}(f:d=some ⟨b,a,none⟩)(j:Nat)(g:j<n):(Instr.indexAt 33 (.slice d n c) (iv (j:Int))).run prog W=.ok (pt b (a+5*j)) W:=by
 subst f;exact Nn (P:=prog) (e:=36) (z:=5) underlying33 (by kernel_rfl) (by kernel_rfl) g _ rfl
theorem kl{k:Nat}{y:Value}(h:W.rangeAt b k (laV x y)):(Instr.loadAt 36 (pt b k)).run prog W=.ok (.agg #[iv x.k,iv x.n,iv x.a,iv x.p,y]) W:=by
 have c:=run_loadVar_mid (P:=prog) W b k 36 (laV x y) _ h underlying36 rfl (by kernel_rfl);simp only[Instr.loadAt,Instr.sureAddr,Sem.run_bind,Sem.run_pure,Result.andThen_ok];exact c
theorem OutN.mono(h:OutN B M ly tv ys)(b:C<=B):OutN C M ly tv ys:=⟨λa e=>mg b (h.qP a e),λj d c a e=>mg b (h.log j d c a e),λc a e=>mg b (h.eb c a e)⟩
theorem eo{lv:S3}(h:Sk w lv.v F n)(a9:∀ i,i<n->LacOk (F i))(f2:n<=100000)(hT:Tabs w)(tw:LWTab w)(tb:LBTab w) :
  Calls prog 17 #[lv.v] w λe w'=>Bw w w'/\∃ (ly tv:S3) (ys:Nat->S3),e=.returned (.tuple #[.agg (Nk (As.dc (Jk F n)) ly tv),iv 0])/\OutW w' (As.dc (Jk F n)) ly tv ys/\OutN w.heap.size (As.dc (Jk F n)) ly tv ys:=by
 obtain⟨X,lq,H⟩:=lv;have f4:lq=n:=by obtain⟨a,e1,hh⟩:=h.shape;simp only[S3.v,Value.slice.injEq]at hh;exact hh.2.1
 subst lq;have f3:=h.len;obtain⟨G,E⟩:∃ G,Jk F n=G:=⟨_,rfl⟩;have f1:G.length=n:=by rw[<- E];exact Xl F n
 rw[E];refine gI (fn:=f17) TR gS func17 (λ_ _=>⟨rfl,rfl⟩) (qR [] 12 [1,0] λd g1 w1 c1=>qI ((decide (100000<(n:Int)))) false (G' (by omega)) (qR [] 9 [] λh7 g3 w3 c3=>Cc 40 [(0,.slice X n H),(2,pt (d 0) 0),(14,.slice X n H),(15,iv (n:Int)),(16,iv 0)] [true] [⟨(d 0),.cells dG 42,.l,false⟩] (λk g' w' e L=>∃ j:Nat,k=n-j/\j<=n/\e=[(0,.slice X n H),(2,pt (d 0) 0),(14,.slice X n H),(15,iv (n:Int)),(16,iv (j:Int))]/\L=[⟨(d 0),.cells dG 42,.l,false⟩]/\Cg w.heap.size TR gS w g' w') (by kernel_rfl) (by kernel_rfl) (by kernel_rfl) (by kernel_rfl) n (λK=>?_) ?_))
 .exact⟨0,rfl,mL _,rfl,rfl,((c1.nil TR).n c3)⟩
 .rintro k gr wr _ zr _ ⟨j,rfl,hj,rfl,rfl,hC⟩ J hJ;refine qR [] 5 [] λh8 g4 w4 c4=>?_;by_cases h0:j<n
  .refine qI ((decide ((j:Int)<(n:Int)))) true (P' (by omega)) (qR [] 5 [] λh9 g5 w5 c5=>?_);obtain⟨b,r,I,M,N,R,Q,S,U⟩:=h.spot j h0;refine qV 0 (pt b (r+5*j)) (ZC R (n:=n) (c:=H) j h0) (qV 1 (.agg #[iv (F j).k,iv (F j).n,iv (F j).a,iv (F j).p,.slice I M N]) (kl (x:=F j) (y:=.slice I M N) (λq u W=>(((Cg.af (((hC).n c4).n c5) (λ_ _=>NR))).cell (p:=⟨b,r+5*j+q,none⟩) Q).trans (S q u W))) (qR [] 6 [0,0,1,0,1] λi0 g7 w7 c7=>?_));have a1:=(Cg.af ((((hC).n c4).n c5).n c7) (λ_ _=>NR));refine qC 1 (RN (x:=F j) (y:=⟨I,M,N⟩) (a9 j h0) (FT (x:=⟨I,M,N⟩) U) (tw.af a1) (tb.af a1)) ?_;rintro e' w8 ⟨rfl,b8⟩;refine⟨_,rfl,b8,?_⟩;have c8:=Cg.ed (B:=w.heap.size) (T:=[]) (g:=g7) b8;refine qR [] 7 [] λi1 g9 w9 c9=>qR [] 4 [] λd0 e2 f7 b2=>qV 0 (iv ((j:Int)+1)) (Bj 16 (j:Int) underlying3 (by omega)) (qR [] 2 [] λd1 e3 f8 b3=>qB [true,false] λz K0 K=>hJ (n-(j+1)) _ _ _ z _ (by omega) ⟨j+1,rfl,by omega,rfl,rfl,((((((((hC).n c4).n c5).n c7).n c8).n c9).n b2).n b3)⟩ K)
  .refine qI ((decide ((j:Int)<(n:Int)))) false (G' (by omega)) ?_;obtain rfl:j=n:=by omega
   refine qR [] 3 [] λd2 e4 f9 b4=>Af λK=>qG 0 [.n 70 0] [true] (LN K.new) ?_;rintro e' g0 ⟨mb,V,ob,nb,b6,rfl,a6,s⟩;refine⟨_,b6,rfl,s,a6.new,?_⟩;replace s:=s.ret (B:=w.heap.size);refine qR [] 10 [] λd3 e5 g2 a2=>Cc 40 [(2,pt (d 0) 0),(7,pt mb 0),(28,.slice X j H),(29,iv (j:Int)),(30,iv 0)] [true] [⟨(d 0),.cells dG 42,.l,false⟩] (λk g' w' e L=>∃ (i:Nat) (A:Meet),k=j-i/\i<=j/\e=[(2,pt (d 0) 0),(7,pt mb 0),(28,.slice X j H),(29,iv (j:Int)),(30,iv (i:Int))]/\L=[⟨(d 0),.cells dG 42,.l,false⟩]/\MS mb V ob nb g' w' A/\(G.drop i).foldl Meet.act A=As.dc G/\MOk i A/\Cg w.heap.size TR gS w g' w') (by kernel_rfl) (by kernel_rfl) (by kernel_rfl) (by kernel_rfl) j (λK=>?_) ?_
   .exact⟨0,As,rfl,mL _,rfl,rfl,(a6.qM a2 K.new),rfl,MOk.zero,(((((hC).n c4).n b4).trans (s.mono (by simp[TR]))).n a2)⟩
   .rintro k gq wq _ zq _ ⟨i,A,rfl,hi,rfl,rfl,hM,hI2,hA,hC2⟩ J2 hJ2;refine qR [] 5 [] λd4 e6 g6 m=>?_;by_cases h3:i<j
    .refine qI ((decide ((i:Int)<(j:Int)))) true (P' (by omega)) ?_;rw[<- E,bF h3,E,qt]at hI2
     have a8:LacOk (F i):=a9 i h3;refine qR [] 5 [] λd5 e7 g8 o=>?_;obtain⟨b,r,I,M,N,R,Q,S,U⟩:=h.spot i h3;refine qV 0 (pt b (r+5*i)) (ZC R (n:=j) (c:=H) i h3) (qV 1 (.agg #[iv (F i).k,iv (F i).n,iv (F i).a,iv (F i).p,.slice I M N]) (kl (x:=F i) (y:=.slice I M N) (λq u W=>(((Cg.af (((hC2).n m).n o) (λ_ _=>NR))).cell (p:=⟨b,r+5*i+q,none⟩) Q).trans (S q u W))) (qR [] 6 [0,0,1,0,1] λd6 b7 c6 C=>Af λK=>?_));have NM:MS mb V ob nb b7 c6 A:=(hM.qM ((m.trans o).trans C) K.new);have b1:=(Cg.af ((((hC2).n m).n o).n C) (λ_ _=>NR));refine qG 2 TM [true,true] (gE NM ((Base.self w).ch ((((hC2).n m).n o).n C) jo) hT (F i) ⟨I,M,N⟩ (U.af b1) a8 hA (by omega)) ?_;rintro e' h1 ⟨b9,rfl,Y,D⟩;refine⟨_,b9,rfl,D,Y.new,?_⟩;replace D:=D.ret (B:=w.heap.size);refine qR [] 3 [] λd7 e8 h2 a3=>qV 0 (iv ((i:Int)+1)) (Bj 30 (i:Int) underlying3 (by omega)) (qR [] 2 [] λd8 e9 h4 a4=>qB [true,false] λz K0 K=>hJ2 (j-(i+1)) _ _ _ z _ (by omega) ⟨i+1,A.act (F i),rfl,by omega,rfl,rfl,(Y.qM (a3.trans a4) K0.new),hI2,hA.act (by omega) a8,(((((((hC2).n m).n o).n C).trans (D.mono jl)).n a3).n a4)⟩ K)
    .refine qI ((decide ((i:Int)<(j:Int)))) false (G' (by omega)) ?_;obtain rfl:i=j:=by omega
     rw[na (by omega)]at hI2
     replace hI2:A=As.dc G:=hI2;subst hI2;refine qR [] 4 [] λd9 P b0 O=>Af λK=>?_;have NM:MS mb V ob nb P b0 (As.dc G):=(hM.qM (m.trans O) K.new);have f6:=hA.wt;have f5:=hA.eb;have c0:∀ b,b0.heap.size<=b->P.t b=.z:=λb hb=>(K.new b hb).1;have a0:=(Cg.af (((hC2).n m).n O) (λ_ _=>NR));refine qC 1 (QP NM (λq W=>⟨(hA.ab q W).dn,(hA.ab q W).ag⟩) (by omega) (by omega)) ?_;rintro e' h5 ⟨ly,tv,ys,rfl,c2,a7,Z⟩;refine⟨_,rfl,Z,?_⟩;have b5:=Cg.ed (B:=w.heap.size) (T:=[]) (g:=P) Z;refine qR [] 3 [0,0] λe0 f0 h6 a5=>qE2 2 3 42 0 (d 0) (Nk (As.dc G) ly tv) (iv 0) λK=>⟨(Cg.af (((((hC2).n m).n O).n b5).n a5) (λ_ _=>NR)),ly,tv,ys,rfl,(c2.ch a7 c0 a5),a7.mono a0.size⟩
end
end Go.Proofs.YtdjfdfpkkenjbacGreatDoor
