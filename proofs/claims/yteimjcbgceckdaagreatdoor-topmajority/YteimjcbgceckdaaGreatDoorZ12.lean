/- Part 12 of the walk. -/
import Derived.Lib.AppendZeros
import Derived.Test.YteimjcbgceckdaaGreatDoorZ11
set_option maxRecDepth 100000
set_option maxHeartbeats 4000000
open Go.Proofs.Tryz
set_option linter.unusedVariables false
namespace Go.Proofs.YteimjcbgceckdaaGreatDoor
section
open Go.RowKit
section
theorem Qy(p:Nod)(b:Bal):(p.av b).1.ae=p.ae:=by
 unfold Nod.av;repeat' split
 all_goals rfl
variable{B C b i j mb n ob sz tb:Nat}{F:Nat->Lac}{M:Meet}{W w w' w0:World}{e:TypeId}{g g':Gh}{k:Int}{ly tv y:S3}{nb:Nat->Nat}{vs xs:List Value}{x:Lac}{ys:Nat->S3}
theorem Y4{nb:Nat}{p:Nod}{U:List Let}{V:List Tol}(h:NS i nb ob g w p U V){w0:World}(hB:Base w0 g w)(hT:Tabs w0)(hb:p.bu.length<100000000)(hr:p.dc<1000000000000)(b3:-1000000000000<p.dc)(hv:p.vo.p.r<1000000000000) :
  Calls prog 48 #[pt nb 0] w (NP i nb ob g w (.tuple #[]) (if p.up then p.lead i else p) U V):=by
 obtain⟨x,lt,tl,Z,hO,hg⟩:=h;refine gI (fn:=f48) (TN i) g func48 hg (qN Z (qO hO (qR [] 13 [0,0,2,0] λm g1 w1 I=>?_)));by_cases T:p.up=true
 .refine qI ((!p.up)) false (by simpa using T) ?_;rw[if_pos T];refine qR [] 15 [21,0,2,2,4,6,8,0,10,2,12,14,16,18,20,22,0] λs2 g2 w2 R=>qT 12 (iv (max p.dc p.vo.p.r)) (λ_=>(jR #[3,3] 3 p.dc p.vo.p.r)) (qT 13 (iv ((max p.dc p.vo.p.r)+1)) (λ_=>(Bd 23 (max p.dc p.vo.p.r) underlying3 (by omega))) (qR [] 12 [28,2,30,32,34,0,36,39,0,0,41,3,0,2,3] λo g4 w4 S=>Af λK=>?_));have N5:NS i nb ob g4 w4 p U V:=(nsC Z hO ((I.n R).n S) K);refine qG 2 (TN i) [false,false,true,true] (Ft N5 (hB.ch (((I.nil (TN i)).n R).n S) (Bp i)) hT (⟨(max p.dc p.vo.p.r)+1,(i:Int)⟩:Bal)) ?_;rintro e' w5 ⟨u,g5,rfl,a0,M5,L⟩;refine⟨_,g5,rfl,L,M5.new,?_⟩;replace L:=L.ret (B:=w.heap.size);obtain⟨c,e,j,a,H,b2⟩:=M5;refine qN a (qO H (qR [] 13 [0,0,4,0] λq g7 w7 M=>?_));by_cases N:(p.av (⟨(max p.dc p.vo.p.r)+1,(i:Int)⟩:Bal)).2.2≠0
  .refine qI (((p.av (⟨(max p.dc p.vo.p.r)+1,(i:Int)⟩:Bal)).2.2 != 0)) true (by simpa using N) (qE (.tuple #[]) λK=>?_);rw[show p.lead i=(p.av (⟨(max p.dc p.vo.p.r)+1,(i:Int)⟩:Bal)).1 from by rw[LK N];exact if_pos N];exact⟨_,rfl,(nsC a H M K),(((((I.nil (TN i)).n R).n S).trans (L)).n M)⟩
  .refine qI (((p.av (⟨(max p.dc p.vo.p.r)+1,(i:Int)⟩:Bal)).2.2 != 0)) false (by simpa using N) (qR [.n 0 i] 17 [0,1,2,1] λb4 a4 c6 y=>fd 5 64 [(1,pt (m 0) 0),(2,pt (o 0) 0),(3,pt (q 0) 0),(44,iv 0)] [true,true,true,true,true] [⟨(m 0),.cells #[pt nb 0] 96,.z,false⟩,⟨(o 0),.cells #[iv ((max p.dc p.vo.p.r)+1),iv (i:Int)] 101,.z,false⟩,⟨nb,.cells (AD i ob ({ (p.av (⟨(max p.dc p.vo.p.r)+1,(i:Int)⟩:Bal)).1 with bn:=⟨(⟨(max p.dc p.vo.p.r)+1,(i:Int)⟩:Bal),λ_=>false,λ_=>DA,λk=>if k<0 then c.ae.n else 0,0,[]⟩ }) ({ c with hv:=λ_=>s30,fv:=s30 })) 122,.n 0 i,false⟩,⟨ob,.cells #[S3.v e,S3.v j] 93,.n 50 0,false⟩,⟨(q 0),.cells #[S3.v u] 102,.z,false⟩] (by kernel_rfl) (by kernel_rfl) (by kernel_rfl) (by kernel_rfl) λs b z=>qR [.n 0 i] 35 [13,0,0,2,4,0,6,8,10,12,2,14,16,18,20,22,24,27,2,1] λb5 a5 c8 A=>Ey (s 5) 64 [(1,pt (m 0) 0),(2,pt (o 0) 0),(3,pt (q 0) 0),(44,iv 1)] [true,true,true,true,true] [⟨(m 0),.cells #[pt nb 0] 96,.z,false⟩,⟨(o 0),.cells #[iv ((max p.dc p.vo.p.r)+1),iv (i:Int)] 101,.z,false⟩,⟨nb,.cells (AD i ob ({ (p.av (⟨(max p.dc p.vo.p.r)+1,(i:Int)⟩:Bal)).1 with bn:=⟨(⟨(max p.dc p.vo.p.r)+1,(i:Int)⟩:Bal),λ_=>false,λ_=>DA,λk=>if k<1 then c.ae.n else 0,0,[]⟩ }) ({ c with hv:=λ_=>s30,fv:=s30 })) 122,.n 0 i,false⟩,⟨ob,.cells #[S3.v e,S3.v j] 93,.n 50 0,false⟩,⟨(q 0),.cells #[S3.v u] 102,.z,false⟩] (by kernel_rfl) (by kernel_rfl) (by kernel_rfl) (by kernel_rfl) (by kernel_rfl) λz Q K=>b 4 _ _ _ _ _ ?_ K);refine qR [.n 0 i] 35 [13,0,0,2,4,0,6,8,10,12,2,14,16,18,20,22,24,27,2,1] λb6 a6 c9 C=>Ey (s 4) 64 [(1,pt (m 0) 0),(2,pt (o 0) 0),(3,pt (q 0) 0),(44,iv 2)] [true,true,true,true,true] [⟨(m 0),.cells #[pt nb 0] 96,.z,false⟩,⟨(o 0),.cells #[iv ((max p.dc p.vo.p.r)+1),iv (i:Int)] 101,.z,false⟩,⟨nb,.cells (AD i ob ({ (p.av (⟨(max p.dc p.vo.p.r)+1,(i:Int)⟩:Bal)).1 with bn:=⟨(⟨(max p.dc p.vo.p.r)+1,(i:Int)⟩:Bal),λ_=>false,λ_=>DA,λk=>if k<2 then c.ae.n else 0,0,[]⟩ }) ({ c with hv:=λ_=>s30,fv:=s30 })) 122,.n 0 i,false⟩,⟨ob,.cells #[S3.v e,S3.v j] 93,.n 50 0,false⟩,⟨(q 0),.cells #[S3.v u] 102,.z,false⟩] (by kernel_rfl) (by kernel_rfl) (by kernel_rfl) (by kernel_rfl) (by kernel_rfl) λz Q K=>b 3 _ _ _ _ _ ?_ K;refine qR [.n 0 i] 35 [13,0,0,2,4,0,6,8,10,12,2,14,16,18,20,22,24,27,2,1] λb7 a7 d0 D=>Ey (s 3) 64 [(1,pt (m 0) 0),(2,pt (o 0) 0),(3,pt (q 0) 0),(44,iv 3)] [true,true,true,true,true] [⟨(m 0),.cells #[pt nb 0] 96,.z,false⟩,⟨(o 0),.cells #[iv ((max p.dc p.vo.p.r)+1),iv (i:Int)] 101,.z,false⟩,⟨nb,.cells (AD i ob ({ (p.av (⟨(max p.dc p.vo.p.r)+1,(i:Int)⟩:Bal)).1 with bn:=⟨(⟨(max p.dc p.vo.p.r)+1,(i:Int)⟩:Bal),λ_=>false,λ_=>DA,λk=>if k<3 then c.ae.n else 0,0,[]⟩ }) ({ c with hv:=λ_=>s30,fv:=s30 })) 122,.n 0 i,false⟩,⟨ob,.cells #[S3.v e,S3.v j] 93,.n 50 0,false⟩,⟨(q 0),.cells #[S3.v u] 102,.z,false⟩] (by kernel_rfl) (by kernel_rfl) (by kernel_rfl) (by kernel_rfl) (by kernel_rfl) λz Q K=>b 2 _ _ _ _ _ ?_ K;refine qR [.n 0 i] 35 [13,0,0,2,4,0,6,8,10,12,2,14,16,18,20,22,24,27,2,1] λb8 a8 d1 E=>Ey (s 2) 64 [(1,pt (m 0) 0),(2,pt (o 0) 0),(3,pt (q 0) 0),(44,iv 4)] [true,true,true,true,true] [⟨(m 0),.cells #[pt nb 0] 96,.z,false⟩,⟨(o 0),.cells #[iv ((max p.dc p.vo.p.r)+1),iv (i:Int)] 101,.z,false⟩,⟨nb,.cells (AD i ob ({ (p.av (⟨(max p.dc p.vo.p.r)+1,(i:Int)⟩:Bal)).1 with bn:=⟨(⟨(max p.dc p.vo.p.r)+1,(i:Int)⟩:Bal),λ_=>false,λ_=>DA,λk=>if k<4 then c.ae.n else 0,0,[]⟩ }) ({ c with hv:=λ_=>s30,fv:=s30 })) 122,.n 0 i,false⟩,⟨ob,.cells #[S3.v e,S3.v j] 93,.n 50 0,false⟩,⟨(q 0),.cells #[S3.v u] 102,.z,false⟩] (by kernel_rfl) (by kernel_rfl) (by kernel_rfl) (by kernel_rfl) (by kernel_rfl) λz Q K=>b 1 _ _ _ _ _ ?_ K;refine qR [.n 0 i] 35 [13,0,0,2,4,0,6,8,10,12,2,14,16,18,20,22,24,27,2,1] λb9 a9 d2 F=>Ey (s 1) 64 [(1,pt (m 0) 0),(2,pt (o 0) 0),(3,pt (q 0) 0),(44,iv 5)] [true,true,true,true,true] [⟨(m 0),.cells #[pt nb 0] 96,.z,false⟩,⟨(o 0),.cells #[iv ((max p.dc p.vo.p.r)+1),iv (i:Int)] 101,.z,false⟩,⟨nb,.cells (AD i ob ({ (p.av (⟨(max p.dc p.vo.p.r)+1,(i:Int)⟩:Bal)).1 with bn:=⟨(⟨(max p.dc p.vo.p.r)+1,(i:Int)⟩:Bal),λ_=>false,λ_=>DA,λk=>if k<5 then c.ae.n else 0,0,[]⟩ }) ({ c with hv:=λ_=>s30,fv:=s30 })) 122,.n 0 i,false⟩,⟨ob,.cells #[S3.v e,S3.v j] 93,.n 50 0,false⟩,⟨(q 0),.cells #[S3.v u] 102,.z,false⟩] (by kernel_rfl) (by kernel_rfl) (by kernel_rfl) (by kernel_rfl) (by kernel_rfl) λz Q K=>b 0 _ _ _ _ _ ?_ K;refine qR [] 10 [0] λc0 Y a1 G=>?_;have hn:c.ae.n=p.ae.length:=by have:=a.ae.num;rw[Qy]at this;exact this
   rw[show p.lead i=Nod.wait { (p.av (⟨(max p.dc p.vo.p.r)+1,(i:Int)⟩:Bal)).1 with bn:=⟨(⟨(max p.dc p.vo.p.r)+1,(i:Int)⟩:Bal),λ_=>false,λ_=>DA,λ_=>c.ae.n,0,[]⟩ } (.began (⟨(max p.dc p.vo.p.r)+1,(i:Int)⟩:Bal) (p.av (⟨(max p.dc p.vo.p.r)+1,(i:Int)⟩:Bal)).2.1)from by rw[hn];exact if_neg N];refine Af λK=>?_;obtain⟨z1,z2⟩:=K.qX 0 (m 0) (.cells #[pt nb 0] 96) false (by kernel_rfl);obtain⟨z3,z4⟩:=K.qX 1 (o 0) (.cells #[iv (⟨(max p.dc p.vo.p.r)+1,(i:Int)⟩:Bal).r,iv (⟨(max p.dc p.vo.p.r)+1,(i:Int)⟩:Bal).n] 101) false (by kernel_rfl);obtain⟨z5,z6⟩:=K.qX 4 (q 0) (.cells #[S3.v u] 102) false (by kernel_rfl);have d:=(((((((M.nil ([.n 0 i]:List Tg)).trans (y)).trans (A)).trans (C)).trans (D)).trans (E)).trans (F)).n G;have t:Tg.z∉([.n 0 i]:List Tg):=by simp
   have W:NS i nb ob Y a1 ({ (p.av (⟨(max p.dc p.vo.p.r)+1,(i:Int)⟩:Bal)).1 with bn:=⟨(⟨(max p.dc p.vo.p.r)+1,(i:Int)⟩:Bal),λ_=>false,λ_=>DA,λ_=>c.ae.n,0,[]⟩ }) U V:=⟨{ c with hv:=λ_=>s30,fv:=s30 },e,j,K.nd 2 (a.tape.ch d t) (a.ni.ch d t) (λ_ _=>⟨Sv.nil _,λh=>absurd rfl h⟩) (BZ a.bu d t (by simp)) (OwnS.nil _ _ _ _ _ _) (a.ae.ch d) (a.au.ch d) (a.bN.ch d) a.rp,H.ch d t (by simp<;>omega),K.new⟩;refine qS0 2 [true,true,false,false,true] (AO W (by show(p.av (⟨(max p.dc p.vo.p.r)+1,(i:Int)⟩:Bal)).1.bu.length<_;rw[F1];exact hb) _ _ (.began (⟨(max p.dc p.vo.p.r)+1,(i:Int)⟩:Bal) (p.av (⟨(max p.dc p.vo.p.r)+1,(i:Int)⟩:Bal)).2.1) ⟨(m 0),(o 0),(q 0),u,rfl,⟨z1,z2⟩,⟨z3,z4⟩,⟨z5,z6⟩,((((((((a0.ch M).ch y).ch A).ch C).ch D).ch E).ch F).ch G)⟩) λb0 d3 d5 a2 a3 O P X=>qR [] 1 [] λc3 b1 d4 J=>qF O P J ((((((((((((((I.nil (TN i)).n R).n S).trans (L)).n M).trans (y.mono (by simp[TN]))).trans (A.mono (by simp[TN]))).trans (C.mono (by simp[TN]))).trans (D.mono (by simp[TN]))).trans (E.mono (by simp[TN]))).trans (F.mono (by simp[TN]))).n G).trans (X)).n J)
 .refine qI ((!p.up)) true (by simpa using T) (qE (.tuple #[]) λK=>?_);rw[if_neg T];exact⟨_,rfl,(nsC Z hO I K),(I.nil (TN i))⟩
theorem lz(h:1<=k/\k<=9):k=1\/k=2\/k=3\/k=4\/k=5\/k=6\/k=7\/k=8\/k=9:=by omega
theorem gk(h:MS mb tb ob nb g w M){w0:World}(C:Base w0 g w)(D:Tabs w0)(x:Lac)(dv:S3)(hd:Sl w dv.v x.d)(E:LacOk x){n:Nat}(y:MOk n M)(hn:n<=1000000) :
  Calls prog 29 #[pt mb 0,.agg #[iv x.k,iv x.n,iv x.a,iv x.p,dv.v]] w (MP mb tb ob nb g w (.tuple #[]) (M.act x)):=by
 obtain⟨j,a8,e⟩:∃ j:Nat,x.n=(j:Int)/\j<5:=by
  cases hu:FM x.k with
  | true=>have:=E.n hu;exact⟨x.n.toNat,by omega,by omega⟩
  | false=>have:=E.n0 hu;exact⟨0,by omega,by omega⟩
 obtain⟨at_,a7,i⟩:∃ at_:Nat,x.a=(at_:Int)/\at_<=1048576:=by
  cases hu:GU x.k with
  | true=>have:=E.a hu;exact⟨x.a.toNat,by omega,by omega⟩
  | false=>have:=E.a0 hu;exact⟨0,by omega,by omega⟩
 have d6:0<=x.p/\x.p<=100000:=by
  cases hu:GV x.k with
  | true=>exact E.p hu
  | false=>have:=E.p0 hu;omega
 have a9:=E.k;obtain⟨k,xn,xa,p,d⟩:=x;simp only at a8 a7 d6 a9 hd ⊢;subst a8 a7;clear E;have hp:=y.ab j e;have h7:=y.wt;have h6:=y.ed;have h4:=Ed (M.ab j).bu;have h5:=Q6 M e;have h8:=aQ M e;have h3:=y.bad j e;refine gI (fn:=f29) TM g func29 h.new (Cj ⟨mb,_,.z,false⟩ (λ_=>⟨h.box.r,h.box.z,λh=>(by cases h),λh=>absurd rfl h⟩) (by kernel_rfl) ?_);refine qR [] 11 [0,0,8,0,2,4,1,6,8] λj3 g1 w1 b=>?_;refine PT 5 (pt mb j) false (λW hW=>(by rcases qm e with rfl|rfl|rfl|rfl|rfl<;>kernel_rfl)) (by kernel_rfl) ?_;refine qU 6 (pt (nb j) 0) (λW hW=>(CQ underlying96 rfl (Ug (AR.at (hW rfl) 0 mb (.cells (mtA nb ob tb) 99) .z (by kernel_rfl)) e))) (qR [] 13 [14,1] λj4 g3 w3 c=>?_);rcases lz a9 with rfl|rfl|rfl|rfl|rfl|rfl|rfl|rfl|rfl
 .refine qR [] 5 [1] λj5 g4 w4 c4=>?_;rw[show M.act ⟨1,(j:Int),(at_:Int),p,d⟩=(M.set j ((M.ab j).qx j d M.ed).1 M.br ((M.ab j).qx j d M.ed).2)from rfl];refine Af λK=>?_;have N5:MS mb tb ob nb g4 w4 M:=(h.qy ((b.trans c).trans c4) K.new);refine qG 3 TM [true,true] ((N5).call e (Wv ((N5).ns e) (C.ch (((b.nil TM).n c).n c4) Fd) D dv d (hd.af (Cg.af ((b.trans c).trans c4) (λ_ _=>P'))) hp (by omega) (by omega) (by omega) rfl rfl)) ?_;rintro A w5 ⟨g5,rfl,M5,c5⟩;refine⟨_,g5,rfl,c5,M5.new,?_⟩;replace c5:=c5.ret (B:=w.heap.size);refine qR [] 2 [] λj6 g6 w6 c6=>qE (.tuple #[]) λK=>⟨_,rfl,(M5.qy c6 K.new),(((((b.nil TM).n c).n c4).trans (c5)).n c6)⟩
 .refine qR [] 9 [] λj7 g7 w7 c7=>?_;rw[show M.act ⟨2,(j:Int),(at_:Int),p,d⟩=(M.set j (if(M.ab j).up then(M.ab j).lead j else(M.ab j)) M.br M.ed)from rfl];refine Af λK=>?_;have N8:MS mb tb ob nb g7 w7 M:=(h.qy ((b.trans c).trans c7) K.new);refine qG 1 TM [true,true] ((N8).call e (Y4 ((N8).ns e) (C.ch (((b.nil TM).n c).n c7) Fd) D (by omega) (by have:=hp.ro;omega) (by have:=hp.ro;omega) (by have:=hp.vp.sT;omega))) ?_;rintro A w8 ⟨g8,rfl,M8,c8⟩;refine⟨_,g8,rfl,c8,M8.new,?_⟩;replace c8:=c8.ret (B:=w.heap.size);refine qR [] 2 [] λj8 g9 w9 c9=>qE (.tuple #[]) λK=>⟨_,rfl,(M8.qy c9 K.new),(((((b.nil TM).n c).n c7).trans (c8)).n c9)⟩
 .refine qR [] 15 [] λe4 b4 d7 F=>?_;rw[show M.act ⟨3,(j:Int),(at_:Int),p,d⟩=(M.set j (if(M.ab j).up then((M.ab j).piece j M.br M.ed).1 else(M.ab j)) (if(M.ab j).up then((M.ab j).piece j M.br M.ed).2.1 else M.br) (if(M.ab j).up then((M.ab j).piece j M.br M.ed).2.2 else M.ed))from rfl];refine Af λK=>?_;have U:MS mb tb ob nb b4 d7 M:=(h.qy ((b.trans c).trans F) K.new);refine qG 1 TM [true,true] ((U).call e (Zd ((U).ns e) (C.ch (((b.nil TM).n c).n F) Fd) D e hp (by omega) y.br (by omega))) ?_;rintro A h9 ⟨b5,rfl,N,l⟩;refine⟨_,b5,rfl,l,N.new,?_⟩;replace l:=l.ret (B:=w.heap.size);refine qR [] 2 [] λe5 f8 i0 Y=>qE (.tuple #[]) λK=>⟨_,rfl,(N.qy Y K.new),(((((b.nil TM).n c).n F).trans (l)).n Y)⟩
 .refine qR [] 28 [1,1] λe6 b6 d8 G=>?_;rw[show M.act ⟨4,(j:Int),(at_:Int),p,d⟩=(M.move 4 at_)from rfl];refine Af λK=>?_;have b0:MS mb tb ob nb b6 d8 M:=(h.qy ((b.trans c).trans G) K.new);refine qG 5 TM [true,true] (LB b0 (C.ch (((b.nil TM).n c).n G) Fd) D 4 at_ i y hn) ?_;rintro A i1 ⟨b7,rfl,O,m⟩;refine⟨_,b7,rfl,m,O.new,?_⟩;replace m:=m.ret (B:=w.heap.size);refine qR [] 2 [] λe7 f9 i2 Z=>qE (.tuple #[]) λK=>⟨_,rfl,(O.qy Z K.new),(((((b.nil TM).n c).n G).trans (m)).n Z)⟩
 .refine qR [] 34 [1,1] λe8 b8 d9 H=>?_;rw[show M.act ⟨5,(j:Int),(at_:Int),p,d⟩=(M.move 5 at_)from rfl];refine Af λK=>?_;have b1:MS mb tb ob nb b8 d9 M:=(h.qy ((b.trans c).trans H) K.new);refine qG 5 TM [true,true] (LB b1 (C.ch (((b.nil TM).n c).n H) Fd) D 5 at_ i y hn) ?_;rintro A i3 ⟨b9,rfl,P,o⟩;refine⟨_,b9,rfl,o,P.new,?_⟩;replace o:=o.ret (B:=w.heap.size);refine qR [] 2 [] λe9 g0 i4 a1=>qE (.tuple #[]) λK=>⟨_,rfl,(P.qy a1 K.new),(((((b.nil TM).n c).n H).trans (o)).n a1)⟩
 .refine qR [] 37 [1,1] λf0 c0 e0 I=>?_;rw[show M.act ⟨6,(j:Int),(at_:Int),p,d⟩=(M.move 6 at_)from rfl];refine Af λK=>?_;have b2:MS mb tb ob nb c0 e0 M:=(h.qy ((b.trans c).trans I) K.new);refine qG 5 TM [true,true] (LB b2 (C.ch (((b.nil TM).n c).n I) Fd) D 6 at_ i y hn) ?_;rintro A i5 ⟨c2,rfl,Q,q⟩;refine⟨_,c2,rfl,q,Q.new,?_⟩;replace q:=q.ret (B:=w.heap.size);refine qR [] 2 [] λf1 g2 i6 a2=>qE (.tuple #[]) λK=>⟨_,rfl,(Q.qy a2 K.new),(((((b.nil TM).n c).n I).trans (q)).n a2)⟩
 .refine qR [] 39 [] λf2 d0 e1 J=>?_;rw[show M.act ⟨7,(j:Int),(at_:Int),p,d⟩=M.qv from rfl];refine Af λK=>?_;have b3:MS mb tb ob nb d0 e1 M:=(h.qy ((b.trans c).trans J) K.new);refine qG 1 TM [true,true] (P9 b3 (C.ch (((b.nil TM).n c).n J) Fd) D y hn) ?_;rintro A i7 ⟨d1,rfl,R,s⟩;refine⟨_,d1,rfl,s,R.new,?_⟩;replace s:=s.ret (B:=w.heap.size);refine qR [] 2 [] λf3 h0 i8 a3=>qE (.tuple #[]) λK=>⟨_,rfl,(R.qy a3 K.new),(((((b.nil TM).n c).n J).trans (s)).n a3)⟩
 .refine qR [] 47 [1] λf4 d2 e2 a4=>?_;rw[show M.act ⟨8,(j:Int),(at_:Int),p,d⟩=(M.set j (if(M.ab j).up then(M.ab j).lr p else(M.ab j)) M.br M.ed)from rfl];refine Af λK=>?_;have V:MS mb tb ob nb d2 e2 M:=(h.qy ((b.trans c).trans a4) K.new);refine qG 3 TM [true,true] ((V).call e (X4 ((V).ns e) p (by omega) (by omega))) ?_;rintro A i9 ⟨d3,rfl,S,t⟩;refine⟨_,d3,rfl,t,S.new,?_⟩;replace t:=t.ret (B:=w.heap.size);refine qR [] 2 [] λf5 h1 j0 a5=>qE (.tuple #[]) λK=>⟨_,rfl,(S.qy a5 K.new),(((((b.nil TM).n c).n a4).trans (t)).n a5)⟩
 .refine qR [] 51 [] λf6 d4 e3 L=>?_;rw[show M.act ⟨9,(j:Int),(at_:Int),p,d⟩=(M.set j (if(M.ab j).up then(M.ab j)else(M.ab j).start) M.br M.ed)from rfl];refine Af λK=>?_;have X:MS mb tb ob nb d4 e3 M:=(h.qy ((b.trans c).trans L) K.new);refine qG 1 TM [true,true] ((X).call e (ZE ((X).ns e) (C.ch (((b.nil TM).n c).n L) Fd) D)) ?_;rintro A j1 ⟨d5,rfl,T,u⟩;refine⟨_,d5,rfl,u,T.new,?_⟩;replace u:=u.ret (B:=w.heap.size);refine qR [] 2 [] λf7 h2 j2 a6=>qE (.tuple #[]) λK=>⟨_,rfl,(T.qy a6 K.new),(((((b.nil TM).n c).n L).trans (u)).n a6)⟩
theorem fh{f:Bool}(h:OwnS g' w' (.n 60 0) f e sz y xs)(c:Cg w.heap.size [.n 60 0] gz w g' w'):∀ a,y.a=some a->w.heap.size<=a.block:=by
 intro a d;rcases h.ex with⟨h1,_⟩|⟨b,_,h1,_,_,_,_,_,h7,_⟩
 .rw[h1]at d;cases d
 .rw[h1]at d
  simp only[X']at d;subst d;rcases mN b w.heap.size with hlt|hge
  .have:=c.tag hlt (λh=>hlt);rw[h7]at this;cases this
  .exact hge
theorem R4{x:S3}(h:RdV w x 5 vs)(I:∀ u∈vs,u.oneCell'=true)(M:x.n<100000000) :
  Calls prog 55 #[x.v] w λe w'=>∃ y:S3,e=.returned y.v/\RdV w' y 5 vs/\y.n=x.n/\(vs≠[]->∀ a,y.a=some a->w.heap.size<=a.block)/\Bw w w':=by
 obtain⟨T,c,k⟩:=x;simp only at M;refine gI (fn:=f55) [.n 60 0] gz func55 (λ_ _=>⟨rfl,rfl⟩) (qR [] 8 [] λU Z w1 d=>?_);by_cases C:T=none
 .subst C;have o:k=0:=h.rO rfl;have q:c=0:=by have:=h.cap;simp only at this;omega
  subst o q;refine qV 1 (.bool true) (dC (z:=⟨none,0,0⟩) (t:=46) (e:=30) (x:=(.tmp 3)) (y:=(.const (sn))) rfl underlying46 (by kernel_rfl)) (qR [] 6 [] λV g2 w2 F=>qE (S3.v s30) λK=>⟨s30,rfl,⟨h.len,A' _,λ_=>rfl,.inl rfl⟩,rfl,λ_ a L=>(by cases L),Cg.af ((d.nil [.n 60 0]).n F) (λ_ _=>Ek)⟩)
 .obtain⟨ad,rfl⟩:=nL.1 C;refine qV 1 (.bool false) (dC (z:=⟨some ad,c,k⟩) (t:=46) (e:=30) (x:=(.tmp 3)) (y:=(.const (sn))) rfl underlying46 (by kernel_rfl)) (qR [] 7 [62,0] λb H S g=>?_);by_cases D:c=0
  .subst D;obtain⟨s,r⟩:∃ s,prog.info? 30=some s:=m5.1 (by kernel_rfl);refine qV 2 (.slice (some ⟨(b 0),0,none⟩) 0 0) (fs 46 46 30 s underlying46 r (b 0) ad k) (qR [] 2 [] λW g4 w4 G=>qE (S3.v ⟨some ⟨(b 0),0,none⟩,0,0⟩) λK=>⟨_,rfl,⟨h.len,A' _,λh=>(by cases h),.inl rfl⟩,rfl,λO=>absurd (Y' (by rw[h.len];exact p9 5)) O,Cg.af (((d.nil [.n 60 0]).n g).n G) (λ_ _=>Ek)⟩)
  .obtain⟨bx,ox,hx1,hx2,hx3⟩:∃ bx ox,(some ad:Option Addr)=some ⟨bx,ox,none⟩/\bx<w.heap.size/\∀ j u,vs[j]?=some u->w.cell? ⟨bx,ox+j,none⟩=some u:=by rcases h.ex with h|h;exact absurd h D;exact h
   simp only[X']at hx1;subst hx1;refine Af λK=>?_;obtain⟨P,Q,R⟩:=K.sI 0 (b 0) (.cells #[] 30) 60 0 true (by kernel_rfl);have J:OwnS H S (.n 60 0) true 30 5 ⟨some ⟨(b 0),0,none⟩,0,0⟩ []:=⟨rfl,.inr ⟨(b 0),#[],rfl,P,A' _,mA _,rfl,rfl,Q,R⟩⟩;refine Il [false] ?_;have m:=Cg.af ((d.nil [.n 60 0]).n g) (λ_ _=>Ek);refine Km 2 (x:=⟨some ⟨(b 0),0,none⟩,0,0⟩) 46 46 30 5 40 (.agg #[iv 0,iv 0,iv 0,iv 0,iv 0]) ⟨bx,ox,none⟩ c k vs J (by kernel_rfl) (by kernel_rfl) (by kernel_rfl) underlying46 (by kernel_rfl) (by kernel_rfl) (by decide) (by omega) h.len I (λK j u N=>by rw[Kh];exact(m.cell (p:=⟨bx,ox+j,none⟩) hx2).trans (hx3 j u N)) (by show 0+c<=_;unfold maxLen;omega) (by show(0+c)*40<=_;omega) ?_;intro E g5 w5 A n5 l Y;have B:=l w.heap.size [.n 60 0] (D'.2 rfl);refine qR [] 2 [] λX g6 w6 i=>qE (S3.v E) λK=>⟨E,rfl,(by have:=(A.ch i).rv;rwa [m7]at this),(by rw[n5];show 0+c=c;omega),λ_=>fh (A.ch i) ((((d.nil [.n 60 0]).n g).trans B).n i),Cg.af ((((d.nil [.n 60 0]).n g).trans B).n i) (λ_ _=>Ek)⟩
theorem KZ{x:S3}(h:RdV w x 5 vs)(I:∀ u∈vs,u.oneCell'=true)(M:x.n<100000000) :
  Calls prog 54 #[x.v] w λe w'=>∃ y:S3,e=.returned y.v/\RdV w' y 5 vs/\y.n=x.n/\(vs≠[]->∀ a,y.a=some a->w.heap.size<=a.block)/\Bw w w':=by
 obtain⟨T,c,k⟩:=x;simp only at M;refine gI (fn:=f54) [.n 60 0] gz func54 (λ_ _=>⟨rfl,rfl⟩) (qR [] 8 [] λU Z w1 d=>?_);by_cases C:T=none
 .subst C;have o:k=0:=h.rO rfl;have q:c=0:=by have:=h.cap;simp only at this;omega
  subst o q;refine qV 1 (.bool true) (dC (z:=⟨none,0,0⟩) (t:=40) (e:=128) (x:=(.tmp 3)) (y:=(.const (sn))) rfl underlying40 (by kernel_rfl)) (qR [] 6 [] λV g2 w2 F=>qE (S3.v s30) λK=>⟨s30,rfl,⟨h.len,A' _,λ_=>rfl,.inl rfl⟩,rfl,λ_ a L=>(by cases L),Cg.af ((d.nil [.n 60 0]).n F) (λ_ _=>Ek)⟩)
 .obtain⟨ad,rfl⟩:=nL.1 C;refine qV 1 (.bool false) (dC (z:=⟨some ad,c,k⟩) (t:=40) (e:=128) (x:=(.tmp 3)) (y:=(.const (sn))) rfl underlying40 (by kernel_rfl)) (qR [] 7 [62,0] λb H S g=>?_);by_cases D:c=0
  .subst D;obtain⟨s,r⟩:∃ s,prog.info? 128=some s:=m5.1 (by kernel_rfl);refine qV 2 (.slice (some ⟨(b 0),0,none⟩) 0 0) (fs 40 40 128 s underlying40 r (b 0) ad k) (qR [] 2 [] λW g4 w4 G=>qE (S3.v ⟨some ⟨(b 0),0,none⟩,0,0⟩) λK=>⟨_,rfl,⟨h.len,A' _,λh=>(by cases h),.inl rfl⟩,rfl,λO=>absurd (Y' (by rw[h.len];exact p9 5)) O,Cg.af (((d.nil [.n 60 0]).n g).n G) (λ_ _=>Ek)⟩)
  .obtain⟨bx,ox,hx1,hx2,hx3⟩:∃ bx ox,(some ad:Option Addr)=some ⟨bx,ox,none⟩/\bx<w.heap.size/\∀ j u,vs[j]?=some u->w.cell? ⟨bx,ox+j,none⟩=some u:=by rcases h.ex with h|h;exact absurd h D;exact h
   simp only[X']at hx1;subst hx1;refine Af λK=>?_;obtain⟨P,Q,R⟩:=K.sI 0 (b 0) (.cells #[] 128) 60 0 true (by kernel_rfl);have J:OwnS H S (.n 60 0) true 128 5 ⟨some ⟨(b 0),0,none⟩,0,0⟩ []:=⟨rfl,.inr ⟨(b 0),#[],rfl,P,A' _,mA _,rfl,rfl,Q,R⟩⟩;refine Il [false] ?_;have m:=Cg.af ((d.nil [.n 60 0]).n g) (λ_ _=>Ek);refine Km 2 (x:=⟨some ⟨(b 0),0,none⟩,0,0⟩) 40 40 128 5 40 (.agg #[iv 0,iv 0,iv 0,iv 0,iv 0]) ⟨bx,ox,none⟩ c k vs J (by kernel_rfl) (by kernel_rfl) (by kernel_rfl) underlying40 (by kernel_rfl) (by kernel_rfl) (by decide) (by omega) h.len I (λK j u N=>by rw[Kh];exact(m.cell (p:=⟨bx,ox+j,none⟩) hx2).trans (hx3 j u N)) (by show 0+c<=_;unfold maxLen;omega) (by show(0+c)*40<=_;omega) ?_;intro E g5 w5 A n5 l Y;have B:=l w.heap.size [.n 60 0] (D'.2 rfl);refine qR [] 2 [] λX g6 w6 i=>qE (S3.v E) λK=>⟨E,rfl,(by have:=(A.ch i).rv;rwa [m7]at this),(by rw[n5];show 0+c=c;omega),λ_=>fh (A.ch i) ((((d.nil [.n 60 0]).n g).trans B).n i),Cg.af ((((d.nil [.n 60 0]).n g).trans B).n i) (λ_ _=>Ek)⟩
def Jo(M:Meet)(ly tv:S3):Array Value:=#[iv (M.br.length:Int),.bool (M.ab 0).up,.bool (M.ab 1).up,.bool (M.ab 2).up,.bool (M.ab 3).up,.bool (M.ab 4).up,S3.v ly,iv ((M.ab 0).bad:Int),iv ((M.ab 1).bad:Int),iv ((M.ab 2).bad:Int),iv ((M.ab 3).bad:Int),iv ((M.ab 4).bad:Int),S3.v tv]
structure OutW(w:World)(M:Meet)(ly tv:S3)(ys:Nat->S3):Prop where
 qW:RdV w ly 1 [S3.v (ys 0),S3.v (ys 1),S3.v (ys 2),S3.v (ys 3),S3.v (ys 4)]
 log:∀ j,j<5->RdC w (ys j) ((M.ab j).ae.take (M.ab j).done)
 ed:RdV w tv 5 (M.ed.flatMap FD)
structure OutN(B:Nat)(M:Meet)(ly tv:S3)(ys:Nat->S3):Prop where
 qW:∀ a,ly.a=some a->B<=a.block
 log:∀ j,j<5->cmL ((M.ab j).ae.take (M.ab j).done)≠[]->∀ a,(ys j).a=some a->B<=a.block
 ed:M.ed.flatMap FD≠[]->∀ a,tv.a=some a->B<=a.block
theorem OutW.ch(h:OutW w M ly tv ys)(hn:OutN B M ly tv ys)(e:∀ b,B<=b->g.t b=.z)(c:Cg C [] g w g' w'):OutW w' M ly tv ys :=
 ⟨((⟨h.qW,λ_ a d=>e _ (hn.qW a d)⟩:FzV g w ly 1 _).ch c).rd,λj i=>(((⟨(h.log j i).rv,λf a d=>e _ (hn.log j i f a d)⟩:FzV g w (ys j) 5 _).ch c).rd).rc,((⟨h.ed,λf a d=>e _ (hn.ed f a d)⟩:FzV g w tv 5 _).ch c).rd⟩
theorem U9(d:List Tol):∀ u∈d.flatMap FD,u.oneCell'=true:=by
 intro u b;obtain⟨c,_,a⟩:=po.1 b;simp only[FD,ma,P',or_false]at a;rcases a with rfl|rfl|rfl|rfl|rfl<;>rfl
theorem ZR{P:Program}{c:Func}{R:Ending->World->Prop}{Φ:List Fa}{s:Xs}(b:Nat)(o:Obj)(a:w0.heap[b]?=some o)(h:GT P c R w0 Φ ⟨s.K,s.f,BH s.L++[⟨b,o,.z,false⟩]⟩ g w):GT P c R w0 Φ s g w :=
 ⟨λF C=>Cj ⟨b,o,.z,false⟩ (λ_=>⟨((CgQ.af C).block b (rl a)).trans a,C.tag (rl a) (λ_=>rl a),(λh=>by cases h),λh=>absurd rfl h⟩) rfl (h.ex F C)⟩
theorem gG(h:MS mb tb ob nb g w0 M)(b:Bw w0 w){i:Nat}(c:i<5)(a:(M.ab i).done<=(M.ab i).ae.length) :
  Calls prog 56 #[pt (nb i) 0] w λe w'=>∃ y:S3,e=.returned y.v/\RdC w' y ((M.ab i).ae.take (M.ab i).done)/\Bw w w' :=
 Uc ((h.qy (Cg.dT (B:=0) b) λd a=>h.new d (lS b.size a)).ns c) a
theorem jN(a:i<5):(Instr.index 97 (.agg #[pt (nb 0) 0,pt (nb 1) 0,pt (nb 2) 0,pt (nb 3) 0,pt (nb 4) 0]) (iv (i:Int))).run prog W=.ok (pt (nb i) 0) W:=by
 rcases qm a with rfl|rfl|rfl|rfl|rfl<;>kernel_rfl
def ysL(ys:Nat->S3)(i:Nat):List Value:=(List.range i).map λj=>S3.v (ys j)
def FS(f:Nat->Bool)(i:Nat)(b:Bool):Nat->Bool:=λj=>bif Nat.beq j i then b else f j
def Ko(f:Nat->Int)(i:Nat)(b:Int):Nat->Int:=λj=>bif Nat.beq j i then b else f j
def qo(M:Meet)(i:Nat):Nat->Bool:=λj=>bif Nat.blt j i then(M.ab j).up else false
def C6(M:Meet)(i:Nat):Nat->Int:=λj=>bif Nat.blt j i then((M.ab j).bad:Int)else 0
theorem Pu(j i:Nat):Nat.blt j (i+1)=bif Nat.beq j i then true else Nat.blt j i:=by
 rw[Bool.eq_iff_iff];rcases o8 j i with h|h|h
 .simp[Nat.blt,show Nat.beq j i=false from Bool.eq_false_iff.2 λe=>by have:=Nat.eq_of_beq_eq_true e;omega];omega
 .subst h;simp[Nat.blt,Nat.beq_refl]
 .simp[Nat.blt,show Nat.beq j i=false from Bool.eq_false_iff.2 λe=>by have:=Nat.eq_of_beq_eq_true e;omega];omega
theorem iM(M:Meet)(i:Nat):FS (qo M i) i (M.ab i).up=qo M (i+1):=by
 funext j
 unfold FS qo;rw[Pu];cases h:Nat.beq j i
 .rfl
 .rw[mw h];rfl
theorem fV(M:Meet)(i:Nat):Ko (C6 M i) i ((M.ab i).bad:Int)=C6 M (i+1):=by
 funext j
 unfold Ko C6;rw[Pu];cases h:Nat.beq j i
 .rfl
 .rw[mw h];rfl
def Lgs(g:Gh)(w:World)(M:Meet)(ys:Nat->S3)(i:Nat):Prop:=∀ j,j<i->FzV g w (ys j) 5 (cmL ((M.ab j).ae.take (M.ab j).done))
def Fa.lg(M:Meet)(ys:Nat->S3)(i:Nat):Fa:=⟨none,λg w=>Lgs g w M ys i,λhz _ c h j hj=>(h j hj).ch c hz⟩
def yup(ys:Nat->S3)(i:Nat)(y:S3):Nat->S3:=λj=>if j=i then y else ys j
theorem cO(h:Lgs g w M ys i)(k:FzV g w y 5 (cmL ((M.ab i).ae.take (M.ab i).done))):Lgs g w M (yup ys i y) (i+1):=by
 intro j a;unfold yup;split
 .rename_i e;rw[e];exact k
 .exact h j (by omega)
theorem kP(a:Nat->S3)(i:Nat)(y:S3):ysL (yup a i y) (i+1)=ysL a i++[S3.v y]:=by
 unfold ysL;rw[nK,mz]
 congr 1
 .apply pB;intro j b;have:=oE.1 b;unfold yup;rw[if_neg (by omega)]
 .simp[yup]
theorem eY(h:∀ j,j<i->cmL ((M.ab j).ae.take (M.ab j).done)≠[]->∀ a,(ys j).a=some a->B<=a.block)(k:cmL ((M.ab i).ae.take (M.ab i).done)≠[]->∀ a,y.a=some a->B<=a.block):∀ j,j<i+1->cmL ((M.ab j).ae.take (M.ab j).done)≠[]->∀ a,(yup ys i y j).a=some a->B<=a.block:=by
 intro j b;unfold yup;split
 .rename_i e;rw[e];exact k
 .exact h j (by omega)
theorem gY{x:S3}(h:OwnS g w (.n 60 0) true e sz x xs)(C:Cg w0.heap.size TQ gS w0 g w):∀ a,x.a=some a->w0.heap.size<=a.block:=by
 intro a c;rcases h.ex with⟨h1,_⟩|⟨b,cur,h1,_,_,_,_,_,h7,_⟩
 .rw[h1]at c;cases c
 .rw[h1]at c;cases c
  refine pm λd=>?_;have:=C.tag d (λ_=>d);rw[h7]at this
  cases this
theorem Qu(h:MS mb tb ob nb g w M)(hd:∀ i,i<5->(M.ab i).done<=(M.ab i).ae.length/\(M.ab i).ae.length<=40)(b2:M.br.length<100000000)(b5:M.ed.length<100000000) :
  Calls prog 30 #[pt mb 0] w λe w'=>∃ (ly tv:S3) (ys:Nat->S3),e=.returned (.agg (Jo M ly tv))/\OutW w' M ly tv ys/\OutN w.heap.size M ly tv ys/\Bw w w':=by
 obtain⟨lt,tl,E⟩:=h.out;obtain⟨bs,hL,R⟩:=E.br;have S:lt.n=M.br.length:=by have:=hL.len;have:=R.len;simp at *;omega
 have b6:tl.n=M.ed.length:=by have Z:=E.ed.len;rw[Gr]at Z;omega
 refine tIn [] func30 trivial (ZR mb _ h.box.r ?_);refine ZR ob _ E.row ?_;refine tR 21 [1,0,19,0,2,4,6,0,8,10,12,1,14,16,18,20,22,0,24,26,28,1] λb _ _=>Jy 55 (λy t c=>∃ (tv:S3) (m:Nat),y=[(0,pt mb 0),(2,pt (b 0) 0),(3,pt m 0)]/\t=[⟨mb,.cells (mtA nb ob tb) 99,.z,false⟩,⟨ob,.cells #[S3.v lt,S3.v tl] 93,.z,false⟩,⟨(b 0),.cells #[iv 0,.bool false,.bool false,.bool false,.bool false,.bool false,sn,iv 0,iv 0,iv 0,iv 0,iv 0,sn] 42,.l,false⟩,⟨m,.cells #[iv (lt.n:Int),.bool false,.bool false,.bool false,.bool false,.bool false,sn,iv 0,iv 0,iv 0,iv 0,iv 0,S3.v tv] 42,.l,false⟩]/\c=[Fa.zv tv 5 (M.ed.flatMap FD)]/\(M.ed.flatMap FD≠[]->∀ a,tv.a=some a->w.heap.size<=a.block)) (λJ q=>?_) ?_
 .refine ID 15 17 ?_ ?_
  .refine tF λ_ D=>?_;have T:=D.size;refine tC 15 (λF C=>KZ (E.ed.rv.af (CgQ.af C)) (U9 _) (by omega)) λB=>?_;rintro _ _ ⟨tv,rfl,A,_,f,b4⟩;refine⟨_,Fa.zv tv 5 (M.ed.flatMap FD)::_,rfl,b4,λF=>⟨⟨A,λp a o=>B _ (f p a o)⟩,F⟩,?_⟩;refine tR 4 [32,35,1,0,37,3,0] λX _ _=>tD q [true,true,true,true] ⟨tv,(X 0),rfl,rfl,rfl,λp a o=>lS T (f p a o)⟩ (λF=>⟨F.1,trivial⟩)
  .refine tR 1 [1,0] λY _ _=>tF λ_ D=>?_;have U:=D.size;refine tC 15 (λF C=>KZ (E.ed.rv.af (CgQ.af C)) (U9 _) (by omega)) λB=>?_;rintro _ _ ⟨tv,rfl,A,_,f,b8⟩;refine⟨_,Fa.zv tv 5 (M.ed.flatMap FD)::_,rfl,b8,λF=>⟨⟨A,λp a o=>B _ (f p a o)⟩,F⟩,?_⟩;refine tR 3 [32,37,3,0] λb9 _ _=>tD q [true,true,true,true] ⟨tv,(Y 0),rfl,rfl,rfl,λp a o=>lS U (f p a o)⟩ (λF=>⟨F.1,trivial⟩)
 rintro _ _ _ ⟨tv,m,rfl,rfl,rfl,f⟩ _ _ _;refine tR 10 [0] λa1 _ _=>EY 55 [(2,pt (b 0) 0),(3,pt m 0),(26,.agg #[pt (nb 0) 0,pt (nb 1) 0,pt (nb 2) 0,pt (nb 3) 0,pt (nb 4) 0]),(27,iv 0)] [true,false,true,true] [⟨mb,.cells (mtA nb ob tb) 99,.z,false⟩,⟨(b 0),.cells #[iv 0,.bool false,.bool false,.bool false,.bool false,.bool false,sn,iv 0,iv 0,iv 0,iv 0,iv 0,sn] 42,.l,false⟩,⟨m,.cells #[iv (lt.n:Int),.bool false,.bool false,.bool false,.bool false,.bool false,sn,iv 0,iv 0,iv 0,iv 0,iv 0,S3.v tv] 42,.l,false⟩] [Fa.zv tv 5 (M.ed.flatMap FD),Fa.ow 0 46 1 s30 (ysL (λ_=>s30) 0),Fa.lg M (λ_=>s30) 0] (λkk y t c=>∃ (i:Nat) (ly:S3) (ys:Nat->S3),kk=5-i/\y=[(2,pt (b 0) 0),(3,pt m 0),(26,.agg #[pt (nb 0) 0,pt (nb 1) 0,pt (nb 2) 0,pt (nb 3) 0,pt (nb 4) 0]),(27,iv (i:Int))]/\t=[⟨mb,.cells (mtA nb ob tb) 99,.z,false⟩,⟨(b 0),.cells #[iv 0,.bool false,.bool false,.bool false,.bool false,.bool false,sn,iv 0,iv 0,iv 0,iv 0,iv 0,sn] 42,.l,false⟩,⟨m,.cells #[iv (lt.n:Int),.bool (qo M i 0),.bool (qo M i 1),.bool (qo M i 2),.bool (qo M i 3),.bool (qo M i 4),S3.v ly,iv (C6 M i 0),iv (C6 M i 1),iv (C6 M i 2),iv (C6 M i 3),iv (C6 M i 4),S3.v tv] 42,.l,false⟩]/\c=[Fa.zv tv 5 (M.ed.flatMap FD),Fa.ow 0 46 1 ly (ysL ys i),Fa.lg M ys i]/\i<=5/\ly.n=i/\(∀ j,j<i->cmL ((M.ab j).ae.take (M.ab j).done)≠[]->∀ a,(ys j).a=some a->w.heap.size<=a.block)) (5) ⟨0,s30,λ_=>s30,rfl,rfl,rfl,rfl,by omega,rfl,λj G=>absurd G (nY _)⟩ (λF=>⟨F.1,OwnS.nil _ _ _ _ _ _,(λj G=>absurd G (nY _)),trivial⟩) ?_;rintro k _ _ _ ⟨i,ly,ys,rfl,rfl,rfl,rfl,hi,a0,hw⟩ _ _ _ J q;refine tR 5 [] λa2 _ _=>?_;by_cases Z:i<5
 .refine tI ((decide ((i:Int)<5))) true (O' (by omega)) ?_;have d:i<5:=by omega
  obtain⟨x,hN⟩:=h.ab i d;refine tR 6 [] λa3 _ _=>tV 1 (pt (nb i) 0) (λF C=>(jN d)) (ZR (nb i) _ hN.row ?_);refine tR 4 [] λa4 _ _=>Jy 55 (λy t c=>y=[(2,pt (b 0) 0),(3,pt m 0),(26,.agg #[pt (nb 0) 0,pt (nb 1) 0,pt (nb 2) 0,pt (nb 3) 0,pt (nb 4) 0]),(27,iv (i:Int)),(4,iv (i:Int)),(5,pt (nb i) 0)]/\t=[⟨mb,.cells (mtA nb ob tb) 99,.z,false⟩,⟨(b 0),.cells #[iv 0,.bool false,.bool false,.bool false,.bool false,.bool false,sn,iv 0,iv 0,iv 0,iv 0,iv 0,sn] 42,.l,false⟩,⟨m,.cells #[iv (lt.n:Int),.bool (FS (qo M i) i (M.ab i).up 0),.bool (FS (qo M i) i (M.ab i).up 1),.bool (FS (qo M i) i (M.ab i).up 2),.bool (FS (qo M i) i (M.ab i).up 3),.bool (FS (qo M i) i (M.ab i).up 4),S3.v ly,iv (C6 M i 0),iv (C6 M i 1),iv (C6 M i 2),iv (C6 M i 3),iv (C6 M i 4),S3.v tv] 42,.l,false⟩,⟨(nb i),.cells (AD i ob (M.ab i) x) 122,.z,false⟩]/\c=[Fa.zv tv 5 (M.ed.flatMap FD),Fa.ow 0 46 1 ly (ysL ys i),Fa.lg M ys i]) (λJ q=>?_) ?_
  .rcases qm d with rfl|rfl|rfl|rfl|rfl<;>exact tR 10 [3,2,0] λa5 _ _=>tD q [true,true,true,true] ⟨rfl,rfl,rfl⟩ (λF=>F)
  rintro _ _ _ ⟨rfl,rfl,rfl⟩ _ _ _;refine tR 1 [] λa6 _ _=>Jy 55 (λy t c=>y=[(2,pt (b 0) 0),(3,pt m 0),(26,.agg #[pt (nb 0) 0,pt (nb 1) 0,pt (nb 2) 0,pt (nb 3) 0,pt (nb 4) 0]),(27,iv (i:Int)),(4,iv (i:Int)),(5,pt (nb i) 0)]/\t=[⟨mb,.cells (mtA nb ob tb) 99,.z,false⟩,⟨(b 0),.cells #[iv 0,.bool false,.bool false,.bool false,.bool false,.bool false,sn,iv 0,iv 0,iv 0,iv 0,iv 0,sn] 42,.l,false⟩,⟨m,.cells #[iv (lt.n:Int),.bool (FS (qo M i) i (M.ab i).up 0),.bool (FS (qo M i) i (M.ab i).up 1),.bool (FS (qo M i) i (M.ab i).up 2),.bool (FS (qo M i) i (M.ab i).up 3),.bool (FS (qo M i) i (M.ab i).up 4),S3.v ly,iv (Ko (C6 M i) i ((M.ab i).bad:Int) 0),iv (Ko (C6 M i) i ((M.ab i).bad:Int) 1),iv (Ko (C6 M i) i ((M.ab i).bad:Int) 2),iv (Ko (C6 M i) i ((M.ab i).bad:Int) 3),iv (Ko (C6 M i) i ((M.ab i).bad:Int) 4),S3.v tv] 42,.l,false⟩,⟨(nb i),.cells (AD i ob (M.ab i) x) 122,.z,false⟩]/\c=[Fa.zv tv 5 (M.ed.flatMap FD),Fa.ow 0 46 1 ly (ysL ys i),Fa.lg M ys i]) (λJ q=>?_) ?_
  .rcases qm d with rfl|rfl|rfl|rfl|rfl<;>exact tR 10 [3,2,0] λa7 _ _=>tD q [true,true,true,true] ⟨rfl,rfl,rfl⟩ (λF=>F)
  rintro _ _ _ ⟨rfl,rfl,rfl⟩ _ _ _;refine tR 4 [8,0,2,2,4] λa8 _ _=>tC 3 (λF C=>gG h (CgQ.af C) d (hd i d).1) λB=>?_;rintro _ _ ⟨yl,rfl,I,P⟩;refine⟨_,_,rfl,P,id,?_⟩;have V:yl.n<100000000:=by rw[I.len,Z'];have:=hd i d;omega
  refine tF λ_ D=>?_;have H:=D.size;refine tC 4 (λF C=>R4 I.rv (λu hu=>O2 _ u hu) V) λB=>?_;rintro _ _ ⟨O,rfl,W,_,L,Q⟩;refine⟨_,Fa.zv O 5 (cmL ((M.ab i).ae.take (M.ab i).done))::_,rfl,Q,λF=>⟨⟨W,λp a o=>B _ (L p a o)⟩,F⟩,?_⟩;refine tR 1 [11,0,0] λs _ _=>Tp 6 0 (x:=ly) 38 38 46 1 24 sn ⟨(s 0),0,none⟩ 1 1 [S3.v O] (λF=>F.2.2.1) [Fa.zv tv 5 (M.ed.flatMap FD),Fa.lg M (yup ys i O) (i+1)] (λF=>⟨F.2.1,cO F.2.2.2.1 F.1,trivial⟩) rfl (by simp[TQ]) rfl (by simp[Value.oneCell']) (λF K=>CO K 4 (s 0) [S3.v O] 46 .z true (by kernel_rfl)) (by unfold maxLen;omega) (by omega) λN _ _ b7=>tR 5 [14,17,2,0] λa9 _ _=>tV 0 (iv ((i:Int)+1)) (λF C=>(Bd 27 (i:Int) underlying3 (by omega))) (tR 2 [] λb0 _ _=>tB q (5-(i+1)) (by omega) [true,true,true,false,false] (L':=[⟨mb,.cells (mtA nb ob tb) 99,.z,false⟩,⟨(b 0),.cells #[iv 0,.bool false,.bool false,.bool false,.bool false,.bool false,sn,iv 0,iv 0,iv 0,iv 0,iv 0,sn] 42,.l,false⟩,⟨m,.cells #[iv (lt.n:Int),.bool (FS (qo M i) i (M.ab i).up 0),.bool (FS (qo M i) i (M.ab i).up 1),.bool (FS (qo M i) i (M.ab i).up 2),.bool (FS (qo M i) i (M.ab i).up 3),.bool (FS (qo M i) i (M.ab i).up 4),S3.v N,iv (Ko (C6 M i) i ((M.ab i).bad:Int) 0),iv (Ko (C6 M i) i ((M.ab i).bad:Int) 1),iv (Ko (C6 M i) i ((M.ab i).bad:Int) 2),iv (Ko (C6 M i) i ((M.ab i).bad:Int) 3),iv (Ko (C6 M i) i ((M.ab i).bad:Int) 4),S3.v tv] 42,.l,false⟩]) ⟨i+1,N,yup ys i O,rfl,rfl,(by rw[iM,fV]),rfl,by omega,by omega,eY hw (λp a o=>lS H (L p a o))⟩ (λF=>⟨F.2.1,(by rw[kP];exact F.1),F.2.2.1,trivial⟩))
 .refine tI ((decide ((i:Int)<5))) false (E' (by omega)) ?_;obtain rfl:i=5:=by omega
  refine tR 6 [2,1,0] λb1 _ _=>?_;have hA:Jo M ly tv=#[iv (lt.n:Int),.bool (qo M 5 0),.bool (qo M 5 1),.bool (qo M 5 2),.bool (qo M 5 3),.bool (qo M 5 4),S3.v ly,iv (C6 M 5 0),iv (C6 M 5 1),iv (C6 M 5 2),iv (C6 M 5 3),iv (C6 M 5 4),S3.v tv]:=by rw[S];rfl
  exact tX λF C=>qE1 2 42 1 (b 0) #[iv (lt.n:Int),.bool (qo M 5 0),.bool (qo M 5 1),.bool (qo M 5 2),.bool (qo M 5 3),.bool (qo M 5 4),S3.v ly,iv (C6 M 5 0),iv (C6 M 5 1),iv (C6 M 5 2),iv (C6 M 5 3),iv (C6 M 5 4),S3.v tv] λ_=>⟨ly,tv,ys,by rw[hA],⟨F.2.1.rv,λj G=>(F.2.2.1 j G).rd.rc,F.1.rd⟩,⟨gY F.2.1 C,hw,f⟩,CgQ.af C⟩
theorem Y8(h:1<=k/\k<=9):Calls prog 42 #[iv k] w λe w'=>e=.returned (.bool true)/\Bw w w':=by
 refine tIn [] func42 trivial (tR 7 [] λa _ _=>tV 1 (.bool true) (λF C=>(rGe (t:=3) (m:=k) (n:=1) (x:=(.tmp 3)) (y:=(.const (iv 1))) (O' h.1))) (tR 6 [] λb _ _=>tE (.bool (decide (k<10))) λ_ B=>⟨by rw[O' (show k<10 by omega)],B⟩))
theorem Y1:Calls prog 68 #[iv k] w λe w'=>e=.returned (.bool (k==1))/\Bw w w':=by
 refine tIn [] func68 trivial (tR 10 [] λa _ _=>tE (.bool (k==1)) λ_ B=>⟨rfl,B⟩)
theorem Qf:Calls prog 67 #[pt b 0] w λe w'=>e=.returned (.agg #[pt b 1,pt b 2,pt b 3])/\Bw w w':=by
 refine tIn [] func67 trivial (tR 18 [1,0,10,0,2,4,6,8,10,12,14,16,18,21,0,0] λa _ _=>tX λF C=>qE1 2 141 0 (a 0) #[pt b 1,pt b 2,pt b 3] λ_=>⟨rfl,CgQ.af C⟩)
theorem YA(h:j<3):j=0\/j=1\/j=2:=by omega
theorem I5(h:1<=k/\k<=9):(Instr.indexAt 147 (pt 1 0) (iv k)).run prog W=.ok (pt 1 (4*k.toNat)) W:=by
 have:=Wm k.toNat (by omega) W
 rwa [oh (by omega)]at this
theorem LWTab.at(h:LWTab w){k:Int}(c:1<=k/\k<=9){j:Nat}(a:j<3){b:Bool}(e:Mr j k=b):w.cell? ⟨1,4*k.toNat+1+j,none⟩=some (.bool b):=by
 have:=h.has k.toNat j (by omega) a
 rwa [oh (by omega),e]at this
theorem gw(h:LacOk x)(hy:y.n=x.d.length)(i:LWTab w)(o:LBTab w):Calls prog 43 #[.agg #[iv x.k,iv x.n,iv x.a,iv x.p,S3.v y]] w λe w'=>e=.returned (.bool true)/\Bw w w':=by
 have f:=h.k;refine tIn [] func43 trivial (tR 8 [0,0] λc _ _=>tC1 0 (λF C=>Qf (b:=(c 0))) λ_=>tR 3 [] λa0 _ _=>EY 33 [(1,pt (c 0) 0),(5,.agg #[pt (c 0) 1,pt (c 0) 2,pt (c 0) 3]),(6,iv 0)] [true] [⟨(c 0),.cells #[iv x.k,iv x.n,iv x.a,iv x.p,S3.v y] 28,.z,false⟩] [] (λZ Y X l=>∃ (j:Nat),Z=3-j/\Y=[(1,pt (c 0) 0),(5,.agg #[pt (c 0) 1,pt (c 0) 2,pt (c 0) 3]),(6,iv (j:Int))]/\X=[⟨(c 0),.cells #[iv x.k,iv x.n,iv x.a,iv x.p,S3.v y] 28,.z,false⟩]/\l=[]/\j<=3) (3) ⟨0,rfl,rfl,rfl,rfl,by omega⟩ (λF=>trivial) ?_);rintro k _ _ _ ⟨j,rfl,rfl,rfl,rfl,hj⟩ _ _ _ J g;refine tR 5 [] λa1 _ _=>?_;by_cases h0:j<3
 .refine tI ((decide ((j:Int)<3))) true (O' (by omega)) ?_;rcases YA (show j<3 by omega)with rfl|rfl|rfl
  .by_cases h1:FM x.k=true
   .have hv:=h.n h1;refine tR 15 [22,0,2,0,4] λa2 _ _=>tT 3 (pt (1) (4*x.k.toNat)) (λ_=>(I5 f)) (tR 2 [8,10] λa3 _ _=>tV 6 (.bool true) (λF C=>(CQ underlying4 rfl ((i.af (CgQ.af C)).at f (j:=0) (by decide) (show FM x.k=true from h1)))) (tR 4 [14,16,18,20,0] λa4 _ _=>tT 11 (.bool false) (λ_=>(rLt (t:=3) (m:=x.n) (n:=0) (x:=(.tmp 20)) (y:=(.const (iv 0))) (E' (by omega)))) (tR 6 [24,26,28,30,0,32,34] λa5 _ _=>tV 18 (iv 4) (λF C=>(CQ underlying3 rfl ((o.af (CgQ.af C)).sR 0 (by decide)))) (tR 4 [38,40,42] λa6 _ _=>tI ((decide (4<x.n))) false (E' (by omega)) (tR 6 [] λq _ _=>tB g (3-1) (by omega) [true] ⟨1,rfl,rfl,rfl,rfl,by omega⟩ (λF=>trivial))))))
   .refine tR 15 [22,0,2,0,4] λr _ _=>tT 3 (pt (1) (4*x.k.toNat)) (λ_=>(I5 f)) (tR 2 [8,10] λs _ _=>tV 6 (.bool false) (λF C=>(CQ underlying4 rfl ((i.af (CgQ.af C)).at f (j:=0) (by decide) (show FM x.k=false from(by simpa using h1))))) (tR 23 [14,16,18,20,22,24,26,28,30,32,34,36,38,40,42] λu _ _=>tB g (3-1) (by omega) [true] ⟨1,rfl,rfl,rfl,rfl,by omega⟩ (λF=>trivial)))
  .by_cases h1:GU x.k=true
   .have hv:=h.a h1;refine tR 15 [22,0,2,0,4] λA _ _=>tT 3 (pt (1) (4*x.k.toNat)) (λ_=>(I5 f)) (tR 2 [8,10] λD _ _=>tV 6 (.bool true) (λF C=>(CQ underlying4 rfl ((i.af (CgQ.af C)).at f (j:=1) (by decide) (show GU x.k=true from h1)))) (tR 4 [14,16,18,20,0] λE _ _=>tT 11 (.bool false) (λ_=>(rLt (t:=3) (m:=x.a) (n:=0) (x:=(.tmp 20)) (y:=(.const (iv 0))) (E' (by omega)))) (tR 6 [24,26,28,30,0,32,34] λG _ _=>tV 18 (iv 1048576) (λF C=>(CQ underlying3 rfl ((o.af (CgQ.af C)).sR 1 (by decide)))) (tR 4 [38,40,42] λH _ _=>tI ((decide (1048576<x.a))) false (E' (by omega)) (tR 6 [] λI _ _=>tB g (3-2) (by omega) [true] ⟨2,rfl,rfl,rfl,rfl,by omega⟩ (λF=>trivial))))))
   .refine tR 15 [22,0,2,0,4] λK _ _=>tT 3 (pt (1) (4*x.k.toNat)) (λ_=>(I5 f)) (tR 2 [8,10] λL _ _=>tV 6 (.bool false) (λF C=>(CQ underlying4 rfl ((i.af (CgQ.af C)).at f (j:=1) (by decide) (show GU x.k=false from(by simpa using h1))))) (tR 23 [14,16,18,20,22,24,26,28,30,32,34,36,38,40,42] λM _ _=>tB g (3-2) (by omega) [true] ⟨2,rfl,rfl,rfl,rfl,by omega⟩ (λF=>trivial)))
  .by_cases h1:GV x.k=true
   .have hv:=h.p h1;refine tR 15 [22,0,2,0,4] λN _ _=>tT 3 (pt (1) (4*x.k.toNat)) (λ_=>(I5 f)) (tR 2 [8,10] λO _ _=>tV 6 (.bool true) (λF C=>(CQ underlying4 rfl ((i.af (CgQ.af C)).at f (j:=2) (by decide) (show GV x.k=true from h1)))) (tR 4 [14,16,18,20,0] λP _ _=>tT 11 (.bool false) (λ_=>(rLt (t:=3) (m:=x.p) (n:=0) (x:=(.tmp 20)) (y:=(.const (iv 0))) (E' (by omega)))) (tR 6 [24,26,28,30,0,32,34] λQ _ _=>tV 18 (iv 100000) (λF C=>(CQ underlying3 rfl ((o.af (CgQ.af C)).sR 2 (by decide)))) (tR 4 [38,40,42] λR _ _=>tI ((decide (100000<x.p))) false (E' (by omega)) (tR 6 [] λS _ _=>tB g (3-3) (by omega) [true] ⟨3,rfl,rfl,rfl,rfl,by omega⟩ (λF=>trivial))))))
   .refine tR 15 [22,0,2,0,4] λT _ _=>tT 3 (pt (1) (4*x.k.toNat)) (λ_=>(I5 f)) (tR 2 [8,10] λU _ _=>tV 6 (.bool false) (λF C=>(CQ underlying4 rfl ((i.af (CgQ.af C)).at f (j:=2) (by decide) (show GV x.k=false from(by simpa using h1))))) (tR 23 [14,16,18,20,22,24,26,28,30,32,34,36,38,40,42] λV _ _=>tB g (3-3) (by omega) [true] ⟨3,rfl,rfl,rfl,rfl,by omega⟩ (λF=>trivial)))
 .refine tI ((decide ((j:Int)<3))) false (E' (by omega)) (tR 5 [] λW _ _=>tE (.bool true) λ_ B=>⟨rfl,B⟩)
theorem bO(h:LacOk x)(hy:y.n=x.d.length)(o:LWTab w)(tb:LBTab w):Calls prog 44 #[.agg #[iv x.k,iv x.n,iv x.a,iv x.p,S3.v y]] w λe w'=>e=.returned (.bool true)/\Bw w w':=by
 have g:=h.k;refine tIn [] func44 trivial (tR 8 [0,0] λc _ _=>tC1 0 (λF C=>Qf (b:=(c 0))) λ_=>tR 3 [] λa1 _ _=>EY 34 [(1,pt (c 0) 0),(5,.agg #[pt (c 0) 1,pt (c 0) 2,pt (c 0) 3]),(6,iv 0)] [true] [⟨(c 0),.cells #[iv x.k,iv x.n,iv x.a,iv x.p,S3.v y] 28,.z,false⟩] [] (λkk Y X i=>∃ (j:Nat),kk=3-j/\Y=[(1,pt (c 0) 0),(5,.agg #[pt (c 0) 1,pt (c 0) 2,pt (c 0) 3]),(6,iv (j:Int))]/\X=[⟨(c 0),.cells #[iv x.k,iv x.n,iv x.a,iv x.p,S3.v y] 28,.z,false⟩]/\i=[]/\j<=3) (3) ⟨0,rfl,rfl,rfl,rfl,by omega⟩ (λF=>trivial) ?_);rintro k _ _ _ ⟨j,rfl,rfl,rfl,rfl,hj⟩ _ _ _ J f;refine tR 5 [] λa2 _ _=>?_;by_cases h0:j<3
 .refine tI ((decide ((j:Int)<3))) true (O' (by omega)) ?_;rcases YA (show j<3 by omega)with rfl|rfl|rfl
  .by_cases h1:FM x.k=true
   .by_cases h2:x.n=0
    .refine tR 15 [0] λa3 _ _=>tV 3 (.bool false) (λF C=>(F6 (t:=3) (m:=x.n) (n:=0) (x:=(.tmp 12)) (y:=(.const (iv 0))) (by simpa using h2))) (tR 18 [] λa4 _ _=>tB f (3-1) (by omega) [true] ⟨1,rfl,rfl,rfl,rfl,by omega⟩ (λF=>trivial))
    .refine tR 15 [0] λa5 _ _=>tV 3 (.bool true) (λF C=>(F6 (t:=3) (m:=x.n) (n:=0) (x:=(.tmp 12)) (y:=(.const (iv 0))) (by simpa using h2))) (tR 4 [0] λa6 _ _=>tV 8 (pt (1) (4*x.k.toNat)) (λF C=>(I5 g)) (tR 2 [] λa7 _ _=>tV 11 (.bool true) (λF C=>(CQ underlying4 rfl ((o.af (CgQ.af C)).at g (j:=0) (by decide) (show FM x.k=true from h1)))) (tR 10 [] λq _ _=>tB f (3-1) (by omega) [true] ⟨1,rfl,rfl,rfl,rfl,by omega⟩ (λF=>trivial))))
   .have h2:x.n=0:=h.n0 (by simpa using h1);refine tR 15 [0] λr _ _=>tV 3 (.bool false) (λF C=>(F6 (t:=3) (m:=x.n) (n:=0) (x:=(.tmp 12)) (y:=(.const (iv 0))) (by simpa using h2))) (tR 18 [] λs _ _=>tB f (3-1) (by omega) [true] ⟨1,rfl,rfl,rfl,rfl,by omega⟩ (λF=>trivial))
  .by_cases h1:GU x.k=true
   .by_cases h2:x.a=0
    .refine tR 15 [0] λu _ _=>tV 3 (.bool false) (λF C=>(F6 (t:=3) (m:=x.a) (n:=0) (x:=(.tmp 12)) (y:=(.const (iv 0))) (by simpa using h2))) (tR 18 [] λA _ _=>tB f (3-2) (by omega) [true] ⟨2,rfl,rfl,rfl,rfl,by omega⟩ (λF=>trivial))
    .refine tR 15 [0] λD _ _=>tV 3 (.bool true) (λF C=>(F6 (t:=3) (m:=x.a) (n:=0) (x:=(.tmp 12)) (y:=(.const (iv 0))) (by simpa using h2))) (tR 4 [0] λE _ _=>tV 8 (pt (1) (4*x.k.toNat)) (λF C=>(I5 g)) (tR 2 [] λG _ _=>tV 11 (.bool true) (λF C=>(CQ underlying4 rfl ((o.af (CgQ.af C)).at g (j:=1) (by decide) (show GU x.k=true from h1)))) (tR 10 [] λH _ _=>tB f (3-2) (by omega) [true] ⟨2,rfl,rfl,rfl,rfl,by omega⟩ (λF=>trivial))))
   .have h2:x.a=0:=h.a0 (by simpa using h1);refine tR 15 [0] λI _ _=>tV 3 (.bool false) (λF C=>(F6 (t:=3) (m:=x.a) (n:=0) (x:=(.tmp 12)) (y:=(.const (iv 0))) (by simpa using h2))) (tR 18 [] λK _ _=>tB f (3-2) (by omega) [true] ⟨2,rfl,rfl,rfl,rfl,by omega⟩ (λF=>trivial))
  .by_cases h1:GV x.k=true
   .by_cases h2:x.p=0
    .refine tR 15 [0] λL _ _=>tV 3 (.bool false) (λF C=>(F6 (t:=3) (m:=x.p) (n:=0) (x:=(.tmp 12)) (y:=(.const (iv 0))) (by simpa using h2))) (tR 18 [] λM _ _=>tB f (3-3) (by omega) [true] ⟨3,rfl,rfl,rfl,rfl,by omega⟩ (λF=>trivial))
    .refine tR 15 [0] λN _ _=>tV 3 (.bool true) (λF C=>(F6 (t:=3) (m:=x.p) (n:=0) (x:=(.tmp 12)) (y:=(.const (iv 0))) (by simpa using h2))) (tR 4 [0] λO _ _=>tV 8 (pt (1) (4*x.k.toNat)) (λF C=>(I5 g)) (tR 2 [] λP _ _=>tV 11 (.bool true) (λF C=>(CQ underlying4 rfl ((o.af (CgQ.af C)).at g (j:=2) (by decide) (show GV x.k=true from h1)))) (tR 10 [] λQ _ _=>tB f (3-3) (by omega) [true] ⟨3,rfl,rfl,rfl,rfl,by omega⟩ (λF=>trivial))))
   .have h2:x.p=0:=h.p0 (by simpa using h1);refine tR 15 [0] λR _ _=>tV 3 (.bool false) (λF C=>(F6 (t:=3) (m:=x.p) (n:=0) (x:=(.tmp 12)) (y:=(.const (iv 0))) (by simpa using h2))) (tR 18 [] λS _ _=>tB f (3-3) (by omega) [true] ⟨3,rfl,rfl,rfl,rfl,by omega⟩ (λF=>trivial))
 .refine tI ((decide ((j:Int)<3))) false (E' (by omega)) (tR 6 [0] λT _ _=>?_);by_cases Z:y.n=0
  .refine tV 3 (.bool true) (λF C=>(Kw (t:=3) (m:=(y.n:Int)) (n:=0) (x:=(.tmp 27)) (y:=(.const (iv 0))) (by simp;omega))) (tR 7 [] λU _ _=>tE (.bool true) λ_ B=>⟨rfl,B⟩)
  .refine tV 3 (.bool false) (λF C=>(Kw (t:=3) (m:=(y.n:Int)) (n:=0) (x:=(.tmp 27)) (y:=(.const (iv 0))) (by simp;omega))) (tR 3 [0] λV _ _=>tC1 7 (λF C=>Y1 (k:=x.k)) λ_=>tR 3 [] λW _ _=>?_);have l:x.k=1:=mK λe=>Z (by rw[hy,h.d0 e];rfl);exact tE (.bool (x.k==1)) λ_ B=>⟨by rw[l];rfl,B⟩
theorem R0(h:LacOk x)(b:y.n=x.d.length)(f:LWTab w)(c:LBTab w):Calls prog 27 #[.agg #[iv x.k,iv x.n,iv x.a,iv x.p,S3.v y]] w λe w'=>e=.returned (iv 0)/\Bw w w':=by
 have o:=h.d;refine tIn [] func27 trivial (tR 10 [0,0,0] λg _ _=>tC1 2 (λF C=>Y8 h.k) λ_=>tR 8 [0] λi _ _=>tC1 1 (λF C=>gw h b (f.af (CgQ.af C)) (c.af (CgQ.af C))) λ_=>tR 12 [0] λj _ _=>tI ((decide (2000<(y.n:Int)))) false (E' (by omega)) (tR 5 [0] λl _ _=>tC1 1 (λF C=>bO h b (f.af (CgQ.af C)) (c.af (CgQ.af C))) λ_=>tR 8 [] λm _ _=>tE (iv 0) λ_ B=>⟨rfl,B⟩))
def laV(x:Lac)(y:Value):List Value:=[.int .i64 x.k,.int .i64 x.n,.int .i64 x.a,.int .i64 x.p,y]
def zLa:Value:=.agg #[.int .i64 0,.int .i64 0,.int .i64 0,.int .i64 0,.slice none 0 0]
def lx:Lac:=⟨0,0,0,0,[]⟩
structure Sk(w:World)(x:Value)(F:Nat->Lac)(n:Nat):Prop where
 ex:∃ a cap,x=.slice a n cap/\(n=0\/∃ b off,a=some ⟨b,off,none⟩/\b<w.heap.size/\∀ i,i<n->∃ y,w.rangeAt b (off+5*i) (laV (F i) y)/\Sl w y (F i).d)
 len:n<=2513169434916
theorem Sk.af{x:Value}(h:Sk w x F n)(e:Bw w w'):Sk w' x F n:=by
 obtain⟨⟨a,c,rfl,d⟩,f⟩:=h;refine⟨⟨a,c,rfl,?_⟩,f⟩;rcases d with d|⟨b,off,ha,hbs,hcell⟩
 .exact .inl d
 .refine .inr ⟨b,off,ha,j' hbs e.size,λi l=>?_⟩;obtain⟨y,g,k⟩:=hcell i l;exact⟨y,λj u m=>(e.cell (p:=⟨b,off+5*i+j,none⟩) hbs).trans (g j u m),k.af e⟩
theorem Sk.shape{x:Value}(h:Sk w x F n):∃ a cap,x=.slice a n cap:=by
 obtain⟨⟨a,cap,e,_⟩,_⟩:=h;exact⟨a,cap,e⟩
theorem Sk.spot{a:Option Addr}{c:Nat}(h:Sk w (.slice a n c) F n)(i:Nat)(j:i<n):∃ b off xa xm xp,a=some ⟨b,off,none⟩/\b<w.heap.size/\w.rangeAt b (off+5*i) (laV (F i) (.slice xa xm xp))/\Sl w (.slice xa xm xp) (F i).d:=by
 obtain⟨⟨k,f,e,g⟩,_⟩:=h;simp only[Value.slice.injEq]at e;obtain⟨rfl,_,rfl⟩:=e;rcases g with rfl|⟨b,off,rfl,hb,hcell⟩
 .omega
 .obtain⟨y,h3,h4⟩:=hcell i j;obtain⟨xa,xp,rfl⟩:=h4.qA;exact⟨b,off,xa,_,xp,rfl,hb,h3,h4⟩
def laF(l:List Lac):Nat->Lac:=λi=>l.getD i lx
theorem OB{l:List Lac}(h:i<l.length):laF l i=l[i]:=by simp[laF,List.getD,List.getElem?_eq_getElem h]
def IU(F:Nat->Lac)(n:Nat):List Lac:=(List.range n).map F
theorem WY(F:Nat->Lac)(n:Nat):(IU F n).length=n:=by simp[IU]
theorem aT(h:j<n):(IU F n).drop j=F j::(IU F n).drop (j+1):=by
 have a:(IU F n)[j]?=some (F j):=by simp[IU,h]
 obtain⟨b,c⟩:=V'.1 a;rw[<- c];exact mT b
def dj:Array Value:=#[iv 0,.bool false,.bool false,.bool false,.bool false,.bool false,S3.v s30,iv 0,iv 0,iv 0,iv 0,iv 0,S3.v s30]
def TR:List Tg:=.n 70 0::TM
theorem iZ:Tg.z∉TR:=by simp[TR,TM,TN]
theorem iW:∀ t∈TM,t∈TR:=λt h=>I' _ h
theorem Nr:gS.t b∉TR:=iZ
theorem Base.self(w:World):Base w gS w:=⟨Below.refl _ _,λ_ _=>rfl⟩
theorem fw{d:Option Addr}{a c:Nat}(f:d=some ⟨b,a,none⟩)(j:Nat)(g:j<n):(Instr.indexAt 29 (.slice d n c) (iv (j:Int))).run prog W=.ok (pt b (a+5*j)) W:=by
 subst f;exact MR (P:=prog) (e:=28) (z:=5) underlying29 (by kernel_rfl) (by kernel_rfl) g _ rfl
theorem jQ{k:Nat}{y:Value}(h:W.rangeAt b k (laV x y)):(Instr.loadAt 28 (pt b k)).run prog W=.ok (.agg #[iv x.k,iv x.n,iv x.a,iv x.p,y]) W:=by
 have c:=run_loadVar_mid (P:=prog) W b k 28 (laV x y) _ h underlying28 rfl (by kernel_rfl);simp only[Instr.loadAt,Instr.sureAddr,Sem.run_bind,Sem.run_pure,Result.andThen_ok];exact c
theorem OutN.mono(h:OutN B M ly tv ys)(b:C<=B):OutN C M ly tv ys:=⟨λa e=>lS b (h.qW a e),λj d c a e=>lS b (h.log j d c a e),λc a e=>lS b (h.ed c a e)⟩
theorem dL{lv:S3}(h:Sk w lv.v F n)(a9:∀ i,i<n->LacOk (F i))(f2:n<=100000)(hT:Tabs w)(tw:LWTab w)(tb:LBTab w) :
  Calls prog 16 #[lv.v] w λe w'=>Bw w w'/\∃ (ly tv:S3) (ys:Nat->S3),e=.returned (.tuple #[.agg (Jo (At.ew (IU F n)) ly tv),iv 0])/\OutW w' (At.ew (IU F n)) ly tv ys/\OutN w.heap.size (At.ew (IU F n)) ly tv ys:=by
 obtain⟨X,lq,H⟩:=lv;have f4:lq=n:=by obtain⟨a,e1,hh⟩:=h.shape;simp only[S3.v,Value.slice.injEq]at hh;exact hh.2.1
 subst lq;have f3:=h.len;obtain⟨G,E⟩:∃ G,IU F n=G:=⟨_,rfl⟩;have f1:G.length=n:=by rw[<- E];exact WY F n
 rw[E];refine gI (fn:=f16) TR gS func16 (λ_ _=>⟨rfl,rfl⟩) (qR [] 12 [1,0] λd g1 w1 c1=>qI ((decide (100000<(n:Int)))) false (E' (by omega)) (qR [] 9 [] λh7 g3 w3 c3=>BV 40 [(0,.slice X n H),(2,pt (d 0) 0),(14,.slice X n H),(15,iv (n:Int)),(16,iv 0)] [true] [⟨(d 0),.cells dj 42,.l,false⟩] (λk g' w' e L=>∃ j:Nat,k=n-j/\j<=n/\e=[(0,.slice X n H),(2,pt (d 0) 0),(14,.slice X n H),(15,iv (n:Int)),(16,iv (j:Int))]/\L=[⟨(d 0),.cells dj 42,.l,false⟩]/\Cg w.heap.size TR gS w g' w') (by kernel_rfl) (by kernel_rfl) (by kernel_rfl) (by kernel_rfl) n (λK=>?_) ?_))
 .exact⟨0,rfl,mA _,rfl,rfl,((c1.nil TR).n c3)⟩
 .rintro k gr wr _ zr _ ⟨j,rfl,hj,rfl,rfl,hC⟩ J hJ;refine qR [] 5 [] λh8 g4 w4 c4=>?_;by_cases h0:j<n
  .refine qI ((decide ((j:Int)<(n:Int)))) true (O' (by omega)) (qR [] 5 [] λh9 g5 w5 c5=>?_);obtain⟨b,r,I,M,N,R,Q,S,U⟩:=h.spot j h0;refine qV 0 (pt b (r+5*j)) (fw R (n:=n) (c:=H) j h0) (qV 1 (.agg #[iv (F j).k,iv (F j).n,iv (F j).a,iv (F j).p,.slice I M N]) (jQ (x:=F j) (y:=.slice I M N) (λq u W=>(((Cg.af (((hC).n c4).n c5) (λ_ _=>Nr))).cell (p:=⟨b,r+5*j+q,none⟩) Q).trans (S q u W))) (qR [] 6 [0,0,1,0,1] λi0 g7 w7 c7=>?_));have a1:=(Cg.af ((((hC).n c4).n c5).n c7) (λ_ _=>Nr));refine qC 1 (R0 (x:=F j) (y:=⟨I,M,N⟩) (a9 j h0) (F9 (x:=⟨I,M,N⟩) U) (tw.af a1) (tb.af a1)) ?_;rintro e' w8 ⟨rfl,b8⟩;refine⟨_,rfl,b8,?_⟩;have c8:=Cg.dT (B:=w.heap.size) (T:=[]) (g:=g7) b8;refine qR [] 7 [] λi1 g9 w9 c9=>qR [] 4 [] λd0 e2 f7 b2=>qV 0 (iv ((j:Int)+1)) (Bd 16 (j:Int) underlying3 (by omega)) (qR [] 2 [] λd1 e3 f8 b3=>qB [true,false] λz K0 K=>hJ (n-(j+1)) _ _ _ z _ (by omega) ⟨j+1,rfl,by omega,rfl,rfl,((((((((hC).n c4).n c5).n c7).n c8).n c9).n b2).n b3)⟩ K)
  .refine qI ((decide ((j:Int)<(n:Int)))) false (E' (by omega)) ?_;obtain rfl:j=n:=by omega
   refine qR [] 3 [] λd2 e4 f9 b4=>Af λK=>qG 0 [.n 70 0] [true] (LC K.new) ?_;rintro e' g0 ⟨mb,V,ob,nb,b6,rfl,a6,s⟩;refine⟨_,b6,rfl,s,a6.new,?_⟩;replace s:=s.ret (B:=w.heap.size);refine qR [] 10 [] λd3 e5 g2 a2=>BV 40 [(2,pt (d 0) 0),(7,pt mb 0),(28,.slice X j H),(29,iv (j:Int)),(30,iv 0)] [true] [⟨(d 0),.cells dj 42,.l,false⟩] (λk g' w' e L=>∃ (i:Nat) (A:Meet),k=j-i/\i<=j/\e=[(2,pt (d 0) 0),(7,pt mb 0),(28,.slice X j H),(29,iv (j:Int)),(30,iv (i:Int))]/\L=[⟨(d 0),.cells dj 42,.l,false⟩]/\MS mb V ob nb g' w' A/\(G.drop i).foldl Meet.act A=At.ew G/\MOk i A/\Cg w.heap.size TR gS w g' w') (by kernel_rfl) (by kernel_rfl) (by kernel_rfl) (by kernel_rfl) j (λK=>?_) ?_
   .exact⟨0,At,rfl,mA _,rfl,rfl,(a6.qy a2 K.new),rfl,MOk.zero,(((((hC).n c4).n b4).trans (s.mono (by simp[TR]))).n a2)⟩
   .rintro k gq wq _ zq _ ⟨i,A,rfl,hi,rfl,rfl,hM,hI2,hA,hC2⟩ J2 hJ2;refine qR [] 5 [] λd4 e6 g6 m=>?_;by_cases h3:i<j
    .refine qI ((decide ((i:Int)<(j:Int)))) true (O' (by omega)) ?_;rw[<- E,aT h3,E,qe]at hI2
     have a8:LacOk (F i):=a9 i h3;refine qR [] 5 [] λd5 e7 g8 o=>?_;obtain⟨b,r,I,M,N,R,Q,S,U⟩:=h.spot i h3;refine qV 0 (pt b (r+5*i)) (fw R (n:=j) (c:=H) i h3) (qV 1 (.agg #[iv (F i).k,iv (F i).n,iv (F i).a,iv (F i).p,.slice I M N]) (jQ (x:=F i) (y:=.slice I M N) (λq u W=>(((Cg.af (((hC2).n m).n o) (λ_ _=>Nr))).cell (p:=⟨b,r+5*i+q,none⟩) Q).trans (S q u W))) (qR [] 6 [0,0,1,0,1] λd6 b7 c6 C=>Af λK=>?_));have NM:MS mb V ob nb b7 c6 A:=(hM.qy ((m.trans o).trans C) K.new);have b1:=(Cg.af ((((hC2).n m).n o).n C) (λ_ _=>Nr));refine qG 2 TM [true,true] (gk NM ((Base.self w).ch ((((hC2).n m).n o).n C) iZ) hT (F i) ⟨I,M,N⟩ (U.af b1) a8 hA (by omega)) ?_;rintro e' h1 ⟨b9,rfl,Y,D⟩;refine⟨_,b9,rfl,D,Y.new,?_⟩;replace D:=D.ret (B:=w.heap.size);refine qR [] 3 [] λd7 e8 h2 a3=>qV 0 (iv ((i:Int)+1)) (Bd 30 (i:Int) underlying3 (by omega)) (qR [] 2 [] λd8 e9 h4 a4=>qB [true,false] λz K0 K=>hJ2 (j-(i+1)) _ _ _ z _ (by omega) ⟨i+1,A.act (F i),rfl,by omega,rfl,rfl,(Y.qy (a3.trans a4) K0.new),hI2,hA.act (by omega) a8,(((((((hC2).n m).n o).n C).trans (D.mono iW)).n a3).n a4)⟩ K)
    .refine qI ((decide ((i:Int)<(j:Int)))) false (E' (by omega)) ?_;obtain rfl:i=j:=by omega
     rw[mU (by omega)]at hI2
     replace hI2:A=At.ew G:=hI2;subst hI2;refine qR [] 4 [] λd9 P b0 O=>Af λK=>?_;have NM:MS mb V ob nb P b0 (At.ew G):=(hM.qy (m.trans O) K.new);have f6:=hA.wt;have f5:=hA.ed;have c0:∀ b,b0.heap.size<=b->P.t b=.z:=λb hb=>(K.new b hb).1;have a0:=(Cg.af (((hC2).n m).n O) (λ_ _=>Nr));refine qC 1 (Qu NM (λq W=>⟨(hA.ab q W).dn,(hA.ab q W).ag⟩) (by omega) (by omega)) ?_;rintro e' h5 ⟨ly,tv,ys,rfl,c2,a7,Z⟩;refine⟨_,rfl,Z,?_⟩;have b5:=Cg.dT (B:=w.heap.size) (T:=[]) (g:=P) Z;refine qR [] 3 [0,0] λe0 f0 h6 a5=>qE2 2 3 42 0 (d 0) (Jo (At.ew G) ly tv) (iv 0) λK=>⟨(Cg.af (((((hC2).n m).n O).n b5).n a5) (λ_ _=>Nr)),ly,tv,ys,rfl,(c2.ch a7 c0 a5),a7.mono a0.size⟩
end
end
section
def I64(n:Int):Prop:=-9223372036854775808<=n/\n<=9223372036854775807
end
section
open Go.RowKit
section
variable{B b j off sz:Nat}{L:List Lac}{M:Meet}{P:Program}{T:List Tg}{W w w' w0:World}{c k s tc tr tu v:Int}{e:TypeId}{g g':Gh}{l:List (Lac × S3)}{ly tv x y:S3}{ys:Nat->S3}{α:Type}
theorem tbA(h:Tabs w0)(C:Cg w0.heap.size TQ gS w0 g w):Tabs w:=⟨h.t.af (CgQ.af C),h.n.af (CgQ.af C),h.q.af h.q.pos (CgQ.af C)⟩
def UT(w:World):Prop:=Tabs w/\LWTab w/\LBTab w
theorem tb5(h:UT w0)(C:Cg w0.heap.size TQ gS w0 g w):UT w:=⟨tbA h.1 C,h.2.1.af (CgQ.af C),h.2.2.af (CgQ.af C)⟩
theorem bS{f:α->List Value}(d:∀ a,(f a).length=sz)(l:List α){i j:Nat}{a:α}{u:Value}(b:l[i]?=some a)(e:(f a)[j]?=some u):(l.flatMap f)[sz*i+j]?=some u:=by
 have g:j<sz:=by rw[<- d a];exact(V'.1 e).1
 induction l generalizing i with
 | nil=>cases b
 | cons c l ih =>
  rw[nX];cases i with
  | zero =>
   simp only[nh,X']at b;subst b;rw[mg (by rw[d];omega),qd,mJ];exact e
  | succ i =>
   rw[mi (by rw[d,Nat.mul_succ];omega),d,show sz*(i+1)+j-sz=sz*i+j by rw[Nat.mul_succ];omega];exact ih (by simpa using b)
theorem PQ{f:α->List Value}(b:∀ a,(f a).length=sz)(l:List α):(l.flatMap f).length=l.length*sz:=by
 induction l with
 | nil=>simp
 | cons c l ih=>rw[nX,H',b,ih,mH,oZ];omega
theorem lf{l:List Cmd}(h:RdV w x 5 (cmL l)):x.n=l.length:=h.rc.len
def acV(l:List (Lac × S3)):List Value:=l.flatMap λp=>laV p.1 p.2.v
theorem H8(l:List (Lac × S3))(x:Lac)(y:S3):acV (l++[(x,y)])=acV l++laV x y.v:=by simp[acV]
theorem aR(l:List (Lac × S3)):(acV l).length=l.length*5:=PQ (f:=λp:Lac × S3=>laV p.1 p.2.v) (λ_=>rfl) l
def Dat(g:Gh)(w:World)(l:List (Lac × S3)):Prop:=∀ p∈l,FSl g w p.2 p.1.d
theorem Dat.ch(h:Dat g w l)(c:Cg B T g w g' w')(b:Tg.z∉T:=by simp):Dat g' w' l:=λp a=>(h p a).ch c b
theorem Dat.snoc(h:Dat g w l){x:Lac}{y:S3}(k:FSl g w y x.d):Dat g w (l++[(x,y)]):=λp a=>(U'.1 a).elim (h p) λe=>by rw[D'.1 e];exact k
theorem Dat.app{m:List (Lac × S3)}(h:Dat g w l)(k:Dat g w m):Dat g w (l++m):=λp a=>(U'.1 a).elim (h p) (k p)
def Fa.oa(r:Nat)(x:S3)(l:List (Lac × S3)):Fa:=⟨some r,λg w=>OwnS g w (.n 60 r) true 28 5 x (acV l)/\Dat g w l,λhz hr c h=>⟨h.1.ch c (hr r rfl) (by simp),h.2.ch c hz⟩⟩
def Fa.dt(l:List (Lac × S3)):Fa:=⟨none,λg w=>Dat g w l,λhz _ c h=>h.ch c hz⟩
structure AcR(w:World)(x:S3)(L:List Lac)(l:List (Lac × S3)):Prop where
 e:l.map (·.1)=L
 r:RdV w x 5 (acV l)
 d:∀ p∈l,Sl w p.2.v p.1.d
theorem AcR.oo{r:Nat}(h:(Fa.oa r x l).p g w){L:List Lac}(e:l.map (·.1)=L):AcR w x L l:=⟨e,h.1.rv,λp a=>(h.2 p a).s⟩
theorem AcR.n(h:AcR w x L l):x.n=L.length:=by
 have:=h.r.len;rw[aR]at this
 rw[<- h.e,mm];omega
theorem AcR.sk(h:AcR w x L l)(q:L.length<=1000000):Sk w x.v (laF L) L.length:=by
 have o:=h.n;refine⟨⟨x.a,x.c,by rw[<- o],?_⟩,by omega⟩;rcases h.r.ex with h1|⟨b,off,h1,h2,h3⟩
 .exact .inl (by omega)
 .refine .inr ⟨b,off,h1,h2,λi k=>?_⟩;have g:i<l.length:=by rw[<- h.e,mm]at k;exact k
  refine⟨l[i].2.v,λj u m=>?_,?_⟩
  .rw[mV];refine h3 _ u (bS (f:=λp:Lac × S3=>laV p.1 p.2.v) (λ_=>rfl) l (G' g) ?_);have:laF L i=l[i].1:=by rw[OB k];simp[<- h.e]
   rw[this]at m;exact m
  .have:laF L i=l[i].1:=by rw[OB k];simp[<- h.e]
   rw[this];exact h.d _ (mE g)
theorem WX(L:List Lac):IU (laF L) L.length=L:=by
 apply ol
 .simp[IU]
 .intro i h1 h2;simp[IU,OB h2]
def Meet.log(M:Meet)(j:Nat):List Cmd:=(M.ab j).ae.take (M.ab j).done
structure OutF(g:Gh)(w:World)(ly tv:S3)(ys:Nat->S3)(M:Meet):Prop where
 qW:FzV g w ly 1 [S3.v (ys 0),S3.v (ys 1),S3.v (ys 2),S3.v (ys 3),S3.v (ys 4)]
 log:∀ j,j<5->FzV g w (ys j) 5 (cmL (M.log j))
 ed:FzV g w tv 5 (M.ed.flatMap FD)
theorem OutF.ch(h:OutF g w ly tv ys M)(c:Cg B T g w g' w')(a:Tg.z∉T:=by simp):OutF g' w' ly tv ys M:=⟨h.qW.ch c a,λj b=>(h.log j b).ch c a,h.ed.ch c a⟩
def Fa.ot(ly tv:S3)(ys:Nat->S3)(M:Meet):Fa:=⟨none,λg w=>OutF g w ly tv ys M,λhz _ c h=>h.ch c hz⟩
theorem Ul(h:OutW w M ly tv ys)(n:OutN B M ly tv ys)(G:∀ b,B<=b->g.t b=.z):OutF g w ly tv ys M :=
 ⟨⟨h.qW,λ_ a c=>G _ (n.qW a c)⟩,λj e=>⟨(h.log j e).rv,λd a c=>G _ (n.log j e d a c)⟩,⟨h.ed,λd a c=>G _ (n.ed d a c)⟩⟩
theorem OutW.n5(h:OutW w M ly tv ys):ly.n=5:=by have:=h.qW.len;simp at this;omega
theorem Un(h:OutF g w ly tv ys M):OutW w M ly tv ys:=⟨h.qW.rd,λj a=>(h.log j a).rd.rc,h.ed.rd⟩
theorem i8(h:Sk w x.v (laF L) L.length)(m:∀ a∈L,LacOk a)(l:L.length<=100000)(b:UT w){M:Meet}(j:At.ew L=M) :
  Calls prog 16 #[x.v] w λe w'=>∃ (ly tv:S3) (ys:Nat->S3),e=.returned (.tuple #[.agg (Jo M ly tv),iv 0])/\OutW w' M ly tv ys/\OutN w.heap.size M ly tv ys/\Bw w w':=by
 subst j;refine(dL h (λi c=>by rw[OB c];exact m _ (mE c)) l b.1 b.2.1 b.2.2).mono ?_;rw[WX];rintro e w' ⟨k,ly,tv,ys,d,f,g⟩;exact⟨ly,tv,ys,d,f,g,k⟩
theorem iz(h:Sk w x.v (laF L) L.length)(y:∀ a∈L,LacOk a)(t:L.length<=100000)(s:UT w){M:Meet}(r:At.ew L=M) :
  Calls prog 7 #[x.v] w λe w'=>∃ (ly tv:S3) (ys:Nat->S3),e=.returned (.tuple #[.agg (Jo M ly tv),.bool true])/\OutW w' M ly tv ys/\OutN w.heap.size M ly tv ys/\Bw w w':=by
 refine tIn [] func7 trivial (tR 8 [1,0] λb _ _=>tF λ_ k=>?_);have d:=k.size;refine tC 1 (λF C=>i8 (h.af (CgQ.af C)) y t (tb5 s C) r) λo=>?_;rintro _ _ ⟨ly,tv,ys,rfl,j,i,p⟩;refine⟨_,Fa.ot ly tv ys M::_,rfl,p,λF=>⟨Ul j i o,F⟩,?_⟩;refine tR 14 [0,0,1,0,9,0,1,2,4,6,8] λf _ _=>Jy 20 (λq m c=>∃ (_:Unit),q=[(2,pt (b 0) 0),(3,.bool ((ly.n:Int)==5))]/\m=[⟨(b 0),.cells (Jo M ly tv) 42,.l,false⟩,⟨(f 0),.cells (Jo M ly tv) 42,.z,false⟩]/\c=[Fa.ot ly tv ys M]) (λJ g=>?_) ?_
 .refine ID 5 9 ?_ ?_
  .refine tR 7 [1,12,14,16,19,0,0,20] λA _ _=>tD g [true,true] ⟨(),rfl,rfl,rfl⟩ (λF=>⟨F.1,trivial⟩)
  .refine tR 7 [0,0,11,1,12,14,16,20] λB _ _=>tD g [true,true] ⟨(),rfl,rfl,rfl⟩ (λF=>⟨F.1,trivial⟩)
 rintro _ _ _ ⟨_,rfl,rfl,rfl⟩ _ _ _;have u:(((ly.n:Nat):Int)==5)=true:=by rw[j.n5];rfl
 exact tX λF C=>qE2 2 3 42 0 (b 0) (Jo M ly tv) (.bool ((ly.n:Int)==5)) λ_=>⟨ly,tv,ys,by rw[u],Un F.1,i.mono d,CgQ.af C⟩
theorem iy(h:AcR w x L l)(f:∀ a∈L,LacOk a)(d:L.length<=100000)(c:UT w){M:Meet}(b:At.ew L=M) :
  Calls prog 7 #[x.v] w λe w'=>∃ (ly tv:S3) (ys:Nat->S3),e=.returned (.tuple #[.agg (Jo M ly tv),.bool true])/\OutW w' M ly tv ys/\OutN w.heap.size M ly tv ys/\Bw w w':=iz (h.sk (by omega)) f d c b
theorem jO(c:x.a=some ⟨b,off,none⟩)(j:Nat)(d:j<x.n):(Instr.indexAt 38 x.v (iv (j:Int))).run prog W=.ok (pt b (off+j)) W:=by
 obtain⟨f,h,g⟩:=x;simp only at c d;subst c;exact MR (P:=prog) (e:=46) (z:=1) underlying38 (by kernel_rfl) (by kernel_rfl) d _ (by rw[pO])
theorem cP(h:RdV w ly 1 [S3.v (ys 0),S3.v (ys 1),S3.v (ys 2),S3.v (ys 3),S3.v (ys 4)])(c:ly.a=some ⟨b,off,none⟩)(d:j<5):w.cell? ⟨b,off+j,none⟩=some (S3.v (ys j)):=by
 rcases h.ex with h1|⟨b',off',h1,h2,h3⟩
 .have:=h.len;simp at this;omega
 .rw[c]at h1;cases h1
  refine h3 j _ ?_;rcases qm d with rfl|rfl|rfl|rfl|rfl<;>rfl
def rnP(l:List Lac):List (Lac × S3):=l.map λa=>(a,s30)
theorem dG(l:List Lac):(rnP l).map (·.1)=l:=by simp[rnP,Function.comp_def]
theorem LX(l:List Lac)(a:Lac):rnP (l++[a])=rnP l++[(a,s30)]:=by simp[rnP]
def Bz(k:Int)(j:Nat):List Lac:=(List.range j).map λn:Nat=>acN k (n:Int)
theorem Dv(k:Int)(j:Nat):Bz k (j+1)=Bz k j++[acN k (j:Int)]:=by simp[Bz,List.range_succ]
theorem kD{l:List Tol}(h:RdV w x 5 (l.flatMap FD)):x.n=l.length:=by
 have:=h.len;rw[PQ (f:=FD) (sz:=5) (λ_=>rfl)]at this
 omega
theorem ko{L:List Sh}(h:Kn B g w L)(k b:Nat)(news:List Value)(e:TypeId)(t:Tg)(v:Bool)(d:L[k]?=some ⟨b,.cells news.toArray e,t,v⟩){j:Nat}{u:Value}(c:news[j]?=some u):w.cell? ⟨b,j,none⟩=some u:=by
 have:=CO h k b news e t v d j u c;have a:(⟨b,0,none⟩:Addr).add j=⟨b,j,none⟩:=by unfold Addr.add;split<;>simp_all
 rwa [a]at this
theorem Zk{k n:Nat}(a:n<5):(Instr.indexAt 37 (pt b k) (iv (n:Int))).run prog W=.ok (pt b (k+n)) W:=by
 rcases qm a with rfl|rfl|rfl|rfl|rfl<;>kernel_rfl
theorem fg{n:Nat}(a:n<5){u:Bool}(b:(M.ab n).up=u):(Jo M ly tv).toList[1+n]?=some (.bool u):=by
 subst b;rcases qm a with rfl|rfl|rfl|rfl|rfl<;>rfl
theorem Nq(a:List (List Int))(j:Nat)(h:j<a.length):(a.take (j+1)).flatten=(a.take j).flatten++a.getD j []:=by
 rw[mj h,List.flatten_append];simp[List.getD,List.getElem?_eq_getElem h]
theorem TT(a:List (List Int))(h:∀ l∈a,l.length<=1000):a.flatten.length<=1000*a.length:=by
 induction a with
 | nil=>simp
 | cons x r ih =>
  have c:=h x (by simp);have d:=ih (λl b=>h l (by simp[b]));simp only[List.flatten_cons,H',mH];omega
theorem MD(n:Nat):(Builtin.zeroCells (Value.int .u8 0).cells n).size=n:=by
 simp[Builtin.zeroCells,Value.cells]
theorem Yh(n:Nat)(w:World)(o:0<n)(t:n<=20000) :
  Calls prog 26 #[.slice none 0 0,.int .i64 (n:Int)] w λe w'=>∃ v',e=.returned v'/\w'.ownsRow w.heap.size 5 1 v' 0 []/\Bw w w':=by
 obtain⟨r,l,d,f,g⟩:=info_parts Av;have i:=λs=>Lib.run_append_nil_zeros (P:=prog) w 26 3 s 5 r (.int .u8 0) .i64 .i64 underlying26 underlying3 l d n o (by rw[f];decide) (by omega) (by rw[g];omega);have c:=grownCap_ge w n 0 5;have b:=grownCap_le_maxLen w n 0 5 (by unfold maxLen;omega);have a:(Builtin.zeroCells (Value.int .u8 0).cells n++Builtin.zeroCells (Value.int .u8 0).cells (grownCap w n 0 5-n)).size=grownCap w n 0 5*1:=by rw[Array.size_append,MD,MD];omega
 generalize Builtin.zeroCells (Value.int .u8 0).cells n++Builtin.zeroCells (Value.int .u8 0).cells (grownCap w n 0 5-n)=Z at i a;generalize grownCap w n 0 5=cap at i a c b;have k:Bw w (w.drew.alloc (.cells Z 5)):=((Below.refl w.heap.size w).drew).alloc (by exact A' _) _;have j:(w.drew.alloc (.cells Z 5)).heap[w.heap.size]?=some (.cells Z 5):=heap_alloc_new _ _;generalize w.drew.alloc (.cells Z 5)=W at i k j;have p:W.ownsRow w.heap.size 5 1 (.slice (some ⟨w.heap.size,0,none⟩) 0 cap) 0 []:=⟨by simp,.inr ⟨w.heap.size,cap,Z,rfl,A' _,j,by omega,b,a,by simp⟩⟩;have q:∀ h,(Instr.slice 26 (.slice (some ⟨w.heap.size,0,none⟩) n cap) none (some (.int .i64 0)) none).run prog h=.ok (.slice (some ⟨w.heap.size,0,none⟩) 0 cap) h:=λh=>by
  rw[run_slice_h (P:=prog) h 26 (some ⟨w.heap.size,0,none⟩) n cap underlying26 .i64 0 (by omega) (by omega)];have e:prog.elem 26=5:=by kernel_rfl
  rw[e,Gp];simp[Result.andThen,sliced,Addr.add_mid]
 have m:(0:Int)<(n:Int):=by omega
 clear j a b c l d f g;go_enter func26,ntmps26
 go_wp2_with (at_builtin;refine Lib.wpList_append_run _ rfl _ _ _ _ rfl _ _ rfl rfl _ _ (i _) ?_)
 go_ret;exact⟨_,rfl,p,k⟩
theorem R8(g n M:Nat)(K:List Value)(a:List (List Int))(w:World)(hg:g<w.heap.size)(hn:n<=10)(C:a.length=n)(R:∀ i,i<n->w.cell? ⟨g,i,none⟩=some (K.getD i undef))(U:∀ i,i<n->Sl w (K.getD i undef) (a.getD i []))(y:∀ l∈a,l.length<=1000)(T:0<a.flatten.length) :
  Calls prog 15 #[.slice (some ⟨g,0,none⟩) n M] w λe w'=>∃ v',e=.returned v'/\w'.ownsRow w.heap.size 5 1 v' a.flatten.length (a.flatten.map (Value.int .u8))/\Bw w w':=by
 have c:Hid (a.length=n):=C;have O:Hid _:=R;have P:Hid _:=U;have I:Hid _:=y;have X:Hid _:=T;clear C R U y T;go_enter func15,ntmps15
 go_wp2_with fail
 go_loopw [3,11] (λsv i wr=>∃ j:Nat,j<=n/\i=.int .i64 j/\sv=.int .i64 ((a.take j).flatten.length:Int)/\w=wr) (λ_ i _=>n-(intOf i).toNat)
 case atStart=>exact⟨0,by omega,rfl,by simp,rfl⟩
 case round =>
  obtain⟨j,hj,rfl,rfl,rfl⟩:=hrel;have d:=TT (a.take j) (λl y=>I.out l (mh y));by_cases m:j<n
  .have t:(a.take j).flatten.length<=10000:=by rw[Z']at d;omega
   have r:Hid ((a.take (j+1)).flatten.length=(a.take j).flatten.length+(a.getD j []).length):=by unfold Hid;rw[Nq a j (by rw[c.out];exact m),H']
   have q:=P.out j m;have J:=O.out j m;have u:(a.getD j []).length<=1000:=by
    have f:j<a.length:=by rw[c.out];exact m
    have:a.getD j []=a[j]:=by simp[List.getD,List.getElem?_eq_getElem f]
    rw[this];exact I.out _ (mE f)
   generalize K.getD j undef=vj at q J;generalize a.getD j []=lj at q r u;generalize (a.take j).flatten.length=pre at r t;clear d;obtain⟨⟨aj,kj,rfl,_,_,_⟩,_,_⟩:=q;generalize lj.length=nj at *;go_wp2
   go_roundw
   case rel=>exact⟨j+1,by omega,by go_num,by rw[r.out];go_num,by simp⟩
   case measure=>simp[intOf];omega
  .obtain rfl:j=n:=by omega
   have Q:Hid (a.take j=a):=mc (by rw[c.out];exact A' _);have V:a.flatten.length<=10000:=by rw[Q.out,c.out]at d;omega
   rw[Q.out];clear d;have L:=X.out;generalize G:a.flatten.length=Z at V L;have Y:Hid (a.flatten.length=Z):=G;clear G;go_wp2_with fail
   refine(Yh Z w L (by omega)).mono ?_;rintro e w1 ⟨v1,rfl,x,A⟩;clear L V;obtain⟨g1,c1,rfl⟩:=E8 x;have z:Hid (w1.ownsRow w.heap.size 5 1 (.slice g1 0 c1) (a.take 0).flatten.length ((a.take 0).flatten.map (Value.int .u8))):=by unfold Hid;simpa using x
   clear x;go_wp2_with fail
   go_loopw [6,27] (λv i wr=>∃ k:Nat,k<=j/\i=.int .i64 k/\Hid (wr.ownsRow w.heap.size 5 1 v (a.take k).flatten.length ((a.take k).flatten.map (Value.int .u8)))/\Bw w wr) (λ_ i _=>j-(intOf i).toNat)
   case atStart=>exact⟨0,by omega,rfl,z,A⟩
   case round =>
    obtain⟨k,S,rfl,h,s⟩:=hrel;have b:=h.out;clear h z A;have D:=b.lt;by_cases o:k<j
    .have d:=TT (a.take k) (λl y=>I.out l (mh y));have t:(a.take k).flatten.length<=10000:=by rw[Z']at d;omega
     have r:Hid ((a.take (k+1)).flatten=(a.take k).flatten++a.getD k []):=Nq a k (by rw[c.out];exact o);have q:=(P.out k o).af s;have J:=(s.cell (p:=⟨g,k,none⟩) hg).trans (O.out k o);have u:(a.getD k []).length<=1000:=by
      have f:k<a.length:=by rw[c.out];exact o
      have:a.getD k []=a[k]:=by simp[List.getD,List.getElem?_eq_getElem f]
      rw[this];exact I.out _ (mE f)
     generalize K.getD k undef=vj at q J;generalize a.getD k []=lj at q r u;generalize (a.take k).flatten=pre at b r t;clear d;have H:=q;obtain⟨⟨aj,kj,rfl,_,_,_⟩,_,_⟩:=q;go_wp2_with (at_builtin;refine Aa _ rfl _ _ 26 rfl w.heap.size 5 underlying26 Av _ _ rfl rfl pre lj b H (by omega) s.size ?_)
     intro v2 W E B;have F:W.ownsRow w.heap.size 5 1 v2 (pre++lj).length ((pre++lj).map (Value.int .u8)):=by simpa using E
     have N:Bw w W:=s.grown B s.size (λk S=>(D k S).1);clear E B b D s H J;go_wp2
     go_roundw
     case rel=>exact⟨k+1,by omega,by go_num,by rw[r.out];exact F,N⟩
     case measure=>simp[intOf];omega
    .have HJ:Hid (a.take k=a):=by unfold Hid;exact mc (by rw[c.out];omega)
     go_wp2
     go_ret;refine⟨u6,rfl,?_,s⟩;rw[HJ.out]at b
     exact b
theorem bv{c d:Value}{a b:List Int}{g:Nat}(f:w.heap[g]?=some (.cells #[c,d] e))(h:Sl w c a)(j:Sl w d b)(k:a.length<=1000)(m:b.length<=1000)(n:0<a.length) :
  Calls prog 15 #[.slice (some ⟨g,0,none⟩) 2 2] w λe w'=>∃ v',e=.returned v'/\w'.ownsRow w.heap.size 5 1 v' (a++b).length ((a++b).map (Value.int .u8))/\Bw w w':=by
 refine(R8 g 2 2 [c,d] [a,b] w (Q'.1 f).1 (by omega) rfl ?_ ?_ ?_ ?_).mono ?_
 .intro i hi;rw[cell_of_row _ _ i _ _ _ f];obtain rfl|rfl:i=0\/i=1:=by omega
  all_goals rfl
 .intro i hi;obtain rfl|rfl:i=0\/i=1:=by omega
  .exact h
  .exact j
 .intro l hl;simp only[ma,P',or_false]at hl;rcases hl with rfl|rfl
  .exact k
  .exact m
 .simp;omega
 .rintro e w2 ⟨v2,rfl,ho,hb⟩;exact⟨v2,rfl,by simpa using ho,hb⟩
theorem Yg(d:Sl w x.v EP)(f:AG w)(h:Dg tc tr tu) :
  Calls prog 10 #[x.v,.agg #[iv tc,iv tr,iv tu]] w λe w'=>∃ y:S3,e=.returned (.tuple #[y.v,iv 0])/\Sl w' y.v (Es EP tc tr tu)/\Bw w w':=by
 refine(Vz x.v EP tc tr tu w d f).mono ?_;have a:MK EP tc tr tu=0:=by rw[PV Gb];exact IK h
 rintro e w' ⟨v,rfl,b,c⟩;rw[show PW EP tc tr tu=Es EP tc tr tu from if_pos a]at b
 rw[a];obtain⟨y,rfl,g⟩:=OM b (by rw[BB];decide) (Og _ h);exact⟨y,rfl,g,c⟩
theorem Xn{l m:List Int}{g:Nat}(j:w.heap[g]?=some (.cells #[x.v,y.v] e))(b:Sl w x.v l)(c:Sl w y.v m)(n:l.length<=1000)(o:m.length<=1000)(p:0<l.length) :
  Calls prog 15 #[.slice (some ⟨g,0,none⟩) 2 2] w λe w'=>∃ z:S3,e=.returned z.v/\Sl w' z.v (l++m)/\Nb w.heap.size z (l++m)/\Bw w w':=by
 refine(bv j b c n o p).mono ?_;rintro e w' ⟨v,rfl,i,f⟩;obtain⟨z,rfl,k,h⟩:=Jp i (by rw[H'];omega) (λa d=>(U'.1 d).elim (b.byte a) (c.byte a));exact⟨z,rfl,k,h,f⟩
theorem dq{n m:Int}(h:paE n tc tr tu k c s m v=0)(o:Tabs w) :
  Calls prog 6 #[iv n,.agg #[iv tc,iv tr,iv tu],.agg #[iv k,iv c,iv s,iv m,iv v]] w λe w'=>∃ y:S3,e=.returned (.tuple #[y.v,iv 0])/\Sl w' y.v (paL n tc tr tu k c s m v)/\Nb w.heap.size y (paL n tc tr tu k c s m v)/\Bw w w':=by
 obtain⟨Y,hB,X⟩:=I0 h;have hc:=(CW X).2;unfold InC at hc;rw[ON h];refine kIn func6 (kR 11 [0,0,0,0] λb4 w1 b1=>kV 1 (.bool false) (rLt (x:=(.tmp 14)) (y:=(.const (iv 0))) (t:=3) (m:=n) (n:=0) (E' (by omega))) (kR 2 [] λb6 w2 b2=>kV 4 (.bool false) (rGe (x:=(.tmp 17)) (y:=(.const (iv 1073741824))) (t:=3) (m:=n) (n:=1073741824) (E' (by omega))) (kR 7 [8,2,0] λb7 w3 b3=>?_)));have S:=(btr (btr b1 b2) b3);refine kC 0 (Ji (o.t.af S)) ?_;rintro _ w5 ⟨yi,rfl,M,_,U⟩;refine⟨_,rfl,U,?_⟩;have T:=(btr S U);refine kC 2 (Yg M (o.t.af T) hB) ?_;rintro _ w8 ⟨yt,rfl,Q,V⟩;refine⟨_,rfl,V,?_⟩;refine kR 17 [6,8,10,12,14,1] λc0 w9 W=>?_;have p:=(btr (btr T V) W);refine kC 1 (XN (m:=⟨k,c,s,m,v⟩) (o.n.af p) X) ?_;rintro _ a2 ⟨yc,rfl,L,g⟩;refine⟨_,rfl,g,?_⟩;refine kR 18 [1] λZ a3 i=>?_;have r:=(btr (btr p g) i);refine kC 2 (Yt (c:=c) (by omega) (by omega) (o.t.af r)) ?_;rintro _ a4 ⟨yk,rfl,N,_,d⟩;refine⟨_,rfl,d,?_⟩;refine kR 22 [0,0] λH a5 f=>Af λK=>kC 6 (Xn (K.sV 2 (H 0) _ 26 .z true (by kernel_rfl)) (((((Q.af W).af g).af i).af d).af f) (((L.af i).af d).af f) (by rw[BB];decide) (by rw[DC];decide) (by rw[BB];decide)) ?_;rintro _ a6 ⟨yp,rfl,O,_,j⟩;refine⟨_,rfl,j,?_⟩;have A:=(btr (btr (btr r d) f) j);refine kC 7 (dP ((N.af f).af j) (Cn c) O (lS (pH (D0 tc tr tu k c s m v)) (by decide)) ⟨Y.1,Y.2⟩ (o.q.af o.q.pos A)) ?_;rintro _ a7 ⟨u,z,rfl,hz,_,C⟩;refine⟨_,rfl,C,?_⟩;refine kR 21 [0,0,3,0,1] λa0 a8 D=>kV 2 (.int .u8 c) (fu (P:=prog) (src:=3) (dst:=5) (k:=.i64) (n:=c) (by kernel_rfl) underlying5 (by kernel_rfl) (by rw[IntKind.wrap_u8];omega)) (kR 3 [0,0,0,0] λb R E=>Af λK=>?_);have J:Sl R (S3.v ⟨some ⟨(b 0),0,none⟩,1,1⟩) [c]:=Sl.ofRow (l:=[c]) (K.sV 4 (b 0) _ 5 .z true (by kernel_rfl)) (by show 1<=_;decide) (λa ha=>by rw[D'.1 ha];omega);have B:=(btr (btr (btr A C) D) E);refine kC 6 (Xn (x:=⟨some ⟨(b 0),0,none⟩,1,1⟩) (K.sV 5 (b 1) _ 26 .z true (by kernel_rfl)) J ((hz.af D).af E) (by show 1<=1000;decide) (by rw[Dd];show(paP tc tr tu k c s m v).length+20<=1000;rw[D0];decide) (by show 0<1;decide)) ?_;rintro _ a9 ⟨y,rfl,hy,hw,F⟩;refine⟨_,rfl,F,?_⟩;refine kR 3 [] λa1 b0 G=>?_;have I:=(btr (btr B F) G);exact kE (.tuple #[S3.v y,iv 0]) ⟨y,rfl,(hy.af G),hw.mono B.size,I⟩
theorem jU(a:Int)(h:-9223372036854775808<=-a/\-a<=9223372036854775807):(Op.unary .neg (iv a)).run P W=.ok (iv (-a)) W:=by
 simp[go_sem];rw[IntKind.wrap_i64];omega
theorem Us{x y:Operand}(a b:Int)(i:P.underlying 3=some (.int .i64))(f:0<=a)(g:a<=9223372036854775807)(j:0<b)(h:b<=9223372036854775807):(do Go.eqGuard .rem 3 x y (iv a) (iv b);Go.binOp .rem 3 (iv a) (iv b):Sem Value).run P W=.ok (iv (a%b)) W:=by
 have e:=jV (P:=P) (W:=W) (x:=x) (y:=y) a.toNat b.toNat i (by omega) (by omega) (by omega);have c:((a.toNat:Nat):Int)=a:=oh f;have d:((b.toNat:Nat):Int)=b:=oh (by omega);rw[c,d]at e
 rw[e,pQ,c,d]
theorem fC{x y:Operand}(a:Int)(e:P.underlying 3=some (.int .i64))(b:0<=a)(c:a<=1000):(do Go.eqGuard .quo 3 x y (iv a) (iv 2);Go.binOp .quo 3 (iv a) (iv 2):Sem Value).run P W=.ok (iv (a/2)) W:=by
 have d:a.tdiv 2=a/2:=pE b;simp only[Go.eqGuard,go_sem,Op.intDiv];simp[d];rw[IntKind.wrap_i64];omega
theorem AP{n:Int}(h:I64 n)(a:Int)(d:0<a:=by decide)(b:a<=9223372036854775807:=by decide) :
  Calls prog 9 #[iv n,iv a] w λe w'=>e=.returned (iv (pick n a))/\Bw w w':=by
 unfold I64 at h;refine tIn [] func9 trivial (tR 10 [] λf _ _=>?_);by_cases c:n<0
 .refine tI ((decide (n<0))) true (O' c) (tR 2 [] λg _ _=>tV 1 (iv (n+1)) (λF C=>(Bd 7 n underlying3 (by omega))) (tV 2 (iv (-(n+1))) (λF C=>(jU (n+1) (by omega))) (tR 6 [] λi _ _=>tV 2 (iv (-(n+1)%a)) (λF C=>(Us (x:=(.tmp 10)) (y:=(.tmp 11)) (-(n+1)) a underlying3 (by omega) (by omega) d b)) (tR 2 [] λj _ _=>tE (iv (-(n+1)%a)) λ_ B=>⟨by rw[show pick n a=_ from if_pos c],B⟩))))
 .refine tI ((decide (n<0))) false (E' c) (tR 5 [] λk _ _=>tV 2 (iv (n%a)) (λF C=>(Us (x:=(.tmp 10)) (y:=(.tmp 11)) n a underlying3 (by omega) (by omega) d b)) (tR 2 [] λl _ _=>tE (iv (n%a)) λ_ B=>⟨by rw[show pick n a=_ from if_neg c],B⟩))
theorem US{n:Int}(h:I64 n)(a:Int)(c:0<a:=by decide)(b:a<=9223372036854775807:=by decide) :
  Calls prog 4 #[iv n,iv a] w λe w'=>e=.returned (iv (pick n a))/\Bw w w':=by
 refine tIn [] func4 trivial (tR 8 [] λd _ _=>tC1 2 (λF C=>AP h a c b) λ_=>tR 2 [] λf _ _=>tE (iv (pick n a)) λ_ B=>⟨rfl,B⟩)
theorem Rl{n:Int}(t:I64 k)(r:I64 c)(q:I64 s)(f:I64 n)(M:I64 v) :
  Calls prog 5 #[.agg #[iv k,iv c,iv s,iv n,iv v]] w λe w'=>e=.returned (.agg #[iv (wK k),iv (pick c 4),iv (pick s 6),iv (pick n 4),iv (wV k v)])/\Bw w w':=by
 have O:=BF k 5 (by omega);refine tIn [] func5 trivial (tR 15 [0,0,1,0,17,0,2,0,10,12,0,16,18,0,22,24,0] λa _ _=>Jy 27 (λL K g=>∃ (b:Nat),L=[(1,pt (a 0) 0),(2,pt (a 1) 0),(3,pt b 0)]/\K=[⟨(a 0),.cells #[iv k,iv c,iv s,iv n,iv v] 23,.z,false⟩,⟨(a 1),.cells #[iv 0,iv 0,iv 0,iv 0,iv 0] 30,.l,false⟩,⟨b,.cells #[iv (wK k),iv (pick c 4),iv (pick s 6),iv (pick n 4),iv 0] 30,.l,false⟩]/\g=[]) (λJ d=>?_) ?_)
 .refine ID 2 15 ?_ ?_
  .refine tC 2 (λF C=>AP t 5) λN=>?_;rintro _ _ ⟨rfl,b⟩;refine⟨_,_,rfl,b,id,?_⟩;refine tT 3 (iv (pick k 5/2)) (λ_=>(fC (x:=(.tmp 6)) (y:=(.const (iv 2))) (pick k 5) underlying3 (by omega) (by omega))) (tT 4 (iv (wK k)) (λ_=>(Q8 (x:=(.const (iv 1))) (y:=(.tmp 7)) 1 (pick k 5/2) underlying3 (by omega))) (ID 7 15 ?_ ?_))
   .refine tC1 7 (λF C=>AP r 4) λ_=>ID 10 15 ?_ ?_
    .refine tC1 10 (λF C=>AP q 6) λ_=>ID 13 15 ?_ ?_
     .refine tC1 13 (λF C=>AP f 4) λ_=>tR 4 [28,31,1,0,33,2,0] λh _ _=>tD d [true,true,true] ⟨(h 0),rfl,rfl,rfl⟩ (λF=>trivial)
     .refine tR 1 [1,0] λi _ _=>tC1 13 (λF C=>AP f 4) λ_=>tR 3 [28,33,2,0] λu _ _=>tD d [true,true,true] ⟨(i 0),rfl,rfl,rfl⟩ (λF=>trivial)
    .refine tR 1 [1,0] λj _ _=>tC1 10 (λF C=>AP q 6) λ_=>tC1 13 (λF C=>AP f 4) λ_=>tR 3 [28,33,2,0] λA _ _=>tD d [true,true,true] ⟨(j 0),rfl,rfl,rfl⟩ (λF=>trivial)
   .refine tR 1 [1,0] λm _ _=>tC1 7 (λF C=>AP r 4) λ_=>tC1 10 (λF C=>AP q 6) λ_=>tC1 13 (λF C=>AP f 4) λ_=>tR 3 [28,33,2,0] λB _ _=>tD d [true,true,true] ⟨(m 0),rfl,rfl,rfl⟩ (λF=>trivial)
  .refine tR 1 [1,0] λo _ _=>tC1 2 (λF C=>AP t 5) λ_=>tT 3 (iv (pick k 5/2)) (λ_=>(fC (x:=(.tmp 6)) (y:=(.const (iv 2))) (pick k 5) underlying3 (by omega) (by omega))) (tT 4 (iv (wK k)) (λ_=>(Q8 (x:=(.const (iv 1))) (y:=(.tmp 7)) 1 (pick k 5/2) underlying3 (by omega))) (tC1 7 (λF C=>AP r 4) λ_=>tC1 10 (λF C=>AP q 6) λ_=>tC1 13 (λF C=>AP f 4) λ_=>tR 3 [28,33,2,0] λD _ _=>tD d [true,true,true] ⟨(o 0),rfl,rfl,rfl⟩ (λF=>trivial)))
 rintro _ _ _ ⟨b,rfl,rfl,rfl⟩ _ _ _;refine tR 7 [2] λE _ _=>?_;by_cases p:wK k=1
 .refine tI (((wK k)==1)) true (by simpa using p) (tR 3 [0] λG _ _=>tC1 2 (λF C=>AP M 1000) λ_=>tR 8 [2,0,2,1,0] λH _ _=>tX λF C=>qE1 2 30 1 (a 1) #[iv (wK k),iv (pick c 4),iv (pick s 6),iv (pick n 4),iv (pick v 1000)] λ_=>⟨by rw[show wV k v=_ from if_pos p],CgQ.af C⟩)
 .refine tI (((wK k)==1)) false (by simpa using p) (tR 6 [2,1,0] λI _ _=>tX λF C=>qE1 2 30 1 (a 1) #[iv (wK k),iv (pick c 4),iv (pick s 6),iv (pick n 4),iv 0] λ_=>⟨by rw[show wV k v=_ from if_neg p],CgQ.af C⟩)
theorem gv{a:List Cmd}{c:Cmd}(h:RdV w x 5 (cmL a))(R:a.length<1000000){r:Bool}(l:decide (c∈a)=r) :
  Calls prog 8 #[x.v,.agg #[iv c.k,iv c.c,iv c.s,iv c.n,iv c.v]] w λe w'=>e=.returned (.bool r)/\Bw w w':=by
 have T:=lf h;refine tIn [Fa.zv x 5 (cmL a)] func8 ⟨h.fz,trivial⟩ (tR 11 [0,0] λb _ _=>EY 18 [(0,S3.v x),(3,pt (b 0) 0),(5,iv 0)] [true] [⟨(b 0),.cells #[iv c.k,iv c.c,iv c.s,iv c.n,iv c.v] 30,.z,false⟩] [Fa.zv x 5 (cmL a)] (λG A t g=>∃ (i:Nat),G=a.length-i/\A=[(0,S3.v x),(3,pt (b 0) 0),(5,iv (i:Int))]/\t=[⟨(b 0),.cells #[iv c.k,iv c.c,iv c.s,iv c.n,iv c.v] 30,.z,false⟩]/\g=[Fa.zv x 5 (cmL a)]/\i<=a.length/\c∉a.take i) (a.length) ⟨0,rfl,rfl,rfl,rfl,by omega,by simp⟩ (λF=>F) ?_);rintro k _ _ _ ⟨i,rfl,rfl,rfl,rfl,S,m⟩ _ _ _ J D;refine tR 8 [] λI _ _=>?_;by_cases Q:i<a.length
 .refine tI ((decide ((i:Int)<(x.n:Int)))) true (O' (by omega)) ?_;obtain⟨d,o⟩:∃ d,a[i]?=some d:=⟨_,G' (by omega)⟩;refine tF λF _=>?_;obtain⟨bx,H,f⟩:=F.1.rd.rc.addr (k:=i) (by omega);refine tR 7 [6,0,2] λK _ _=>tT 2 (pt bx (H+5*i)) (λ_=>(NT f i (by omega))) (tR 1 [8,0] λL _ _=>tV 3 (.agg #[iv d.k,iv d.c,iv d.s,iv d.n,iv d.v]) (λF C=>(Wd d λU u E=>F.1.rd.rc.cellAt f o E)) (tT 5 (.bool (decide (d=c))) (λ_=>(jL (x:=(.tmp 15)) (y:=(.tmp 16)) d c)) (tR 1 [] λM _ _=>?_)));by_cases j:d=c
  .refine tI ((decide (d=c))) true (O' j) (tR 4 [] λN _ _=>?_);rw[O' (j▸ml o)]at l
   subst l;exact tE (.bool true) λ_ B=>⟨rfl,B⟩
  .refine tI ((decide (d=c))) false (E' j) (tR 4 [] λO _ _=>tV 1 (iv ((i:Int)+1)) (λF C=>(Bd 10 (i:Int) underlying3 (by omega))) (tR 2 [] λP _ _=>tB D (a.length-(i+1)) (by omega) [true] ⟨i+1,rfl,rfl,rfl,rfl,by omega,λp=>by rw[nA,o]at p;rcases U'.1 p with h|h;exact m h;exact j (by simp at h;exact h.symm)⟩ (λF=>F)))
 .refine tI ((decide ((i:Int)<(x.n:Int)))) false (E' (by omega)) (tR 5 [] λq _ _=>?_);rw[mc (by omega)]at m
  rw[E' m]at l
  subst l;exact tE (.bool false) λ_ B=>⟨rfl,B⟩
end
end
end Go.Proofs.YteimjcbgceckdaaGreatDoor
