/- Part 12 of the walk. -/
import Derived.Test.YtdnmoonbpfmijaaGreatDoorZ11
set_option maxRecDepth 100000
set_option maxHeartbeats 4000000
open Go.Proofs.Tryz
set_option linter.unusedVariables false
namespace Go.Proofs.YtdnmoonbpfmijaaGreatDoor
open Go.RowKit
section
theorem QT(p:Nod)(b:Bal):(p.au b).1.ae=p.ae:=by
 unfold Nod.au;repeat' split
 all_goals rfl
variable{B C b i j mb ob r sz tb:Nat}{F:Nat->Lac}{K key p:List Int}{L:List Lac}{M:Meet}{T:List Tg}{W w w' w0:World}{c k s t:Int}{e:TypeId}{g g':Gh}{l:List (Lac × S3)}{ly tv x y:S3}{nb:Nat->Nat}{vs xs:List Value}{ys:Nat->S3}{α:Type}
theorem YZ{nb:Nat}{p:Nod}{U:List Let}{V:List Tol}(h:NS i nb ob g w p U V){w0:World}(hB:Base w0 g w)(hT:Tabs w0)(hb:p.bw.length<100000000)(hr:p.dc<1000000000000)(b3:-1000000000000<p.dc)(hv:p.vo.p.r<1000000000000) :
  Calls prog 36 #[pt nb 0] w (NP i nb ob g w (.tuple #[]) (if p.up then p.lead i else p) U V):=by
 obtain⟨x,lt,tl,Z,hO,hg⟩:=h;refine gI (fn:=f36) (TN i) g func36 hg (qN Z (qO hO (qR [] 13 [0,0,2,0] λm g1 w1 I=>?_)));by_cases T:p.up=true
 .refine qI ((!p.up)) false (by simpa using T) ?_;rw[if_pos T];refine qR [] 15 [21,0,2,2,4,6,8,0,10,2,12,14,16,18,20,22,0] λs2 g2 w2 R=>qT 12 (iv (max p.dc p.vo.p.r)) (λ_=>(kU #[3,3] 3 p.dc p.vo.p.r)) (qT 13 (iv ((max p.dc p.vo.p.r)+1)) (λ_=>(Ay 23 (max p.dc p.vo.p.r) underlying3 (by omega))) (qR [] 12 [28,2,30,32,34,0,36,39,0,0,41,3,0,2,3] λo g4 w4 S=>Af λK=>?_));have N5:NS i nb ob g4 w4 p U V:=(nsC Z hO ((I.n R).n S) K);refine qG 2 (TN i) [false,false,true,true] (FR N5 (hB.ch (((I.nil (TN i)).n R).n S) (B1 i)) hT (⟨(max p.dc p.vo.p.r)+1,(i:Int)⟩:Bal)) ?_;rintro e' w5 ⟨u,g5,rfl,a0,M5,L⟩;refine⟨_,g5,rfl,L,M5.new,?_⟩;replace L:=L.ret (B:=w.heap.size);obtain⟨c,e,j,a,H,b2⟩:=M5;refine qN a (qO H (qR [] 13 [0,0,4,0] λq g7 w7 M=>?_));by_cases N:(p.au (⟨(max p.dc p.vo.p.r)+1,(i:Int)⟩:Bal)).2.2≠0
  .refine qI (((p.au (⟨(max p.dc p.vo.p.r)+1,(i:Int)⟩:Bal)).2.2 != 0)) true (by simpa using N) (qE (.tuple #[]) λK=>?_);rw[show p.lead i=(p.au (⟨(max p.dc p.vo.p.r)+1,(i:Int)⟩:Bal)).1 from by rw[Mh N];exact if_pos N];exact⟨_,rfl,(nsC a H M K),(((((I.nil (TN i)).n R).n S).trans (L)).n M)⟩
  .refine qI (((p.au (⟨(max p.dc p.vo.p.r)+1,(i:Int)⟩:Bal)).2.2 != 0)) false (by simpa using N) (qR [.n 0 i] 17 [0,1,2,1] λb4 a4 c6 y=>fR 5 64 [(1,pt (m 0) 0),(2,pt (o 0) 0),(3,pt (q 0) 0),(44,iv 0)] [true,true,true,true,true] [⟨(m 0),.cells #[pt nb 0] 89,.z,false⟩,⟨(o 0),.cells #[iv ((max p.dc p.vo.p.r)+1),iv (i:Int)] 94,.z,false⟩,⟨nb,.cells (AH i ob ({ (p.au (⟨(max p.dc p.vo.p.r)+1,(i:Int)⟩:Bal)).1 with av:=⟨(⟨(max p.dc p.vo.p.r)+1,(i:Int)⟩:Bal),λ_=>false,λ_=>Ej,λk=>if k<0 then c.ae.n else 0,0,[]⟩ }) ({ c with hv:=λ_=>s30,fv:=s30 })) 114,.n 0 i,false⟩,⟨ob,.cells #[S3.v e,S3.v j] 86,.n 50 0,false⟩,⟨(q 0),.cells #[S3.v u] 95,.z,false⟩] (by kernel_rfl) (by kernel_rfl) (by kernel_rfl) (by kernel_rfl) λs b z=>qR [.n 0 i] 35 [13,0,0,2,4,0,6,8,10,12,2,14,16,18,20,22,24,27,2,1] λb5 a5 c8 A=>ER (s 5) 64 [(1,pt (m 0) 0),(2,pt (o 0) 0),(3,pt (q 0) 0),(44,iv 1)] [true,true,true,true,true] [⟨(m 0),.cells #[pt nb 0] 89,.z,false⟩,⟨(o 0),.cells #[iv ((max p.dc p.vo.p.r)+1),iv (i:Int)] 94,.z,false⟩,⟨nb,.cells (AH i ob ({ (p.au (⟨(max p.dc p.vo.p.r)+1,(i:Int)⟩:Bal)).1 with av:=⟨(⟨(max p.dc p.vo.p.r)+1,(i:Int)⟩:Bal),λ_=>false,λ_=>Ej,λk=>if k<1 then c.ae.n else 0,0,[]⟩ }) ({ c with hv:=λ_=>s30,fv:=s30 })) 114,.n 0 i,false⟩,⟨ob,.cells #[S3.v e,S3.v j] 86,.n 50 0,false⟩,⟨(q 0),.cells #[S3.v u] 95,.z,false⟩] (by kernel_rfl) (by kernel_rfl) (by kernel_rfl) (by kernel_rfl) (by kernel_rfl) λz Q K=>b 4 _ _ _ _ _ ?_ K);refine qR [.n 0 i] 35 [13,0,0,2,4,0,6,8,10,12,2,14,16,18,20,22,24,27,2,1] λb6 a6 c9 C=>ER (s 4) 64 [(1,pt (m 0) 0),(2,pt (o 0) 0),(3,pt (q 0) 0),(44,iv 2)] [true,true,true,true,true] [⟨(m 0),.cells #[pt nb 0] 89,.z,false⟩,⟨(o 0),.cells #[iv ((max p.dc p.vo.p.r)+1),iv (i:Int)] 94,.z,false⟩,⟨nb,.cells (AH i ob ({ (p.au (⟨(max p.dc p.vo.p.r)+1,(i:Int)⟩:Bal)).1 with av:=⟨(⟨(max p.dc p.vo.p.r)+1,(i:Int)⟩:Bal),λ_=>false,λ_=>Ej,λk=>if k<2 then c.ae.n else 0,0,[]⟩ }) ({ c with hv:=λ_=>s30,fv:=s30 })) 114,.n 0 i,false⟩,⟨ob,.cells #[S3.v e,S3.v j] 86,.n 50 0,false⟩,⟨(q 0),.cells #[S3.v u] 95,.z,false⟩] (by kernel_rfl) (by kernel_rfl) (by kernel_rfl) (by kernel_rfl) (by kernel_rfl) λz Q K=>b 3 _ _ _ _ _ ?_ K;refine qR [.n 0 i] 35 [13,0,0,2,4,0,6,8,10,12,2,14,16,18,20,22,24,27,2,1] λb7 a7 d0 D=>ER (s 3) 64 [(1,pt (m 0) 0),(2,pt (o 0) 0),(3,pt (q 0) 0),(44,iv 3)] [true,true,true,true,true] [⟨(m 0),.cells #[pt nb 0] 89,.z,false⟩,⟨(o 0),.cells #[iv ((max p.dc p.vo.p.r)+1),iv (i:Int)] 94,.z,false⟩,⟨nb,.cells (AH i ob ({ (p.au (⟨(max p.dc p.vo.p.r)+1,(i:Int)⟩:Bal)).1 with av:=⟨(⟨(max p.dc p.vo.p.r)+1,(i:Int)⟩:Bal),λ_=>false,λ_=>Ej,λk=>if k<3 then c.ae.n else 0,0,[]⟩ }) ({ c with hv:=λ_=>s30,fv:=s30 })) 114,.n 0 i,false⟩,⟨ob,.cells #[S3.v e,S3.v j] 86,.n 50 0,false⟩,⟨(q 0),.cells #[S3.v u] 95,.z,false⟩] (by kernel_rfl) (by kernel_rfl) (by kernel_rfl) (by kernel_rfl) (by kernel_rfl) λz Q K=>b 2 _ _ _ _ _ ?_ K;refine qR [.n 0 i] 35 [13,0,0,2,4,0,6,8,10,12,2,14,16,18,20,22,24,27,2,1] λb8 a8 d1 E=>ER (s 2) 64 [(1,pt (m 0) 0),(2,pt (o 0) 0),(3,pt (q 0) 0),(44,iv 4)] [true,true,true,true,true] [⟨(m 0),.cells #[pt nb 0] 89,.z,false⟩,⟨(o 0),.cells #[iv ((max p.dc p.vo.p.r)+1),iv (i:Int)] 94,.z,false⟩,⟨nb,.cells (AH i ob ({ (p.au (⟨(max p.dc p.vo.p.r)+1,(i:Int)⟩:Bal)).1 with av:=⟨(⟨(max p.dc p.vo.p.r)+1,(i:Int)⟩:Bal),λ_=>false,λ_=>Ej,λk=>if k<4 then c.ae.n else 0,0,[]⟩ }) ({ c with hv:=λ_=>s30,fv:=s30 })) 114,.n 0 i,false⟩,⟨ob,.cells #[S3.v e,S3.v j] 86,.n 50 0,false⟩,⟨(q 0),.cells #[S3.v u] 95,.z,false⟩] (by kernel_rfl) (by kernel_rfl) (by kernel_rfl) (by kernel_rfl) (by kernel_rfl) λz Q K=>b 1 _ _ _ _ _ ?_ K;refine qR [.n 0 i] 35 [13,0,0,2,4,0,6,8,10,12,2,14,16,18,20,22,24,27,2,1] λb9 a9 d2 F=>ER (s 1) 64 [(1,pt (m 0) 0),(2,pt (o 0) 0),(3,pt (q 0) 0),(44,iv 5)] [true,true,true,true,true] [⟨(m 0),.cells #[pt nb 0] 89,.z,false⟩,⟨(o 0),.cells #[iv ((max p.dc p.vo.p.r)+1),iv (i:Int)] 94,.z,false⟩,⟨nb,.cells (AH i ob ({ (p.au (⟨(max p.dc p.vo.p.r)+1,(i:Int)⟩:Bal)).1 with av:=⟨(⟨(max p.dc p.vo.p.r)+1,(i:Int)⟩:Bal),λ_=>false,λ_=>Ej,λk=>if k<5 then c.ae.n else 0,0,[]⟩ }) ({ c with hv:=λ_=>s30,fv:=s30 })) 114,.n 0 i,false⟩,⟨ob,.cells #[S3.v e,S3.v j] 86,.n 50 0,false⟩,⟨(q 0),.cells #[S3.v u] 95,.z,false⟩] (by kernel_rfl) (by kernel_rfl) (by kernel_rfl) (by kernel_rfl) (by kernel_rfl) λz Q K=>b 0 _ _ _ _ _ ?_ K;refine qR [] 10 [0] λc0 Y a1 G=>?_;have hn:c.ae.n=p.ae.length:=by have:=a.ae.num;rw[QT]at this;exact this
   rw[show p.lead i=Nod.wait { (p.au (⟨(max p.dc p.vo.p.r)+1,(i:Int)⟩:Bal)).1 with av:=⟨(⟨(max p.dc p.vo.p.r)+1,(i:Int)⟩:Bal),λ_=>false,λ_=>Ej,λ_=>c.ae.n,0,[]⟩ } (.began (⟨(max p.dc p.vo.p.r)+1,(i:Int)⟩:Bal) (p.au (⟨(max p.dc p.vo.p.r)+1,(i:Int)⟩:Bal)).2.1)from by rw[hn];exact if_neg N];refine Af λK=>?_;obtain⟨z1,z2⟩:=K.rY 0 (m 0) (.cells #[pt nb 0] 89) false (by kernel_rfl);obtain⟨z3,z4⟩:=K.rY 1 (o 0) (.cells #[iv (⟨(max p.dc p.vo.p.r)+1,(i:Int)⟩:Bal).r,iv (⟨(max p.dc p.vo.p.r)+1,(i:Int)⟩:Bal).n] 94) false (by kernel_rfl);obtain⟨z5,z6⟩:=K.rY 4 (q 0) (.cells #[S3.v u] 95) false (by kernel_rfl);have d:=(((((((M.nil ([.n 0 i]:List Tg)).trans (y)).trans (A)).trans (C)).trans (D)).trans (E)).trans (F)).n G;have t:Tg.z∉([.n 0 i]:List Tg):=by simp
   have W:NS i nb ob Y a1 ({ (p.au (⟨(max p.dc p.vo.p.r)+1,(i:Int)⟩:Bal)).1 with av:=⟨(⟨(max p.dc p.vo.p.r)+1,(i:Int)⟩:Bal),λ_=>false,λ_=>Ej,λ_=>c.ae.n,0,[]⟩ }) U V:=⟨{ c with hv:=λ_=>s30,fv:=s30 },e,j,K.nd 2 (a.tape.ch d t) (a.ni.ch d t) (λ_ _=>⟨Sv.nil _,λh=>absurd rfl h⟩) (Cf a.bw d t (by simp)) (OwnS.nil _ _ _ _ _ _) (a.ae.ch d) (a.bn.ch d) (a.cl.ch d) a.si,H.ch d t (by simp<;>omega),K.new⟩;refine qS0 2 [true,true,false,false,true] (AV W (by show(p.au (⟨(max p.dc p.vo.p.r)+1,(i:Int)⟩:Bal)).1.bw.length<_;rw[FY];exact hb) _ _ (.began (⟨(max p.dc p.vo.p.r)+1,(i:Int)⟩:Bal) (p.au (⟨(max p.dc p.vo.p.r)+1,(i:Int)⟩:Bal)).2.1) ⟨(m 0),(o 0),(q 0),u,rfl,⟨z1,z2⟩,⟨z3,z4⟩,⟨z5,z6⟩,((((((((a0.ch M).ch y).ch A).ch C).ch D).ch E).ch F).ch G)⟩) λb0 d3 d5 a2 a3 O P X=>qR [] 1 [] λc3 b1 d4 J=>qF O P J ((((((((((((((I.nil (TN i)).n R).n S).trans (L)).n M).trans (y.mono (by simp[TN]))).trans (A.mono (by simp[TN]))).trans (C.mono (by simp[TN]))).trans (D.mono (by simp[TN]))).trans (E.mono (by simp[TN]))).trans (F.mono (by simp[TN]))).n G).trans (X)).n J)
 .refine qI ((!p.up)) true (by simpa using T) (qE (.tuple #[]) λK=>?_);rw[if_neg T];exact⟨_,rfl,(nsC Z hO I K),(I.nil (TN i))⟩
theorem mm(h:1<=k/\k<=9):k=1\/k=2\/k=3\/k=4\/k=5\/k=6\/k=7\/k=8\/k=9:=by omega
theorem ib(h:MS mb tb ob nb g w M){w0:World}(C:Base w0 g w)(D:Tabs w0)(x:Lac)(dv:S3)(hd:Sl w dv.v x.d)(E:LacOk x){n:Nat}(y:MOk n M)(hn:n<=1000000) :
  Calls prog 19 #[pt mb 0,.agg #[iv x.k,iv x.n,iv x.a,iv x.p,dv.v]] w (MP mb tb ob nb g w (.tuple #[]) (M.act x)):=by
 obtain⟨j,a8,e⟩:∃ j:Nat,x.n=(j:Int)/\j<5:=by
  cases hu:Gi x.k with
  | true=>have:=E.n hu;exact⟨x.n.toNat,by omega,by omega⟩
  | false=>have:=E.n0 hu;exact⟨0,by omega,by omega⟩
 obtain⟨at_,a7,i⟩:∃ at_:Nat,x.a=(at_:Int)/\at_<=1048576:=by
  cases hu:Iw x.k with
  | true=>have:=E.a hu;exact⟨x.a.toNat,by omega,by omega⟩
  | false=>have:=E.a0 hu;exact⟨0,by omega,by omega⟩
 have d6:0<=x.p/\x.p<=100000:=by
  cases hu:Ix x.k with
  | true=>exact E.p hu
  | false=>have:=E.p0 hu;omega
 have a9:=E.k;obtain⟨k,xn,xa,p,d⟩:=x;simp only at a8 a7 d6 a9 hd ⊢;subst a8 a7;clear E;have hp:=y.ab j e;have h7:=y.wt;have h6:=y.ew;have h4:=Ex (M.ab j).bw;have h5:=QY M e;have h8:=lR M e;have h3:=y.bad j e;refine gI (fn:=f19) TM g func19 h.new (Cu ⟨mb,_,.z,false⟩ (λ_=>⟨h.box.r,h.box.z,λh=>(by cases h),λh=>absurd rfl h⟩) (by kernel_rfl) ?_);refine qR [] 11 [0,0,8,0,2,4,1,6,8] λj3 g1 w1 b=>?_;refine Qw 5 (pt mb j) false (λW hW=>(by rcases rC e with rfl|rfl|rfl|rfl|rfl<;>kernel_rfl)) (by kernel_rfl) ?_;refine qU 6 (pt (nb j) 0) (λW hW=>(Bh underlying89 rfl (UF (Ba.at (hW rfl) 0 mb (.cells (mtA nb ob tb) 92) .z (by kernel_rfl)) e))) (qR [] 13 [14,1] λj4 g3 w3 c=>?_);rcases mm a9 with rfl|rfl|rfl|rfl|rfl|rfl|rfl|rfl|rfl
 .refine qR [] 5 [1] λj5 g4 w4 c4=>?_;rw[show M.act ⟨1,(j:Int),(at_:Int),p,d⟩=(M.set j ((M.ab j).rO j d M.ew).1 M.br ((M.ab j).rO j d M.ew).2)from rfl];refine Af λK=>?_;have N5:MS mb tb ob nb g4 w4 M:=(h.rL ((b.trans c).trans c4) K.new);refine qG 3 TM [true,true] ((N5).call e (WU ((N5).ns e) (C.ch (((b.nil TM).n c).n c4) FD) D dv d (hd.af (Cg.af ((b.trans c).trans c4) (λ_ _=>P'))) hp (by omega) (by omega) (by omega) rfl rfl)) ?_;rintro A w5 ⟨g5,rfl,M5,c5⟩;refine⟨_,g5,rfl,c5,M5.new,?_⟩;replace c5:=c5.ret (B:=w.heap.size);refine qR [] 2 [] λj6 g6 w6 c6=>qE (.tuple #[]) λK=>⟨_,rfl,(M5.rL c6 K.new),(((((b.nil TM).n c).n c4).trans (c5)).n c6)⟩
 .refine qR [] 9 [] λj7 g7 w7 c7=>?_;rw[show M.act ⟨2,(j:Int),(at_:Int),p,d⟩=(M.set j (if(M.ab j).up then(M.ab j).lead j else(M.ab j)) M.br M.ew)from rfl];refine Af λK=>?_;have N8:MS mb tb ob nb g7 w7 M:=(h.rL ((b.trans c).trans c7) K.new);refine qG 1 TM [true,true] ((N8).call e (YZ ((N8).ns e) (C.ch (((b.nil TM).n c).n c7) FD) D (by omega) (by have:=hp.ro;omega) (by have:=hp.ro;omega) (by have:=hp.vp.tY;omega))) ?_;rintro A w8 ⟨g8,rfl,M8,c8⟩;refine⟨_,g8,rfl,c8,M8.new,?_⟩;replace c8:=c8.ret (B:=w.heap.size);refine qR [] 2 [] λj8 g9 w9 c9=>qE (.tuple #[]) λK=>⟨_,rfl,(M8.rL c9 K.new),(((((b.nil TM).n c).n c7).trans (c8)).n c9)⟩
 .refine qR [] 15 [] λe4 b4 d7 F=>?_;rw[show M.act ⟨3,(j:Int),(at_:Int),p,d⟩=(M.set j (if(M.ab j).up then((M.ab j).piece j M.br M.ew).1 else(M.ab j)) (if(M.ab j).up then((M.ab j).piece j M.br M.ew).2.1 else M.br) (if(M.ab j).up then((M.ab j).piece j M.br M.ew).2.2 else M.ew))from rfl];refine Af λK=>?_;have U:MS mb tb ob nb b4 d7 M:=(h.rL ((b.trans c).trans F) K.new);refine qG 1 TM [true,true] ((U).call e (ZI ((U).ns e) (C.ch (((b.nil TM).n c).n F) FD) D e hp (by omega) y.br (by omega))) ?_;rintro A h9 ⟨b5,rfl,N,l⟩;refine⟨_,b5,rfl,l,N.new,?_⟩;replace l:=l.ret (B:=w.heap.size);refine qR [] 2 [] λe5 f8 i0 Y=>qE (.tuple #[]) λK=>⟨_,rfl,(N.rL Y K.new),(((((b.nil TM).n c).n F).trans (l)).n Y)⟩
 .refine qR [] 28 [1,1] λe6 b6 d8 G=>?_;rw[show M.act ⟨4,(j:Int),(at_:Int),p,d⟩=(M.move 4 at_)from rfl];refine Af λK=>?_;have b0:MS mb tb ob nb b6 d8 M:=(h.rL ((b.trans c).trans G) K.new);refine qG 5 TM [true,true] (LX b0 (C.ch (((b.nil TM).n c).n G) FD) D 4 at_ i y hn) ?_;rintro A i1 ⟨b7,rfl,O,m⟩;refine⟨_,b7,rfl,m,O.new,?_⟩;replace m:=m.ret (B:=w.heap.size);refine qR [] 2 [] λe7 f9 i2 Z=>qE (.tuple #[]) λK=>⟨_,rfl,(O.rL Z K.new),(((((b.nil TM).n c).n G).trans (m)).n Z)⟩
 .refine qR [] 34 [1,1] λe8 b8 d9 H=>?_;rw[show M.act ⟨5,(j:Int),(at_:Int),p,d⟩=(M.move 5 at_)from rfl];refine Af λK=>?_;have b1:MS mb tb ob nb b8 d9 M:=(h.rL ((b.trans c).trans H) K.new);refine qG 5 TM [true,true] (LX b1 (C.ch (((b.nil TM).n c).n H) FD) D 5 at_ i y hn) ?_;rintro A i3 ⟨b9,rfl,P,o⟩;refine⟨_,b9,rfl,o,P.new,?_⟩;replace o:=o.ret (B:=w.heap.size);refine qR [] 2 [] λe9 g0 i4 a1=>qE (.tuple #[]) λK=>⟨_,rfl,(P.rL a1 K.new),(((((b.nil TM).n c).n H).trans (o)).n a1)⟩
 .refine qR [] 37 [1,1] λf0 c0 e0 I=>?_;rw[show M.act ⟨6,(j:Int),(at_:Int),p,d⟩=(M.move 6 at_)from rfl];refine Af λK=>?_;have b2:MS mb tb ob nb c0 e0 M:=(h.rL ((b.trans c).trans I) K.new);refine qG 5 TM [true,true] (LX b2 (C.ch (((b.nil TM).n c).n I) FD) D 6 at_ i y hn) ?_;rintro A i5 ⟨c2,rfl,Q,q⟩;refine⟨_,c2,rfl,q,Q.new,?_⟩;replace q:=q.ret (B:=w.heap.size);refine qR [] 2 [] λf1 g2 i6 a2=>qE (.tuple #[]) λK=>⟨_,rfl,(Q.rL a2 K.new),(((((b.nil TM).n c).n I).trans (q)).n a2)⟩
 .refine qR [] 39 [] λf2 d0 e1 J=>?_;rw[show M.act ⟨7,(j:Int),(at_:Int),p,d⟩=M.rI from rfl];refine Af λK=>?_;have b3:MS mb tb ob nb d0 e1 M:=(h.rL ((b.trans c).trans J) K.new);refine qG 1 TM [true,true] (Qf b3 (C.ch (((b.nil TM).n c).n J) FD) D y hn) ?_;rintro A i7 ⟨d1,rfl,R,s⟩;refine⟨_,d1,rfl,s,R.new,?_⟩;replace s:=s.ret (B:=w.heap.size);refine qR [] 2 [] λf3 h0 i8 a3=>qE (.tuple #[]) λK=>⟨_,rfl,(R.rL a3 K.new),(((((b.nil TM).n c).n J).trans (s)).n a3)⟩
 .refine qR [] 47 [1] λf4 d2 e2 a4=>?_;rw[show M.act ⟨8,(j:Int),(at_:Int),p,d⟩=(M.set j (if(M.ab j).up then(M.ab j).mv p else(M.ab j)) M.br M.ew)from rfl];refine Af λK=>?_;have V:MS mb tb ob nb d2 e2 M:=(h.rL ((b.trans c).trans a4) K.new);refine qG 3 TM [true,true] ((V).call e (XZ ((V).ns e) p (by omega) (by omega))) ?_;rintro A i9 ⟨d3,rfl,S,t⟩;refine⟨_,d3,rfl,t,S.new,?_⟩;replace t:=t.ret (B:=w.heap.size);refine qR [] 2 [] λf5 h1 j0 a5=>qE (.tuple #[]) λK=>⟨_,rfl,(S.rL a5 K.new),(((((b.nil TM).n c).n a4).trans (t)).n a5)⟩
 .refine qR [] 51 [] λf6 d4 e3 L=>?_;rw[show M.act ⟨9,(j:Int),(at_:Int),p,d⟩=(M.set j (if(M.ab j).up then(M.ab j)else(M.ab j).start) M.br M.ew)from rfl];refine Af λK=>?_;have X:MS mb tb ob nb d4 e3 M:=(h.rL ((b.trans c).trans L) K.new);refine qG 1 TM [true,true] ((X).call e (aK ((X).ns e) (C.ch (((b.nil TM).n c).n L) FD) D)) ?_;rintro A j1 ⟨d5,rfl,T,u⟩;refine⟨_,d5,rfl,u,T.new,?_⟩;replace u:=u.ret (B:=w.heap.size);refine qR [] 2 [] λf7 h2 j2 a6=>qE (.tuple #[]) λK=>⟨_,rfl,(T.rL a6 K.new),(((((b.nil TM).n c).n L).trans (u)).n a6)⟩
theorem fU{f:Bool}(h:OwnS g' w' (.n 60 0) f e sz y xs)(c:Cg w.heap.size [.n 60 0] gz w g' w'):∀ a,y.a=some a->w.heap.size<=a.block:=by
 intro a d;rcases h.ex with⟨h1,_⟩|⟨b,_,h1,_,_,_,_,_,h7,_⟩
 .rw[h1]at d;cases d
 .rw[h1]at d
  simp only[Y']at d;subst d;rcases nG b w.heap.size with hlt|hge
  .have:=c.tag hlt (λh=>hlt);rw[h7]at this;cases this
  .exact hge
theorem RS(h:RdV w x 5 vs)(I:∀ u∈vs,u.oneCell'=true)(M:x.n<100000000) :
  Calls prog 43 #[x.v] w λe w'=>∃ y:S3,e=.returned y.v/\RdV w' y 5 vs/\y.n=x.n/\(vs≠[]->∀ a,y.a=some a->w.heap.size<=a.block)/\Bw w w':=by
 obtain⟨T,c,k⟩:=x;simp only at M;refine gI (fn:=f43) [.n 60 0] gz func43 (λ_ _=>⟨rfl,rfl⟩) (qR [] 8 [] λU Z w1 d=>?_);by_cases C:T=none
 .subst C;have o:k=0:=h.sD rfl;have q:c=0:=by have:=h.cap;simp only at this;omega
  subst o q;refine qV 1 (.bool true) (eB (z:=⟨none,0,0⟩) (t:=35) (e:=40) (x:=(.tmp 3)) (y:=(.const (sn))) rfl underlying35 (by kernel_rfl)) (qR [] 6 [] λV g2 w2 F=>qE (S3.v s30) λK=>⟨s30,rfl,⟨h.len,A' _,λ_=>rfl,.inl rfl⟩,rfl,λ_ a L=>(by cases L),Cg.af ((d.nil [.n 60 0]).n F) (λ_ _=>E7)⟩)
 .obtain⟨ad,rfl⟩:=oM.1 C;refine qV 1 (.bool false) (eB (z:=⟨some ad,c,k⟩) (t:=35) (e:=40) (x:=(.tmp 3)) (y:=(.const (sn))) rfl underlying35 (by kernel_rfl)) (qR [] 7 [62,0] λb H S g=>?_);by_cases D:c=0
  .subst D;obtain⟨s,r⟩:∃ s,prog.info? 40=some s:=nS.1 (by kernel_rfl);refine qV 2 (.slice (some ⟨(b 0),0,none⟩) 0 0) (fX 35 35 40 s underlying35 r (b 0) ad k) (qR [] 2 [] λW g4 w4 G=>qE (S3.v ⟨some ⟨(b 0),0,none⟩,0,0⟩) λK=>⟨_,rfl,⟨h.len,A' _,λh=>(by cases h),.inl rfl⟩,rfl,λO=>absurd (Z' (by rw[h.len];exact qv 5)) O,Cg.af (((d.nil [.n 60 0]).n g).n G) (λ_ _=>E7)⟩)
  .obtain⟨bx,ox,hx1,hx2,hx3⟩:∃ bx ox,(some ad:Option Addr)=some ⟨bx,ox,none⟩/\bx<w.heap.size/\∀ j u,vs[j]?=some u->w.cell? ⟨bx,ox+j,none⟩=some u:=by rcases h.ex with h|h;exact absurd h D;exact h
   simp only[Y']at hx1;subst hx1;refine Af λK=>?_;obtain⟨P,Q,R⟩:=K.tL 0 (b 0) (.cells #[] 40) 60 0 true (by kernel_rfl);have J:OwnS H S (.n 60 0) true 40 5 ⟨some ⟨(b 0),0,none⟩,0,0⟩ []:=⟨rfl,.inr ⟨(b 0),#[],rfl,P,A' _,nm _,rfl,rfl,Q,R⟩⟩;refine ID [false] ?_;have m:=Cg.af ((d.nil [.n 60 0]).n g) (λ_ _=>E7);refine KG 2 (x:=⟨some ⟨(b 0),0,none⟩,0,0⟩) 35 35 40 5 40 (.agg #[iv 0,iv 0,iv 0,iv 0,iv 0]) ⟨bx,ox,none⟩ c k vs J (by kernel_rfl) (by kernel_rfl) (by kernel_rfl) underlying35 (by kernel_rfl) (by kernel_rfl) (by decide) (by omega) h.len I (λK j u N=>by rw[KB];exact(m.cell (p:=⟨bx,ox+j,none⟩) hx2).trans (hx3 j u N)) (by show 0+c<=_;unfold maxLen;omega) (by show(0+c)*40<=_;omega) ?_;intro E g5 w5 A n5 l Y;have B:=l w.heap.size [.n 60 0] (D'.2 rfl);refine qR [] 2 [] λX g6 w6 i=>qE (S3.v E) λK=>⟨E,rfl,(by have:=(A.ch i).rv;rwa [n8]at this),(by rw[n5];show 0+c=c;omega),λ_=>fU (A.ch i) ((((d.nil [.n 60 0]).n g).trans B).n i),Cg.af ((((d.nil [.n 60 0]).n g).trans B).n i) (λ_ _=>E7)⟩
theorem Lt(h:RdV w x 5 vs)(I:∀ u∈vs,u.oneCell'=true)(M:x.n<100000000) :
  Calls prog 42 #[x.v] w λe w'=>∃ y:S3,e=.returned y.v/\RdV w' y 5 vs/\y.n=x.n/\(vs≠[]->∀ a,y.a=some a->w.heap.size<=a.block)/\Bw w w':=by
 obtain⟨T,c,k⟩:=x;simp only at M;refine gI (fn:=f42) [.n 60 0] gz func42 (λ_ _=>⟨rfl,rfl⟩) (qR [] 8 [] λU Z w1 d=>?_);by_cases C:T=none
 .subst C;have o:k=0:=h.sD rfl;have q:c=0:=by have:=h.cap;simp only at this;omega
  subst o q;refine qV 1 (.bool true) (eB (z:=⟨none,0,0⟩) (t:=28) (e:=47) (x:=(.tmp 3)) (y:=(.const (sn))) rfl underlying28 (by kernel_rfl)) (qR [] 6 [] λV g2 w2 F=>qE (S3.v s30) λK=>⟨s30,rfl,⟨h.len,A' _,λ_=>rfl,.inl rfl⟩,rfl,λ_ a L=>(by cases L),Cg.af ((d.nil [.n 60 0]).n F) (λ_ _=>E7)⟩)
 .obtain⟨ad,rfl⟩:=oM.1 C;refine qV 1 (.bool false) (eB (z:=⟨some ad,c,k⟩) (t:=28) (e:=47) (x:=(.tmp 3)) (y:=(.const (sn))) rfl underlying28 (by kernel_rfl)) (qR [] 7 [62,0] λb H S g=>?_);by_cases D:c=0
  .subst D;obtain⟨s,r⟩:∃ s,prog.info? 47=some s:=nS.1 (by kernel_rfl);refine qV 2 (.slice (some ⟨(b 0),0,none⟩) 0 0) (fX 28 28 47 s underlying28 r (b 0) ad k) (qR [] 2 [] λW g4 w4 G=>qE (S3.v ⟨some ⟨(b 0),0,none⟩,0,0⟩) λK=>⟨_,rfl,⟨h.len,A' _,λh=>(by cases h),.inl rfl⟩,rfl,λO=>absurd (Z' (by rw[h.len];exact qv 5)) O,Cg.af (((d.nil [.n 60 0]).n g).n G) (λ_ _=>E7)⟩)
  .obtain⟨bx,ox,hx1,hx2,hx3⟩:∃ bx ox,(some ad:Option Addr)=some ⟨bx,ox,none⟩/\bx<w.heap.size/\∀ j u,vs[j]?=some u->w.cell? ⟨bx,ox+j,none⟩=some u:=by rcases h.ex with h|h;exact absurd h D;exact h
   simp only[Y']at hx1;subst hx1;refine Af λK=>?_;obtain⟨P,Q,R⟩:=K.tL 0 (b 0) (.cells #[] 47) 60 0 true (by kernel_rfl);have J:OwnS H S (.n 60 0) true 47 5 ⟨some ⟨(b 0),0,none⟩,0,0⟩ []:=⟨rfl,.inr ⟨(b 0),#[],rfl,P,A' _,nm _,rfl,rfl,Q,R⟩⟩;refine ID [false] ?_;have m:=Cg.af ((d.nil [.n 60 0]).n g) (λ_ _=>E7);refine KG 2 (x:=⟨some ⟨(b 0),0,none⟩,0,0⟩) 28 28 47 5 40 (.agg #[iv 0,iv 0,iv 0,iv 0,iv 0]) ⟨bx,ox,none⟩ c k vs J (by kernel_rfl) (by kernel_rfl) (by kernel_rfl) underlying28 (by kernel_rfl) (by kernel_rfl) (by decide) (by omega) h.len I (λK j u N=>by rw[KB];exact(m.cell (p:=⟨bx,ox+j,none⟩) hx2).trans (hx3 j u N)) (by show 0+c<=_;unfold maxLen;omega) (by show(0+c)*40<=_;omega) ?_;intro E g5 w5 A n5 l Y;have B:=l w.heap.size [.n 60 0] (D'.2 rfl);refine qR [] 2 [] λX g6 w6 i=>qE (S3.v E) λK=>⟨E,rfl,(by have:=(A.ch i).rv;rwa [n8]at this),(by rw[n5];show 0+c=c;omega),λ_=>fU (A.ch i) ((((d.nil [.n 60 0]).n g).trans B).n i),Cg.af ((((d.nil [.n 60 0]).n g).trans B).n i) (λ_ _=>E7)⟩
def GA(M:Meet)(ly tv:S3):Array Value:=#[iv (M.br.length:Int),.bool (M.ab 0).up,.bool (M.ab 1).up,.bool (M.ab 2).up,.bool (M.ab 3).up,.bool (M.ab 4).up,S3.v ly,iv ((M.ab 0).bad:Int),iv ((M.ab 1).bad:Int),iv ((M.ab 2).bad:Int),iv ((M.ab 3).bad:Int),iv ((M.ab 4).bad:Int),S3.v tv]
structure OutW(w:World)(M:Meet)(ly tv:S3)(ys:Nat->S3):Prop where
 rX:RdV w ly 1 [S3.v (ys 0),S3.v (ys 1),S3.v (ys 2),S3.v (ys 3),S3.v (ys 4)]
 log:∀ j,j<5->RdC w (ys j) ((M.ab j).ae.take (M.ab j).done)
 ew:RdV w tv 5 (M.ew.flatMap EP)
structure OutN(B:Nat)(M:Meet)(ly tv:S3)(ys:Nat->S3):Prop where
 rX:∀ a,ly.a=some a->B<=a.block
 log:∀ j,j<5->cmL ((M.ab j).ae.take (M.ab j).done)≠[]->∀ a,(ys j).a=some a->B<=a.block
 ew:M.ew.flatMap EP≠[]->∀ a,tv.a=some a->B<=a.block
theorem OutW.ch(h:OutW w M ly tv ys)(hn:OutN B M ly tv ys)(e:∀ b,B<=b->g.t b=.z)(c:Cg C [] g w g' w'):OutW w' M ly tv ys :=
 ⟨((⟨h.rX,λ_ a d=>e _ (hn.rX a d)⟩:FzV g w ly 1 _).ch c).rd,λj i=>(((⟨(h.log j i).rv,λf a d=>e _ (hn.log j i f a d)⟩:FzV g w (ys j) 5 _).ch c).rd).rc,((⟨h.ew,λf a d=>e _ (hn.ew f a d)⟩:FzV g w tv 5 _).ch c).rd⟩
theorem Va(d:List Tol):∀ u∈d.flatMap EP,u.oneCell'=true:=by
 intro u b;obtain⟨c,_,a⟩:=pC.1 b;simp only[EP,mO,P',or_false]at a;rcases a with rfl|rfl|rfl|rfl|rfl<;>rfl
theorem aW{P:Program}{c:Func}{R:Ending->World->Prop}{Φ:List Fa}{s:Xs}(b:Nat)(o:Obj)(a:w0.heap[b]?=some o)(h:GT P c R w0 Φ ⟨s.K,s.f,BO s.L++[⟨b,o,.z,false⟩]⟩ g w):GT P c R w0 Φ s g w :=
 ⟨λF C=>Cu ⟨b,o,.z,false⟩ (λ_=>⟨((CgQ.af C).block b (rl a)).trans a,C.tag (rl a) (λ_=>rl a),(λh=>by cases h),λh=>absurd rfl h⟩) rfl (h.ex F C)⟩
theorem i7(h:MS mb tb ob nb g w0 M)(b:Bw w0 w){i:Nat}(c:i<5)(a:(M.ab i).done<=(M.ab i).ae.length) :
  Calls prog 44 #[pt (nb i) 0] w λe w'=>∃ y:S3,e=.returned y.v/\RdC w' y ((M.ab i).ae.take (M.ab i).done)/\Bw w w' :=
 U9 ((h.rL (Cg.ed (B:=0) b) λd a=>h.new d (mH b.size a)).ns c) a
theorem kO(a:i<5):(Instr.index 90 (.agg #[pt (nb 0) 0,pt (nb 1) 0,pt (nb 2) 0,pt (nb 3) 0,pt (nb 4) 0]) (iv (i:Int))).run prog W=.ok (pt (nb i) 0) W:=by
 rcases rC a with rfl|rfl|rfl|rfl|rfl<;>kernel_rfl
def ysL(ys:Nat->S3)(i:Nat):List Value:=(List.range i).map λj=>S3.v (ys j)
def Gv(f:Nat->Bool)(i:Nat)(b:Bool):Nat->Bool:=λj=>bif Nat.beq j i then b else f j
def KH(f:Nat->Int)(i:Nat)(b:Int):Nat->Int:=λj=>bif Nat.beq j i then b else f j
def rD(M:Meet)(i:Nat):Nat->Bool:=λj=>bif Nat.blt j i then(M.ab j).up else false
def CO(M:Meet)(i:Nat):Nat->Int:=λj=>bif Nat.blt j i then((M.ab j).bad:Int)else 0
theorem PT(j i:Nat):Nat.blt j (i+1)=bif Nat.beq j i then true else Nat.blt j i:=by
 rw[Bool.eq_iff_iff];rcases pW j i with h|h|h
 .simp[Nat.blt,show Nat.beq j i=false from Bool.eq_false_iff.2 λe=>by have:=Nat.eq_of_beq_eq_true e;omega];omega
 .subst h;simp[Nat.blt,Nat.beq_refl]
 .simp[Nat.blt,show Nat.beq j i=false from Bool.eq_false_iff.2 λe=>by have:=Nat.eq_of_beq_eq_true e;omega];omega
theorem j2(M:Meet)(i:Nat):Gv (rD M i) i (M.ab i).up=rD M (i+1):=by
 funext j
 unfold Gv rD;rw[PT];cases h:Nat.beq j i
 .rfl
 .rw[nh h];rfl
theorem gJ(M:Meet)(i:Nat):KH (CO M i) i ((M.ab i).bad:Int)=CO M (i+1):=by
 funext j
 unfold KH CO;rw[PT];cases h:Nat.beq j i
 .rfl
 .rw[nh h];rfl
def Lgs(g:Gh)(w:World)(M:Meet)(ys:Nat->S3)(i:Nat):Prop:=∀ j,j<i->FzV g w (ys j) 5 (cmL ((M.ab j).ae.take (M.ab j).done))
def Fa.lg(M:Meet)(ys:Nat->S3)(i:Nat):Fa:=⟨none,λg w=>Lgs g w M ys i,λhz _ c h j hj=>(h j hj).ch c hz⟩
def yup(ys:Nat->S3)(i:Nat)(y:S3):Nat->S3:=λj=>if j=i then y else ys j
theorem dI(h:Lgs g w M ys i)(k:FzV g w y 5 (cmL ((M.ab i).ae.take (M.ab i).done))):Lgs g w M (yup ys i y) (i+1):=by
 intro j a;unfold yup;split
 .rename_i e;rw[e];exact k
 .exact h j (by omega)
theorem lV(a:Nat->S3)(i:Nat)(y:S3):ysL (yup a i y) (i+1)=ysL a i++[S3.v y]:=by
 unfold ysL;rw[oZ,ng]
 congr 1
 .apply ql;intro j b;have:=oQ.1 b;unfold yup;rw[if_neg (by omega)]
 .simp[yup]
theorem fM(h:∀ j,j<i->cmL ((M.ab j).ae.take (M.ab j).done)≠[]->∀ a,(ys j).a=some a->B<=a.block)(k:cmL ((M.ab i).ae.take (M.ab i).done)≠[]->∀ a,y.a=some a->B<=a.block):∀ j,j<i+1->cmL ((M.ab j).ae.take (M.ab j).done)≠[]->∀ a,(yup ys i y j).a=some a->B<=a.block:=by
 intro j b;unfold yup;split
 .rename_i e;rw[e];exact k
 .exact h j (by omega)
theorem iK(h:OwnS g w (.n 60 0) true e sz x xs)(C:Cg w0.heap.size TQ gS w0 g w):∀ a,x.a=some a->w0.heap.size<=a.block:=by
 intro a c;rcases h.ex with⟨h1,_⟩|⟨b,cur,h1,_,_,_,_,_,h7,_⟩
 .rw[h1]at c;cases c
 .rw[h1]at c;cases c
  refine qf λd=>?_;have:=C.tag d (λ_=>d);rw[h7]at this
  cases this
theorem QQ(h:MS mb tb ob nb g w M)(hd:∀ i,i<5->(M.ab i).done<=(M.ab i).ae.length/\(M.ab i).ae.length<=40)(b2:M.br.length<100000000)(b5:M.ew.length<100000000) :
  Calls prog 20 #[pt mb 0] w λe w'=>∃ (ly tv:S3) (ys:Nat->S3),e=.returned (.agg (GA M ly tv))/\OutW w' M ly tv ys/\OutN w.heap.size M ly tv ys/\Bw w w':=by
 obtain⟨lt,tl,E⟩:=h.out;obtain⟨bs,hL,R⟩:=E.br;have S:lt.n=M.br.length:=by have:=hL.len;have:=R.len;simp at *;omega
 have b6:tl.n=M.ew.length:=by have Z:=E.ew.len;rw[GN]at Z;omega
 refine tIn [] func20 trivial (aW mb _ h.box.r ?_);refine aW ob _ E.row ?_;refine tR 21 [1,0,19,0,2,4,6,0,8,10,12,1,14,16,18,20,22,0,24,26,28,1] λb _ _=>Is 55 (λy t c=>∃ (tv:S3) (m:Nat),y=[(0,pt mb 0),(2,pt (b 0) 0),(3,pt m 0)]/\t=[⟨mb,.cells (mtA nb ob tb) 92,.z,false⟩,⟨ob,.cells #[S3.v lt,S3.v tl] 86,.z,false⟩,⟨(b 0),.cells #[iv 0,.bool false,.bool false,.bool false,.bool false,.bool false,sn,iv 0,iv 0,iv 0,iv 0,iv 0,sn] 30,.l,false⟩,⟨m,.cells #[iv (lt.n:Int),.bool false,.bool false,.bool false,.bool false,.bool false,sn,iv 0,iv 0,iv 0,iv 0,iv 0,S3.v tv] 30,.l,false⟩]/\c=[Fa.zv tv 5 (M.ew.flatMap EP)]/\(M.ew.flatMap EP≠[]->∀ a,tv.a=some a->w.heap.size<=a.block)) (λJ q=>?_) ?_
 .refine JW 15 17 ?_ ?_
  .refine tF λ_ D=>?_;have T:=D.size;refine tC 15 (λF C=>Lt (E.ew.rv.af (CgQ.af C)) (Va _) (by omega)) λB=>?_;rintro _ _ ⟨tv,rfl,A,_,f,b4⟩;refine⟨_,Fa.zv tv 5 (M.ew.flatMap EP)::_,rfl,b4,λF=>⟨⟨A,λp a o=>B _ (f p a o)⟩,F⟩,?_⟩;refine tR 4 [32,35,1,0,37,3,0] λX _ _=>tD q [true,true,true,true] ⟨tv,(X 0),rfl,rfl,rfl,λp a o=>mH T (f p a o)⟩ (λF=>⟨F.1,trivial⟩)
  .refine tR 1 [1,0] λY _ _=>tF λ_ D=>?_;have U:=D.size;refine tC 15 (λF C=>Lt (E.ew.rv.af (CgQ.af C)) (Va _) (by omega)) λB=>?_;rintro _ _ ⟨tv,rfl,A,_,f,b8⟩;refine⟨_,Fa.zv tv 5 (M.ew.flatMap EP)::_,rfl,b8,λF=>⟨⟨A,λp a o=>B _ (f p a o)⟩,F⟩,?_⟩;refine tR 3 [32,37,3,0] λb9 _ _=>tD q [true,true,true,true] ⟨tv,(Y 0),rfl,rfl,rfl,λp a o=>mH U (f p a o)⟩ (λF=>⟨F.1,trivial⟩)
 rintro _ _ _ ⟨tv,m,rfl,rfl,rfl,f⟩ _ _ _;refine tR 10 [0] λa1 _ _=>DB 55 [(2,pt (b 0) 0),(3,pt m 0),(26,.agg #[pt (nb 0) 0,pt (nb 1) 0,pt (nb 2) 0,pt (nb 3) 0,pt (nb 4) 0]),(27,iv 0)] [true,false,true,true] [⟨mb,.cells (mtA nb ob tb) 92,.z,false⟩,⟨(b 0),.cells #[iv 0,.bool false,.bool false,.bool false,.bool false,.bool false,sn,iv 0,iv 0,iv 0,iv 0,iv 0,sn] 30,.l,false⟩,⟨m,.cells #[iv (lt.n:Int),.bool false,.bool false,.bool false,.bool false,.bool false,sn,iv 0,iv 0,iv 0,iv 0,iv 0,S3.v tv] 30,.l,false⟩] [Fa.zv tv 5 (M.ew.flatMap EP),Fa.ow 0 35 1 s30 (ysL (λ_=>s30) 0),Fa.lg M (λ_=>s30) 0] (λkk y t c=>∃ (i:Nat) (ly:S3) (ys:Nat->S3),kk=5-i/\y=[(2,pt (b 0) 0),(3,pt m 0),(26,.agg #[pt (nb 0) 0,pt (nb 1) 0,pt (nb 2) 0,pt (nb 3) 0,pt (nb 4) 0]),(27,iv (i:Int))]/\t=[⟨mb,.cells (mtA nb ob tb) 92,.z,false⟩,⟨(b 0),.cells #[iv 0,.bool false,.bool false,.bool false,.bool false,.bool false,sn,iv 0,iv 0,iv 0,iv 0,iv 0,sn] 30,.l,false⟩,⟨m,.cells #[iv (lt.n:Int),.bool (rD M i 0),.bool (rD M i 1),.bool (rD M i 2),.bool (rD M i 3),.bool (rD M i 4),S3.v ly,iv (CO M i 0),iv (CO M i 1),iv (CO M i 2),iv (CO M i 3),iv (CO M i 4),S3.v tv] 30,.l,false⟩]/\c=[Fa.zv tv 5 (M.ew.flatMap EP),Fa.ow 0 35 1 ly (ysL ys i),Fa.lg M ys i]/\i<=5/\ly.n=i/\(∀ j,j<i->cmL ((M.ab j).ae.take (M.ab j).done)≠[]->∀ a,(ys j).a=some a->w.heap.size<=a.block)) (5) ⟨0,s30,λ_=>s30,rfl,rfl,rfl,rfl,by omega,rfl,λj G=>absurd G (oL _)⟩ (λF=>⟨F.1,OwnS.nil _ _ _ _ _ _,(λj G=>absurd G (oL _)),trivial⟩) ?_;rintro k _ _ _ ⟨i,ly,ys,rfl,rfl,rfl,rfl,hi,a0,hw⟩ _ _ _ J q;refine tR 5 [] λa2 _ _=>?_;by_cases Z:i<5
 .refine tI ((decide ((i:Int)<5))) true (M' (by omega)) ?_;have d:i<5:=by omega
  obtain⟨x,hN⟩:=h.ab i d;refine tR 6 [] λa3 _ _=>tV 1 (pt (nb i) 0) (λF C=>(kO d)) (aW (nb i) _ hN.row ?_);refine tR 4 [] λa4 _ _=>Is 55 (λy t c=>y=[(2,pt (b 0) 0),(3,pt m 0),(26,.agg #[pt (nb 0) 0,pt (nb 1) 0,pt (nb 2) 0,pt (nb 3) 0,pt (nb 4) 0]),(27,iv (i:Int)),(4,iv (i:Int)),(5,pt (nb i) 0)]/\t=[⟨mb,.cells (mtA nb ob tb) 92,.z,false⟩,⟨(b 0),.cells #[iv 0,.bool false,.bool false,.bool false,.bool false,.bool false,sn,iv 0,iv 0,iv 0,iv 0,iv 0,sn] 30,.l,false⟩,⟨m,.cells #[iv (lt.n:Int),.bool (Gv (rD M i) i (M.ab i).up 0),.bool (Gv (rD M i) i (M.ab i).up 1),.bool (Gv (rD M i) i (M.ab i).up 2),.bool (Gv (rD M i) i (M.ab i).up 3),.bool (Gv (rD M i) i (M.ab i).up 4),S3.v ly,iv (CO M i 0),iv (CO M i 1),iv (CO M i 2),iv (CO M i 3),iv (CO M i 4),S3.v tv] 30,.l,false⟩,⟨(nb i),.cells (AH i ob (M.ab i) x) 114,.z,false⟩]/\c=[Fa.zv tv 5 (M.ew.flatMap EP),Fa.ow 0 35 1 ly (ysL ys i),Fa.lg M ys i]) (λJ q=>?_) ?_
  .rcases rC d with rfl|rfl|rfl|rfl|rfl<;>exact tR 10 [3,2,0] λa5 _ _=>tD q [true,true,true,true] ⟨rfl,rfl,rfl⟩ (λF=>F)
  rintro _ _ _ ⟨rfl,rfl,rfl⟩ _ _ _;refine tR 1 [] λa6 _ _=>Is 55 (λy t c=>y=[(2,pt (b 0) 0),(3,pt m 0),(26,.agg #[pt (nb 0) 0,pt (nb 1) 0,pt (nb 2) 0,pt (nb 3) 0,pt (nb 4) 0]),(27,iv (i:Int)),(4,iv (i:Int)),(5,pt (nb i) 0)]/\t=[⟨mb,.cells (mtA nb ob tb) 92,.z,false⟩,⟨(b 0),.cells #[iv 0,.bool false,.bool false,.bool false,.bool false,.bool false,sn,iv 0,iv 0,iv 0,iv 0,iv 0,sn] 30,.l,false⟩,⟨m,.cells #[iv (lt.n:Int),.bool (Gv (rD M i) i (M.ab i).up 0),.bool (Gv (rD M i) i (M.ab i).up 1),.bool (Gv (rD M i) i (M.ab i).up 2),.bool (Gv (rD M i) i (M.ab i).up 3),.bool (Gv (rD M i) i (M.ab i).up 4),S3.v ly,iv (KH (CO M i) i ((M.ab i).bad:Int) 0),iv (KH (CO M i) i ((M.ab i).bad:Int) 1),iv (KH (CO M i) i ((M.ab i).bad:Int) 2),iv (KH (CO M i) i ((M.ab i).bad:Int) 3),iv (KH (CO M i) i ((M.ab i).bad:Int) 4),S3.v tv] 30,.l,false⟩,⟨(nb i),.cells (AH i ob (M.ab i) x) 114,.z,false⟩]/\c=[Fa.zv tv 5 (M.ew.flatMap EP),Fa.ow 0 35 1 ly (ysL ys i),Fa.lg M ys i]) (λJ q=>?_) ?_
  .rcases rC d with rfl|rfl|rfl|rfl|rfl<;>exact tR 10 [3,2,0] λa7 _ _=>tD q [true,true,true,true] ⟨rfl,rfl,rfl⟩ (λF=>F)
  rintro _ _ _ ⟨rfl,rfl,rfl⟩ _ _ _;refine tR 4 [8,0,2,2,4] λa8 _ _=>tC 3 (λF C=>i7 h (CgQ.af C) d (hd i d).1) λB=>?_;rintro _ _ ⟨yl,rfl,I,P⟩;refine⟨_,_,rfl,P,id,?_⟩;have V:yl.n<100000000:=by rw[I.len,X'];have:=hd i d;omega
  refine tF λ_ D=>?_;have H:=D.size;refine tC 4 (λF C=>RS I.rv (λu hu=>Pe _ u hu) V) λB=>?_;rintro _ _ ⟨O,rfl,W,_,L,Q⟩;refine⟨_,Fa.zv O 5 (cmL ((M.ab i).ae.take (M.ab i).done))::_,rfl,Q,λF=>⟨⟨W,λp a o=>B _ (L p a o)⟩,F⟩,?_⟩;refine tR 1 [11,0,0] λs _ _=>NJ 6 0 (x:=ly) 26 26 35 1 24 sn ⟨(s 0),0,none⟩ 1 1 [S3.v O] (λF=>F.2.2.1) [Fa.zv tv 5 (M.ew.flatMap EP),Fa.lg M (yup ys i O) (i+1)] (λF=>⟨F.2.1,dI F.2.2.2.1 F.1,trivial⟩) rfl (by simp[TQ]) rfl (by simp[Value.oneCell']) (λF K=>C6 K 4 (s 0) [S3.v O] 35 .z true (by kernel_rfl)) (by unfold maxLen;omega) (by omega) λN _ _ b7=>tR 5 [14,17,2,0] λa9 _ _=>tV 0 (iv ((i:Int)+1)) (λF C=>(Ay 27 (i:Int) underlying3 (by omega))) (tR 2 [] λb0 _ _=>tB q (5-(i+1)) (by omega) [true,true,true,false,false] (L':=[⟨mb,.cells (mtA nb ob tb) 92,.z,false⟩,⟨(b 0),.cells #[iv 0,.bool false,.bool false,.bool false,.bool false,.bool false,sn,iv 0,iv 0,iv 0,iv 0,iv 0,sn] 30,.l,false⟩,⟨m,.cells #[iv (lt.n:Int),.bool (Gv (rD M i) i (M.ab i).up 0),.bool (Gv (rD M i) i (M.ab i).up 1),.bool (Gv (rD M i) i (M.ab i).up 2),.bool (Gv (rD M i) i (M.ab i).up 3),.bool (Gv (rD M i) i (M.ab i).up 4),S3.v N,iv (KH (CO M i) i ((M.ab i).bad:Int) 0),iv (KH (CO M i) i ((M.ab i).bad:Int) 1),iv (KH (CO M i) i ((M.ab i).bad:Int) 2),iv (KH (CO M i) i ((M.ab i).bad:Int) 3),iv (KH (CO M i) i ((M.ab i).bad:Int) 4),S3.v tv] 30,.l,false⟩]) ⟨i+1,N,yup ys i O,rfl,rfl,(by rw[j2,gJ]),rfl,by omega,by omega,fM hw (λp a o=>mH H (L p a o))⟩ (λF=>⟨F.2.1,(by rw[lV];exact F.1),F.2.2.1,trivial⟩))
 .refine tI ((decide ((i:Int)<5))) false (E' (by omega)) ?_;obtain rfl:i=5:=by omega
  refine tR 6 [2,1,0] λb1 _ _=>?_;have hA:GA M ly tv=#[iv (lt.n:Int),.bool (rD M 5 0),.bool (rD M 5 1),.bool (rD M 5 2),.bool (rD M 5 3),.bool (rD M 5 4),S3.v ly,iv (CO M 5 0),iv (CO M 5 1),iv (CO M 5 2),iv (CO M 5 3),iv (CO M 5 4),S3.v tv]:=by rw[S];rfl
  exact tX λF C=>qE1 2 30 1 (b 0) #[iv (lt.n:Int),.bool (rD M 5 0),.bool (rD M 5 1),.bool (rD M 5 2),.bool (rD M 5 3),.bool (rD M 5 4),S3.v ly,iv (CO M 5 0),iv (CO M 5 1),iv (CO M 5 2),iv (CO M 5 3),iv (CO M 5 4),S3.v tv] λ_=>⟨ly,tv,ys,by rw[hA],⟨F.2.1.rv,λj G=>(F.2.2.1 j G).rd.rc,F.1.rd⟩,⟨iK F.2.1 C,hw,f⟩,CgQ.af C⟩
theorem Zd(h:1<=k/\k<=9):Calls prog 30 #[iv k] w λe w'=>e=.returned (.bool true)/\Bw w w':=by
 refine tIn [] func30 trivial (tR 7 [] λa _ _=>tV 1 (.bool true) (λF C=>(rGe (t:=3) (m:=k) (n:=1) (x:=(.tmp 3)) (y:=(.const (iv 1))) (M' h.1))) (tR 6 [] λb _ _=>tE (.bool (decide (k<10))) λ_ B=>⟨by rw[M' (show k<10 by omega)],B⟩))
theorem YW:Calls prog 62 #[iv k] w λe w'=>e=.returned (.bool (k==1))/\Bw w w':=by
 refine tIn [] func62 trivial (tR 10 [] λa _ _=>tE (.bool (k==1)) λ_ B=>⟨rfl,B⟩)
theorem Q9:Calls prog 61 #[pt b 0] w λe w'=>e=.returned (.agg #[pt b 1,pt b 2,pt b 3])/\Bw w w':=by
 refine tIn [] func61 trivial (tR 18 [1,0,10,0,2,4,6,8,10,12,14,16,18,21,0,0] λa _ _=>tX λF C=>qE1 2 141 0 (a 0) #[pt b 1,pt b 2,pt b 3] λ_=>⟨rfl,CgQ.af C⟩)
theorem Zf(h:j<3):j=0\/j=1\/j=2:=by omega
theorem IZ(h:1<=k/\k<=9):(Instr.indexAt 147 (pt 1 0) (iv k)).run prog W=.ok (pt 1 (4*k.toNat)) W:=by
 have:=WI k.toNat (by omega) W
 rwa [pi (by omega)]at this
theorem LWTab.at(h:LWTab w){k:Int}(c:1<=k/\k<=9){j:Nat}(a:j<3){b:Bool}(e:MW j k=b):w.cell? ⟨1,4*k.toNat+1+j,none⟩=some (.bool b):=by
 have:=h.has k.toNat j (by omega) a
 rwa [pi (by omega),e]at this
theorem iq{x:Lac}(h:LacOk x)(hy:y.n=x.d.length)(i:LWTab w)(o:LBTab w):Calls prog 31 #[.agg #[iv x.k,iv x.n,iv x.a,iv x.p,S3.v y]] w λe w'=>e=.returned (.bool true)/\Bw w w':=by
 have f:=h.k;refine tIn [] func31 trivial (tR 8 [0,0] λc _ _=>tC1 0 (λF C=>Q9 (b:=(c 0))) λ_=>tR 3 [] λa0 _ _=>DB 33 [(1,pt (c 0) 0),(5,.agg #[pt (c 0) 1,pt (c 0) 2,pt (c 0) 3]),(6,iv 0)] [true] [⟨(c 0),.cells #[iv x.k,iv x.n,iv x.a,iv x.p,S3.v y] 38,.z,false⟩] [] (λZ Y X l=>∃ (j:Nat),Z=3-j/\Y=[(1,pt (c 0) 0),(5,.agg #[pt (c 0) 1,pt (c 0) 2,pt (c 0) 3]),(6,iv (j:Int))]/\X=[⟨(c 0),.cells #[iv x.k,iv x.n,iv x.a,iv x.p,S3.v y] 38,.z,false⟩]/\l=[]/\j<=3) (3) ⟨0,rfl,rfl,rfl,rfl,by omega⟩ (λF=>trivial) ?_);rintro k _ _ _ ⟨j,rfl,rfl,rfl,rfl,hj⟩ _ _ _ J g;refine tR 5 [] λa1 _ _=>?_;by_cases h0:j<3
 .refine tI ((decide ((j:Int)<3))) true (M' (by omega)) ?_;rcases Zf (show j<3 by omega)with rfl|rfl|rfl
  .by_cases h1:Gi x.k=true
   .have hv:=h.n h1;refine tR 15 [22,0,2,0,4] λa2 _ _=>tT 3 (pt (1) (4*x.k.toNat)) (λ_=>(IZ f)) (tR 2 [8,10] λa3 _ _=>tV 6 (.bool true) (λF C=>(Bh underlying4 rfl ((i.af (CgQ.af C)).at f (j:=0) (by decide) (show Gi x.k=true from h1)))) (tR 4 [14,16,18,20,0] λa4 _ _=>tT 11 (.bool false) (λ_=>(rLt (t:=3) (m:=x.n) (n:=0) (x:=(.tmp 20)) (y:=(.const (iv 0))) (E' (by omega)))) (tR 6 [24,26,28,30,0,32,34] λa5 _ _=>tV 18 (iv 4) (λF C=>(Bh underlying3 rfl ((o.af (CgQ.af C)).tS 0 (by decide)))) (tR 4 [38,40,42] λa6 _ _=>tI ((decide (4<x.n))) false (E' (by omega)) (tR 6 [] λq _ _=>tB g (3-1) (by omega) [true] ⟨1,rfl,rfl,rfl,rfl,by omega⟩ (λF=>trivial))))))
   .refine tR 15 [22,0,2,0,4] λr _ _=>tT 3 (pt (1) (4*x.k.toNat)) (λ_=>(IZ f)) (tR 2 [8,10] λs _ _=>tV 6 (.bool false) (λF C=>(Bh underlying4 rfl ((i.af (CgQ.af C)).at f (j:=0) (by decide) (show Gi x.k=false from(by simpa using h1))))) (tR 23 [14,16,18,20,22,24,26,28,30,32,34,36,38,40,42] λu _ _=>tB g (3-1) (by omega) [true] ⟨1,rfl,rfl,rfl,rfl,by omega⟩ (λF=>trivial)))
  .by_cases h1:Iw x.k=true
   .have hv:=h.a h1;refine tR 15 [22,0,2,0,4] λA _ _=>tT 3 (pt (1) (4*x.k.toNat)) (λ_=>(IZ f)) (tR 2 [8,10] λD _ _=>tV 6 (.bool true) (λF C=>(Bh underlying4 rfl ((i.af (CgQ.af C)).at f (j:=1) (by decide) (show Iw x.k=true from h1)))) (tR 4 [14,16,18,20,0] λE _ _=>tT 11 (.bool false) (λ_=>(rLt (t:=3) (m:=x.a) (n:=0) (x:=(.tmp 20)) (y:=(.const (iv 0))) (E' (by omega)))) (tR 6 [24,26,28,30,0,32,34] λG _ _=>tV 18 (iv 1048576) (λF C=>(Bh underlying3 rfl ((o.af (CgQ.af C)).tS 1 (by decide)))) (tR 4 [38,40,42] λH _ _=>tI ((decide (1048576<x.a))) false (E' (by omega)) (tR 6 [] λI _ _=>tB g (3-2) (by omega) [true] ⟨2,rfl,rfl,rfl,rfl,by omega⟩ (λF=>trivial))))))
   .refine tR 15 [22,0,2,0,4] λK _ _=>tT 3 (pt (1) (4*x.k.toNat)) (λ_=>(IZ f)) (tR 2 [8,10] λL _ _=>tV 6 (.bool false) (λF C=>(Bh underlying4 rfl ((i.af (CgQ.af C)).at f (j:=1) (by decide) (show Iw x.k=false from(by simpa using h1))))) (tR 23 [14,16,18,20,22,24,26,28,30,32,34,36,38,40,42] λM _ _=>tB g (3-2) (by omega) [true] ⟨2,rfl,rfl,rfl,rfl,by omega⟩ (λF=>trivial)))
  .by_cases h1:Ix x.k=true
   .have hv:=h.p h1;refine tR 15 [22,0,2,0,4] λN _ _=>tT 3 (pt (1) (4*x.k.toNat)) (λ_=>(IZ f)) (tR 2 [8,10] λO _ _=>tV 6 (.bool true) (λF C=>(Bh underlying4 rfl ((i.af (CgQ.af C)).at f (j:=2) (by decide) (show Ix x.k=true from h1)))) (tR 4 [14,16,18,20,0] λP _ _=>tT 11 (.bool false) (λ_=>(rLt (t:=3) (m:=x.p) (n:=0) (x:=(.tmp 20)) (y:=(.const (iv 0))) (E' (by omega)))) (tR 6 [24,26,28,30,0,32,34] λQ _ _=>tV 18 (iv 100000) (λF C=>(Bh underlying3 rfl ((o.af (CgQ.af C)).tS 2 (by decide)))) (tR 4 [38,40,42] λR _ _=>tI ((decide (100000<x.p))) false (E' (by omega)) (tR 6 [] λS _ _=>tB g (3-3) (by omega) [true] ⟨3,rfl,rfl,rfl,rfl,by omega⟩ (λF=>trivial))))))
   .refine tR 15 [22,0,2,0,4] λT _ _=>tT 3 (pt (1) (4*x.k.toNat)) (λ_=>(IZ f)) (tR 2 [8,10] λU _ _=>tV 6 (.bool false) (λF C=>(Bh underlying4 rfl ((i.af (CgQ.af C)).at f (j:=2) (by decide) (show Ix x.k=false from(by simpa using h1))))) (tR 23 [14,16,18,20,22,24,26,28,30,32,34,36,38,40,42] λV _ _=>tB g (3-3) (by omega) [true] ⟨3,rfl,rfl,rfl,rfl,by omega⟩ (λF=>trivial)))
 .refine tI ((decide ((j:Int)<3))) false (E' (by omega)) (tR 5 [] λW _ _=>tE (.bool true) λ_ B=>⟨rfl,B⟩)
theorem cY{x:Lac}(h:LacOk x)(hy:y.n=x.d.length)(o:LWTab w)(tb:LBTab w):Calls prog 32 #[.agg #[iv x.k,iv x.n,iv x.a,iv x.p,S3.v y]] w λe w'=>e=.returned (.bool true)/\Bw w w':=by
 have g:=h.k;refine tIn [] func32 trivial (tR 8 [0,0] λc _ _=>tC1 0 (λF C=>Q9 (b:=(c 0))) λ_=>tR 3 [] λa1 _ _=>DB 34 [(1,pt (c 0) 0),(5,.agg #[pt (c 0) 1,pt (c 0) 2,pt (c 0) 3]),(6,iv 0)] [true] [⟨(c 0),.cells #[iv x.k,iv x.n,iv x.a,iv x.p,S3.v y] 38,.z,false⟩] [] (λkk Y X i=>∃ (j:Nat),kk=3-j/\Y=[(1,pt (c 0) 0),(5,.agg #[pt (c 0) 1,pt (c 0) 2,pt (c 0) 3]),(6,iv (j:Int))]/\X=[⟨(c 0),.cells #[iv x.k,iv x.n,iv x.a,iv x.p,S3.v y] 38,.z,false⟩]/\i=[]/\j<=3) (3) ⟨0,rfl,rfl,rfl,rfl,by omega⟩ (λF=>trivial) ?_);rintro k _ _ _ ⟨j,rfl,rfl,rfl,rfl,hj⟩ _ _ _ J f;refine tR 5 [] λa2 _ _=>?_;by_cases h0:j<3
 .refine tI ((decide ((j:Int)<3))) true (M' (by omega)) ?_;rcases Zf (show j<3 by omega)with rfl|rfl|rfl
  .by_cases h1:Gi x.k=true
   .by_cases h2:x.n=0
    .refine tR 15 [0] λa3 _ _=>tV 3 (.bool false) (λF C=>(D8 (t:=3) (m:=x.n) (n:=0) (x:=(.tmp 12)) (y:=(.const (iv 0))) (by simpa using h2))) (tR 18 [] λa4 _ _=>tB f (3-1) (by omega) [true] ⟨1,rfl,rfl,rfl,rfl,by omega⟩ (λF=>trivial))
    .refine tR 15 [0] λa5 _ _=>tV 3 (.bool true) (λF C=>(D8 (t:=3) (m:=x.n) (n:=0) (x:=(.tmp 12)) (y:=(.const (iv 0))) (by simpa using h2))) (tR 4 [0] λa6 _ _=>tV 8 (pt (1) (4*x.k.toNat)) (λF C=>(IZ g)) (tR 2 [] λa7 _ _=>tV 11 (.bool true) (λF C=>(Bh underlying4 rfl ((o.af (CgQ.af C)).at g (j:=0) (by decide) (show Gi x.k=true from h1)))) (tR 10 [] λq _ _=>tB f (3-1) (by omega) [true] ⟨1,rfl,rfl,rfl,rfl,by omega⟩ (λF=>trivial))))
   .have h2:x.n=0:=h.n0 (by simpa using h1);refine tR 15 [0] λr _ _=>tV 3 (.bool false) (λF C=>(D8 (t:=3) (m:=x.n) (n:=0) (x:=(.tmp 12)) (y:=(.const (iv 0))) (by simpa using h2))) (tR 18 [] λs _ _=>tB f (3-1) (by omega) [true] ⟨1,rfl,rfl,rfl,rfl,by omega⟩ (λF=>trivial))
  .by_cases h1:Iw x.k=true
   .by_cases h2:x.a=0
    .refine tR 15 [0] λu _ _=>tV 3 (.bool false) (λF C=>(D8 (t:=3) (m:=x.a) (n:=0) (x:=(.tmp 12)) (y:=(.const (iv 0))) (by simpa using h2))) (tR 18 [] λA _ _=>tB f (3-2) (by omega) [true] ⟨2,rfl,rfl,rfl,rfl,by omega⟩ (λF=>trivial))
    .refine tR 15 [0] λD _ _=>tV 3 (.bool true) (λF C=>(D8 (t:=3) (m:=x.a) (n:=0) (x:=(.tmp 12)) (y:=(.const (iv 0))) (by simpa using h2))) (tR 4 [0] λE _ _=>tV 8 (pt (1) (4*x.k.toNat)) (λF C=>(IZ g)) (tR 2 [] λG _ _=>tV 11 (.bool true) (λF C=>(Bh underlying4 rfl ((o.af (CgQ.af C)).at g (j:=1) (by decide) (show Iw x.k=true from h1)))) (tR 10 [] λH _ _=>tB f (3-2) (by omega) [true] ⟨2,rfl,rfl,rfl,rfl,by omega⟩ (λF=>trivial))))
   .have h2:x.a=0:=h.a0 (by simpa using h1);refine tR 15 [0] λI _ _=>tV 3 (.bool false) (λF C=>(D8 (t:=3) (m:=x.a) (n:=0) (x:=(.tmp 12)) (y:=(.const (iv 0))) (by simpa using h2))) (tR 18 [] λK _ _=>tB f (3-2) (by omega) [true] ⟨2,rfl,rfl,rfl,rfl,by omega⟩ (λF=>trivial))
  .by_cases h1:Ix x.k=true
   .by_cases h2:x.p=0
    .refine tR 15 [0] λL _ _=>tV 3 (.bool false) (λF C=>(D8 (t:=3) (m:=x.p) (n:=0) (x:=(.tmp 12)) (y:=(.const (iv 0))) (by simpa using h2))) (tR 18 [] λM _ _=>tB f (3-3) (by omega) [true] ⟨3,rfl,rfl,rfl,rfl,by omega⟩ (λF=>trivial))
    .refine tR 15 [0] λN _ _=>tV 3 (.bool true) (λF C=>(D8 (t:=3) (m:=x.p) (n:=0) (x:=(.tmp 12)) (y:=(.const (iv 0))) (by simpa using h2))) (tR 4 [0] λO _ _=>tV 8 (pt (1) (4*x.k.toNat)) (λF C=>(IZ g)) (tR 2 [] λP _ _=>tV 11 (.bool true) (λF C=>(Bh underlying4 rfl ((o.af (CgQ.af C)).at g (j:=2) (by decide) (show Ix x.k=true from h1)))) (tR 10 [] λQ _ _=>tB f (3-3) (by omega) [true] ⟨3,rfl,rfl,rfl,rfl,by omega⟩ (λF=>trivial))))
   .have h2:x.p=0:=h.p0 (by simpa using h1);refine tR 15 [0] λR _ _=>tV 3 (.bool false) (λF C=>(D8 (t:=3) (m:=x.p) (n:=0) (x:=(.tmp 12)) (y:=(.const (iv 0))) (by simpa using h2))) (tR 18 [] λS _ _=>tB f (3-3) (by omega) [true] ⟨3,rfl,rfl,rfl,rfl,by omega⟩ (λF=>trivial))
 .refine tI ((decide ((j:Int)<3))) false (E' (by omega)) (tR 6 [0] λT _ _=>?_);by_cases Z:y.n=0
  .refine tV 3 (.bool true) (λF C=>(Dv (t:=3) (m:=(y.n:Int)) (n:=0) (x:=(.tmp 27)) (y:=(.const (iv 0))) (by simp;omega))) (tR 7 [] λU _ _=>tE (.bool true) λ_ B=>⟨rfl,B⟩)
  .refine tV 3 (.bool false) (λF C=>(Dv (t:=3) (m:=(y.n:Int)) (n:=0) (x:=(.tmp 27)) (y:=(.const (iv 0))) (by simp;omega))) (tR 3 [0] λV _ _=>tC1 7 (λF C=>YW (k:=x.k)) λ_=>tR 3 [] λW _ _=>?_);have l:x.k=1:=nB λe=>Z (by rw[hy,h.d0 e];rfl);exact tE (.bool (x.k==1)) λ_ B=>⟨by rw[l];rfl,B⟩
theorem RO{x:Lac}(h:LacOk x)(b:y.n=x.d.length)(f:LWTab w)(c:LBTab w):Calls prog 17 #[.agg #[iv x.k,iv x.n,iv x.a,iv x.p,S3.v y]] w λe w'=>e=.returned (iv 0)/\Bw w w':=by
 have o:=h.d;refine tIn [] func17 trivial (tR 10 [0,0,0] λg _ _=>tC1 2 (λF C=>Zd h.k) λ_=>tR 8 [0] λi _ _=>tC1 1 (λF C=>iq h b (f.af (CgQ.af C)) (c.af (CgQ.af C))) λ_=>tR 12 [0] λj _ _=>tI ((decide (2000<(y.n:Int)))) false (E' (by omega)) (tR 5 [0] λl _ _=>tC1 1 (λF C=>cY h b (f.af (CgQ.af C)) (c.af (CgQ.af C))) λ_=>tR 8 [] λm _ _=>tE (iv 0) λ_ B=>⟨rfl,B⟩))
def laV(x:Lac)(y:Value):List Value:=[.int .i64 x.k,.int .i64 x.n,.int .i64 x.a,.int .i64 x.p,y]
def zLa:Value:=.agg #[.int .i64 0,.int .i64 0,.int .i64 0,.int .i64 0,.slice none 0 0]
def mj:Lac:=⟨0,0,0,0,[]⟩
structure Sk(w:World)(x:Value)(F:Nat->Lac)(n:Nat):Prop where
 ex:∃ a cap,x=.slice a n cap/\(n=0\/∃ b off,a=some ⟨b,off,none⟩/\b<w.heap.size/\∀ i,i<n->∃ y,w.rangeAt b (off+5*i) (laV (F i) y)/\Sl w y (F i).d)
 len:n<=2513169434916
theorem Sk.af{x:Value}{n:Nat}(h:Sk w x F n)(e:Bw w w'):Sk w' x F n:=by
 obtain⟨⟨a,c,rfl,d⟩,f⟩:=h;refine⟨⟨a,c,rfl,?_⟩,f⟩;rcases d with d|⟨b,off,ha,hbs,hcell⟩
 .exact .inl d
 .refine .inr ⟨b,off,ha,j' hbs e.size,λi l=>?_⟩;obtain⟨y,g,k⟩:=hcell i l;exact⟨y,λj u m=>(e.cell (p:=⟨b,off+5*i+j,none⟩) hbs).trans (g j u m),k.af e⟩
theorem Sk.shape{x:Value}{n:Nat}(h:Sk w x F n):∃ a cap,x=.slice a n cap:=by
 obtain⟨⟨a,cap,e,_⟩,_⟩:=h;exact⟨a,cap,e⟩
theorem Sk.spot{a:Option Addr}{n c:Nat}(h:Sk w (.slice a n c) F n)(i:Nat)(j:i<n):∃ b off xa xm xp,a=some ⟨b,off,none⟩/\b<w.heap.size/\w.rangeAt b (off+5*i) (laV (F i) (.slice xa xm xp))/\Sl w (.slice xa xm xp) (F i).d:=by
 obtain⟨⟨k,f,e,g⟩,_⟩:=h;simp only[Value.slice.injEq]at e;obtain⟨rfl,_,rfl⟩:=e;rcases g with rfl|⟨b,off,rfl,hb,hcell⟩
 .omega
 .obtain⟨y,h3,h4⟩:=hcell i j;obtain⟨xa,xp,rfl⟩:=h4.rN;exact⟨b,off,xa,_,xp,rfl,hb,h3,h4⟩
def laF(l:List Lac):Nat->Lac:=λi=>l.getD i mj
theorem Po{l:List Lac}(h:i<l.length):laF l i=l[i]:=by simp[laF,List.getD,List.getElem?_eq_getElem h]
def Ju(F:Nat->Lac)(n:Nat):List Lac:=(List.range n).map F
theorem Xz(F:Nat->Lac)(n:Nat):(Ju F n).length=n:=by simp[Ju]
theorem bY{n:Nat}(h:j<n):(Ju F n).drop j=F j::(Ju F n).drop (j+1):=by
 have a:(Ju F n)[j]?=some (F j):=by simp[Ju,h]
 obtain⟨b,c⟩:=U'.1 a;rw[<- c];exact nI b
def dY:Array Value:=#[iv 0,.bool false,.bool false,.bool false,.bool false,.bool false,S3.v s30,iv 0,iv 0,iv 0,iv 0,iv 0,S3.v s30]
def TR:List Tg:=.n 70 0::TM
theorem jD:Tg.z∉TR:=by simp[TR,TM,TN]
theorem jA:∀ t∈TM,t∈TR:=λt h=>I' _ h
theorem Og:gS.t b∉TR:=jD
theorem Base.self(w:World):Base w gS w:=⟨Below.refl _ _,λ_ _=>rfl⟩
theorem Cn{d:Option Addr}{a n c:Nat}(f:d=some ⟨b,a,none⟩)(j:Nat)(g:j<n):(Instr.indexAt 23 (.slice d n c) (iv (j:Int))).run prog W=.ok (pt b (a+5*j)) W:=by
 subst f;exact Mo (P:=prog) (e:=38) (z:=5) underlying23 (by kernel_rfl) (by kernel_rfl) g _ rfl
theorem kT{k:Nat}{x:Lac}{y:Value}(h:W.rangeAt b k (laV x y)):(Instr.loadAt 38 (pt b k)).run prog W=.ok (.agg #[iv x.k,iv x.n,iv x.a,iv x.p,y]) W:=by
 have c:=run_loadVar_mid (P:=prog) W b k 38 (laV x y) _ h underlying38 rfl (by kernel_rfl);simp only[Instr.loadAt,Instr.sureAddr,Sem.run_bind,Sem.run_pure,Result.andThen_ok];exact c
theorem OutN.mono(h:OutN B M ly tv ys)(b:C<=B):OutN C M ly tv ys:=⟨λa e=>mH b (h.rX a e),λj d c a e=>mH b (h.log j d c a e),λc a e=>mH b (h.ew c a e)⟩
theorem eK{lv:S3}{n:Nat}(h:Sk w lv.v F n)(a9:∀ i,i<n->LacOk (F i))(f2:n<=100000)(hT:Tabs w)(tw:LWTab w)(tb:LBTab w) :
  Calls prog 11 #[lv.v] w λe w'=>Bw w w'/\∃ (ly tv:S3) (ys:Nat->S3),e=.returned (.tuple #[.agg (GA (As.dT (Ju F n)) ly tv),iv 0])/\OutW w' (As.dT (Ju F n)) ly tv ys/\OutN w.heap.size (As.dT (Ju F n)) ly tv ys:=by
 obtain⟨X,lq,H⟩:=lv;have f4:lq=n:=by obtain⟨a,e1,hh⟩:=h.shape;simp only[S3.v,Value.slice.injEq]at hh;exact hh.2.1
 subst lq;have f3:=h.len;obtain⟨G,E⟩:∃ G,Ju F n=G:=⟨_,rfl⟩;have f1:G.length=n:=by rw[<- E];exact Xz F n
 rw[E];refine gI (fn:=f11) TR gS func11 (λ_ _=>⟨rfl,rfl⟩) (qR [] 12 [1,0] λd g1 w1 c1=>qI ((decide (100000<(n:Int)))) false (E' (by omega)) (qR [] 9 [] λh7 g3 w3 c3=>Cc 40 [(0,.slice X n H),(2,pt (d 0) 0),(14,.slice X n H),(15,iv (n:Int)),(16,iv 0)] [true] [⟨(d 0),.cells dY 30,.l,false⟩] (λk g' w' e L=>∃ j:Nat,k=n-j/\j<=n/\e=[(0,.slice X n H),(2,pt (d 0) 0),(14,.slice X n H),(15,iv (n:Int)),(16,iv (j:Int))]/\L=[⟨(d 0),.cells dY 30,.l,false⟩]/\Cg w.heap.size TR gS w g' w') (by kernel_rfl) (by kernel_rfl) (by kernel_rfl) (by kernel_rfl) n (λK=>?_) ?_))
 .exact⟨0,rfl,nm _,rfl,rfl,((c1.nil TR).n c3)⟩
 .rintro k gr wr _ zr _ ⟨j,rfl,hj,rfl,rfl,hC⟩ J hJ;refine qR [] 5 [] λh8 g4 w4 c4=>?_;by_cases h0:j<n
  .refine qI ((decide ((j:Int)<(n:Int)))) true (M' (by omega)) (qR [] 5 [] λh9 g5 w5 c5=>?_);obtain⟨b,r,I,M,N,R,Q,S,U⟩:=h.spot j h0;refine qV 0 (pt b (r+5*j)) (Cn R (n:=n) (c:=H) j h0) (qV 1 (.agg #[iv (F j).k,iv (F j).n,iv (F j).a,iv (F j).p,.slice I M N]) (kT (x:=F j) (y:=.slice I M N) (λq u W=>(((Cg.af (((hC).n c4).n c5) (λ_ _=>Og))).cell (p:=⟨b,r+5*j+q,none⟩) Q).trans (S q u W))) (qR [] 6 [0,0,1,0,1] λi0 g7 w7 c7=>?_));have a1:=(Cg.af ((((hC).n c4).n c5).n c7) (λ_ _=>Og));refine qC 1 (RO (x:=F j) (y:=⟨I,M,N⟩) (a9 j h0) (Fi (x:=⟨I,M,N⟩) U) (tw.af a1) (tb.af a1)) ?_;rintro e' w8 ⟨rfl,b8⟩;refine⟨_,rfl,b8,?_⟩;have c8:=Cg.ed (B:=w.heap.size) (T:=[]) (g:=g7) b8;refine qR [] 7 [] λi1 g9 w9 c9=>qR [] 4 [] λd0 e2 f7 b2=>qV 0 (iv ((j:Int)+1)) (Ay 16 (j:Int) underlying3 (by omega)) (qR [] 2 [] λd1 e3 f8 b3=>qB [true,false] λz K0 K=>hJ (n-(j+1)) _ _ _ z _ (by omega) ⟨j+1,rfl,by omega,rfl,rfl,((((((((hC).n c4).n c5).n c7).n c8).n c9).n b2).n b3)⟩ K)
  .refine qI ((decide ((j:Int)<(n:Int)))) false (E' (by omega)) ?_;obtain rfl:j=n:=by omega
   refine qR [] 3 [] λd2 e4 f9 b4=>Af λK=>qG 0 [.n 70 0] [true] (LY K.new) ?_;rintro e' g0 ⟨mb,V,ob,nb,b6,rfl,a6,s⟩;refine⟨_,b6,rfl,s,a6.new,?_⟩;replace s:=s.ret (B:=w.heap.size);refine qR [] 10 [] λd3 e5 g2 a2=>Cc 40 [(2,pt (d 0) 0),(7,pt mb 0),(28,.slice X j H),(29,iv (j:Int)),(30,iv 0)] [true] [⟨(d 0),.cells dY 30,.l,false⟩] (λk g' w' e L=>∃ (i:Nat) (A:Meet),k=j-i/\i<=j/\e=[(2,pt (d 0) 0),(7,pt mb 0),(28,.slice X j H),(29,iv (j:Int)),(30,iv (i:Int))]/\L=[⟨(d 0),.cells dY 30,.l,false⟩]/\MS mb V ob nb g' w' A/\(G.drop i).foldl Meet.act A=As.dT G/\MOk i A/\Cg w.heap.size TR gS w g' w') (by kernel_rfl) (by kernel_rfl) (by kernel_rfl) (by kernel_rfl) j (λK=>?_) ?_
   .exact⟨0,As,rfl,nm _,rfl,rfl,(a6.rL a2 K.new),rfl,MOk.zero,(((((hC).n c4).n b4).trans (s.mono (by simp[TR]))).n a2)⟩
   .rintro k gq wq _ zq _ ⟨i,A,rfl,hi,rfl,rfl,hM,hI2,hA,hC2⟩ J2 hJ2;refine qR [] 5 [] λd4 e6 g6 m=>?_;by_cases h3:i<j
    .refine qI ((decide ((i:Int)<(j:Int)))) true (M' (by omega)) ?_;rw[<- E,bY h3,E,rj]at hI2
     have a8:LacOk (F i):=a9 i h3;refine qR [] 5 [] λd5 e7 g8 o=>?_;obtain⟨b,r,I,M,N,R,Q,S,U⟩:=h.spot i h3;refine qV 0 (pt b (r+5*i)) (Cn R (n:=j) (c:=H) i h3) (qV 1 (.agg #[iv (F i).k,iv (F i).n,iv (F i).a,iv (F i).p,.slice I M N]) (kT (x:=F i) (y:=.slice I M N) (λq u W=>(((Cg.af (((hC2).n m).n o) (λ_ _=>Og))).cell (p:=⟨b,r+5*i+q,none⟩) Q).trans (S q u W))) (qR [] 6 [0,0,1,0,1] λd6 b7 c6 C=>Af λK=>?_));have NM:MS mb V ob nb b7 c6 A:=(hM.rL ((m.trans o).trans C) K.new);have b1:=(Cg.af ((((hC2).n m).n o).n C) (λ_ _=>Og));refine qG 2 TM [true,true] (ib NM ((Base.self w).ch ((((hC2).n m).n o).n C) jD) hT (F i) ⟨I,M,N⟩ (U.af b1) a8 hA (by omega)) ?_;rintro e' h1 ⟨b9,rfl,Y,D⟩;refine⟨_,b9,rfl,D,Y.new,?_⟩;replace D:=D.ret (B:=w.heap.size);refine qR [] 3 [] λd7 e8 h2 a3=>qV 0 (iv ((i:Int)+1)) (Ay 30 (i:Int) underlying3 (by omega)) (qR [] 2 [] λd8 e9 h4 a4=>qB [true,false] λz K0 K=>hJ2 (j-(i+1)) _ _ _ z _ (by omega) ⟨i+1,A.act (F i),rfl,by omega,rfl,rfl,(Y.rL (a3.trans a4) K0.new),hI2,hA.act (by omega) a8,(((((((hC2).n m).n o).n C).trans (D.mono jA)).n a3).n a4)⟩ K)
    .refine qI ((decide ((i:Int)<(j:Int)))) false (E' (by omega)) ?_;obtain rfl:i=j:=by omega
     rw[nC (by omega)]at hI2
     replace hI2:A=As.dT G:=hI2;subst hI2;refine qR [] 4 [] λd9 P b0 O=>Af λK=>?_;have NM:MS mb V ob nb P b0 (As.dT G):=(hM.rL (m.trans O) K.new);have f6:=hA.wt;have f5:=hA.ew;have c0:∀ b,b0.heap.size<=b->P.t b=.z:=λb hb=>(K.new b hb).1;have a0:=(Cg.af (((hC2).n m).n O) (λ_ _=>Og));refine qC 1 (QQ NM (λq W=>⟨(hA.ab q W).dn,(hA.ab q W).ag⟩) (by omega) (by omega)) ?_;rintro e' h5 ⟨ly,tv,ys,rfl,c2,a7,Z⟩;refine⟨_,rfl,Z,?_⟩;have b5:=Cg.ed (B:=w.heap.size) (T:=[]) (g:=P) Z;refine qR [] 3 [0,0] λe0 f0 h6 a5=>qE2 2 3 30 0 (d 0) (GA (As.dT G) ly tv) (iv 0) λK=>⟨(Cg.af (((((hC2).n m).n O).n b5).n a5) (λ_ _=>Og)),ly,tv,ys,rfl,(c2.ch a7 c0 a5),a7.mono a0.size⟩
theorem tbA(h:Tabs w0)(C:Cg w0.heap.size TQ gS w0 g w):Tabs w:=⟨h.t.af (CgQ.af C),h.n.af (CgQ.af C),h.q.af h.q.pos (CgQ.af C)⟩
def Vp(w:World):Prop:=Tabs w/\LWTab w/\LBTab w
theorem tb5(h:Vp w0)(C:Cg w0.heap.size TQ gS w0 g w):Vp w:=⟨tbA h.1 C,h.2.1.af (CgQ.af C),h.2.2.af (CgQ.af C)⟩
theorem Hd{f:α->List Value}(d:∀ a,(f a).length=sz)(l:List α){i j:Nat}{a:α}{u:Value}(b:l[i]?=some a)(e:(f a)[j]?=some u):(l.flatMap f)[sz*i+j]?=some u:=by
 have g:j<sz:=by rw[<- d a];exact(U'.1 e).1
 induction l generalizing i with
 | nil=>cases b
 | cons c l ih =>
  rw[oW];cases i with
  | zero =>
   simp only[nW,Y']at b;subst b;rw[mS (by rw[d];omega),Nat.mul_zero,nA];exact e
  | succ i =>
   rw[mT (by rw[d,Nat.mul_succ];omega),d,show sz*(i+1)+j-sz=sz*i+j by rw[Nat.mul_succ];omega];exact ih (by simpa using b)
theorem Fs{f:α->List Value}(b:∀ a,(f a).length=sz)(l:List α):(l.flatMap f).length=l.length*sz:=by
 induction l with
 | nil=>simp
 | cons c l ih=>rw[oW,H',b,ih,np,pV];omega
theorem jT{l:List Cmd}(h:RdV w x 5 (cmL l)):x.n=l.length:=h.rc.len
def grV(g:Gr):List Value:=[iv g.k,iv g.a,iv g.b,iv g.c,iv g.d]
def grL(l:List Gr):List Value:=l.flatMap grV
structure GrOk(g:Gr):Prop where
 k:I64 g.k
 a:I64 g.a
 b:I64 g.b
 c:I64 g.c
 d:I64 g.d
def acV(l:List (Lac × S3)):List Value:=l.flatMap λp=>laV p.1 p.2.v
theorem E2(l:List (Lac × S3))(x:Lac)(y:S3):acV (l++[(x,y)])=acV l++laV x y.v:=by simp[acV]
theorem KT(l:List (Lac × S3)):(acV l).length=l.length*5:=Fs (f:=λp:Lac × S3=>laV p.1 p.2.v) (λ_=>rfl) l
theorem Uc(l:List (Lac × S3)):∀ u∈acV l,u.oneCell'=true:=by
 intro u b;obtain⟨p,_,a⟩:=pC.1 b;simp[laV]at a
 rcases a with rfl|rfl|rfl|rfl|rfl<;>rfl
def Dat(g:Gh)(w:World)(l:List (Lac × S3)):Prop:=∀ p∈l,FSl g w p.2 p.1.d
theorem Dat.ch(h:Dat g w l)(c:Cg B T g w g' w')(b:Tg.z∉T:=by simp):Dat g' w' l:=λp a=>(h p a).ch c b
theorem Dat.snoc(h:Dat g w l){x:Lac}{y:S3}(k:FSl g w y x.d):Dat g w (l++[(x,y)]):=λp a=>(Q'.1 a).elim (h p) λe=>by rw[D'.1 e];exact k
theorem Dat.app{m:List (Lac × S3)}(h:Dat g w l)(k:Dat g w m):Dat g w (l++m):=λp a=>(Q'.1 a).elim (h p) (k p)
def Fa.ac(x:S3)(l:List (Lac × S3)):Fa:=⟨none,λg w=>FzV g w x 5 (acV l)/\Dat g w l,λhz _ c h=>⟨h.1.ch c hz,h.2.ch c hz⟩⟩
def Fa.oa(r:Nat)(x:S3)(l:List (Lac × S3)):Fa:=⟨some r,λg w=>OwnS g w (.n 60 r) true 38 5 x (acV l)/\Dat g w l,λhz hr c h=>⟨h.1.ch c (hr r rfl) (by simp),h.2.ch c hz⟩⟩
def Fa.dt(l:List (Lac × S3)):Fa:=⟨none,λg w=>Dat g w l,λhz _ c h=>h.ch c hz⟩
structure AcR(w:World)(x:S3)(L:List Lac)(l:List (Lac × S3)):Prop where
 e:l.map (·.1)=L
 r:RdV w x 5 (acV l)
 d:∀ p∈l,Sl w p.2.v p.1.d
theorem AcR.of(h:(Fa.ac x l).p g w){L:List Lac}(e:l.map (·.1)=L):AcR w x L l:=⟨e,h.1.rd,λp a=>(h.2 p a).s⟩
theorem AcR.oo(h:(Fa.oa r x l).p g w){L:List Lac}(e:l.map (·.1)=L):AcR w x L l:=⟨e,h.1.rv,λp a=>(h.2 p a).s⟩
theorem AcR.n(h:AcR w x L l):x.n=L.length:=by
 have:=h.r.len;rw[KT]at this
 rw[<- h.e,mV];omega
theorem AcR.sk(h:AcR w x L l)(q:L.length<=1000000):Sk w x.v (laF L) L.length:=by
 have o:=h.n;refine⟨⟨x.a,x.c,by rw[<- o],?_⟩,by omega⟩;rcases h.r.ex with h1|⟨b,off,h1,h2,h3⟩
 .exact .inl (by omega)
 .refine .inr ⟨b,off,h1,h2,λi k=>?_⟩;have g:i<l.length:=by rw[<- h.e,mV]at k;exact k
  refine⟨l[i].2.v,λj u m=>?_,?_⟩
  .rw[nM];refine h3 _ u (Hd (f:=λp:Lac × S3=>laV p.1 p.2.v) (λ_=>rfl) l (G' g) ?_);have:laF L i=l[i].1:=by rw[Po k];simp[<- h.e]
   rw[this]at m;exact m
  .have:laF L i=l[i].1:=by rw[Po k];simp[<- h.e]
   rw[this];exact h.d _ (nu g)
theorem AcR.spot(h:AcR w x L l){i:Nat}{a:Lac}(g:L[i]?=some a):∃ b off y,x.a=some ⟨b,off,none⟩/\w.rangeAt b (off+5*i) (laV a (S3.v y))/\Sl w y.v a.d/\i<x.n:=by
 have t:=h.n;have k:=(U'.1 g).1;have c:i<l.length:=by rw[<- h.e,mV]at k;exact k
 have e:l[i].1=a:=by
  have:=(U'.1 g).2;rw[<- this];simp[<- h.e]
 obtain⟨b,off,m,s,o⟩:=h.r.spot (i:=i) (by omega);refine⟨b,off,l[i].2,m,λj u q=>?_,?_,by omega⟩
 .refine o j u (Hd (f:=λp:Lac × S3=>laV p.1 p.2.v) (λ_=>rfl) l (G' c) ?_);rw[e];exact q
 .rw[<- e];exact h.d _ (nu c)
structure AcN(B:Nat)(w:World)(x:S3)(l:List (Lac × S3)):Prop where
 o:OwN B w 38 5 x (acV l)
 d:∀ p∈l,Sl w p.2.v p.1.d/\Nb B p.2 p.1.d
 ne:∀ p∈l,p.1.d≠[]->∀ a b,p.2.a=some a->x.a=some b->a.block≠b.block
theorem AcN.ac(h:AcN B w x l)(G:∀ b,B<=b->g.t b=.z):(Fa.ac x l).p g w:=⟨h.o.fz G,λp a=>CR (h.d p a).1 (h.d p a).2 G⟩
theorem AcN.of(h:(Fa.oa r x l).p g w)(C:Cg w0.heap.size TQ gS w0 g w)(n:∀ p∈l,Nb w0.heap.size p.2 p.1.d):AcN w0.heap.size w x l :=
 ⟨h.1.own C,λp i=>⟨(h.2 p i).s,n p i⟩,λp i m a b k f e=>by
  have j:=(h.2 p i).z m a k;rcases h.1.ex with⟨k1,_⟩|⟨c,cur,k1,_,_,_,_,_,k7,_⟩
  .rw[k1]at f;cases f
  .rw[k1]at f;cases f
   rw[e,k7]at j;cases j⟩
theorem Xy(L:List Lac):Ju (laF L) L.length=L:=by
 apply pj
 .simp[Ju]
 .intro i h1 h2;simp[Ju,Po h2]
def Meet.log(M:Meet)(j:Nat):List Cmd:=(M.ab j).ae.take (M.ab j).done
structure OutF(g:Gh)(w:World)(ly tv:S3)(ys:Nat->S3)(M:Meet):Prop where
 rX:FzV g w ly 1 [S3.v (ys 0),S3.v (ys 1),S3.v (ys 2),S3.v (ys 3),S3.v (ys 4)]
 log:∀ j,j<5->FzV g w (ys j) 5 (cmL (M.log j))
 ew:FzV g w tv 5 (M.ew.flatMap EP)
theorem OutF.ch(h:OutF g w ly tv ys M)(c:Cg B T g w g' w')(a:Tg.z∉T:=by simp):OutF g' w' ly tv ys M:=⟨h.rX.ch c a,λj b=>(h.log j b).ch c a,h.ew.ch c a⟩
def Fa.ot(ly tv:S3)(ys:Nat->S3)(M:Meet):Fa:=⟨none,λg w=>OutF g w ly tv ys M,λhz _ c h=>h.ch c hz⟩
theorem UK(h:OutW w M ly tv ys)(n:OutN B M ly tv ys)(G:∀ b,B<=b->g.t b=.z):OutF g w ly tv ys M :=
 ⟨⟨h.rX,λ_ a c=>G _ (n.rX a c)⟩,λj e=>⟨(h.log j e).rv,λd a c=>G _ (n.log j e d a c)⟩,⟨h.ew,λd a c=>G _ (n.ew d a c)⟩⟩
theorem OutW.n5(h:OutW w M ly tv ys):ly.n=5:=by have:=h.rX.len;simp at this;omega
theorem bC{r u:Int}(i:key.length=32)(h:Dy c r u):Ep key (EL key c r u)=0/\Ml key (EL key c r u)=tkA c r u:=by
 have f:(EL key c r u).take 6=Iu c r u:=by unfold EL;rw[mX (by rw[Ca];omega),mN (by rw[Ca];omega)]
 have g:(EL key c r u).drop 6=(E8 key (Iu c r u)).take 16:=by unfold EL;rw[og (by rw[Ca];omega),oA (by rw[Ca];omega),n8]
 have a:(EL key c r u).getD 0 0=c:=rfl;have b:(EL key c r u).getD 1 0=r:=rfl;have d:Ac (EL key c r u) 2=u:=O2 c r u _ h.2.2.1 (by have:=h.2.2.2;omega);have e:Ep key (EL key c r u)=0:=by
  rw[QW i (BI key c r u) (by rw[f,g]),a,b,d,Jm h]
 exact⟨e,by rw[P0 e,a,b,d]⟩
theorem XU{n v:Int}(h:Bk k c s n v=0):Ck (D7 k c s n v)=0/\I8 (D7 k c s n v)=cmA k c s n v:=by
 obtain⟨b,a⟩:=CG h;unfold InC at a;have e:Ck (D7 k c s n v)=0:=by
  unfold Ck;rw[if_neg (λg=>g (DV k c s n v)),Hh k c s n v (by omega) (by omega),Hi k c s n v (by omega) (by omega),Hj k c s n v (by omega) (by omega),FU k c s n v (by omega) (by omega),FV k c s n v (by omega) (by omega)];exact h
 refine⟨e,?_⟩;unfold I8;rw[if_pos e,Hh k c s n v (by omega) (by omega),Hi k c s n v (by omega) (by omega),Hj k c s n v (by omega) (by omega),FU k c s n v (by omega) (by omega),FV k c s n v (by omega) (by omega)]
theorem bg{l:List Bool}{r:List Int}(h:EZ key s t l r=0):OkC key s t l/\20<=r.length/\r.length<=2020/\Fx (r.take 4)<1073741824/\SX t l (Fx (r.take 4))=false/\CN key (BL (r.take 4)) (r.take 4) (r.drop 4)=0:=by
 unfold EZ at h;by_cases a:OkC key s t l
 .rw[if_neg (λh=>h a)]at h
  by_cases b:2020<r.length
  .rw[if_pos b]at h;omega
  .rw[if_neg b]at h
   by_cases c:r.length<20
   .rw[if_pos c]at h;omega
   .rw[if_neg c]at h
    by_cases d:1073741824<=Fx (r.take 4)
    .rw[if_pos d]at h;omega
    .rw[if_neg d]at h
     cases h5:SX t l (Fx (r.take 4))with
     | true=>rw[h5,if_pos rfl]at h;omega
     | false =>
      rw[h5,if_neg (by simp)]at h
      exact⟨a,by omega,by omega,by omega,rfl,h⟩
 .rw[if_pos a]at h;omega
theorem bf{l:List Bool}{r:List Int}(a:OkC key s t l)(c:r.length<=2020)(d:20<=r.length)(e:Fx (r.take 4)<1073741824)(b:SX t l (Fx (r.take 4))=false):EZ key s t l r=CN key (BL (r.take 4)) (r.take 4) (r.drop 4):=by
 unfold EZ;rw[if_neg (λh=>h a),if_neg (by omega),if_neg (by omega),if_neg (by omega),b,if_neg (by simp)]
theorem J8{h:List Int}(a:K.length=32)(b:h.length=4):Fq K (BL h) h=true:=Uv a (Fh b) (by omega)
theorem WC{l:List Bool}{D:List Int}(h:EZ K s t l D=0)(i:∀ x∈D,0<=x/\x<256):F6 K (Fx (D.take 4)) (EH K D)=D/\(EH K D).length+20=D.length/\(EH K D).length<=2000:=by
 obtain⟨e,k,b,_,_,a⟩:=bg h;have j:(D.take 4).length=4:=by rw[X'];omega
 have m:(D.drop 4).length=D.length-4:=by rw[mM]
 have d:∀ x∈D.take 4,0<=x/\x<256:=λx g=>i x (mP g);have c:∀ x∈D.drop 4,0<=x/\x<256:=λx g=>i x (nX g);have n:=J8 e.key j;have f:Ds K (BL (D.take 4)) (D.take 4) ((D.drop 4).take ((D.drop 4).length-16))=(D.drop 4).drop ((D.drop 4).length-16):=by
  rcases Zy n (show(D.drop 4).length<=2016 by omega)with⟨_,_,h3⟩|h3|⟨h3,_⟩
  .exact h3
  .rw[a]at h3;omega
  .rw[a]at h3;omega
 have o:=Rm a f c;have p:(EH K D).length=D.length-20:=by
  unfold EH Hx;rw[if_pos a,Cj,X'];omega
 refine⟨?_,by omega,by omega⟩;unfold F6;rw[VN j d];unfold EH;rw[o];exact nH 4 D
theorem UG(K:List Int)(n:Int)(p:List Int)(a:0<=n)(b:n<1073741824):Fx ((F6 K n p).take 4)=n:=by rw[JL,Wj n a (by omega)]
theorem bk{l:List Bool}{n:Int}(a:OkC K s t l)(d:0<=n)(c:n<1073741824)(e:p.length<=2000)(f:∀ x∈p,0<=x/\x<256)(b:SX t l n=false):EZ K s t l (F6 K n p)=0:=by
 rw[bf a (by rw[Dq];omega) (by rw[Dq];omega) (by rw[UG K n p d c];exact c) (by rw[UG K n p d c];exact b),JL,O8];exact Ks (J8 a.key rfl) e
theorem TL{n:Int}(a:K.length=32)(c:p.length<=2000)(b:∀ x∈p,0<=x/\x<256):EH K (F6 K n p)=p:=by
 unfold EH;rw[JL,O8];exact Tb (J8 a rfl) c b
end
section
variable{n tc tr tu k c s m v:Int}(h:paE n tc tr tu k c s m v=0)
include h
theorem ZE:Ii (paL n tc tr tu k c s m v)=0/\N1 (paL n tc tr tu k c s m v)=paP tc tr tu k c s m v:=by
 obtain⟨a,b,d⟩:=F1 h;have f:=(CG d).2;have e:Ii (c::F6 (IG c) n (paP tc tr tu k c s m v))=0:=by
  unfold Ii;rw[if_neg (by simp),nc,if_neg (by have:=f.2.1;omega),List.drop_one,List.tail_cons];exact bk (OkC.new (C1 c) 0 (by omega) (by omega)) a.1 a.2 (by rw[DH];omega) (Me b) (UH a.1)
 rw[Md h];refine⟨e,?_⟩;unfold N1;rw[if_pos e,nc,List.drop_one,List.tail_cons];exact TL (C1 c) (by rw[DH];omega) (Me b)
theorem fW:unT (paL n tc tr tu k c s m v)=EL Fu tc tr tu/\unQ (paL n tc tr tu k c s m v)=D7 k c s m v:=by
 unfold unT unQ;rw[(ZE h).2];unfold paP;exact⟨by rw[mX (by rw[BI];omega),mN (by rw[BI];omega)],by rw[og (by rw[BI];omega),oA (by rw[BI];omega),n8]⟩
theorem iM:unE (paL n tc tr tu k c s m v)=0:=by
 obtain⟨j,f,i⟩:=F1 h;obtain⟨a,b⟩:=ZE h;obtain⟨d,e⟩:=fW h;unfold unE;rw[if_neg (λg=>g a),if_neg (by rw[b,DH];simp),d,if_neg (λg=>g (bC G7 f).1),e];exact(XU i).1
theorem Tl:(unT (paL n tc tr tu k c s m v)).getD 0 0=tc/\(unT (paL n tc tr tu k c s m v)).getD 1 0=tr/\Ac (unT (paL n tc tr tu k c s m v)) 2=tu/\Ac (unQ (paL n tc tr tu k c s m v)) 0=k/\Ac (unQ (paL n tc tr tu k c s m v)) 4=c/\Ac (unQ (paL n tc tr tu k c s m v)) 8=s/\Ac (unQ (paL n tc tr tu k c s m v)) 12=m/\Ac (unQ (paL n tc tr tu k c s m v)) 16=v:=by
 obtain⟨i,a,e⟩:=F1 h;obtain⟨b,d⟩:=fW h;rw[b,d];obtain⟨g,f⟩:=CG e;unfold InC at f;exact⟨rfl,rfl,O2 tc tr tu _ a.2.2.1 (by have:=a.2.2.2;omega),Hh k c s m v (by omega) (by omega),Hi k c s m v (by omega) (by omega),Hj k c s m v (by omega) (by omega),FU k c s m v (by omega) (by omega),FV k c s m v (by omega) (by omega)⟩
theorem UM(a:Int):opE (paL n tc tr tu k c s m v) a=Ek tc tr tu k c s m v a/\opA (paL n tc tr tu k c s m v) a=if Ek tc tr tu k c s m v a=0 then cmA k c s m v else cmA 0 0 0 0 0:=by
 obtain⟨o,p,q,b,d,e,f,i⟩:=Tl h;have l:opE (paL n tc tr tu k c s m v) a=Ek tc tr tu k c s m v a:=by
  unfold opE;rw[if_neg (λg=>g (iM h)),o,p,q,b,d,e,f,i,if_neg];rintro⟨_,j⟩;rw[Md h,nc]at j
  exact j rfl
 refine⟨l,?_⟩;unfold opA;rw[l,b,d,e,f,i]
end
section
variable{G:List Gr}{L:List Lac}{M:Meet}{W w:World}{a:Lac}{b i j off:Nat}{cr:Bool}{g:Gh}{l:List (Lac × S3)}{ly x:S3}{n:Int}{ys:Nat->S3}
theorem Ij{a b d k c s m v:Int}(h:paE n a b d k c s m v=0):(paL n a b d k c s m v).length=63:=by
 rw[Md h,np,Dq,DH]
theorem my(x:S3)(k:Nat)(f:k<=x.c)(d:∃ b off,x.a=some ⟨b,off,none⟩):(Instr.sliceAt 36 x.v none (some (iv (k:Int))) none).run prog W=.ok (S3.v ⟨x.a,k,x.c⟩) W:=by
 obtain⟨b,off,d⟩:=d;obtain⟨h,i,g⟩:=x;simp only at d f;subst d;have e:prog.elem 36=5:=by kernel_rfl
 rw[run_sliceAt_slice _ _ _ _ _ _ TU,run_slice_h (P:=prog) (w:=W) _ _ _ _ TU .i64 k (by omega) (by show(k:Int)<=((g:Nat):Int);omega),e,Gc];simp[Result.andThen,sliced,Addr.add]
theorem FSl.take{l:List Int}(h:FSl g w x l)(k:Nat)(y:k<=l.length):FSl g w ⟨x.a,k,x.c⟩ (l.take k):=by
 have f:=Fi h.s;obtain⟨⟨⟨a,m,j,v,f,d⟩,u,n⟩,o⟩:=h;simp only[Value.slice.injEq]at j;obtain⟨rfl,r,rfl⟩:=j;refine⟨⟨⟨_,_,by simp only[Value.slice.injEq,and_true,true_and,X'];omega,by rw[X'];omega,f,?_⟩,by rw[X'];omega,λz t=>n z (mP t)⟩,λq=>o λe=>q (by rw[e];simp)⟩;rcases d with d|⟨b,off,ha,hbs,hcell⟩
 .exact .inl (by rw[d];simp)
 .refine .inr ⟨b,off,ha,hbs,λi p=>?_⟩;rw[X']at p
  rw[show(l.take k).getD i 0=l.getD i 0 by simp[List.getD,show i<k by omega]];exact hcell i (by omega)
theorem FSl.addr{l:List Int}(h:FSl g w x l)(j:l≠[]):(∃ b off,x.a=some ⟨b,off,none⟩)/\l.length<=x.c:=by
 obtain⟨⟨⟨a,f,e,i,p,d⟩,m,n⟩,o⟩:=h;simp only[Value.slice.injEq]at e;obtain⟨rfl,k,rfl⟩:=e;rcases d with d|⟨b,off,ha,_⟩
 .exact absurd d j
 .exact⟨⟨b,off,ha⟩,i⟩
theorem Ws{g:Gr}(h:GrOk g)(hT:Tabs w) :
  Calls prog 16 #[.agg #[iv g.k,iv g.a,iv g.b,iv g.c,iv g.d]] w λe w'=>∃ y:S3,e=.returned y.v/\Sl w' y.v (pkB g)/\Nb w.heap.size y (pkB g)/\Bw w w':=by
 have A:(pkP g).length=63:=Ij (IT g);have r4:=Br g.c 4 (by omega);refine tIn [] func16 trivial (tR 18 [0,0,0,0,0,0,0] λr _ _=>tC1 11 (λF C=>RC h.b h.c h.d h.a h.d) λ_=>tR 16 [0,0,1,0,1,1,0,2,0,0] λi _ _=>tC1 2 (λF C=>Cp h.d 17) λ_=>tR 1 [] λa1 _ _=>Is 56 (λZ X q=>∃ (E G:Int),Z=[(1,pt (r 0) 0),(3,pt (i 0) 0),(4,pt (i 1) 0)]/\X=[⟨(r 0),.cells #[iv g.k,iv g.a,iv g.b,iv g.c,iv g.d] 52,.z,false⟩,⟨(i 0),.cells #[iv (wK g.b),iv (pick g.c 4),iv (pick g.d 6),iv (pick g.a 4),iv (wV g.b g.d)] 40,.z,false⟩,⟨(i 1),.cells #[iv E,iv G,iv 60] 56,.l,false⟩]/\q=[]/\E=pkT g/\G=pkR g) (λJ I=>?_) ?_)
 .refine tR 6 [] λa2 _ _=>?_;by_cases f:pick g.d 17=15
  .refine tI (((pick g.d 17)==15)) true (by simpa using f) (tR 5 [2,0] λa3 _ _=>tD I [true,true,true] ⟨pick g.c 4,0,rfl,rfl,rfl,(if_neg (by omega)).symm,(if_pos f).symm⟩ (λF=>trivial))
  .refine tI (((pick g.d 17)==15)) false (by simpa using f) (tR 5 [] λa4 _ _=>?_);by_cases u:pick g.d 17=16
   .refine tI (((pick g.d 17)==16)) true (by simpa using u) (tR 3 [2] λa5 _ _=>tV 2 (iv (pick g.c 4+1)) (λF C=>(Ay 31 (pick g.c 4) underlying3 (by omega))) (tV 3 (iv ((pick g.c 4+1)%4)) (λF C=>(ZS (x:=(.tmp 32)) (y:=(.const (iv 4))) (pick g.c 4+1) 4 underlying3 (by omega) (by omega) (by decide) (by decide))) (tR 4 [2,0] λO _ _=>tD I [true,true,true] ⟨(pick g.c 4+1)%4,7,rfl,rfl,rfl,(if_pos u).symm,(if_neg f).symm⟩ (λF=>trivial))))
   .refine tI (((pick g.d 17)==16)) false (by simpa using u) (tR 2 [] λP _ _=>tD I [true,true,true] ⟨pick g.c 4,7,rfl,rfl,rfl,(if_neg u).symm,(if_neg f).symm⟩ (λF=>trivial))
 rintro _ _ _ ⟨E,G,rfl,rfl,rfl,o,p⟩ _ _ _;refine tR 6 [11,0,2,0,6,2,8,1] λQ _ _=>tC1 2 (λF C=>Cp h.a 1000) λ_=>tF λ_ W=>?_;have j:=W.size;have M:=IT g;rw[<- o,<- p]at M
 have N:pkP g=paL (pick g.a 1000) E G 60 (wK g.b) (pick g.c 4) (pick g.d 6) (pick g.a 4) (wV g.b g.d):=by rw[o,p];rfl
 refine tC 5 (λF C=>eg M (tbA hT C)) λY=>?_;rintro _ _ ⟨y,rfl,K,D,H⟩;refine⟨_,Fa.sl y (pkP g)::_,rfl,H,λF=>⟨(by rw[N];exact CR K D Y),F⟩,?_⟩;rw[<- N]at K D
 have a0:=Fi K;refine tR 11 [12,14,16,18,20,0] λR _ _=>tC1 2 (λF C=>Cp h.d 23) λ_=>?_;by_cases f:pick g.d 23=22
 .refine tV 3 (.bool true) (λF C=>(Dv (t:=3) (m:=pick g.d 23) (n:=22) (x:=(.tmp 46)) (y:=(.const (iv 22))) (by simpa using f))) (tR 6 [] λS _ _=>tI ((decide (30<(y.n:Int)))) true (M' (by omega)) (tR 2 [] λT _ _=>tF λF _=>?_));have L:=FSl.addr F.1 (λe=>by rw[e]at A;cases A);refine tV 1 (S3.v ⟨y.a,30,y.c⟩) (λF C=>(my y 30 (by omega) L.1)) (tR 7 [] λU _ _=>?_);rw[show pkB g=_ from if_pos ⟨f,by omega⟩];exact tE (S3.v ⟨y.a,30,y.c⟩) λF B=>⟨⟨y.a,30,y.c⟩,rfl,(F.1.take 30 (by omega)).s,λ_ a ha=>D.mono j (λe=>by rw[e]at A;cases A) a ha,B⟩
 .refine tV 3 (.bool false) (λF C=>(Dv (t:=3) (m:=pick g.d 23) (n:=22) (x:=(.tmp 46)) (y:=(.const (iv 22))) (by simpa using f))) (tR 13 [] λV _ _=>?_);rw[show pkB g=_ from if_neg (λe=>f e.1)];exact tE (S3.v y) λF B=>⟨y,rfl,F.1.s,D.mono j,B⟩
theorem go{g:Gr}(h:GrOk g)(hT:Tabs w){x:Lac}(i:Nr g cr=x) :
  Calls prog 10 #[.agg #[iv g.k,iv g.a,iv g.b,iv g.c,iv g.d],.bool cr] w λe w'=>∃ y:S3,e=.returned (.agg #[iv x.k,iv x.n,iv x.a,iv x.p,y.v])/\Sl w' y.v x.d/\Nb w.heap.size y x.d/\Bw w w':=by
 refine tIn [] func10 trivial (tR 9 [0,0,1,0,0] λj _ _=>tC1 2 (λF C=>Cp h.a 5) λ_=>tR 7 [0] λa0 _ _=>tC1 2 (λF C=>Cp h.k 24) λ_=>?_);unfold Nr at i;refine tR 9 [] λa1 _ _=>?_;by_cases f:pick g.k 24<3
 .refine tI ((decide ((pick g.k 24)<3))) true (by simpa using f) ?_;rw[if_pos f]at i
  refine tR 4 [0] λa2 _ _=>tF λ_ Cs=>?_;have o:=Cs.size;refine tC 2 (λF C=>Ws h (tbA hT C)) λNz=>?_;rintro _ _ ⟨y,rfl,hy,q,b8⟩;refine⟨_,Fa.sl y (pkB g)::_,rfl,b8,λF=>⟨CR hy q Nz,F⟩,?_⟩;refine tR 3 [1,0] λa3 _ _=>?_;subst i;exact tX λF C=>qE1 4 38 1 (j 1) #[iv 1,iv (pick g.a 5),iv 0,iv 0,S3.v y] λ_=>⟨y,rfl,F.1.s,q.mono o,CgQ.af C⟩
 .refine tI ((decide ((pick g.k 24)<3))) false (by simpa using f) ?_;rw[if_neg f]at i
  refine tR 6 [] λr _ _=>?_;by_cases f:pick g.k 24<5
  .refine tI ((decide ((pick g.k 24)<5))) true (by simpa using f) ?_;rw[if_pos f]at i
   refine tR 6 [1,0] λu _ _=>?_;subst i;exact tX λF C=>qE1 4 38 1 (j 1) #[iv 2,iv (pick g.a 5),iv 0,iv 0,S3.v s30] λ_=>⟨s30,rfl,EN _,λe=>absurd rfl e,CgQ.af C⟩
  .refine tI ((decide ((pick g.k 24)<5))) false (by simpa using f) ?_;rw[if_neg f]at i
   refine tR 6 [] λz _ _=>?_;by_cases f:pick g.k 24<14
   .refine tI ((decide ((pick g.k 24)<14))) true (by simpa using f) ?_;rw[if_pos f]at i
    refine tR 6 [1,0] λA _ _=>?_;subst i;exact tX λF C=>qE1 4 38 1 (j 1) #[iv 3,iv (pick g.a 5),iv 0,iv 0,S3.v s30] λ_=>⟨s30,rfl,EN _,λe=>absurd rfl e,CgQ.af C⟩
   .refine tI ((decide ((pick g.k 24)<14))) false (by simpa using f) ?_;rw[if_neg f]at i
    refine tR 6 [] λB _ _=>?_;by_cases f:pick g.k 24=14
    .refine tI (((pick g.k 24)==14)) true (by simpa using f) ?_;rw[if_pos f]at i
     refine tR 4 [0] λD _ _=>tC1 2 (λF C=>Cp h.c 20) λ_=>tR 3 [1,0] λE _ _=>?_;subst i;exact tX λF C=>qE1 4 38 1 (j 1) #[iv 4,iv 0,iv (pick g.c 20),iv 0,S3.v s30] λ_=>⟨s30,rfl,EN _,λe=>absurd rfl e,CgQ.af C⟩
    .refine tI (((pick g.k 24)==14)) false (by simpa using f) ?_;rw[if_neg f]at i
     refine tR 6 [] λG _ _=>?_;by_cases f:pick g.k 24=15
     .refine tI (((pick g.k 24)==15)) true (by simpa using f) ?_;rw[if_pos f]at i
      refine tR 4 [0] λH _ _=>tC1 2 (λF C=>Cp h.c 20) λ_=>tR 3 [1,0] λI _ _=>?_;subst i;exact tX λF C=>qE1 4 38 1 (j 1) #[iv 5,iv 0,iv (pick g.c 20),iv 0,S3.v s30] λ_=>⟨s30,rfl,EN _,λe=>absurd rfl e,CgQ.af C⟩
     .refine tI (((pick g.k 24)==15)) false (by simpa using f) ?_;rw[if_neg f]at i
      refine tR 6 [] λJ _ _=>?_;by_cases f:pick g.k 24=16
      .refine tI (((pick g.k 24)==16)) true (by simpa using f) ?_;rw[if_pos f]at i
       refine tR 4 [0] λK _ _=>tC1 2 (λF C=>Cp h.c 20) λ_=>tR 3 [1,0] λL _ _=>?_;subst i;exact tX λF C=>qE1 4 38 1 (j 1) #[iv 6,iv 0,iv (pick g.c 20),iv 0,S3.v s30] λ_=>⟨s30,rfl,EN _,λe=>absurd rfl e,CgQ.af C⟩
      .refine tI (((pick g.k 24)==16)) false (by simpa using f) ?_;rw[if_neg f]at i
       refine tR 3 [] λM _ _=>?_;by_cases f:pick g.k 24=17
       .refine tV 1 (.bool true) (λF C=>(Dv (t:=3) (m:=pick g.k 24) (n:=17) (x:=(.tmp 52)) (y:=(.const (iv 17))) (by simpa using f))) (tR 5 [] λN _ _=>?_);by_cases l:cr=true
        .refine tI (cr) true l ?_;rw[if_pos ⟨f,l⟩]at i
         refine tR 5 [0] λO _ _=>tC1 3 (λF C=>Cp h.c 90) λ_=>tR 3 [1,0] λP _ _=>?_;subst i;exact tX λF C=>qE1 4 38 1 (j 1) #[iv 8,iv (pick g.a 5),iv 0,iv (pick g.c 90),S3.v s30] λ_=>⟨s30,rfl,EN _,λe=>absurd rfl e,CgQ.af C⟩
        .refine tI (cr) false (by simpa using l) ?_;rw[if_neg (λe=>l e.2)]at i
         refine tR 3 [] λQ _ _=>?_;by_cases f:pick g.k 24=18
         .refine tV 1 (.bool true) (λF C=>(Dv (t:=3) (m:=pick g.k 24) (n:=18) (x:=(.tmp 63)) (y:=(.const (iv 18))) (by simpa using f))) (tR 5 [] λR _ _=>?_);by_cases l:cr=true
          .refine tI (cr) true l ?_;rw[if_pos ⟨f,l⟩]at i
           refine tR 6 [1,0] λS _ _=>?_;subst i;exact tX λF C=>qE1 4 38 1 (j 1) #[iv 9,iv (pick g.a 5),iv 0,iv 0,S3.v s30] λ_=>⟨s30,rfl,EN _,λe=>absurd rfl e,CgQ.af C⟩
          .refine tI (cr) false (by simpa using l) ?_;rw[if_neg (λe=>l e.2)]at i
           refine tR 7 [1,0] λT _ _=>?_;subst i;exact tX λF C=>qE1 4 38 1 (j 1) #[iv 7,iv 0,iv 0,iv 0,S3.v s30] λ_=>⟨s30,rfl,EN _,λe=>absurd rfl e,CgQ.af C⟩
         .refine tV 1 (.bool false) (λF C=>(Dv (t:=3) (m:=pick g.k 24) (n:=18) (x:=(.tmp 63)) (y:=(.const (iv 18))) (by simpa using f))) ?_;rw[if_neg (λe=>f e.1)]at i
          refine tR 13 [1,0] λU _ _=>?_;subst i;exact tX λF C=>qE1 4 38 1 (j 1) #[iv 7,iv 0,iv 0,iv 0,S3.v s30] λ_=>⟨s30,rfl,EN _,λe=>absurd rfl e,CgQ.af C⟩
       .refine tV 1 (.bool false) (λF C=>(Dv (t:=3) (m:=pick g.k 24) (n:=17) (x:=(.tmp 52)) (y:=(.const (iv 17))) (by simpa using f))) ?_;rw[if_neg (λe=>f e.1)]at i
        refine tR 9 [] λV _ _=>?_;by_cases f:pick g.k 24=18
        .refine tV 1 (.bool true) (λF C=>(Dv (t:=3) (m:=pick g.k 24) (n:=18) (x:=(.tmp 63)) (y:=(.const (iv 18))) (by simpa using f))) (tR 5 [] λW _ _=>?_);by_cases l:cr=true
         .refine tI (cr) true l ?_;rw[if_pos ⟨f,l⟩]at i
          refine tR 6 [1,0] λX _ _=>?_;subst i;exact tX λF C=>qE1 4 38 1 (j 1) #[iv 9,iv (pick g.a 5),iv 0,iv 0,S3.v s30] λ_=>⟨s30,rfl,EN _,λe=>absurd rfl e,CgQ.af C⟩
         .refine tI (cr) false (by simpa using l) ?_;rw[if_neg (λe=>l e.2)]at i
          refine tR 7 [1,0] λY _ _=>?_;subst i;exact tX λF C=>qE1 4 38 1 (j 1) #[iv 7,iv 0,iv 0,iv 0,S3.v s30] λ_=>⟨s30,rfl,EN _,λe=>absurd rfl e,CgQ.af C⟩
        .refine tV 1 (.bool false) (λF C=>(Dv (t:=3) (m:=pick g.k 24) (n:=18) (x:=(.tmp 63)) (y:=(.const (iv 18))) (by simpa using f))) ?_;rw[if_neg (λe=>f e.1)]at i
         refine tR 13 [1,0] λZ _ _=>?_;subst i;exact tX λF C=>qE1 4 38 1 (j 1) #[iv 7,iv 0,iv 0,iv 0,S3.v s30] λ_=>⟨s30,rfl,EN _,λe=>absurd rfl e,CgQ.af C⟩
theorem mp{k:Nat}(g:Gr)(h:∀ j u,(grV g)[j]?=some u->W.cell? ⟨b,k+j,none⟩=some u):(Instr.loadAt 52 (pt b k)).run prog W=.ok (.agg #[iv g.k,iv g.a,iv g.b,iv g.c,iv g.d]) W:=by
 have e:=run_loadVar_mid (P:=prog) W b k 52 (grV g) _ h underlying52 rfl (by kernel_rfl);simp only[Instr.loadAt,Instr.sureAddr,Sem.run_bind,Sem.run_pure,Result.andThen_ok];exact e
theorem kP(c:x.a=some ⟨b,off,none⟩)(j:Nat)(d:j<x.n):(Instr.indexAt 22 x.v (iv (j:Int))).run prog W=.ok (pt b (off+5*j)) W:=by
 obtain⟨f,h,g⟩:=x;simp only at c d;subst c;exact Mo (P:=prog) (e:=52) (z:=5) underlying22 (by kernel_rfl) (by kernel_rfl) d _ rfl
theorem kh{l:S3}{g:Gr}(h:RdV w l 5 (grL G))(m:l.a=some ⟨b,off,none⟩)(d:G[i]?=some g){j:Nat}{u:Value}(o:(grV g)[j]?=some u):w.cell? ⟨b,off+5*i+j,none⟩=some u:=by
 have p:l.n=G.length:=by have:=h.len;rw[show(grL G).length=G.length*5 from Fs (f:=grV) (λ_=>rfl) G]at this;omega
 obtain⟨q,e,c,_,k⟩:=h.spot (i:=i) (by rw[p];exact(U'.1 d).1);rw[m]at c
 cases c;exact k j u (Hd (f:=grV) (λ_=>rfl) G d o)
theorem WL{l:S3}{most:Nat}(h:RdV w l 5 (grL G))(hG:∀ g∈G,GrOk g)(hm:most<=100)(hT:Tabs w) :
  Calls prog 4 #[l.v,iv (most:Int),.bool cr] w λe w'=>∃ (y:S3) (P:List (Lac × S3)),e=.returned y.v/\P.map (·.1)=scr G most cr/\AcN w.heap.size w' y P/\Bw w w':=by
 have a9:l.n=G.length:=by have:=h.len;rw[show(grL G).length=G.length*5 from Fs (f:=grV) (λ_=>rfl) G]at this;omega
 refine tIn [Fa.zv l 5 (grL G)] func4 ⟨h.fz,trivial⟩ (tR 18 [] λb5 _ _=>DB 41 [(0,S3.v l),(1,iv (most:Int)),(2,.bool cr),(7,sn),(8,iv 0),(9,iv 0)] [] [] [Fa.zv l 5 (grL G),Fa.oa 0 s30 []] (λkk ee LL M=>∃ (i s:Nat) (y:S3) (P:List (Lac × S3)),kk=min G.length most-i/\ee=[(0,S3.v l),(1,iv (most:Int)),(2,.bool cr),(7,S3.v y),(8,iv (s:Int)),(9,iv (i:Int))]/\LL=[]/\M=[Fa.zv l 5 (grL G),Fa.oa 0 y P]/\i<=min G.length most/\y.n=i/\s<=i/\scr G most cr=P.map (·.1)++Mw cr s ((G.take most).drop i)/\(∀ p∈P,Nb w.heap.size p.2 p.1.d)) (min G.length most) ⟨0,0,s30,[],rfl,rfl,rfl,rfl,by omega,rfl,by omega,rfl,λp q=>by cases q⟩ (λF=>⟨F.1,⟨OwnS.nil _ _ _ _ _ _,λp q=>by cases q⟩,trivial⟩) ?_);rintro k _ _ _ ⟨i,s,y,P,rfl,rfl,rfl,rfl,R,b1,b0,o,E⟩ _ _ _ J N;refine tR 6 [] λb6 _ _=>?_;by_cases h1:i<G.length
 .refine tV 3 (.bool true) (λF C=>(rLt (t:=3) (m:=(i:Int)) (n:=(l.n:Int)) (x:=(.tmp 11)) (y:=(.tmp 13)) (M' (by omega)))) (tR 6 [] λb7 _ _=>?_);by_cases h2:i<most
  .refine tI ((decide ((i:Int)<(most:Int)))) true (M' (by omega)) ?_;have R:i<(G.take most).length:=by rw[X'];omega
   obtain⟨g,O⟩:∃ g,(G.take most)[i]?=some g:=⟨_,G' R⟩;have H:G[i]?=some g:=by rw[nP,if_pos h2]at O;exact O
   have Q:=hG g (mU H);rw[nI R,show(G.take most)[i]=g from(U'.1 O).2,Mw]at o
   refine tF λF _=>?_;obtain⟨b,T,I,_,a8⟩:=F.1.rd.spot (i:=i) (by omega);refine tR 7 [] λb9 _ _=>tV 2 (pt b (T+5*i)) (λF C=>(kP I i (by omega))) (tV 3 (.agg #[iv g.k,iv g.a,iv g.b,iv g.c,iv g.d]) (λF C=>(mp g λj u hj=>kh F.1.rd I H hj)) (tR 1 [] λc0 _ _=>?_));obtain⟨x,X⟩:∃ x,Nr g cr=x:=⟨_,rfl⟩;refine tF λ_ Cs=>?_;have L:=Cs.size;refine tC 5 (λF C=>go Q (tbA hT C) X) λNz=>?_;rintro _ _ ⟨d,rfl,hd,S,b8⟩;refine⟨_,Fa.sl d x.d::_,rfl,b8,λF=>⟨CR hd S Nz,F⟩,?_⟩;rw[X]at o
   refine tR 10 [1,0,0,0,0] λc1 _ _=>?_;by_cases D:x.k=1
   .refine tI ((x.k==1)) true (by simpa using D) (tR 3 [] λY _ _=>tV 1 (iv ((s:Int)+1)) (λF C=>(Ay 31 (s:Int) underlying3 (by omega))) (tR 7 [] λZ _ _=>?_));rw[show eN s x=s+1 from if_pos D]at o
    by_cases h4:6<s+1
    .refine tI ((decide (6<((s:Int)+1)))) true (M' (by omega)) ?_;rw[show WK s x=acN 7 0 from if_pos ⟨D,by omega⟩]at o
     refine tR 8 [0,0,0,0,0] λr _ _=>NJ 3 0 (x:=y) 23 23 38 5 56 zLa ⟨(r 0),0,none⟩ 1 1 [iv 7,iv 0,iv 0,iv 0,sn] (λF=>F.2.2.1.1) [Fa.zv l 5 (grL G),Fa.dt (P++[(acN 7 0,s30)])] (λF=>⟨F.2.1,Dat.snoc F.2.2.1.2 (Sz _ _),trivial⟩) rfl (by simp[TQ]) rfl (by simp[Value.oneCell']) (λF K=>C6 K 1 (r 0) [iv 7,iv 0,iv 0,iv 0,sn] 38 .z true (by kernel_rfl)) (by unfold maxLen;omega) (by omega) λU _ _ b2=>tR 5 [] λa0 _ _=>tV 1 (iv ((i:Int)+1)) (λF C=>(Ay 20 (i:Int) underlying3 (by omega))) (tR 2 [] λa1 _ _=>tB N (min G.length most-(i+1)) (by omega) [false,false] ⟨i+1,(s+1),U,P++[(acN 7 0,s30)],rfl,rfl,rfl,rfl,by omega,by omega,by omega,(by rw[o,ng,mK];rfl),λp q=>(Q'.1 q).elim (E p) λe=>by rw[D'.1 e];exact λe=>absurd rfl e⟩ (λF=>⟨F.2.1,⟨(by rw[E2];exact F.1),F.2.2.1⟩,trivial⟩))
    .refine tI ((decide (6<((s:Int)+1)))) false (E' (by omega)) ?_;rw[show WK s x=x from if_neg (λe=>h4 (by omega))]at o
     refine tR 5 [0,0,0] λA _ _=>NJ 3 0 (x:=y) 23 23 38 5 56 zLa ⟨(A 0),0,none⟩ 1 1 [iv x.k,iv x.n,iv x.a,iv x.p,S3.v d] (λF=>F.2.2.1.1) [Fa.zv l 5 (grL G),Fa.dt (P++[(x,d)])] (λF=>⟨F.2.1,Dat.snoc F.2.2.1.2 (F.1),trivial⟩) rfl (by simp[TQ]) rfl (by simp[Value.oneCell']) (λF K=>C6 K 1 (A 0) [iv x.k,iv x.n,iv x.a,iv x.p,S3.v d] 38 .z true (by kernel_rfl)) (by unfold maxLen;omega) (by omega) λV _ _ b3=>tR 5 [] λa2 _ _=>tV 1 (iv ((i:Int)+1)) (λF C=>(Ay 20 (i:Int) underlying3 (by omega))) (tR 2 [] λa3 _ _=>tB N (min G.length most-(i+1)) (by omega) [false,false] ⟨i+1,(s+1),V,P++[(x,d)],rfl,rfl,rfl,rfl,by omega,by omega,by omega,(by rw[o,ng,mK];rfl),λp q=>(Q'.1 q).elim (E p) λe=>by rw[D'.1 e];exact S.mono L⟩ (λF=>⟨F.2.1,⟨(by rw[E2];exact F.1),F.2.2.1⟩,trivial⟩))
   .refine tI ((x.k==1)) false (by simpa using D) ?_;rw[show eN s x=s from if_neg D,show WK s x=x from if_neg (λe=>D e.1)]at o
    refine tR 5 [0,0,0] λB _ _=>NJ 3 0 (x:=y) 23 23 38 5 56 zLa ⟨(B 0),0,none⟩ 1 1 [iv x.k,iv x.n,iv x.a,iv x.p,S3.v d] (λF=>F.2.2.1.1) [Fa.zv l 5 (grL G),Fa.dt (P++[(x,d)])] (λF=>⟨F.2.1,Dat.snoc F.2.2.1.2 (F.1),trivial⟩) rfl (by simp[TQ]) rfl (by simp[Value.oneCell']) (λF K=>C6 K 1 (B 0) [iv x.k,iv x.n,iv x.a,iv x.p,S3.v d] 38 .z true (by kernel_rfl)) (by unfold maxLen;omega) (by omega) λW _ _ b4=>tR 5 [] λa4 _ _=>tV 1 (iv ((i:Int)+1)) (λF C=>(Ay 20 (i:Int) underlying3 (by omega))) (tR 2 [] λa5 _ _=>tB N (min G.length most-(i+1)) (by omega) [false,false] ⟨i+1,s,W,P++[(x,d)],rfl,rfl,rfl,rfl,by omega,by omega,by omega,(by rw[o,ng,mK];rfl),λp q=>(Q'.1 q).elim (E p) λe=>by rw[D'.1 e];exact S.mono L⟩ (λF=>⟨F.2.1,⟨(by rw[E2];exact F.1),F.2.2.1⟩,trivial⟩))
  .refine tI ((decide ((i:Int)<(most:Int)))) false (E' (by omega)) (tR 6 [] λa6 _ _=>?_);rw[nC (by rw[X'];omega),Mw,mZ]at o
   exact tX λF C=>qE (S3.v y) λ_=>⟨y,P,rfl,o.symm,AcN.of F.2.1 C E,CgQ.af C⟩
 .refine tV 3 (.bool false) (λF C=>(rLt (t:=3) (m:=(i:Int)) (n:=(l.n:Int)) (x:=(.tmp 11)) (y:=(.tmp 13)) (E' (by omega)))) (tR 13 [] λa7 _ _=>?_);rw[nC (by rw[X'];omega),Mw,mZ]at o
  exact tX λF C=>qE (S3.v y) λ_=>⟨y,P,rfl,o.symm,AcN.of F.2.1 C E,CgQ.af C⟩
def rnP(l:List Lac):List (Lac × S3):=l.map λa=>(a,s30)
theorem eF(l:List Lac):(rnP l).map (·.1)=l:=by simp[rnP,Function.comp_def]
theorem P6(g:Gh)(w:World){l:List Lac}(h:∀ a∈l,a.d=[]):Dat g w (rnP l):=by
 intro p c;obtain⟨a,b,rfl⟩:=mY.1 c;show FSl g w s30 a.d;rw[h a b];exact Sz g w
theorem Ja(l:List Lac)(a:Lac):rnP (l++[a])=rnP l++[(a,s30)]:=by simp[rnP]
theorem UR(l m:List Lac):rnP (l++m)=rnP l++rnP m:=by simp[rnP]
theorem Lb(l:List Lac):(rnP l).length=l.length:=by simp[rnP]
theorem Id(m:Nat):(Al m).length=6*m:=by
 induction m with
 | zero=>rfl
 | succ m ih=>rw[Al,H',ih];show _+6=_;omega
def AE(k:Int)(j:Nat):List Lac:=(List.range j).map λn:Nat=>acN k (n:Int)
theorem BT(k:Int)(j:Nat):AE k (j+1)=AE k j++[acN k (j:Int)]:=by simp[AE,List.range_succ]
theorem YQ(k:Int)(j:Nat):(AE k j).length=j:=by simp[AE]
theorem OD{many:Nat}(h:RdV w x 5 (acV l))(P:∀ p∈l,Sl w p.2.v p.1.d)(hm:l.length+6*many<=1000000) :
  Calls prog 12 #[x.v,iv (many:Int)] w λe w'=>∃ y:S3,e=.returned y.v/\OwN w.heap.size w' 38 5 y (acV (l++rnP (Dw many)))/\Bw w w':=by
 have t:x.n=l.length:=by have:=h.len;rw[KT]at this;omega
 refine tIn [Fa.ac x l] func12 ⟨⟨h.fz,λp R=>⟨P p R,λ_ _ _=>rfl⟩⟩,trivial⟩ (tR 7 [] λV _ _=>gf 1 0 x (acV l) 23 23 38 5 56 zLa (λF=>F.1.1.rd) [Fa.dt l] (λF=>⟨F.1.2,trivial⟩) rfl (by simp[TQ]) (Uc l) (by rw[t];unfold maxLen;omega) (by omega) λu _ _ n0=>tR 8 [] λW _ _=>DB 39 [(1,iv (many:Int)),(5,S3.v u),(6,iv 0)] [] [] [Fa.oa 0 u (l++rnP (AE 9 0))] (λo g f a=>∃ (j:Nat) (y:S3),o=5-j/\g=[(1,iv (many:Int)),(5,S3.v y),(6,iv (j:Int))]/\f=[]/\a=[Fa.oa 0 y (l++rnP (AE 9 j))]/\j<=5/\y.n=l.length+j) (5) ⟨0,u,rfl,rfl,rfl,rfl,by omega,by omega⟩ (λF=>⟨by rw[show rnP (AE 9 0)=[]from rfl,mZ];exact⟨F.1,F.2.1⟩,trivial⟩) ?_);rintro k _ _ _ ⟨j,y,rfl,rfl,rfl,rfl,Q,m⟩ _ _ _ J O;refine tR 6 [] λX _ _=>?_;by_cases h1:j<5
 .refine tI ((decide ((j:Int)<5))) true (M' (by omega)) (tR 8 [0,0] λq _ _=>NJ 4 0 (x:=y) 23 23 38 5 56 zLa ⟨(q 0),0,none⟩ 1 1 [iv 9,iv (j:Int),iv 0,iv 0,sn] (λF=>F.1.1) [Fa.dt ((l++rnP (AE 9 j))++[(acN 9 (j:Int),s30)])] (λF=>⟨Dat.snoc F.1.2 (Sz _ _),trivial⟩) rfl (by simp[TQ]) rfl (by simp[Value.oneCell']) (λF K=>C6 K 0 (q 0) [iv 9,iv (j:Int),iv 0,iv 0,sn] 38 .z true (by kernel_rfl)) (by unfold maxLen;omega) (by omega) λU _ _ n6=>tR 5 [] λY _ _=>tV 1 (iv ((j:Int)+1)) (λF C=>(Ay 13 (j:Int) underlying3 (by omega))) (tR 2 [] λZ _ _=>tB O (5-(j+1)) (by omega) [false] ⟨j+1,U,rfl,rfl,rfl,rfl,by omega,by omega⟩ (λF=>by rw[BT,Ja,<- mK];exact⟨⟨(by rw[E2];exact F.1),F.2.1⟩,trivial⟩)))
 .refine tI ((decide ((j:Int)<5))) false (E' (by omega)) ?_;obtain rfl:j=5:=by omega
  refine tR 7 [] λa0 _ _=>DB 39 [(1,iv (many:Int)),(5,S3.v y),(7,iv 0)] [] [] [Fa.oa 0 y (l++rnP (Ax++Al 0))] (λo g f a=>∃ (i:Nat) (y:S3),o=many-i/\g=[(1,iv (many:Int)),(5,S3.v y),(7,iv (i:Int))]/\f=[]/\a=[Fa.oa 0 y (l++rnP (Ax++Al i))]/\i<=many/\y.n=l.length+(5+6*i)) (many) ⟨0,y,rfl,rfl,rfl,rfl,by omega,by omega⟩ (λF=>⟨F.1,trivial⟩) ?_;rintro k _ _ _ ⟨i,y,rfl,rfl,rfl,rfl,hi,m⟩ _ _ _ Jb r;refine tR 7 [] λD _ _=>?_;by_cases h2:i<many
  .refine tI ((decide ((i:Int)<(many:Int)))) true (M' (by omega)) (tR 9 [] λE _ _=>DB 39 [(1,iv (many:Int)),(5,S3.v y),(7,iv (i:Int)),(8,iv 0)] [] [] [Fa.oa 0 y (l++rnP (Ax++Al i++AE 3 0))] (λo g f a=>∃ (j:Nat) (y:S3),o=5-j/\g=[(1,iv (many:Int)),(5,S3.v y),(7,iv (i:Int)),(8,iv (j:Int))]/\f=[]/\a=[Fa.oa 0 y (l++rnP (Ax++Al i++AE 3 j))]/\j<=5/\y.n=l.length+(5+6*i+j)) (5) ⟨0,y,rfl,rfl,rfl,rfl,by omega,by omega⟩ (λF=>⟨by rw[show AE 3 0=[]from rfl,mZ];exact F.1,trivial⟩) ?_);rintro k _ _ _ ⟨j,y,rfl,rfl,rfl,rfl,Q,m⟩ _ _ _ Jc s;refine tR 6 [] λG _ _=>?_;by_cases h3:j<5
   .refine tI ((decide ((j:Int)<5))) true (M' (by omega)) (tR 8 [0,0] λb _ _=>NJ 4 0 (x:=y) 23 23 38 5 56 zLa ⟨(b 0),0,none⟩ 1 1 [iv 3,iv (j:Int),iv 0,iv 0,sn] (λF=>F.1.1) [Fa.dt ((l++rnP (Ax++Al i++AE 3 j))++[(acN 3 (j:Int),s30)])] (λF=>⟨Dat.snoc F.1.2 (Sz _ _),trivial⟩) rfl (by simp[TQ]) rfl (by simp[Value.oneCell']) (λF K=>C6 K 0 (b 0) [iv 3,iv (j:Int),iv 0,iv 0,sn] 38 .z true (by kernel_rfl)) (by unfold maxLen;omega) (by omega) λA _ _ S=>tR 5 [] λH _ _=>tV 1 (iv ((j:Int)+1)) (λF C=>(Ay 27 (j:Int) underlying3 (by omega))) (tR 2 [] λI _ _=>tB s (5-(j+1)) (by omega) [false] ⟨j+1,A,rfl,rfl,rfl,rfl,by omega,by omega⟩ (λF=>by rw[BT,<- mK (Ax++Al i),Ja,<- mK l];exact⟨⟨(by rw[E2];exact F.1),F.2.1⟩,trivial⟩)))
   .refine tI ((decide ((j:Int)<5))) false (E' (by omega)) ?_;obtain rfl:j=5:=by omega
    refine tR 5 [0,0] λc _ _=>NJ 3 0 (x:=y) 23 23 38 5 56 zLa ⟨(c 0),0,none⟩ 1 1 [iv 7,iv 0,iv 0,iv 0,sn] (λF=>F.1.1) [Fa.dt ((l++rnP (Ax++Al i++AE 3 5))++[(acN 7 0,s30)])] (λF=>⟨Dat.snoc F.1.2 (Sz _ _),trivial⟩) rfl (by simp[TQ]) rfl (by simp[Value.oneCell']) (λF K=>C6 K 0 (c 0) [iv 7,iv 0,iv 0,iv 0,sn] 38 .z true (by kernel_rfl)) (by unfold maxLen;omega) (by omega) λB _ _ T=>tR 5 [] λL _ _=>tV 1 (iv ((i:Int)+1)) (λF C=>(Ay 23 (i:Int) underlying3 (by omega))) (tR 2 [] λM _ _=>tB r (many-(i+1)) (by omega) [false] ⟨i+1,B,rfl,rfl,rfl,rfl,by omega,by omega⟩ (λF=>by rw[show Ax++Al (i+1)=Ax++Al i++AE 3 5++[acN 7 0]by rw[Al,<- mK,mK _ (AE 3 5)];rfl,Ja,<- mK l];exact⟨⟨(by rw[E2];exact F.1),F.2.1⟩,trivial⟩))
  .refine tI ((decide ((i:Int)<(many:Int)))) false (E' (by omega)) ?_;obtain rfl:i=many:=by omega
   refine tR 6 [] λN _ _=>tX λF C=>qE (S3.v y) λ_=>⟨y,rfl,F.1.1.own C,CgQ.af C⟩
theorem YP(k:Int)(j:Nat):∀ a∈AE k j,a.d=[]:=by
 intro a b;obtain⟨n,_,rfl⟩:=mY.1 b;rfl
theorem Yw(m:Nat):∀ a∈Al m,a.d=[]:=by
 induction m with
 | zero=>intro a b;cases b
 | succ m ih =>
  intro a b;rcases Q'.1 b with h|h
  .exact ih a h
  .rcases Q'.1 h with h|h
   .exact YP 3 5 a h
   .rw[D'.1 h];rfl
theorem ZX(m:Nat):∀ a∈Dw m,a.d=[]:=by
 intro a b;rcases Q'.1 b with h|h
 .exact YP 9 5 a h
 .exact Yw m a h
theorem GI(m:Nat):(Dw m).length=5+6*m:=by unfold Dw;rw[H',Id];rfl
theorem mc(h:AcR w x L l)(g:x.a=some ⟨b,off,none⟩)(f:L[i]?=some a):w.cell? ⟨b,off+5*i,none⟩=some (iv a.k):=by
 obtain⟨j,d,y,c,e,_,_⟩:=h.spot f;rw[g]at c
 cases c;exact e 0 _ rfl
theorem Wd(h:L[i]?=some a):Fw (L.take (i+1))=if hvy a then Fw (L.take i)+20 else Fw (L.take i):=by
 unfold Fw;rw[nR,h,oH];cases hh:hvy a<;>simp[hh];omega
theorem UC(L:List Lac):Fw L<=100+20*L.length:=by
 unfold Fw;have:=pz hvy L;omega
theorem YB(m:Nat)(n:Int):(Cz m n).length=11+6*m:=by unfold Cz;rw[H',H',GI,GI,nE];omega
theorem T9(h:AcR w x L l)(hm:L.length<=2000) :
  Calls prog 6 #[x.v,iv n] w λe w'=>∃ y:S3,e=.returned y.v/\OwN w.heap.size w' 38 5 y (acV (l++rnP (Es L n)))/\Bw w w':=by
 have U:x.n=L.length:=h.n;have c4:l.length=L.length:=by rw[<- h.e,mV]
 refine tIn [Fa.ac x l] func6 ⟨⟨h.r.fz,λp hp=>⟨h.d p hp,λ_ _ _=>rfl⟩⟩,trivial⟩ (tR 14 [] λc6 _ _=>DB 44 [(0,S3.v x),(1,iv n),(5,iv 100),(6,iv 0)] [] [] [Fa.ac x l] (λV D B f=>∃ (i m:Nat),V=L.length-i/\D=[(0,S3.v x),(1,iv n),(5,iv (m:Int)),(6,iv (i:Int))]/\B=[]/\f=[Fa.ac x l]/\i<=L.length/\m=Fw (L.take i)) (L.length) ⟨0,100,rfl,rfl,rfl,rfl,by omega,rfl⟩ (λF=>⟨F.1,trivial⟩) ?_);rintro k _ _ _ ⟨i,m,rfl,rfl,rfl,rfl,hi,g⟩ _ _ _ J o;refine tR 8 [] λc7 _ _=>?_;by_cases h1:i<L.length
 .refine tI ((decide ((i:Int)<(x.n:Int)))) true (M' (by omega)) ?_;have s:=UC (L.take i);rw[<- g,X']at s
  obtain⟨a,S⟩:∃ a,L[i]?=some a:=⟨_,G' (by omega)⟩;refine tF λF _=>?_;obtain⟨b,W,yd,I,_,_,hin⟩:=(AcR.of F.1 h.e).spot S;refine tR 7 [] λc8 _ _=>tV 2 (pt b (W+5*i)) (λF C=>(Cn (c:=x.c) I i hin)) (tR 1 [] λc9 _ _=>tV 4 (iv a.k) (λF C=>(Bh underlying3 rfl (mc (AcR.of F.1 h.e) I S))) (tR 1 [] λd0 _ _=>Is 44 (λD B f=>∃ (N:Nat),D=[(0,S3.v x),(1,iv n),(5,iv (N:Int)),(6,iv (i:Int))]/\B=[]/\f=[Fa.ac x l]/\N=(if hvy a then m+20 else m)) (λJ o=>?_) ?_))
  .refine tR 7 [] λd1 _ _=>?_;by_cases A:a.k=1
   .refine tI ((a.k==1)) true (by simpa using A) (tR 1 [] λd2 _ _=>tI ((a.k==1)) true (by simpa using A) (tR 2 [] λd3 _ _=>tV 1 (iv ((m:Int)+20)) (λF C=>(Mn (x:=(.tmp 25)) (y:=(.const (iv 20))) (m:Int) 20 underlying3 (by omega))) (tR 3 [] λd4 _ _=>tD o [] ⟨m+20,rfl,rfl,rfl,(if_pos (by simp[hvy,A])).symm⟩ (λF=>⟨F.1,trivial⟩))))
   .refine tI ((a.k==1)) false (by simpa using A) (tR 5 [] λa1 _ _=>?_);by_cases E:a.k=2
    .refine tI ((a.k==2)) true (by simpa using E) (tR 1 [] λa2 _ _=>tI ((a.k==2)) true (by simpa using E) (tR 2 [] λa3 _ _=>tV 1 (iv ((m:Int)+20)) (λF C=>(Mn (x:=(.tmp 25)) (y:=(.const (iv 20))) (m:Int) 20 underlying3 (by omega))) (tR 3 [] λa4 _ _=>tD o [] ⟨m+20,rfl,rfl,rfl,(if_pos (by simp[hvy,E])).symm⟩ (λF=>⟨F.1,trivial⟩))))
    .refine tI ((a.k==2)) false (by simpa using E) (tR 5 [] λa5 _ _=>?_);by_cases G:a.k=6
     .refine tI ((a.k==6)) true (by simpa using G) (tR 1 [] λa6 _ _=>tI ((a.k==6)) true (by simpa using G) (tR 2 [] λa7 _ _=>tV 1 (iv ((m:Int)+20)) (λF C=>(Mn (x:=(.tmp 25)) (y:=(.const (iv 20))) (m:Int) 20 underlying3 (by omega))) (tR 3 [] λa8 _ _=>tD o [] ⟨m+20,rfl,rfl,rfl,(if_pos (by simp[hvy,G])).symm⟩ (λF=>⟨F.1,trivial⟩))))
     .refine tI ((a.k==6)) false (by simpa using G) (tR 4 [] λa9 _ _=>?_);by_cases M:a.k=8
      .refine tI ((a.k==8)) true (by simpa using M) (tR 2 [] λb0 _ _=>tV 1 (iv ((m:Int)+20)) (λF C=>(Mn (x:=(.tmp 25)) (y:=(.const (iv 20))) (m:Int) 20 underlying3 (by omega))) (tR 3 [] λb1 _ _=>tD o [] ⟨m+20,rfl,rfl,rfl,(if_pos (by simp[hvy,M])).symm⟩ (λF=>⟨F.1,trivial⟩)))
      .refine tI ((a.k==8)) false (by simpa using M) (tR 2 [] λb2 _ _=>tD o [] ⟨m,rfl,rfl,rfl,(if_neg (by simp[hvy,A,E,G,M])).symm⟩ (λF=>⟨F.1,trivial⟩))
  rintro _ _ _ ⟨N,rfl,rfl,rfl,T⟩ _ _ _;refine tR 3 [] λb3 _ _=>tV 1 (iv ((i:Int)+1)) (λF C=>(Ay 13 (i:Int) underlying3 (by omega))) (tR 2 [] λb4 _ _=>tB o (L.length-(i+1)) (by omega) [] ⟨i+1,N,rfl,rfl,rfl,rfl,by omega,(by rw[T,Wd S,<- g])⟩ (λF=>⟨F.1,trivial⟩))
 .refine tI ((decide ((i:Int)<(x.n:Int)))) false (E' (by omega)) ?_;rw[show L.take i=L from mN (by omega)]at g
  have s:=UC L;rw[<- g]at s
  refine tR 4 [] λb5 _ _=>gf 1 0 x (acV l) 23 23 38 5 56 zLa (λF=>F.1.1.rd) [Fa.dt l] (λF=>⟨F.1.2,trivial⟩) rfl (by simp[TQ]) (Uc l) (by rw[U];unfold maxLen;omega) (by omega) λZ _ _ n0=>tR 8 [] λb6 _ _=>DB 44 [(1,iv n),(5,iv (m:Int)),(7,S3.v Z),(8,iv 0)] [] [] [Fa.oa 0 Z (l++rnP [])] (λV D B f=>∃ (j:Nat) (y:S3) (Q:List Lac),V=2-j/\D=[(1,iv n),(5,iv (m:Int)),(7,S3.v y),(8,iv (j:Int))]/\B=[]/\f=[Fa.oa 0 y (l++rnP Q)]/\j<=2/\Q.length<=j*300000/\Q=(List.replicate j (Cz m n)).flatten) (2) ⟨0,Z,[],rfl,rfl,rfl,rfl,by omega,by simp,by simp⟩ (λF=>⟨by rw[show rnP []=[]from rfl,mZ];exact⟨F.1,F.2.1⟩,trivial⟩) ?_;rintro k _ _ _ ⟨j,y,Q,rfl,rfl,rfl,rfl,hj,c3,hQ⟩ _ _ _ J o;refine tR 6 [] λb7 _ _=>?_;by_cases A:j<2
  .refine tI ((decide ((j:Int)<2))) true (M' (by omega)) (tR 6 [] λb8 _ _=>tG 1 [] 0 (λF C=>OD (many:=0) (AcR.oo F.1 rfl).r (AcR.oo F.1 rfl).d (by rw[H',Lb];omega)) λNz=>?_);rintro _ _ ⟨X,rfl,H,O⟩;have t:X.n=((l++rnP Q)++rnP (Dw 0)).length:=by have:=H.len;rw[KT]at this;omega
   simp only[H',Lb,GI]at t;refine⟨_,[Fa.oa 0 X ((l++rnP Q)++rnP (Dw 0))],_,_,_,_,rfl,O,H,λ_=>⟨λF R _=>⟨⟨R,Dat.app F.1.2 (P6 _ _ (ZX _))⟩,trivial⟩,?_⟩⟩;refine tR 8 [0,0] λq _ _=>NJ 4 0 (x:=X) 23 23 38 5 56 zLa ⟨(q 0),0,none⟩ 1 1 [iv 2,iv n,iv 0,iv 0,sn] (λF=>F.1.1) [Fa.dt ((l++rnP Q++rnP (Dw 0))++[(acN 2 n,s30)])] (λF=>⟨Dat.snoc F.1.2 (Sz _ _),trivial⟩) rfl (by simp[TQ]) rfl (by simp[Value.oneCell']) (λF K=>C6 K 0 (q 0) [iv 2,iv n,iv 0,iv 0,sn] 38 .z true (by kernel_rfl)) (by unfold maxLen;omega) (by omega) λa0 _ _ c5=>tCv [Fa.oa 0 a0 (l++rnP (Q++Dw 0++[acN 2 n]))] (λF=>by rw[Ja,UR,<- mK l,<- mK l];exact⟨⟨(by rw[E2];exact F.1),F.2.1⟩,trivial⟩) (tR 5 [] λb9 _ _=>tG 2 [false] 0 (λF C=>OD (many:=m) (AcR.oo F.1 rfl).r (AcR.oo F.1 rfl).d (by rw[H',Lb,H',H',GI,nE];omega)) λNz=>?_);rintro _ _ ⟨Y,rfl,H,P⟩;have u:Y.n=((l++rnP (Q++Dw 0++[acN 2 n]))++rnP (Dw m)).length:=by have:=H.len;rw[KT]at this;omega
   simp only[H',Lb,GI,nE]at u;refine⟨_,[Fa.oa 0 Y ((l++rnP (Q++Dw 0++[acN 2 n]))++rnP (Dw m))],_,_,_,_,rfl,P,H,λ_=>⟨λF R _=>⟨⟨R,Dat.app F.1.2 (P6 _ _ (ZX _))⟩,trivial⟩,?_⟩⟩;refine tR 5 [] λc0 _ _=>tV 1 (iv ((j:Int)+1)) (λF C=>(Ay 31 (j:Int) underlying3 (by omega))) (tR 2 [] λc1 _ _=>?_);exact tB o (2-(j+1)) (by omega) [] ⟨j+1,Y,Q++Cz m n,rfl,rfl,rfl,rfl,by omega,(by rw[H',YB];omega),(by rw[hQ];rcases(show j=0\/j=1 by omega)with rfl|rfl<;>simp)⟩ (λF=>by rw[show Q++Cz m n=Q++Dw 0++[acN 2 n]++Dw m by simp[Cz,List.append_assoc],UR _ (Dw m),<- mK l];exact F)
  .refine tI ((decide ((j:Int)<2))) false (E' (by omega)) ?_;obtain rfl:j=2:=by omega
   refine tR 6 [] λc2 _ _=>?_;have hS:Q=Es L n:=by rw[hQ,g];simp[Es]
   rw[<- hS];exact tX λF C=>qE (S3.v y) λ_=>⟨y,rfl,F.1.1.own C,CgQ.af C⟩
theorem UL{tv:S3}(h:OutF g w ly tv ys M):OutW w M ly tv ys:=⟨h.rX.rd,λj a=>(h.log j a).rd.rc,h.ew.rd⟩
theorem jj(h:Sk w x.v (laF L) L.length)(m:∀ a∈L,LacOk a)(l:L.length<=100000)(b:Vp w){M:Meet}(j:As.dT L=M) :
  Calls prog 11 #[x.v] w λe w'=>∃ (ly tv:S3) (ys:Nat->S3),e=.returned (.tuple #[.agg (GA M ly tv),iv 0])/\OutW w' M ly tv ys/\OutN w.heap.size M ly tv ys/\Bw w w':=by
 subst j;refine(eK h (λi c=>by rw[Po c];exact m _ (nu c)) l b.1 b.2.1 b.2.2).mono ?_;rw[Xy];rintro e w' ⟨k,ly,tv,ys,d,f,g⟩;exact⟨ly,tv,ys,d,f,g,k⟩
theorem jd(h:Sk w x.v (laF L) L.length)(y:∀ a∈L,LacOk a)(t:L.length<=100000)(s:Vp w){M:Meet}(r:As.dT L=M) :
  Calls prog 5 #[x.v] w λe w'=>∃ (ly tv:S3) (ys:Nat->S3),e=.returned (.tuple #[.agg (GA M ly tv),.bool true])/\OutW w' M ly tv ys/\OutN w.heap.size M ly tv ys/\Bw w w':=by
 refine tIn [] func5 trivial (tR 8 [1,0] λb _ _=>tF λ_ k=>?_);have d:=k.size;refine tC 1 (λF C=>jj (h.af (CgQ.af C)) y t (tb5 s C) r) λo=>?_;rintro _ _ ⟨ly,tv,ys,rfl,j,i,p⟩;refine⟨_,Fa.ot ly tv ys M::_,rfl,p,λF=>⟨UK j i o,F⟩,?_⟩;refine tR 14 [0,0,1,0,9,0,1,2,4,6,8] λf _ _=>Is 20 (λq m c=>∃ (_:Unit),q=[(2,pt (b 0) 0),(3,.bool ((ly.n:Int)==5))]/\m=[⟨(b 0),.cells (GA M ly tv) 30,.l,false⟩,⟨(f 0),.cells (GA M ly tv) 30,.z,false⟩]/\c=[Fa.ot ly tv ys M]) (λJ g=>?_) ?_
 .refine JW 5 9 ?_ ?_
  .refine tR 7 [1,12,14,16,19,0,0,20] λA _ _=>tD g [true,true] ⟨(),rfl,rfl,rfl⟩ (λF=>⟨F.1,trivial⟩)
  .refine tR 7 [0,0,11,1,12,14,16,20] λB _ _=>tD g [true,true] ⟨(),rfl,rfl,rfl⟩ (λF=>⟨F.1,trivial⟩)
 rintro _ _ _ ⟨_,rfl,rfl,rfl⟩ _ _ _;have u:(((ly.n:Nat):Int)==5)=true:=by rw[j.n5];rfl
 exact tX λF C=>qE2 2 3 30 0 (b 0) (GA M ly tv) (.bool ((ly.n:Int)==5)) λ_=>⟨ly,tv,ys,by rw[u],UL F.1,i.mono d,CgQ.af C⟩
theorem jc(h:AcR w x L l)(f:∀ a∈L,LacOk a)(d:L.length<=100000)(c:Vp w){M:Meet}(b:As.dT L=M) :
  Calls prog 5 #[x.v] w λe w'=>∃ (ly tv:S3) (ys:Nat->S3),e=.returned (.tuple #[.agg (GA M ly tv),.bool true])/\OutW w' M ly tv ys/\OutN w.heap.size M ly tv ys/\Bw w w':=jd (h.sk (by omega)) f d c b
theorem kQ(c:x.a=some ⟨b,off,none⟩)(j:Nat)(d:j<x.n):(Instr.indexAt 26 x.v (iv (j:Int))).run prog W=.ok (pt b (off+j)) W:=by
 obtain⟨f,h,g⟩:=x;simp only at c d;subst c;exact Mo (P:=prog) (e:=35) (z:=1) underlying26 (by kernel_rfl) (by kernel_rfl) d _ (by rw[rx])
theorem UA(h:RdV w ly 1 [S3.v (ys 0),S3.v (ys 1),S3.v (ys 2),S3.v (ys 3),S3.v (ys 4)])(c:ly.a=some ⟨b,off,none⟩)(d:j<5):w.cell? ⟨b,off+j,none⟩=some (S3.v (ys j)):=by
 rcases h.ex with h1|⟨b',off',h1,h2,h3⟩
 .have:=h.len;simp at this;omega
 .rw[c]at h1;cases h1
  refine h3 j _ ?_;rcases rC d with rfl|rfl|rfl|rfl|rfl<;>rfl
theorem fN(h:(Fa.ac x l).p g w){i:Nat}{p:Lac × S3}(c:l[i]?=some p):∃ b off,x.a=some ⟨b,off,none⟩/\w.rangeAt b (off+5*i) (laV p.1 p.2.v)/\i<x.n:=by
 have m:=(AcR.of h rfl).n;rw[mV]at m
 have o:=(U'.1 c).1;obtain⟨b,off,d,_,e⟩:=h.1.rd.spot (i:=i) (by omega);exact⟨b,off,d,λj u k=>e j u (Hd (f:=λp:Lac × S3=>laV p.1 p.2.v) (λ_=>rfl) l c k),by omega⟩
theorem acS(h:(Fa.ac x l).p g w){i b c:Nat}(k:x.a=some ⟨b,c,none⟩){a:Lac}{y:S3}(j:l[i]?=some (a,y)):w.rangeAt b (c+5*i) (laV a y.v):=by
 obtain⟨m,e,d,f,_⟩:=fN h j;rw[k]at d;cases d;exact f
theorem acK(h:(Fa.ac x l).p g w){i b c:Nat}(e:x.a=some ⟨b,c,none⟩){a:Lac}{y:S3}(d:l[i]?=some (a,y)):w.cell? ⟨b,c+5*i,none⟩=some (iv a.k):=acS h e d 0 _ rfl
theorem gh{l:List Tol}(h:RdV w x 5 (l.flatMap EP)):x.n=l.length:=by
 have:=h.len;rw[Fs (f:=EP) (sz:=5) (λ_=>rfl)]at this
 omega
theorem lD{B:Nat}{L:List Sh}(h:Kn B g w L)(k b:Nat)(news:List Value)(e:TypeId)(t:Tg)(v:Bool)(d:L[k]?=some ⟨b,.cells news.toArray e,t,v⟩){j:Nat}{u:Value}(c:news[j]?=some u):w.cell? ⟨b,j,none⟩=some u:=by
 have:=C6 h k b news e t v d j u c;have a:(⟨b,0,none⟩:Addr).add j=⟨b,j,none⟩:=by unfold Addr.add;split<;>simp_all
 rwa [a]at this
theorem ip{a:List Cmd}{c:Cmd}(h:RdV w x 5 (cmL a))(R:a.length<1000000){r:Bool}(l:decide (c∈a)=r) :
  Calls prog 9 #[x.v,.agg #[iv c.k,iv c.c,iv c.s,iv c.n,iv c.v]] w λe w'=>e=.returned (.bool r)/\Bw w w':=by
 have T:=jT h;refine tIn [Fa.zv x 5 (cmL a)] func9 ⟨h.fz,trivial⟩ (tR 11 [0,0] λb _ _=>DB 18 [(0,S3.v x),(3,pt (b 0) 0),(5,iv 0)] [true] [⟨(b 0),.cells #[iv c.k,iv c.c,iv c.s,iv c.n,iv c.v] 40,.z,false⟩] [Fa.zv x 5 (cmL a)] (λG A t g=>∃ (i:Nat),G=a.length-i/\A=[(0,S3.v x),(3,pt (b 0) 0),(5,iv (i:Int))]/\t=[⟨(b 0),.cells #[iv c.k,iv c.c,iv c.s,iv c.n,iv c.v] 40,.z,false⟩]/\g=[Fa.zv x 5 (cmL a)]/\i<=a.length/\c∉a.take i) (a.length) ⟨0,rfl,rfl,rfl,rfl,by omega,by simp⟩ (λF=>F) ?_);rintro k _ _ _ ⟨i,rfl,rfl,rfl,rfl,S,m⟩ _ _ _ J D;refine tR 8 [] λI _ _=>?_;by_cases Q:i<a.length
 .refine tI ((decide ((i:Int)<(x.n:Int)))) true (M' (by omega)) ?_;obtain⟨d,o⟩:∃ d,a[i]?=some d:=⟨_,G' (by omega)⟩;refine tF λF _=>?_;obtain⟨bx,H,f⟩:=F.1.rd.rc.addr (k:=i) (by omega);refine tR 7 [6,0,2] λK _ _=>tT 2 (pt bx (H+5*i)) (λ_=>(O6 f i (by omega))) (tR 1 [8,0] λL _ _=>tV 3 (.agg #[iv d.k,iv d.c,iv d.s,iv d.n,iv d.v]) (λF C=>(W9 d λU u E=>F.1.rd.rc.cellAt f o E)) (tT 5 (.bool (decide (d=c))) (λ_=>(kM (x:=(.tmp 15)) (y:=(.tmp 16)) d c)) (tR 1 [] λM _ _=>?_)));by_cases j:d=c
  .refine tI ((decide (d=c))) true (M' j) (tR 4 [] λN _ _=>?_);rw[M' (j▸mU o)]at l
   subst l;exact tE (.bool true) λ_ B=>⟨rfl,B⟩
  .refine tI ((decide (d=c))) false (E' j) (tR 4 [] λO _ _=>tV 1 (iv ((i:Int)+1)) (λF C=>(Ay 10 (i:Int) underlying3 (by omega))) (tR 2 [] λP _ _=>tB D (a.length-(i+1)) (by omega) [true] ⟨i+1,rfl,rfl,rfl,rfl,by omega,λp=>by rw[nR,o]at p;rcases Q'.1 p with h|h;exact m h;exact j (by simp at h;exact h.symm)⟩ (λF=>F)))
 .refine tI ((decide ((i:Int)<(x.n:Int)))) false (E' (by omega)) (tR 5 [] λq _ _=>?_);rw[mN (by omega)]at m
  rw[E' m]at l
  subst l;exact tE (.bool false) λ_ B=>⟨rfl,B⟩
end
end Go.Proofs.YtdnmoonbpfmijaaGreatDoor
