/- Part 16 of the walk. -/
import Derived.Test.YthohlalejhgbmaaGreatDoorZ15
set_option maxRecDepth 100000
set_option maxHeartbeats 4000000
open Go.Proofs.Tryz
set_option linter.unusedVariables false
namespace Go.Proofs.YthohlalejhgbmaaGreatDoor
open Go.RowKit
section
theorem PV(p:Nod)(b:Bal):(p.av b).1.ae=p.ae:=by
 unfold Nod.av;repeat' split
 all_goals rfl
variable{B C b i j mb ob sz tb:Nat}{F:Nat->Lac}{L:List Lac}{M:Meet}{T:List Tg}{W w w' w0:World}{e:TypeId}{g g':Gh}{k:Int}{l:List (Lac × S3)}{ly tv x y:S3}{nb:Nat->Nat}{vs xs:List Value}{ys:Nat->S3}{α:Type}
theorem X1{b:Nat}{p:Nod}{U:List Let}{V:List Tol}(h:NS i b ob g w p U V){w0:World}(hB:Base w0 g w)(hT:Tabs w0)(hb:p.bn.length<100000000)(hr:p.cn<1000000000000)(b3:-1000000000000<p.cn)(hv:p.vo.p.r<1000000000000) :
  Calls prog 26 #[pt b 0] w (NP i b ob g w (.tuple #[]) (if p.up then p.lead i else p) U V):=by
 obtain⟨x,lt,tl,Z,hO,hg⟩:=h;refine gI (fn:=f26) (TN i) g func26 hg (qN Z (qO hO (qR [] 13 [0,0,2,0] λo g1 w1 c1=>?_)));by_cases T:p.up=true
 .refine qI ((!p.up)) false (by simpa using T) ?_;rw[if_pos T];refine qR [] 15 [21,0,2,2,4,6,8,0,10,2,12,14,16,18,20,22,0] λs2 g2 w2 R=>qT 12 (iv (max p.cn p.vo.p.r)) (λ_=>(iE #[3,3] 3 p.cn p.vo.p.r)) (qT 13 (iv ((max p.cn p.vo.p.r)+1)) (λ_=>(AR 23 (max p.cn p.vo.p.r) underlying3 (by omega))) (qR [] 12 [28,2,30,32,34,0,36,39,0,0,41,3,0,2,3] λq g4 w4 S=>Ae λK=>?_));have N5:NS i b ob g4 w4 p U V:=(nsC Z hO ((c1.n R).n S) K);refine qG 2 (TN i) [false,false,true,true] (Fb N5 (hB.ch (((c1.nil (TN i)).n R).n S) (Bg i)) hT (⟨(max p.cn p.vo.p.r)+1,(i:Int)⟩:Bal)) ?_;rintro e' w5 ⟨y,g5,rfl,a0,M5,L⟩;refine⟨_,g5,rfl,L,M5.new,?_⟩;replace L:=L.ret (B:=w.heap.size);obtain⟨d,j,m,a,I,b2⟩:=M5;refine qN a (qO I (qR [] 13 [0,0,4,0] λs g7 w7 M=>?_));by_cases N:(p.av (⟨(max p.cn p.vo.p.r)+1,(i:Int)⟩:Bal)).2.2≠0
  .refine qI (((p.av (⟨(max p.cn p.vo.p.r)+1,(i:Int)⟩:Bal)).2.2 != 0)) true (by simpa using N) (qE (.tuple #[]) λK=>?_);rw[show p.lead i=(p.av (⟨(max p.cn p.vo.p.r)+1,(i:Int)⟩:Bal)).1 from by rw[Lv N];exact if_pos N];exact⟨_,rfl,(nsC a I M K),(((((c1.nil (TN i)).n R).n S).trans (L)).n M)⟩
  .refine qI (((p.av (⟨(max p.cn p.vo.p.r)+1,(i:Int)⟩:Bal)).2.2 != 0)) false (by simpa using N) (qR [.n 0 i] 17 [0,1,2,1] λb4 a4 c6 A=>dx 5 64 [(1,pt (o 0) 0),(2,pt (q 0) 0),(3,pt (s 0) 0),(44,iv 0)] [true,true,true,true,true] [⟨(o 0),.cells #[pt b 0] 83,.z,false⟩,⟨(q 0),.cells #[iv ((max p.cn p.vo.p.r)+1),iv (i:Int)] 88,.z,false⟩,⟨b,.cells (AB i ob ({ (p.av (⟨(max p.cn p.vo.p.r)+1,(i:Int)⟩:Bal)).1 with br:=⟨(⟨(max p.cn p.vo.p.r)+1,(i:Int)⟩:Bal),λ_=>false,λ_=>DT,λk=>if k<0 then d.ae.n else 0,0,[]⟩ }) ({ d with hv:=λ_=>s30,dW:=s30 })) 103,.n 0 i,false⟩,⟨ob,.cells #[S3.v j,S3.v m] 80,.n 50 0,false⟩,⟨(s 0),.cells #[S3.v y] 89,.z,false⟩] (by kernel_rfl) (by kernel_rfl) (by kernel_rfl) (by kernel_rfl) λt c z=>qR [.n 0 i] 35 [13,0,0,2,4,0,6,8,10,12,2,14,16,18,20,22,24,27,2,1] λb5 a5 c8 C=>Ea (t 5) 64 [(1,pt (o 0) 0),(2,pt (q 0) 0),(3,pt (s 0) 0),(44,iv 1)] [true,true,true,true,true] [⟨(o 0),.cells #[pt b 0] 83,.z,false⟩,⟨(q 0),.cells #[iv ((max p.cn p.vo.p.r)+1),iv (i:Int)] 88,.z,false⟩,⟨b,.cells (AB i ob ({ (p.av (⟨(max p.cn p.vo.p.r)+1,(i:Int)⟩:Bal)).1 with br:=⟨(⟨(max p.cn p.vo.p.r)+1,(i:Int)⟩:Bal),λ_=>false,λ_=>DT,λk=>if k<1 then d.ae.n else 0,0,[]⟩ }) ({ d with hv:=λ_=>s30,dW:=s30 })) 103,.n 0 i,false⟩,⟨ob,.cells #[S3.v j,S3.v m] 80,.n 50 0,false⟩,⟨(s 0),.cells #[S3.v y] 89,.z,false⟩] (by kernel_rfl) (by kernel_rfl) (by kernel_rfl) (by kernel_rfl) (by kernel_rfl) λz Q K=>c 4 _ _ _ _ _ ?_ K);refine qR [.n 0 i] 35 [13,0,0,2,4,0,6,8,10,12,2,14,16,18,20,22,24,27,2,1] λb6 a6 c9 D=>Ea (t 4) 64 [(1,pt (o 0) 0),(2,pt (q 0) 0),(3,pt (s 0) 0),(44,iv 2)] [true,true,true,true,true] [⟨(o 0),.cells #[pt b 0] 83,.z,false⟩,⟨(q 0),.cells #[iv ((max p.cn p.vo.p.r)+1),iv (i:Int)] 88,.z,false⟩,⟨b,.cells (AB i ob ({ (p.av (⟨(max p.cn p.vo.p.r)+1,(i:Int)⟩:Bal)).1 with br:=⟨(⟨(max p.cn p.vo.p.r)+1,(i:Int)⟩:Bal),λ_=>false,λ_=>DT,λk=>if k<2 then d.ae.n else 0,0,[]⟩ }) ({ d with hv:=λ_=>s30,dW:=s30 })) 103,.n 0 i,false⟩,⟨ob,.cells #[S3.v j,S3.v m] 80,.n 50 0,false⟩,⟨(s 0),.cells #[S3.v y] 89,.z,false⟩] (by kernel_rfl) (by kernel_rfl) (by kernel_rfl) (by kernel_rfl) (by kernel_rfl) λz Q K=>c 3 _ _ _ _ _ ?_ K;refine qR [.n 0 i] 35 [13,0,0,2,4,0,6,8,10,12,2,14,16,18,20,22,24,27,2,1] λb7 a7 d0 E=>Ea (t 3) 64 [(1,pt (o 0) 0),(2,pt (q 0) 0),(3,pt (s 0) 0),(44,iv 3)] [true,true,true,true,true] [⟨(o 0),.cells #[pt b 0] 83,.z,false⟩,⟨(q 0),.cells #[iv ((max p.cn p.vo.p.r)+1),iv (i:Int)] 88,.z,false⟩,⟨b,.cells (AB i ob ({ (p.av (⟨(max p.cn p.vo.p.r)+1,(i:Int)⟩:Bal)).1 with br:=⟨(⟨(max p.cn p.vo.p.r)+1,(i:Int)⟩:Bal),λ_=>false,λ_=>DT,λk=>if k<3 then d.ae.n else 0,0,[]⟩ }) ({ d with hv:=λ_=>s30,dW:=s30 })) 103,.n 0 i,false⟩,⟨ob,.cells #[S3.v j,S3.v m] 80,.n 50 0,false⟩,⟨(s 0),.cells #[S3.v y] 89,.z,false⟩] (by kernel_rfl) (by kernel_rfl) (by kernel_rfl) (by kernel_rfl) (by kernel_rfl) λz Q K=>c 2 _ _ _ _ _ ?_ K;refine qR [.n 0 i] 35 [13,0,0,2,4,0,6,8,10,12,2,14,16,18,20,22,24,27,2,1] λb8 a8 d1 F=>Ea (t 2) 64 [(1,pt (o 0) 0),(2,pt (q 0) 0),(3,pt (s 0) 0),(44,iv 4)] [true,true,true,true,true] [⟨(o 0),.cells #[pt b 0] 83,.z,false⟩,⟨(q 0),.cells #[iv ((max p.cn p.vo.p.r)+1),iv (i:Int)] 88,.z,false⟩,⟨b,.cells (AB i ob ({ (p.av (⟨(max p.cn p.vo.p.r)+1,(i:Int)⟩:Bal)).1 with br:=⟨(⟨(max p.cn p.vo.p.r)+1,(i:Int)⟩:Bal),λ_=>false,λ_=>DT,λk=>if k<4 then d.ae.n else 0,0,[]⟩ }) ({ d with hv:=λ_=>s30,dW:=s30 })) 103,.n 0 i,false⟩,⟨ob,.cells #[S3.v j,S3.v m] 80,.n 50 0,false⟩,⟨(s 0),.cells #[S3.v y] 89,.z,false⟩] (by kernel_rfl) (by kernel_rfl) (by kernel_rfl) (by kernel_rfl) (by kernel_rfl) λz Q K=>c 1 _ _ _ _ _ ?_ K;refine qR [.n 0 i] 35 [13,0,0,2,4,0,6,8,10,12,2,14,16,18,20,22,24,27,2,1] λb9 a9 d2 G=>Ea (t 1) 64 [(1,pt (o 0) 0),(2,pt (q 0) 0),(3,pt (s 0) 0),(44,iv 5)] [true,true,true,true,true] [⟨(o 0),.cells #[pt b 0] 83,.z,false⟩,⟨(q 0),.cells #[iv ((max p.cn p.vo.p.r)+1),iv (i:Int)] 88,.z,false⟩,⟨b,.cells (AB i ob ({ (p.av (⟨(max p.cn p.vo.p.r)+1,(i:Int)⟩:Bal)).1 with br:=⟨(⟨(max p.cn p.vo.p.r)+1,(i:Int)⟩:Bal),λ_=>false,λ_=>DT,λk=>if k<5 then d.ae.n else 0,0,[]⟩ }) ({ d with hv:=λ_=>s30,dW:=s30 })) 103,.n 0 i,false⟩,⟨ob,.cells #[S3.v j,S3.v m] 80,.n 50 0,false⟩,⟨(s 0),.cells #[S3.v y] 89,.z,false⟩] (by kernel_rfl) (by kernel_rfl) (by kernel_rfl) (by kernel_rfl) (by kernel_rfl) λz Q K=>c 0 _ _ _ _ _ ?_ K;refine qR [] 10 [0] λc0 Y a1 H=>?_;have hn:d.ae.n=p.ae.length:=by have:=a.ae.num;rw[PV]at this;exact this
   rw[show p.lead i=Nod.wait { (p.av (⟨(max p.cn p.vo.p.r)+1,(i:Int)⟩:Bal)).1 with br:=⟨(⟨(max p.cn p.vo.p.r)+1,(i:Int)⟩:Bal),λ_=>false,λ_=>DT,λ_=>d.ae.n,0,[]⟩ } (.began (⟨(max p.cn p.vo.p.r)+1,(i:Int)⟩:Bal) (p.av (⟨(max p.cn p.vo.p.r)+1,(i:Int)⟩:Bal)).2.1)from by rw[hn];exact if_neg N];refine Ae λK=>?_;obtain⟨z1,z2⟩:=K.oG 0 (o 0) (.cells #[pt b 0] 83) false (by kernel_rfl);obtain⟨z3,z4⟩:=K.oG 1 (q 0) (.cells #[iv (⟨(max p.cn p.vo.p.r)+1,(i:Int)⟩:Bal).r,iv (⟨(max p.cn p.vo.p.r)+1,(i:Int)⟩:Bal).n] 88) false (by kernel_rfl);obtain⟨z5,z6⟩:=K.oG 4 (s 0) (.cells #[S3.v y] 89) false (by kernel_rfl);have e:=(((((((M.nil ([.n 0 i]:List Tg)).trans (A)).trans (C)).trans (D)).trans (E)).trans (F)).trans (G)).n H;have u:Tg.z∉([.n 0 i]:List Tg):=by simp
   have W:NS i b ob Y a1 ({ (p.av (⟨(max p.cn p.vo.p.r)+1,(i:Int)⟩:Bal)).1 with br:=⟨(⟨(max p.cn p.vo.p.r)+1,(i:Int)⟩:Bal),λ_=>false,λ_=>DT,λ_=>d.ae.n,0,[]⟩ }) U V:=⟨{ d with hv:=λ_=>s30,dW:=s30 },j,m,K.nd 2 (a.tape.ch e u) (a.ln.ch e u) (λ_ _=>⟨Sv.nil _,λh=>absurd rfl h⟩) (BP a.bn e u (by simp)) (OwnS.nil _ _ _ _ _ _) (a.ae.ch e) (a.an.ch e) (a.bw.ch e) a.oO,I.ch e u (by simp<;>omega),K.new⟩;refine qS0 2 [true,true,false,false,true] (AK W (by show(p.av (⟨(max p.cn p.vo.p.r)+1,(i:Int)⟩:Bal)).1.bn.length<_;rw[If];exact hb) _ _ (.began (⟨(max p.cn p.vo.p.r)+1,(i:Int)⟩:Bal) (p.av (⟨(max p.cn p.vo.p.r)+1,(i:Int)⟩:Bal)).2.1) ⟨(o 0),(q 0),(s 0),y,rfl,⟨z1,z2⟩,⟨z3,z4⟩,⟨z5,z6⟩,((((((((a0.ch M).ch A).ch C).ch D).ch E).ch F).ch G).ch H)⟩) λb0 d3 d5 a2 a3 O P X=>qR [] 1 [] λc3 b1 d4 J=>qF O P J ((((((((((((((c1.nil (TN i)).n R).n S).trans (L)).n M).trans (A.mono (by simp[TN]))).trans (C.mono (by simp[TN]))).trans (D.mono (by simp[TN]))).trans (E.mono (by simp[TN]))).trans (F.mono (by simp[TN]))).trans (G.mono (by simp[TN]))).n H).trans (X)).n J)
 .refine qI ((!p.up)) true (by simpa using T) (qE (.tuple #[]) λK=>?_);rw[if_neg T];exact⟨_,rfl,(nsC Z hO c1 K),(c1.nil (TN i))⟩
theorem jx(h:1<=k/\k<=9):k=1\/k=2\/k=3\/k=4\/k=5\/k=6\/k=7\/k=8\/k=9:=by omega
theorem eK(h:MS mb tb ob nb g w M){w0:World}(A:Base w0 g w)(C:Tabs w0)(x:Lac)(dv:S3)(hd:Sl w dv.v x.d)(D:LacOk x){n:Nat}(u:MOk n M)(hn:n<=1000000) :
  Calls prog 14 #[pt mb 0,.agg #[iv x.k,iv x.n,iv x.a,iv x.p,dv.v]] w (MP mb tb ob nb g w (.tuple #[]) (M.act x)):=by
 obtain⟨j,a7,c⟩:∃ j:Nat,x.n=(j:Int)/\j<5:=by
  cases hu:F1 x.k with
  | true=>have:=D.n hu;exact⟨x.n.toNat,by omega,by omega⟩
  | false=>have:=D.n0 hu;exact⟨0,by omega,by omega⟩
 obtain⟨at_,a6,e⟩:∃ at_:Nat,x.a=(at_:Int)/\at_<=1048576:=by
  cases hu:Hl x.k with
  | true=>have:=D.a hu;exact⟨x.a.toNat,by omega,by omega⟩
  | false=>have:=D.a0 hu;exact⟨0,by omega,by omega⟩
 have d5:0<=x.p/\x.p<=100000:=by
  cases hu:Hm x.k with
  | true=>exact D.p hu
  | false=>have:=D.p0 hu;omega
 have a8:=D.k;obtain⟨k,xn,xa,p,d⟩:=x;simp only at a7 a6 d5 a8 hd ⊢;subst a7 a6;clear D;have hp:=u.af j c;have h6:=u.wt;have h5:=u.cF;have h3:=DB (M.af j).bn;have h4:=PZ M c;have h7:=jg M c;have h2:=u.bad j c;refine gI (fn:=f14) TM g func14 h.new (BU ⟨mb,_,.z,false⟩ (λ_=>⟨h.box.r,h.box.z,λh=>(by cases h),λh=>absurd rfl h⟩) (by kernel_rfl) ?_);refine qR [] 11 [0,0,8,0,2,4,1,6,8] λj2 g1 w1 c1=>?_;refine Pv 5 (pt mb j) false (λW hW=>(by rcases nT c with rfl|rfl|rfl|rfl|rfl<;>kernel_rfl)) (by kernel_rfl) ?_;refine qU 6 (pt (nb j) 0) (λW hW=>(BX underlying83 rfl (Tn (AN.at (hW rfl) 0 mb (.cells (mtA nb ob tb) 86) .z (by kernel_rfl)) c))) (qR [] 13 [14,1] λj3 g3 w3 b=>?_);rcases jx a8 with rfl|rfl|rfl|rfl|rfl|rfl|rfl|rfl|rfl
 .refine qR [] 5 [1] λj4 g4 w4 c4=>?_;rw[show M.act ⟨1,(j:Int),(at_:Int),p,d⟩=(M.set j ((M.af j).oA j d M.cF).1 M.bt ((M.af j).oA j d M.cF).2)from rfl];refine Ae λK=>?_;have N5:MS mb tb ob nb g4 w4 M:=(h.nW ((c1.trans b).trans c4) K.new);refine qG 3 TM [true,true] ((N5).call c (Vo ((N5).ns c) (A.ch (((c1.nil TM).n b).n c4) EO) C dv d (hd.ab (Cg.ab ((c1.trans b).trans c4) (λ_ _=>N'))) hp (by omega) (by omega) (by omega) rfl rfl)) ?_;rintro y w5 ⟨g5,rfl,M5,c5⟩;refine⟨_,g5,rfl,c5,M5.new,?_⟩;replace c5:=c5.ret (B:=w.heap.size);refine qR [] 2 [] λj5 g6 w6 c6=>qE (.tuple #[]) λK=>⟨_,rfl,(M5.nW c6 K.new),(((((c1.nil TM).n b).n c4).trans (c5)).n c6)⟩
 .refine qR [] 9 [] λj6 g7 w7 c7=>?_;rw[show M.act ⟨2,(j:Int),(at_:Int),p,d⟩=(M.set j (if(M.af j).up then(M.af j).lead j else(M.af j)) M.bt M.cF)from rfl];refine Ae λK=>?_;have N8:MS mb tb ob nb g7 w7 M:=(h.nW ((c1.trans b).trans c7) K.new);refine qG 1 TM [true,true] ((N8).call c (X1 ((N8).ns c) (A.ch (((c1.nil TM).n b).n c7) EO) C (by omega) (by have:=hp.ro;omega) (by have:=hp.ro;omega) (by have:=hp.vp.pS;omega))) ?_;rintro y w8 ⟨g8,rfl,M8,c8⟩;refine⟨_,g8,rfl,c8,M8.new,?_⟩;replace c8:=c8.ret (B:=w.heap.size);refine qR [] 2 [] λj7 g9 w9 c9=>qE (.tuple #[]) λK=>⟨_,rfl,(M8.nW c9 K.new),(((((c1.nil TM).n b).n c7).trans (c8)).n c9)⟩
 .refine qR [] 15 [] λe3 b3 d6 E=>?_;rw[show M.act ⟨3,(j:Int),(at_:Int),p,d⟩=(M.set j (if(M.af j).up then((M.af j).piece j M.bt M.cF).1 else(M.af j)) (if(M.af j).up then((M.af j).piece j M.bt M.cF).2.1 else M.bt) (if(M.af j).up then((M.af j).piece j M.bt M.cF).2.2 else M.cF))from rfl];refine Ae λK=>?_;have T:MS mb tb ob nb b3 d6 M:=(h.nW ((c1.trans b).trans E) K.new);refine qG 1 TM [true,true] ((T).call c (XY ((T).ns c) (A.ch (((c1.nil TM).n b).n E) EO) C c hp (by omega) u.bt (by omega))) ?_;rintro y h8 ⟨b4,rfl,L,i⟩;refine⟨_,b4,rfl,i,L.new,?_⟩;replace i:=i.ret (B:=w.heap.size);refine qR [] 2 [] λe4 f7 h9 X=>qE (.tuple #[]) λK=>⟨_,rfl,(L.nW X K.new),(((((c1.nil TM).n b).n E).trans (i)).n X)⟩
 .refine qR [] 28 [1,1] λe5 b5 d7 F=>?_;rw[show M.act ⟨4,(j:Int),(at_:Int),p,d⟩=(M.move 4 at_)from rfl];refine Ae λK=>?_;have a9:MS mb tb ob nb b5 d7 M:=(h.nW ((c1.trans b).trans F) K.new);refine qG 5 TM [true,true] (Ll a9 (A.ch (((c1.nil TM).n b).n F) EO) C 4 at_ e u hn) ?_;rintro y i0 ⟨b6,rfl,N,l⟩;refine⟨_,b6,rfl,l,N.new,?_⟩;replace l:=l.ret (B:=w.heap.size);refine qR [] 2 [] λe6 f8 i1 Y=>qE (.tuple #[]) λK=>⟨_,rfl,(N.nW Y K.new),(((((c1.nil TM).n b).n F).trans (l)).n Y)⟩
 .refine qR [] 34 [1,1] λe7 b7 d8 G=>?_;rw[show M.act ⟨5,(j:Int),(at_:Int),p,d⟩=(M.move 5 at_)from rfl];refine Ae λK=>?_;have b0:MS mb tb ob nb b7 d8 M:=(h.nW ((c1.trans b).trans G) K.new);refine qG 5 TM [true,true] (Ll b0 (A.ch (((c1.nil TM).n b).n G) EO) C 5 at_ e u hn) ?_;rintro y i2 ⟨b8,rfl,O,m⟩;refine⟨_,b8,rfl,m,O.new,?_⟩;replace m:=m.ret (B:=w.heap.size);refine qR [] 2 [] λe8 f9 i3 Z=>qE (.tuple #[]) λK=>⟨_,rfl,(O.nW Z K.new),(((((c1.nil TM).n b).n G).trans (m)).n Z)⟩
 .refine qR [] 37 [1,1] λe9 b9 d9 H=>?_;rw[show M.act ⟨6,(j:Int),(at_:Int),p,d⟩=(M.move 6 at_)from rfl];refine Ae λK=>?_;have b1:MS mb tb ob nb b9 d9 M:=(h.nW ((c1.trans b).trans H) K.new);refine qG 5 TM [true,true] (Ll b1 (A.ch (((c1.nil TM).n b).n H) EO) C 6 at_ e u hn) ?_;rintro y i4 ⟨c0,rfl,P,o⟩;refine⟨_,c0,rfl,o,P.new,?_⟩;replace o:=o.ret (B:=w.heap.size);refine qR [] 2 [] λf0 g0 i5 a1=>qE (.tuple #[]) λK=>⟨_,rfl,(P.nW a1 K.new),(((((c1.nil TM).n b).n H).trans (o)).n a1)⟩
 .refine qR [] 39 [] λf1 c2 e0 I=>?_;rw[show M.act ⟨7,(j:Int),(at_:Int),p,d⟩=M.oh from rfl];refine Ae λK=>?_;have b2:MS mb tb ob nb c2 e0 M:=(h.nW ((c1.trans b).trans I) K.new);refine qG 1 TM [true,true] (Pf b2 (A.ch (((c1.nil TM).n b).n I) EO) C u hn) ?_;rintro y i6 ⟨d0,rfl,Q,q⟩;refine⟨_,d0,rfl,q,Q.new,?_⟩;replace q:=q.ret (B:=w.heap.size);refine qR [] 2 [] λf2 g2 i7 a2=>qE (.tuple #[]) λK=>⟨_,rfl,(Q.nW a2 K.new),(((((c1.nil TM).n b).n I).trans (q)).n a2)⟩
 .refine qR [] 47 [1] λf3 d1 e1 a3=>?_;rw[show M.act ⟨8,(j:Int),(at_:Int),p,d⟩=(M.set j (if(M.af j).up then(M.af j).lp p else(M.af j)) M.bt M.cF)from rfl];refine Ae λK=>?_;have U:MS mb tb ob nb d1 e1 M:=(h.nW ((c1.trans b).trans a3) K.new);refine qG 3 TM [true,true] ((U).call c (Wm ((U).ns c) p (by omega) (by omega))) ?_;rintro y i8 ⟨d2,rfl,R,s⟩;refine⟨_,d2,rfl,s,R.new,?_⟩;replace s:=s.ret (B:=w.heap.size);refine qR [] 2 [] λf4 h0 i9 a4=>qE (.tuple #[]) λK=>⟨_,rfl,(R.nW a4 K.new),(((((c1.nil TM).n b).n a3).trans (s)).n a4)⟩
 .refine qR [] 51 [] λf5 d3 e2 J=>?_;rw[show M.act ⟨9,(j:Int),(at_:Int),p,d⟩=(M.set j (if(M.af j).up then(M.af j)else(M.af j).start) M.bt M.cF)from rfl];refine Ae λK=>?_;have V:MS mb tb ob nb d3 e2 M:=(h.nW ((c1.trans b).trans J) K.new);refine qG 1 TM [true,true] ((V).call c (Y9 ((V).ns c) (A.ch (((c1.nil TM).n b).n J) EO) C)) ?_;rintro y j0 ⟨d4,rfl,S,t⟩;refine⟨_,d4,rfl,t,S.new,?_⟩;replace t:=t.ret (B:=w.heap.size);refine qR [] 2 [] λf6 h1 j1 a5=>qE (.tuple #[]) λK=>⟨_,rfl,(S.nW a5 K.new),(((((c1.nil TM).n b).n J).trans (t)).n a5)⟩
theorem d8{f:Bool}(h:OwnS g' w' (.n 60 0) f e sz y xs)(c:Cg w.heap.size [.n 60 0] gz w g' w'):∀ a,y.a=some a->w.heap.size<=a.block:=by
 intro a d;rcases h.ex with⟨h1,_⟩|⟨b,_,h1,_,_,_,_,_,h7,_⟩
 .rw[h1]at d;cases d
 .rw[h1]at d
  simp only[V']at d;subst d;rcases kt b w.heap.size with hlt|hge
  .have:=c.tag hlt (λh=>hlt);rw[h7]at this;cases this
  .exact hge
theorem QR(h:RdV w x 5 vs)(H:∀ u∈vs,u.oneCell'=true)(L:x.n<100000000) :
  Calls prog 33 #[x.v] w λe w'=>∃ y:S3,e=.returned y.v/\RdV w' y 5 vs/\y.n=x.n/\(vs≠[]->∀ a,y.a=some a->w.heap.size<=a.block)/\Bw w w':=by
 obtain⟨S,c,i⟩:=x;simp only at L;refine gI (fn:=f33) [.n 60 0] gz func33 (λ_ _=>⟨rfl,rfl⟩) (qR [] 8 [] λT Y w1 c1=>?_);by_cases B:S=none
 .subst B;have m:i=0:=h.pc rfl;have o:c=0:=by have:=h.cap;simp only at this;omega
  subst m o;refine qV 1 (.bool true) (bQ (z:=⟨none,0,0⟩) (t:=34) (e:=47) (x:=(.tmp 3)) (y:=(.const (sn))) rfl underlying34 (by kernel_rfl)) (qR [] 6 [] λU Z w2 E=>qE (S3.v s30) λK=>⟨s30,rfl,⟨h.len,A' _,λ_=>rfl,.inl rfl⟩,rfl,λ_ a J=>(by cases J),Cg.ab ((c1.nil [.n 60 0]).n E) (λ_ _=>DJ)⟩)
 .obtain⟨ad,rfl⟩:=mm.1 B;refine qV 1 (.bool false) (bQ (z:=⟨some ad,c,i⟩) (t:=34) (e:=47) (x:=(.tmp 3)) (y:=(.const (sn))) rfl underlying34 (by kernel_rfl)) (qR [] 7 [62,0] λb G R d=>?_);by_cases C:c=0
  .subst C;obtain⟨r,q⟩:∃ r,prog.info? 47=some r:=lG.1 (by kernel_rfl);refine qV 2 (.slice (some ⟨(b 0),0,none⟩) 0 0) (dB 34 34 47 r underlying34 q (b 0) ad i) (qR [] 2 [] λV g4 w4 F=>qE (S3.v ⟨some ⟨(b 0),0,none⟩,0,0⟩) λK=>⟨_,rfl,⟨h.len,A' _,λh=>(by cases h),.inl rfl⟩,rfl,λN=>absurd (Z' (by rw[h.len];exact ng 5)) N,Cg.ab (((c1.nil [.n 60 0]).n d).n F) (λ_ _=>DJ)⟩)
  .obtain⟨bx,ox,hx1,hx2,hx3⟩:∃ bx ox,(some ad:Option Addr)=some ⟨bx,ox,none⟩/\bx<w.heap.size/\∀ j u,vs[j]?=some u->w.cell? ⟨bx,ox+j,none⟩=some u:=by rcases h.ex with h|h;exact absurd h C;exact h
   simp only[V']at hx1;subst hx1;refine Ae λK=>?_;obtain⟨O,P,Q⟩:=K.pM 0 (b 0) (.cells #[] 47) 60 0 true (by kernel_rfl);have I:OwnS G R (.n 60 0) true 47 5 ⟨some ⟨(b 0),0,none⟩,0,0⟩ []:=⟨rfl,.inr ⟨(b 0),#[],rfl,O,A' _,j' _,rfl,rfl,P,Q⟩⟩;refine Hw [false] ?_;have l:=Cg.ab ((c1.nil [.n 60 0]).n d) (λ_ _=>DJ);refine JL 2 (x:=⟨some ⟨(b 0),0,none⟩,0,0⟩) 34 34 47 5 40 (.agg #[iv 0,iv 0,iv 0,iv 0,iv 0]) ⟨bx,ox,none⟩ c i vs I (by kernel_rfl) (by kernel_rfl) (by kernel_rfl) underlying34 (by kernel_rfl) (by kernel_rfl) (by decide) (by omega) h.len H (λK j u M=>by rw[JE];exact(l.cell (p:=⟨bx,ox+j,none⟩) hx2).trans (hx3 j u M)) (by show 0+c<=_;unfold maxLen;omega) (by show(0+c)*40<=_;omega) ?_;intro D g5 w5 s n5 k X;have A:=k w.heap.size [.n 60 0] (G'.2 rfl);refine qR [] 2 [] λW g6 w6 g=>qE (S3.v D) λK=>⟨D,rfl,(by have:=(s.ch g).rv;rwa [lE]at this),(by rw[n5];show 0+c=c;omega),λ_=>d8 (s.ch g) ((((c1.nil [.n 60 0]).n d).trans A).n g),Cg.ab ((((c1.nil [.n 60 0]).n d).trans A).n g) (λ_ _=>DJ)⟩
theorem KC(h:RdV w x 5 vs)(H:∀ u∈vs,u.oneCell'=true)(L:x.n<100000000) :
  Calls prog 32 #[x.v] w λe w'=>∃ y:S3,e=.returned y.v/\RdV w' y 5 vs/\y.n=x.n/\(vs≠[]->∀ a,y.a=some a->w.heap.size<=a.block)/\Bw w w':=by
 obtain⟨S,c,i⟩:=x;simp only at L;refine gI (fn:=f32) [.n 60 0] gz func32 (λ_ _=>⟨rfl,rfl⟩) (qR [] 8 [] λT Y w1 c1=>?_);by_cases B:S=none
 .subst B;have m:i=0:=h.pc rfl;have o:c=0:=by have:=h.cap;simp only at this;omega
  subst m o;refine qV 1 (.bool true) (bQ (z:=⟨none,0,0⟩) (t:=26) (e:=109) (x:=(.tmp 3)) (y:=(.const (sn))) rfl underlying26 (by kernel_rfl)) (qR [] 6 [] λU Z w2 E=>qE (S3.v s30) λK=>⟨s30,rfl,⟨h.len,A' _,λ_=>rfl,.inl rfl⟩,rfl,λ_ a J=>(by cases J),Cg.ab ((c1.nil [.n 60 0]).n E) (λ_ _=>DJ)⟩)
 .obtain⟨ad,rfl⟩:=mm.1 B;refine qV 1 (.bool false) (bQ (z:=⟨some ad,c,i⟩) (t:=26) (e:=109) (x:=(.tmp 3)) (y:=(.const (sn))) rfl underlying26 (by kernel_rfl)) (qR [] 7 [62,0] λb G R d=>?_);by_cases C:c=0
  .subst C;obtain⟨r,q⟩:∃ r,prog.info? 109=some r:=lG.1 (by kernel_rfl);refine qV 2 (.slice (some ⟨(b 0),0,none⟩) 0 0) (dB 26 26 109 r underlying26 q (b 0) ad i) (qR [] 2 [] λV g4 w4 F=>qE (S3.v ⟨some ⟨(b 0),0,none⟩,0,0⟩) λK=>⟨_,rfl,⟨h.len,A' _,λh=>(by cases h),.inl rfl⟩,rfl,λN=>absurd (Z' (by rw[h.len];exact ng 5)) N,Cg.ab (((c1.nil [.n 60 0]).n d).n F) (λ_ _=>DJ)⟩)
  .obtain⟨bx,ox,hx1,hx2,hx3⟩:∃ bx ox,(some ad:Option Addr)=some ⟨bx,ox,none⟩/\bx<w.heap.size/\∀ j u,vs[j]?=some u->w.cell? ⟨bx,ox+j,none⟩=some u:=by rcases h.ex with h|h;exact absurd h C;exact h
   simp only[V']at hx1;subst hx1;refine Ae λK=>?_;obtain⟨O,P,Q⟩:=K.pM 0 (b 0) (.cells #[] 109) 60 0 true (by kernel_rfl);have I:OwnS G R (.n 60 0) true 109 5 ⟨some ⟨(b 0),0,none⟩,0,0⟩ []:=⟨rfl,.inr ⟨(b 0),#[],rfl,O,A' _,j' _,rfl,rfl,P,Q⟩⟩;refine Hw [false] ?_;have l:=Cg.ab ((c1.nil [.n 60 0]).n d) (λ_ _=>DJ);refine JL 2 (x:=⟨some ⟨(b 0),0,none⟩,0,0⟩) 26 26 109 5 40 (.agg #[iv 0,iv 0,iv 0,iv 0,iv 0]) ⟨bx,ox,none⟩ c i vs I (by kernel_rfl) (by kernel_rfl) (by kernel_rfl) underlying26 (by kernel_rfl) (by kernel_rfl) (by decide) (by omega) h.len H (λK j u M=>by rw[JE];exact(l.cell (p:=⟨bx,ox+j,none⟩) hx2).trans (hx3 j u M)) (by show 0+c<=_;unfold maxLen;omega) (by show(0+c)*40<=_;omega) ?_;intro D g5 w5 s n5 k X;have A:=k w.heap.size [.n 60 0] (G'.2 rfl);refine qR [] 2 [] λW g6 w6 g=>qE (S3.v D) λK=>⟨D,rfl,(by have:=(s.ch g).rv;rwa [lE]at this),(by rw[n5];show 0+c=c;omega),λ_=>d8 (s.ch g) ((((c1.nil [.n 60 0]).n d).trans A).n g),Cg.ab ((((c1.nil [.n 60 0]).n d).trans A).n g) (λ_ _=>DJ)⟩
def JU(M:Meet)(ly tv:S3):Array Value:=#[iv (M.bt.length:Int),.bool (M.af 0).up,.bool (M.af 1).up,.bool (M.af 2).up,.bool (M.af 3).up,.bool (M.af 4).up,S3.v ly,iv ((M.af 0).bad:Int),iv ((M.af 1).bad:Int),iv ((M.af 2).bad:Int),iv ((M.af 3).bad:Int),iv ((M.af 4).bad:Int),S3.v tv]
structure OutW(w:World)(M:Meet)(ly tv:S3)(ys:Nat->S3):Prop where
 oC:RdV w ly 1 [S3.v (ys 0),S3.v (ys 1),S3.v (ys 2),S3.v (ys 3),S3.v (ys 4)]
 log:∀ j,j<5->RdC w (ys j) ((M.af j).ae.take (M.af j).done)
 cF:RdV w tv 5 (M.cF.flatMap FV)
structure OutN(B:Nat)(M:Meet)(ly tv:S3)(ys:Nat->S3):Prop where
 oC:∀ a,ly.a=some a->B<=a.block
 log:∀ j,j<5->cmL ((M.af j).ae.take (M.af j).done)≠[]->∀ a,(ys j).a=some a->B<=a.block
 cF:M.cF.flatMap FV≠[]->∀ a,tv.a=some a->B<=a.block
theorem OutW.ch(h:OutW w M ly tv ys)(hn:OutN B M ly tv ys)(e:∀ b,B<=b->g.t b=.z)(c:Cg C [] g w g' w'):OutW w' M ly tv ys :=
 ⟨((⟨h.oC,λ_ a d=>e _ (hn.oC a d)⟩:FzV g w ly 1 _).ch c).rd,λj i=>(((⟨(h.log j i).rv,λf a d=>e _ (hn.log j i f a d)⟩:FzV g w (ys j) 5 _).ch c).rd).rc,((⟨h.cF,λf a d=>e _ (hn.cF f a d)⟩:FzV g w tv 5 _).ch c).rd⟩
theorem T9(d:List Tol):∀ u∈d.flatMap FV,u.oneCell'=true:=by
 intro u b;obtain⟨c,_,a⟩:=mp.1 b;simp only[FV,jQ,N',or_false]at a;rcases a with rfl|rfl|rfl|rfl|rfl<;>rfl
theorem YJ{P:Program}{c:Func}{R:Ending->World->Prop}{Φ:List Fa}{s:Xs}(b:Nat)(o:Obj)(a:w0.heap[b]?=some o)(h:GT P c R w0 Φ ⟨s.K,s.f,BA s.L++[⟨b,o,.z,false⟩]⟩ g w):GT P c R w0 Φ s g w :=
 ⟨λF C=>BU ⟨b,o,.z,false⟩ (λ_=>⟨((CgQ.ab C).block b (rl a)).trans a,C.tag (rl a) (λ_=>rl a),(λh=>by cases h),λh=>absurd rfl h⟩) rfl (h.ex F C)⟩
theorem ff(h:MS mb tb ob nb g w0 M)(b:Bw w0 w){i:Nat}(c:i<5)(a:(M.af i).done<=(M.af i).ae.length) :
  Calls prog 34 #[pt (nb i) 0] w λe w'=>∃ y:S3,e=.returned y.v/\RdC w' y ((M.af i).ae.take (M.af i).done)/\Bw w w' :=
 Ti ((h.nW (Cg.bu (B:=0) b) λd a=>h.new d (jG b.size a)).ns c) a
theorem iA(a:i<5):(Instr.index 84 (.agg #[pt (nb 0) 0,pt (nb 1) 0,pt (nb 2) 0,pt (nb 3) 0,pt (nb 4) 0]) (iv (i:Int))).run prog W=.ok (pt (nb i) 0) W:=by
 rcases nT a with rfl|rfl|rfl|rfl|rfl<;>kernel_rfl
def ysL(ys:Nat->S3)(i:Nat):List Value:=(List.range i).map λj=>S3.v (ys j)
def F7(f:Nat->Bool)(i:Nat)(b:Bool):Nat->Bool:=λj=>bif Nat.beq j i then b else f j
def JN(f:Nat->Int)(i:Nat)(b:Int):Nat->Int:=λj=>bif Nat.beq j i then b else f j
def ni(M:Meet)(i:Nat):Nat->Bool:=λj=>bif Nat.blt j i then(M.af j).up else false
def Cq(M:Meet)(i:Nat):Nat->Int:=λj=>bif Nat.blt j i then((M.af j).bad:Int)else 0
theorem OO(j i:Nat):Nat.blt j (i+1)=bif Nat.beq j i then true else Nat.blt j i:=by
 rw[nI];rcases mK j i with h|h|h
 .simp[Nat.blt,show Nat.beq j i=false from Bool.eq_false_iff.2 λe=>by have:=Nat.eq_of_beq_eq_true e;omega];omega
 .subst h;simp[Nat.blt,Nat.beq_refl]
 .simp[Nat.blt,show Nat.beq j i=false from Bool.eq_false_iff.2 λe=>by have:=Nat.eq_of_beq_eq_true e;omega];omega
theorem gl(M:Meet)(i:Nat):F7 (ni M i) i (M.af i).up=ni M (i+1):=by
 funext j
 unfold F7 ni;rw[OO];cases h:Nat.beq j i
 .rfl
 .rw[jX h];rfl
theorem eu(M:Meet)(i:Nat):JN (Cq M i) i ((M.af i).bad:Int)=Cq M (i+1):=by
 funext j
 unfold JN Cq;rw[OO];cases h:Nat.beq j i
 .rfl
 .rw[jX h];rfl
def Lgs(g:Gh)(w:World)(M:Meet)(ys:Nat->S3)(i:Nat):Prop:=∀ j,j<i->FzV g w (ys j) 5 (cmL ((M.af j).ae.take (M.af j).done))
def Fa.lg(M:Meet)(ys:Nat->S3)(i:Nat):Fa:=⟨none,λg w=>Lgs g w M ys i,λhz _ c h j hj=>(h j hj).ch c hz⟩
def yup(ys:Nat->S3)(i:Nat)(y:S3):Nat->S3:=λj=>if j=i then y else ys j
theorem aW(h:Lgs g w M ys i)(k:FzV g w y 5 (cmL ((M.af i).ae.take (M.af i).done))):Lgs g w M (yup ys i y) (i+1):=by
 intro j a;unfold yup;split
 .rename_i e;rw[e];exact k
 .exact h j (by omega)
theorem jk(a:Nat->S3)(i:Nat)(y:S3):ysL (yup a i y) (i+1)=ysL a i++[S3.v y]:=by
 unfold ysL;rw[lJ,jW]
 congr 1
 .apply m6;intro j b;have:=l7.1 b;unfold yup;rw[if_neg (by omega)]
 .simp[yup]
theorem dp(h:∀ j,j<i->cmL ((M.af j).ae.take (M.af j).done)≠[]->∀ a,(ys j).a=some a->B<=a.block)(k:cmL ((M.af i).ae.take (M.af i).done)≠[]->∀ a,y.a=some a->B<=a.block):∀ j,j<i+1->cmL ((M.af j).ae.take (M.af j).done)≠[]->∀ a,(yup ys i y j).a=some a->B<=a.block:=by
 intro j b;unfold yup;split
 .rename_i e;rw[e];exact k
 .exact h j (by omega)
theorem fC(h:OwnS g w (.n 60 0) true e sz x xs)(C:Cg w0.heap.size TQ gS w0 g w):∀ a,x.a=some a->w0.heap.size<=a.block:=by
 intro a c;rcases h.ex with⟨h1,_⟩|⟨b,cur,h1,_,_,_,_,_,h7,_⟩
 .rw[h1]at c;cases c
 .rw[h1]at c;cases c
  refine nB λd=>?_;have:=C.tag d (λ_=>d);rw[h7]at this
  cases this
theorem PS(h:MS mb tb ob nb g w M)(hd:∀ i,i<5->(M.af i).done<=(M.af i).ae.length/\(M.af i).ae.length<=40)(b2:M.bt.length<100000000)(b5:M.cF.length<100000000) :
  Calls prog 15 #[pt mb 0] w λe w'=>∃ (ly tv:S3) (ys:Nat->S3),e=.returned (.agg (JU M ly tv))/\OutW w' M ly tv ys/\OutN w.heap.size M ly tv ys/\Bw w w':=by
 obtain⟨lt,tl,E⟩:=h.out;obtain⟨bs,hL,R⟩:=E.bt;have S:lt.n=M.bt.length:=by have:=hL.len;have:=R.len;simp at *;omega
 have b6:tl.n=M.cF.length:=by have Z:=E.cF.len;rw[FW]at Z;omega
 refine tIn [] func15 trivial (YJ mb _ h.box.r ?_);refine YJ ob _ E.row ?_;refine tR 21 [1,0,19,0,2,4,6,0,8,10,12,1,14,16,18,20,22,0,24,26,28,1] λb _ _=>JY 55 (λy t c=>∃ (tv:S3) (m:Nat),y=[(0,pt mb 0),(2,pt (b 0) 0),(3,pt m 0)]/\t=[⟨mb,.cells (mtA nb ob tb) 86,.z,false⟩,⟨ob,.cells #[S3.v lt,S3.v tl] 80,.z,false⟩,⟨(b 0),.cells #[iv 0,.bool false,.bool false,.bool false,.bool false,.bool false,sn,iv 0,iv 0,iv 0,iv 0,iv 0,sn] 28,.l,false⟩,⟨m,.cells #[iv (lt.n:Int),.bool false,.bool false,.bool false,.bool false,.bool false,sn,iv 0,iv 0,iv 0,iv 0,iv 0,S3.v tv] 28,.l,false⟩]/\c=[Fa.zv tv 5 (M.cF.flatMap FV)]/\(M.cF.flatMap FV≠[]->∀ a,tv.a=some a->w.heap.size<=a.block)) (λJ q=>?_) ?_
 .refine Hh 15 17 ?_ ?_
  .refine tF λ_ D=>?_;have T:=D.size;refine tC 15 (λF C=>KC (E.cF.rv.ab (CgQ.ab C)) (T9 _) (by omega)) λB=>?_;rintro _ _ ⟨tv,rfl,A,_,f,b4⟩;refine⟨_,Fa.zv tv 5 (M.cF.flatMap FV)::_,rfl,b4,λF=>⟨⟨A,λp a o=>B _ (f p a o)⟩,F⟩,?_⟩;refine tR 4 [32,35,1,0,37,3,0] λX _ _=>tD q [true,true,true,true] ⟨tv,(X 0),rfl,rfl,rfl,λp a o=>jG T (f p a o)⟩ (λF=>⟨F.1,trivial⟩)
  .refine tR 1 [1,0] λY _ _=>tF λ_ D=>?_;have U:=D.size;refine tC 15 (λF C=>KC (E.cF.rv.ab (CgQ.ab C)) (T9 _) (by omega)) λB=>?_;rintro _ _ ⟨tv,rfl,A,_,f,b8⟩;refine⟨_,Fa.zv tv 5 (M.cF.flatMap FV)::_,rfl,b8,λF=>⟨⟨A,λp a o=>B _ (f p a o)⟩,F⟩,?_⟩;refine tR 3 [32,37,3,0] λb9 _ _=>tD q [true,true,true,true] ⟨tv,(Y 0),rfl,rfl,rfl,λp a o=>jG U (f p a o)⟩ (λF=>⟨F.1,trivial⟩)
 rintro _ _ _ ⟨tv,m,rfl,rfl,rfl,f⟩ _ _ _;refine tR 10 [0] λa1 _ _=>Eh 55 [(2,pt (b 0) 0),(3,pt m 0),(26,.agg #[pt (nb 0) 0,pt (nb 1) 0,pt (nb 2) 0,pt (nb 3) 0,pt (nb 4) 0]),(27,iv 0)] [true,false,true,true] [⟨mb,.cells (mtA nb ob tb) 86,.z,false⟩,⟨(b 0),.cells #[iv 0,.bool false,.bool false,.bool false,.bool false,.bool false,sn,iv 0,iv 0,iv 0,iv 0,iv 0,sn] 28,.l,false⟩,⟨m,.cells #[iv (lt.n:Int),.bool false,.bool false,.bool false,.bool false,.bool false,sn,iv 0,iv 0,iv 0,iv 0,iv 0,S3.v tv] 28,.l,false⟩] [Fa.zv tv 5 (M.cF.flatMap FV),Fa.ow 0 34 1 s30 (ysL (λ_=>s30) 0),Fa.lg M (λ_=>s30) 0] (λkk y t c=>∃ (i:Nat) (ly:S3) (ys:Nat->S3),kk=5-i/\y=[(2,pt (b 0) 0),(3,pt m 0),(26,.agg #[pt (nb 0) 0,pt (nb 1) 0,pt (nb 2) 0,pt (nb 3) 0,pt (nb 4) 0]),(27,iv (i:Int))]/\t=[⟨mb,.cells (mtA nb ob tb) 86,.z,false⟩,⟨(b 0),.cells #[iv 0,.bool false,.bool false,.bool false,.bool false,.bool false,sn,iv 0,iv 0,iv 0,iv 0,iv 0,sn] 28,.l,false⟩,⟨m,.cells #[iv (lt.n:Int),.bool (ni M i 0),.bool (ni M i 1),.bool (ni M i 2),.bool (ni M i 3),.bool (ni M i 4),S3.v ly,iv (Cq M i 0),iv (Cq M i 1),iv (Cq M i 2),iv (Cq M i 3),iv (Cq M i 4),S3.v tv] 28,.l,false⟩]/\c=[Fa.zv tv 5 (M.cF.flatMap FV),Fa.ow 0 34 1 ly (ysL ys i),Fa.lg M ys i]/\i<=5/\ly.n=i/\(∀ j,j<i->cmL ((M.af j).ae.take (M.af j).done)≠[]->∀ a,(ys j).a=some a->w.heap.size<=a.block)) (5) ⟨0,s30,λ_=>s30,rfl,rfl,rfl,rfl,by omega,rfl,λj G=>absurd G (nL _)⟩ (λF=>⟨F.1,OwnS.nil _ _ _ _ _ _,(λj G=>absurd G (nL _)),trivial⟩) ?_;rintro k _ _ _ ⟨i,ly,ys,rfl,rfl,rfl,rfl,hi,a0,hw⟩ _ _ _ J q;refine tR 5 [] λa2 _ _=>?_;by_cases Z:i<5
 .refine tI ((decide ((i:Int)<5))) true (I' (by omega)) ?_;have d:i<5:=by omega
  obtain⟨x,hN⟩:=h.af i d;refine tR 6 [] λa3 _ _=>tV 1 (pt (nb i) 0) (λF C=>(iA d)) (YJ (nb i) _ hN.row ?_);refine tR 4 [] λa4 _ _=>JY 55 (λy t c=>y=[(2,pt (b 0) 0),(3,pt m 0),(26,.agg #[pt (nb 0) 0,pt (nb 1) 0,pt (nb 2) 0,pt (nb 3) 0,pt (nb 4) 0]),(27,iv (i:Int)),(4,iv (i:Int)),(5,pt (nb i) 0)]/\t=[⟨mb,.cells (mtA nb ob tb) 86,.z,false⟩,⟨(b 0),.cells #[iv 0,.bool false,.bool false,.bool false,.bool false,.bool false,sn,iv 0,iv 0,iv 0,iv 0,iv 0,sn] 28,.l,false⟩,⟨m,.cells #[iv (lt.n:Int),.bool (F7 (ni M i) i (M.af i).up 0),.bool (F7 (ni M i) i (M.af i).up 1),.bool (F7 (ni M i) i (M.af i).up 2),.bool (F7 (ni M i) i (M.af i).up 3),.bool (F7 (ni M i) i (M.af i).up 4),S3.v ly,iv (Cq M i 0),iv (Cq M i 1),iv (Cq M i 2),iv (Cq M i 3),iv (Cq M i 4),S3.v tv] 28,.l,false⟩,⟨(nb i),.cells (AB i ob (M.af i) x) 103,.z,false⟩]/\c=[Fa.zv tv 5 (M.cF.flatMap FV),Fa.ow 0 34 1 ly (ysL ys i),Fa.lg M ys i]) (λJ q=>?_) ?_
  .rcases nT d with rfl|rfl|rfl|rfl|rfl<;>exact tR 10 [3,2,0] λa5 _ _=>tD q [true,true,true,true] ⟨rfl,rfl,rfl⟩ (λF=>F)
  rintro _ _ _ ⟨rfl,rfl,rfl⟩ _ _ _;refine tR 1 [] λa6 _ _=>JY 55 (λy t c=>y=[(2,pt (b 0) 0),(3,pt m 0),(26,.agg #[pt (nb 0) 0,pt (nb 1) 0,pt (nb 2) 0,pt (nb 3) 0,pt (nb 4) 0]),(27,iv (i:Int)),(4,iv (i:Int)),(5,pt (nb i) 0)]/\t=[⟨mb,.cells (mtA nb ob tb) 86,.z,false⟩,⟨(b 0),.cells #[iv 0,.bool false,.bool false,.bool false,.bool false,.bool false,sn,iv 0,iv 0,iv 0,iv 0,iv 0,sn] 28,.l,false⟩,⟨m,.cells #[iv (lt.n:Int),.bool (F7 (ni M i) i (M.af i).up 0),.bool (F7 (ni M i) i (M.af i).up 1),.bool (F7 (ni M i) i (M.af i).up 2),.bool (F7 (ni M i) i (M.af i).up 3),.bool (F7 (ni M i) i (M.af i).up 4),S3.v ly,iv (JN (Cq M i) i ((M.af i).bad:Int) 0),iv (JN (Cq M i) i ((M.af i).bad:Int) 1),iv (JN (Cq M i) i ((M.af i).bad:Int) 2),iv (JN (Cq M i) i ((M.af i).bad:Int) 3),iv (JN (Cq M i) i ((M.af i).bad:Int) 4),S3.v tv] 28,.l,false⟩,⟨(nb i),.cells (AB i ob (M.af i) x) 103,.z,false⟩]/\c=[Fa.zv tv 5 (M.cF.flatMap FV),Fa.ow 0 34 1 ly (ysL ys i),Fa.lg M ys i]) (λJ q=>?_) ?_
  .rcases nT d with rfl|rfl|rfl|rfl|rfl<;>exact tR 10 [3,2,0] λa7 _ _=>tD q [true,true,true,true] ⟨rfl,rfl,rfl⟩ (λF=>F)
  rintro _ _ _ ⟨rfl,rfl,rfl⟩ _ _ _;refine tR 4 [8,0,2,2,4] λa8 _ _=>tC 3 (λF C=>ff h (CgQ.ab C) d (hd i d).1) λB=>?_;rintro _ _ ⟨yl,rfl,I,P⟩;refine⟨_,_,rfl,P,id,?_⟩;have V:yl.n<100000000:=by rw[I.len,X'];have:=hd i d;omega
  refine tF λ_ D=>?_;have H:=D.size;refine tC 4 (λF C=>QR I.rv (λu hu=>NZ _ u hu) V) λB=>?_;rintro _ _ ⟨O,rfl,W,_,L,Q⟩;refine⟨_,Fa.zv O 5 (cmL ((M.af i).ae.take (M.af i).done))::_,rfl,Q,λF=>⟨⟨W,λp a o=>B _ (L p a o)⟩,F⟩,?_⟩;refine tR 1 [11,0,0] λs _ _=>OA 6 0 (x:=ly) 24 24 34 1 24 sn ⟨(s 0),0,none⟩ 1 1 [S3.v O] (λF=>F.2.2.1) [Fa.zv tv 5 (M.cF.flatMap FV),Fa.lg M (yup ys i O) (i+1)] (λF=>⟨F.2.1,aW F.2.2.2.1 F.1,trivial⟩) rfl (by simp[TQ]) rfl (by simp[Value.oneCell']) (λF K=>Cw K 4 (s 0) [S3.v O] 34 .z true (by kernel_rfl)) (by unfold maxLen;omega) (by omega) λN _ _ b7=>tR 5 [14,17,2,0] λa9 _ _=>tV 0 (iv ((i:Int)+1)) (λF C=>(AR 27 (i:Int) underlying3 (by omega))) (tR 2 [] λb0 _ _=>tB q (5-(i+1)) (by omega) [true,true,true,false,false] (L':=[⟨mb,.cells (mtA nb ob tb) 86,.z,false⟩,⟨(b 0),.cells #[iv 0,.bool false,.bool false,.bool false,.bool false,.bool false,sn,iv 0,iv 0,iv 0,iv 0,iv 0,sn] 28,.l,false⟩,⟨m,.cells #[iv (lt.n:Int),.bool (F7 (ni M i) i (M.af i).up 0),.bool (F7 (ni M i) i (M.af i).up 1),.bool (F7 (ni M i) i (M.af i).up 2),.bool (F7 (ni M i) i (M.af i).up 3),.bool (F7 (ni M i) i (M.af i).up 4),S3.v N,iv (JN (Cq M i) i ((M.af i).bad:Int) 0),iv (JN (Cq M i) i ((M.af i).bad:Int) 1),iv (JN (Cq M i) i ((M.af i).bad:Int) 2),iv (JN (Cq M i) i ((M.af i).bad:Int) 3),iv (JN (Cq M i) i ((M.af i).bad:Int) 4),S3.v tv] 28,.l,false⟩]) ⟨i+1,N,yup ys i O,rfl,rfl,(by rw[gl,eu]),rfl,by omega,by omega,dp hw (λp a o=>jG H (L p a o))⟩ (λF=>⟨F.2.1,(by rw[jk];exact F.1),F.2.2.1,trivial⟩))
 .refine tI ((decide ((i:Int)<5))) false (D' (by omega)) ?_;obtain rfl:i=5:=by omega
  refine tR 6 [2,1,0] λb1 _ _=>?_;have hA:JU M ly tv=#[iv (lt.n:Int),.bool (ni M 5 0),.bool (ni M 5 1),.bool (ni M 5 2),.bool (ni M 5 3),.bool (ni M 5 4),S3.v ly,iv (Cq M 5 0),iv (Cq M 5 1),iv (Cq M 5 2),iv (Cq M 5 3),iv (Cq M 5 4),S3.v tv]:=by rw[S];rfl
  exact tX λF C=>qE1 2 28 1 (b 0) #[iv (lt.n:Int),.bool (ni M 5 0),.bool (ni M 5 1),.bool (ni M 5 2),.bool (ni M 5 3),.bool (ni M 5 4),S3.v ly,iv (Cq M 5 0),iv (Cq M 5 1),iv (Cq M 5 2),iv (Cq M 5 3),iv (Cq M 5 4),S3.v tv] λ_=>⟨ly,tv,ys,by rw[hA],⟨F.2.1.rv,λj G=>(F.2.2.1 j G).rd.rc,F.1.rd⟩,⟨fC F.2.1 C,hw,f⟩,CgQ.ab C⟩
theorem X4(h:1<=k/\k<=9):Calls prog 20 #[iv k] w λe w'=>e=.returned (.bool true)/\Bw w w':=by
 refine tIn [] func20 trivial (tR 7 [] λa _ _=>tV 1 (.bool true) (λF C=>(rGe (t:=3) (m:=k) (n:=1) (x:=(.tmp 3)) (y:=(.const (iv 1))) (I' h.1))) (tR 6 [] λb _ _=>tE (.bool (decide (k<10))) λ_ B=>⟨by rw[I' (show k<10 by omega)],B⟩))
theorem Xy:Calls prog 46 #[iv k] w λe w'=>e=.returned (.bool (k==1))/\Bw w w':=by
 refine tIn [] func46 trivial (tR 10 [] λa _ _=>tE (.bool (k==1)) λ_ B=>⟨rfl,B⟩)
theorem P9:Calls prog 45 #[pt b 0] w λe w'=>e=.returned (.agg #[pt b 1,pt b 2,pt b 3])/\Bw w w':=by
 refine tIn [] func45 trivial (tR 18 [1,0,10,0,2,4,6,8,10,12,14,16,18,21,0,0] λa _ _=>tX λF C=>qE1 2 126 0 (a 0) #[pt b 1,pt b 2,pt b 3] λ_=>⟨rfl,CgQ.ab C⟩)
theorem X8(h:j<3):j=0\/j=1\/j=2:=by omega
theorem Il(h:1<=k/\k<=9):(Instr.indexAt 132 (pt 0 0) (iv k)).run prog W=.ok (pt 0 (4*k.toNat)) W:=by
 have:=Vj k.toNat (by omega) W
 rwa [lY (by omega)]at this
theorem LWTab.at(h:LWTab w){k:Int}(c:1<=k/\k<=9){j:Nat}(a:j<3){b:Bool}(e:LZ j k=b):w.cell? ⟨0,4*k.toNat+1+j,none⟩=some (.bool b):=by
 have:=h.has k.toNat j (by omega) a
 rwa [lY (by omega),e]at this
theorem eX{x:Lac}(h:LacOk x)(hy:y.n=x.d.length)(i:LWTab w)(o:LBTab w):Calls prog 21 #[.agg #[iv x.k,iv x.n,iv x.a,iv x.p,S3.v y]] w λe w'=>e=.returned (.bool true)/\Bw w w':=by
 have f:=h.k;refine tIn [] func21 trivial (tR 8 [0,0] λc _ _=>tC1 0 (λF C=>P9 (b:=(c 0))) λ_=>tR 3 [] λa0 _ _=>Eh 33 [(1,pt (c 0) 0),(5,.agg #[pt (c 0) 1,pt (c 0) 2,pt (c 0) 3]),(6,iv 0)] [true] [⟨(c 0),.cells #[iv x.k,iv x.n,iv x.a,iv x.p,S3.v y] 55,.z,false⟩] [] (λZ Y X l=>∃ (j:Nat),Z=3-j/\Y=[(1,pt (c 0) 0),(5,.agg #[pt (c 0) 1,pt (c 0) 2,pt (c 0) 3]),(6,iv (j:Int))]/\X=[⟨(c 0),.cells #[iv x.k,iv x.n,iv x.a,iv x.p,S3.v y] 55,.z,false⟩]/\l=[]/\j<=3) (3) ⟨0,rfl,rfl,rfl,rfl,by omega⟩ (λF=>trivial) ?_);rintro k _ _ _ ⟨j,rfl,rfl,rfl,rfl,hj⟩ _ _ _ J g;refine tR 5 [] λa1 _ _=>?_;by_cases h0:j<3
 .refine tI ((decide ((j:Int)<3))) true (I' (by omega)) ?_;rcases X8 (show j<3 by omega)with rfl|rfl|rfl
  .by_cases h1:F1 x.k=true
   .have hv:=h.n h1;refine tR 15 [22,0,2,0,4] λa2 _ _=>tT 3 (pt (0) (4*x.k.toNat)) (λ_=>(Il f)) (tR 2 [8,10] λa3 _ _=>tV 6 (.bool true) (λF C=>(BX underlying4 rfl ((i.ab (CgQ.ab C)).at f (j:=0) (by decide) (show F1 x.k=true from h1)))) (tR 4 [14,16,18,20,0] λa4 _ _=>tT 11 (.bool false) (λ_=>(rLt (t:=3) (m:=x.n) (n:=0) (x:=(.tmp 20)) (y:=(.const (iv 0))) (D' (by omega)))) (tR 6 [24,26,28,30,0,32,34] λa5 _ _=>tV 18 (iv 4) (λF C=>(BX underlying3 rfl ((o.ab (CgQ.ab C)).pR 0 (by decide)))) (tR 4 [38,40,42] λa6 _ _=>tI ((decide (4<x.n))) false (D' (by omega)) (tR 6 [] λq _ _=>tB g (3-1) (by omega) [true] ⟨1,rfl,rfl,rfl,rfl,by omega⟩ (λF=>trivial))))))
   .refine tR 15 [22,0,2,0,4] λr _ _=>tT 3 (pt (0) (4*x.k.toNat)) (λ_=>(Il f)) (tR 2 [8,10] λs _ _=>tV 6 (.bool false) (λF C=>(BX underlying4 rfl ((i.ab (CgQ.ab C)).at f (j:=0) (by decide) (show F1 x.k=false from(by simpa using h1))))) (tR 23 [14,16,18,20,22,24,26,28,30,32,34,36,38,40,42] λu _ _=>tB g (3-1) (by omega) [true] ⟨1,rfl,rfl,rfl,rfl,by omega⟩ (λF=>trivial)))
  .by_cases h1:Hl x.k=true
   .have hv:=h.a h1;refine tR 15 [22,0,2,0,4] λA _ _=>tT 3 (pt (0) (4*x.k.toNat)) (λ_=>(Il f)) (tR 2 [8,10] λD _ _=>tV 6 (.bool true) (λF C=>(BX underlying4 rfl ((i.ab (CgQ.ab C)).at f (j:=1) (by decide) (show Hl x.k=true from h1)))) (tR 4 [14,16,18,20,0] λE _ _=>tT 11 (.bool false) (λ_=>(rLt (t:=3) (m:=x.a) (n:=0) (x:=(.tmp 20)) (y:=(.const (iv 0))) (D' (by omega)))) (tR 6 [24,26,28,30,0,32,34] λG _ _=>tV 18 (iv 1048576) (λF C=>(BX underlying3 rfl ((o.ab (CgQ.ab C)).pR 1 (by decide)))) (tR 4 [38,40,42] λH _ _=>tI ((decide (1048576<x.a))) false (D' (by omega)) (tR 6 [] λI _ _=>tB g (3-2) (by omega) [true] ⟨2,rfl,rfl,rfl,rfl,by omega⟩ (λF=>trivial))))))
   .refine tR 15 [22,0,2,0,4] λK _ _=>tT 3 (pt (0) (4*x.k.toNat)) (λ_=>(Il f)) (tR 2 [8,10] λL _ _=>tV 6 (.bool false) (λF C=>(BX underlying4 rfl ((i.ab (CgQ.ab C)).at f (j:=1) (by decide) (show Hl x.k=false from(by simpa using h1))))) (tR 23 [14,16,18,20,22,24,26,28,30,32,34,36,38,40,42] λM _ _=>tB g (3-2) (by omega) [true] ⟨2,rfl,rfl,rfl,rfl,by omega⟩ (λF=>trivial)))
  .by_cases h1:Hm x.k=true
   .have hv:=h.p h1;refine tR 15 [22,0,2,0,4] λN _ _=>tT 3 (pt (0) (4*x.k.toNat)) (λ_=>(Il f)) (tR 2 [8,10] λO _ _=>tV 6 (.bool true) (λF C=>(BX underlying4 rfl ((i.ab (CgQ.ab C)).at f (j:=2) (by decide) (show Hm x.k=true from h1)))) (tR 4 [14,16,18,20,0] λP _ _=>tT 11 (.bool false) (λ_=>(rLt (t:=3) (m:=x.p) (n:=0) (x:=(.tmp 20)) (y:=(.const (iv 0))) (D' (by omega)))) (tR 6 [24,26,28,30,0,32,34] λQ _ _=>tV 18 (iv 100000) (λF C=>(BX underlying3 rfl ((o.ab (CgQ.ab C)).pR 2 (by decide)))) (tR 4 [38,40,42] λR _ _=>tI ((decide (100000<x.p))) false (D' (by omega)) (tR 6 [] λS _ _=>tB g (3-3) (by omega) [true] ⟨3,rfl,rfl,rfl,rfl,by omega⟩ (λF=>trivial))))))
   .refine tR 15 [22,0,2,0,4] λT _ _=>tT 3 (pt (0) (4*x.k.toNat)) (λ_=>(Il f)) (tR 2 [8,10] λU _ _=>tV 6 (.bool false) (λF C=>(BX underlying4 rfl ((i.ab (CgQ.ab C)).at f (j:=2) (by decide) (show Hm x.k=false from(by simpa using h1))))) (tR 23 [14,16,18,20,22,24,26,28,30,32,34,36,38,40,42] λV _ _=>tB g (3-3) (by omega) [true] ⟨3,rfl,rfl,rfl,rfl,by omega⟩ (λF=>trivial)))
 .refine tI ((decide ((j:Int)<3))) false (D' (by omega)) (tR 5 [] λW _ _=>tE (.bool true) λ_ B=>⟨rfl,B⟩)
theorem am{x:Lac}(h:LacOk x)(hy:y.n=x.d.length)(o:LWTab w)(tb:LBTab w):Calls prog 22 #[.agg #[iv x.k,iv x.n,iv x.a,iv x.p,S3.v y]] w λe w'=>e=.returned (.bool true)/\Bw w w':=by
 have g:=h.k;refine tIn [] func22 trivial (tR 8 [0,0] λc _ _=>tC1 0 (λF C=>P9 (b:=(c 0))) λ_=>tR 3 [] λa1 _ _=>Eh 34 [(1,pt (c 0) 0),(5,.agg #[pt (c 0) 1,pt (c 0) 2,pt (c 0) 3]),(6,iv 0)] [true] [⟨(c 0),.cells #[iv x.k,iv x.n,iv x.a,iv x.p,S3.v y] 55,.z,false⟩] [] (λkk Y X i=>∃ (j:Nat),kk=3-j/\Y=[(1,pt (c 0) 0),(5,.agg #[pt (c 0) 1,pt (c 0) 2,pt (c 0) 3]),(6,iv (j:Int))]/\X=[⟨(c 0),.cells #[iv x.k,iv x.n,iv x.a,iv x.p,S3.v y] 55,.z,false⟩]/\i=[]/\j<=3) (3) ⟨0,rfl,rfl,rfl,rfl,by omega⟩ (λF=>trivial) ?_);rintro k _ _ _ ⟨j,rfl,rfl,rfl,rfl,hj⟩ _ _ _ J f;refine tR 5 [] λa2 _ _=>?_;by_cases h0:j<3
 .refine tI ((decide ((j:Int)<3))) true (I' (by omega)) ?_;rcases X8 (show j<3 by omega)with rfl|rfl|rfl
  .by_cases h1:F1 x.k=true
   .by_cases h2:x.n=0
    .refine tR 15 [0] λa3 _ _=>tV 3 (.bool false) (λF C=>(FO (t:=3) (m:=x.n) (n:=0) (x:=(.tmp 12)) (y:=(.const (iv 0))) (by simpa using h2))) (tR 18 [] λa4 _ _=>tB f (3-1) (by omega) [true] ⟨1,rfl,rfl,rfl,rfl,by omega⟩ (λF=>trivial))
    .refine tR 15 [0] λa5 _ _=>tV 3 (.bool true) (λF C=>(FO (t:=3) (m:=x.n) (n:=0) (x:=(.tmp 12)) (y:=(.const (iv 0))) (by simpa using h2))) (tR 4 [0] λa6 _ _=>tV 8 (pt (0) (4*x.k.toNat)) (λF C=>(Il g)) (tR 2 [] λa7 _ _=>tV 11 (.bool true) (λF C=>(BX underlying4 rfl ((o.ab (CgQ.ab C)).at g (j:=0) (by decide) (show F1 x.k=true from h1)))) (tR 10 [] λq _ _=>tB f (3-1) (by omega) [true] ⟨1,rfl,rfl,rfl,rfl,by omega⟩ (λF=>trivial))))
   .have h2:x.n=0:=h.n0 (by simpa using h1);refine tR 15 [0] λr _ _=>tV 3 (.bool false) (λF C=>(FO (t:=3) (m:=x.n) (n:=0) (x:=(.tmp 12)) (y:=(.const (iv 0))) (by simpa using h2))) (tR 18 [] λs _ _=>tB f (3-1) (by omega) [true] ⟨1,rfl,rfl,rfl,rfl,by omega⟩ (λF=>trivial))
  .by_cases h1:Hl x.k=true
   .by_cases h2:x.a=0
    .refine tR 15 [0] λu _ _=>tV 3 (.bool false) (λF C=>(FO (t:=3) (m:=x.a) (n:=0) (x:=(.tmp 12)) (y:=(.const (iv 0))) (by simpa using h2))) (tR 18 [] λA _ _=>tB f (3-2) (by omega) [true] ⟨2,rfl,rfl,rfl,rfl,by omega⟩ (λF=>trivial))
    .refine tR 15 [0] λD _ _=>tV 3 (.bool true) (λF C=>(FO (t:=3) (m:=x.a) (n:=0) (x:=(.tmp 12)) (y:=(.const (iv 0))) (by simpa using h2))) (tR 4 [0] λE _ _=>tV 8 (pt (0) (4*x.k.toNat)) (λF C=>(Il g)) (tR 2 [] λG _ _=>tV 11 (.bool true) (λF C=>(BX underlying4 rfl ((o.ab (CgQ.ab C)).at g (j:=1) (by decide) (show Hl x.k=true from h1)))) (tR 10 [] λH _ _=>tB f (3-2) (by omega) [true] ⟨2,rfl,rfl,rfl,rfl,by omega⟩ (λF=>trivial))))
   .have h2:x.a=0:=h.a0 (by simpa using h1);refine tR 15 [0] λI _ _=>tV 3 (.bool false) (λF C=>(FO (t:=3) (m:=x.a) (n:=0) (x:=(.tmp 12)) (y:=(.const (iv 0))) (by simpa using h2))) (tR 18 [] λK _ _=>tB f (3-2) (by omega) [true] ⟨2,rfl,rfl,rfl,rfl,by omega⟩ (λF=>trivial))
  .by_cases h1:Hm x.k=true
   .by_cases h2:x.p=0
    .refine tR 15 [0] λL _ _=>tV 3 (.bool false) (λF C=>(FO (t:=3) (m:=x.p) (n:=0) (x:=(.tmp 12)) (y:=(.const (iv 0))) (by simpa using h2))) (tR 18 [] λM _ _=>tB f (3-3) (by omega) [true] ⟨3,rfl,rfl,rfl,rfl,by omega⟩ (λF=>trivial))
    .refine tR 15 [0] λN _ _=>tV 3 (.bool true) (λF C=>(FO (t:=3) (m:=x.p) (n:=0) (x:=(.tmp 12)) (y:=(.const (iv 0))) (by simpa using h2))) (tR 4 [0] λO _ _=>tV 8 (pt (0) (4*x.k.toNat)) (λF C=>(Il g)) (tR 2 [] λP _ _=>tV 11 (.bool true) (λF C=>(BX underlying4 rfl ((o.ab (CgQ.ab C)).at g (j:=2) (by decide) (show Hm x.k=true from h1)))) (tR 10 [] λQ _ _=>tB f (3-3) (by omega) [true] ⟨3,rfl,rfl,rfl,rfl,by omega⟩ (λF=>trivial))))
   .have h2:x.p=0:=h.p0 (by simpa using h1);refine tR 15 [0] λR _ _=>tV 3 (.bool false) (λF C=>(FO (t:=3) (m:=x.p) (n:=0) (x:=(.tmp 12)) (y:=(.const (iv 0))) (by simpa using h2))) (tR 18 [] λS _ _=>tB f (3-3) (by omega) [true] ⟨3,rfl,rfl,rfl,rfl,by omega⟩ (λF=>trivial))
 .refine tI ((decide ((j:Int)<3))) false (D' (by omega)) (tR 6 [0] λT _ _=>?_);by_cases Z:y.n=0
  .refine tV 3 (.bool true) (λF C=>(EF (t:=3) (m:=(y.n:Int)) (n:=0) (x:=(.tmp 27)) (y:=(.const (iv 0))) (by simp;omega))) (tR 7 [] λU _ _=>tE (.bool true) λ_ B=>⟨rfl,B⟩)
  .refine tV 3 (.bool false) (λF C=>(EF (t:=3) (m:=(y.n:Int)) (n:=0) (x:=(.tmp 27)) (y:=(.const (iv 0))) (by simp;omega))) (tR 3 [0] λV _ _=>tC1 7 (λF C=>Xy (k:=x.k)) λ_=>tR 3 [] λW _ _=>?_);have l:x.k=1:=kP λe=>Z (by rw[hy,h.d0 e];rfl);exact tE (.bool (x.k==1)) λ_ B=>⟨by rw[l];rfl,B⟩
theorem QN{x:Lac}(h:LacOk x)(b:y.n=x.d.length)(f:LWTab w)(c:LBTab w):Calls prog 12 #[.agg #[iv x.k,iv x.n,iv x.a,iv x.p,S3.v y]] w λe w'=>e=.returned (iv 0)/\Bw w w':=by
 have o:=h.d;refine tIn [] func12 trivial (tR 10 [0,0,0] λg _ _=>tC1 2 (λF C=>X4 h.k) λ_=>tR 8 [0] λi _ _=>tC1 1 (λF C=>eX h b (f.ab (CgQ.ab C)) (c.ab (CgQ.ab C))) λ_=>tR 12 [0] λj _ _=>tI ((decide (2000<(y.n:Int)))) false (D' (by omega)) (tR 5 [0] λl _ _=>tC1 1 (λF C=>am h b (f.ab (CgQ.ab C)) (c.ab (CgQ.ab C))) λ_=>tR 8 [] λm _ _=>tE (iv 0) λ_ B=>⟨rfl,B⟩))
def laV(x:Lac)(y:Value):List Value:=[.int .i64 x.k,.int .i64 x.n,.int .i64 x.a,.int .i64 x.p,y]
def zLa:Value:=.agg #[.int .i64 0,.int .i64 0,.int .i64 0,.int .i64 0,.slice none 0 0]
def jw:Lac:=⟨0,0,0,0,[]⟩
structure Sk(w:World)(x:Value)(F:Nat->Lac)(n:Nat):Prop where
 ex:∃ a cap,x=.slice a n cap/\(n=0\/∃ b off,a=some ⟨b,off,none⟩/\b<w.heap.size/\∀ i,i<n->∃ y,w.rangeAt b (off+5*i) (laV (F i) y)/\Sl w y (F i).d)
 len:n<=2513169434916
theorem Sk.ab{x:Value}{n:Nat}(h:Sk w x F n)(e:Bw w w'):Sk w' x F n:=by
 obtain⟨⟨a,c,rfl,d⟩,f⟩:=h;refine⟨⟨a,c,rfl,?_⟩,f⟩;rcases d with d|⟨b,off,ha,hbs,hcell⟩
 .exact .inl d
 .refine .inr ⟨b,off,ha,Y' hbs e.size,λi l=>?_⟩;obtain⟨y,g,k⟩:=hcell i l;exact⟨y,λj u m=>(e.cell (p:=⟨b,off+5*i+j,none⟩) hbs).trans (g j u m),k.ab e⟩
theorem Sk.shape{x:Value}{n:Nat}(h:Sk w x F n):∃ a cap,x=.slice a n cap:=by
 obtain⟨⟨a,cap,e,_⟩,_⟩:=h;exact⟨a,cap,e⟩
theorem Sk.spot{a:Option Addr}{n c:Nat}(h:Sk w (.slice a n c) F n)(i:Nat)(j:i<n):∃ b off xa xm xp,a=some ⟨b,off,none⟩/\b<w.heap.size/\w.rangeAt b (off+5*i) (laV (F i) (.slice xa xm xp))/\Sl w (.slice xa xm xp) (F i).d:=by
 obtain⟨⟨k,f,e,g⟩,_⟩:=h;simp only[Value.slice.injEq]at e;obtain⟨rfl,_,rfl⟩:=e;rcases g with rfl|⟨b,off,rfl,hb,hcell⟩
 .omega
 .obtain⟨y,h3,h4⟩:=hcell i j;obtain⟨xa,xp,rfl⟩:=h4.oc;exact⟨b,off,xa,_,xp,rfl,hb,h3,h4⟩
def laF(l:List Lac):Nat->Lac:=λi=>l.getD i jw
theorem Ol{l:List Lac}(h:i<l.length):laF l i=l[i]:=by simp[laF,List.getD,List.getElem?_eq_getElem h]
def I6(F:Nat->Lac)(n:Nat):List Lac:=(List.range n).map F
theorem VH(F:Nat->Lac)(n:Nat):(I6 F n).length=n:=by simp[I6]
theorem Zn{n:Nat}(h:j<n):(I6 F n).drop j=F j::(I6 F n).drop (j+1):=by
 have a:(I6 F n)[j]?=some (F j):=by simp[I6,h]
 obtain⟨b,c⟩:=U'.1 a;rw[<- c];exact kz b
def bE:Array Value:=#[iv 0,.bool false,.bool false,.bool false,.bool false,.bool false,S3.v s30,iv 0,iv 0,iv 0,iv 0,iv 0,S3.v s30]
def TR:List Tg:=.n 70 0::TM
theorem gD:Tg.z∉TR:=by simp[TR,TM,TN]
theorem gy:∀ t∈TM,t∈TR:=λt h=>O' _ h
theorem MW:gS.t b∉TR:=gD
theorem Base.self(w:World):Base w gS w:=⟨Below.refl _ _,λ_ _=>rfl⟩
theorem dD{d:Option Addr}{a n c:Nat}(f:d=some ⟨b,a,none⟩)(j:Nat)(g:j<n):(Instr.indexAt 31 (.slice d n c) (iv (j:Int))).run prog W=.ok (pt b (a+5*j)) W:=by
 subst f;exact L2 (P:=prog) (e:=55) (z:=5) underlying31 (by kernel_rfl) (by kernel_rfl) g _ rfl
theorem iD{k:Nat}{x:Lac}{y:Value}(h:W.rangeAt b k (laV x y)):(Instr.loadAt 55 (pt b k)).run prog W=.ok (.agg #[iv x.k,iv x.n,iv x.a,iv x.p,y]) W:=by
 have c:=run_loadVar_mid (P:=prog) W b k 55 (laV x y) _ h underlying55 rfl (by kernel_rfl);simp only[Instr.loadAt,Instr.sureAddr,Sem.run_bind,Sem.run_pure,Result.andThen_ok];exact c
theorem OutN.mono(h:OutN B M ly tv ys)(b:C<=B):OutN C M ly tv ys:=⟨λa e=>jG b (h.oC a e),λj d c a e=>jG b (h.log j d c a e),λc a e=>jG b (h.cF c a e)⟩
theorem cm{lv:S3}{n:Nat}(h:Sk w lv.v F n)(a9:∀ i,i<n->LacOk (F i))(f2:n<=100000)(hT:Tabs w)(tw:LWTab w)(tb:LBTab w) :
  Calls prog 8 #[lv.v] w λe w'=>Bw w w'/\∃ (ly tv:S3) (ys:Nat->S3),e=.returned (.tuple #[.agg (JU (AQ.nn (I6 F n)) ly tv),iv 0])/\OutW w' (AQ.nn (I6 F n)) ly tv ys/\OutN w.heap.size (AQ.nn (I6 F n)) ly tv ys:=by
 obtain⟨X,lq,H⟩:=lv;have f4:lq=n:=by obtain⟨a,e1,hh⟩:=h.shape;simp only[S3.v,Value.slice.injEq]at hh;exact hh.2.1
 subst lq;have f3:=h.len;obtain⟨G,E⟩:∃ G,I6 F n=G:=⟨_,rfl⟩;have f1:G.length=n:=by rw[<- E];exact VH F n
 rw[E];refine gI (fn:=f8) TR gS func8 (λ_ _=>⟨rfl,rfl⟩) (qR [] 12 [1,0] λd g1 w1 c1=>qI ((decide (100000<(n:Int)))) false (D' (by omega)) (qR [] 9 [] λh7 g3 w3 c3=>BL 40 [(0,.slice X n H),(2,pt (d 0) 0),(14,.slice X n H),(15,iv (n:Int)),(16,iv 0)] [true] [⟨(d 0),.cells bE 28,.l,false⟩] (λk g' w' e L=>∃ j:Nat,k=n-j/\j<=n/\e=[(0,.slice X n H),(2,pt (d 0) 0),(14,.slice X n H),(15,iv (n:Int)),(16,iv (j:Int))]/\L=[⟨(d 0),.cells bE 28,.l,false⟩]/\Cg w.heap.size TR gS w g' w') (by kernel_rfl) (by kernel_rfl) (by kernel_rfl) (by kernel_rfl) n (λK=>?_) ?_))
 .exact⟨0,rfl,j' _,rfl,rfl,((c1.nil TR).n c3)⟩
 .rintro k gr wr _ zr _ ⟨j,rfl,hj,rfl,rfl,hC⟩ J hJ;refine qR [] 5 [] λh8 g4 w4 c4=>?_;by_cases h0:j<n
  .refine qI ((decide ((j:Int)<(n:Int)))) true (I' (by omega)) (qR [] 5 [] λh9 g5 w5 c5=>?_);obtain⟨b,r,I,M,N,R,Q,S,U⟩:=h.spot j h0;refine qV 0 (pt b (r+5*j)) (dD R (n:=n) (c:=H) j h0) (qV 1 (.agg #[iv (F j).k,iv (F j).n,iv (F j).a,iv (F j).p,.slice I M N]) (iD (x:=F j) (y:=.slice I M N) (λq u W=>(((Cg.ab (((hC).n c4).n c5) (λ_ _=>MW))).cell (p:=⟨b,r+5*j+q,none⟩) Q).trans (S q u W))) (qR [] 6 [0,0,1,0,1] λi0 g7 w7 c7=>?_));have a1:=(Cg.ab ((((hC).n c4).n c5).n c7) (λ_ _=>MW));refine qC 1 (QN (x:=F j) (y:=⟨I,M,N⟩) (a9 j h0) (IY (x:=⟨I,M,N⟩) U) (tw.ab a1) (tb.ab a1)) ?_;rintro e' w8 ⟨rfl,b8⟩;refine⟨_,rfl,b8,?_⟩;have c8:=Cg.bu (B:=w.heap.size) (T:=[]) (g:=g7) b8;refine qR [] 7 [] λi1 g9 w9 c9=>qR [] 4 [] λd0 e2 f7 b2=>qV 0 (iv ((j:Int)+1)) (AR 16 (j:Int) underlying3 (by omega)) (qR [] 2 [] λd1 e3 f8 b3=>qB [true,false] λz K0 K=>hJ (n-(j+1)) _ _ _ z _ (by omega) ⟨j+1,rfl,by omega,rfl,rfl,((((((((hC).n c4).n c5).n c7).n c8).n c9).n b2).n b3)⟩ K)
  .refine qI ((decide ((j:Int)<(n:Int)))) false (D' (by omega)) ?_;obtain rfl:j=n:=by omega
   refine qR [] 3 [] λd2 e4 f9 b4=>Ae λK=>qG 0 [.n 70 0] [true] (Ln K.new) ?_;rintro e' g0 ⟨mb,V,ob,nb,b6,rfl,a6,s⟩;refine⟨_,b6,rfl,s,a6.new,?_⟩;replace s:=s.ret (B:=w.heap.size);refine qR [] 10 [] λd3 e5 g2 a2=>BL 40 [(2,pt (d 0) 0),(7,pt mb 0),(28,.slice X j H),(29,iv (j:Int)),(30,iv 0)] [true] [⟨(d 0),.cells bE 28,.l,false⟩] (λk g' w' e L=>∃ (i:Nat) (A:Meet),k=j-i/\i<=j/\e=[(2,pt (d 0) 0),(7,pt mb 0),(28,.slice X j H),(29,iv (j:Int)),(30,iv (i:Int))]/\L=[⟨(d 0),.cells bE 28,.l,false⟩]/\MS mb V ob nb g' w' A/\(G.drop i).foldl Meet.act A=AQ.nn G/\MOk i A/\Cg w.heap.size TR gS w g' w') (by kernel_rfl) (by kernel_rfl) (by kernel_rfl) (by kernel_rfl) j (λK=>?_) ?_
   .exact⟨0,AQ,rfl,j' _,rfl,rfl,(a6.nW a2 K.new),rfl,MOk.zero,(((((hC).n c4).n b4).trans (s.mono (by simp[TR]))).n a2)⟩
   .rintro k gq wq _ zq _ ⟨i,A,rfl,hi,rfl,rfl,hM,hI2,hA,hC2⟩ J2 hJ2;refine qR [] 5 [] λd4 e6 g6 m=>?_;by_cases h3:i<j
    .refine qI ((decide ((i:Int)<(j:Int)))) true (I' (by omega)) ?_;rw[<- E,Zn h3,E,nM]at hI2
     have a8:LacOk (F i):=a9 i h3;refine qR [] 5 [] λd5 e7 g8 o=>?_;obtain⟨b,r,I,M,N,R,Q,S,U⟩:=h.spot i h3;refine qV 0 (pt b (r+5*i)) (dD R (n:=j) (c:=H) i h3) (qV 1 (.agg #[iv (F i).k,iv (F i).n,iv (F i).a,iv (F i).p,.slice I M N]) (iD (x:=F i) (y:=.slice I M N) (λq u W=>(((Cg.ab (((hC2).n m).n o) (λ_ _=>MW))).cell (p:=⟨b,r+5*i+q,none⟩) Q).trans (S q u W))) (qR [] 6 [0,0,1,0,1] λd6 b7 c6 C=>Ae λK=>?_));have NM:MS mb V ob nb b7 c6 A:=(hM.nW ((m.trans o).trans C) K.new);have b1:=(Cg.ab ((((hC2).n m).n o).n C) (λ_ _=>MW));refine qG 2 TM [true,true] (eK NM ((Base.self w).ch ((((hC2).n m).n o).n C) gD) hT (F i) ⟨I,M,N⟩ (U.ab b1) a8 hA (by omega)) ?_;rintro e' h1 ⟨b9,rfl,Y,D⟩;refine⟨_,b9,rfl,D,Y.new,?_⟩;replace D:=D.ret (B:=w.heap.size);refine qR [] 3 [] λd7 e8 h2 a3=>qV 0 (iv ((i:Int)+1)) (AR 30 (i:Int) underlying3 (by omega)) (qR [] 2 [] λd8 e9 h4 a4=>qB [true,false] λz K0 K=>hJ2 (j-(i+1)) _ _ _ z _ (by omega) ⟨i+1,A.act (F i),rfl,by omega,rfl,rfl,(Y.nW (a3.trans a4) K0.new),hI2,hA.act (by omega) a8,(((((((hC2).n m).n o).n C).trans (D.mono gy)).n a3).n a4)⟩ K)
    .refine qI ((decide ((i:Int)<(j:Int)))) false (D' (by omega)) ?_;obtain rfl:i=j:=by omega
     rw[kD (by omega)]at hI2
     replace hI2:A=AQ.nn G:=hI2;subst hI2;refine qR [] 4 [] λd9 P b0 O=>Ae λK=>?_;have NM:MS mb V ob nb P b0 (AQ.nn G):=(hM.nW (m.trans O) K.new);have f6:=hA.wt;have f5:=hA.cF;have c0:∀ b,b0.heap.size<=b->P.t b=.z:=λb hb=>(K.new b hb).1;have a0:=(Cg.ab (((hC2).n m).n O) (λ_ _=>MW));refine qC 1 (PS NM (λq W=>⟨(hA.af q W).dn,(hA.af q W).ag⟩) (by omega) (by omega)) ?_;rintro e' h5 ⟨ly,tv,ys,rfl,c2,a7,Z⟩;refine⟨_,rfl,Z,?_⟩;have b5:=Cg.bu (B:=w.heap.size) (T:=[]) (g:=P) Z;refine qR [] 3 [0,0] λe0 f0 h6 a5=>qE2 2 3 28 0 (d 0) (JU (AQ.nn G) ly tv) (iv 0) λK=>⟨(Cg.ab (((((hC2).n m).n O).n b5).n a5) (λ_ _=>MW)),ly,tv,ys,rfl,(c2.ch a7 c0 a5),a7.mono a0.size⟩
theorem tbA(h:Tabs w0)(C:Cg w0.heap.size TQ gS w0 g w):Tabs w:=⟨h.t.ab (CgQ.ab C),h.n.ab (CgQ.ab C),h.q.ab h.q.pos (CgQ.ab C)⟩
def Q9(w:World):Prop:=Tabs w/\LWTab w/\LBTab w
theorem tb5(h:Q9 w0)(C:Cg w0.heap.size TQ gS w0 g w):Q9 w:=⟨tbA h.1 C,h.2.1.ab (CgQ.ab C),h.2.2.ab (CgQ.ab C)⟩
theorem Km{f:α->List Value}(d:∀ a,(f a).length=sz)(l:List α){i j:Nat}{a:α}{u:Value}(b:l[i]?=some a)(e:(f a)[j]?=some u):(l.flatMap f)[sz*i+j]?=some u:=by
 have g:j<sz:=by rw[<- d a];exact(U'.1 e).1
 induction l generalizing i with
 | nil=>cases b
 | cons c l ih =>
  rw[lT];cases i with
  | zero =>
   simp only[kY,V']at b;subst b;rw[jO (by rw[d];omega),Nat.mul_zero,kl];exact e
  | succ i =>
   rw[jP (by rw[d,Nat.mul_succ];omega),d,show sz*(i+1)+j-sz=sz*i+j by rw[Nat.mul_succ];omega];exact ih (by simpa using b)
theorem E9{f:α->List Value}(b:∀ a,(f a).length=sz)(l:List α):(l.flatMap f).length=l.length*sz:=by
 induction l with
 | nil=>simp
 | cons c l ih=>rw[lT,M',b,ih,ke,mJ];omega
theorem gV{l:List Cmd}(h:RdV w x 5 (cmL l)):x.n=l.length:=h.rc.len
def grV(g:Gr):List Value:=[iv g.k,iv g.a,iv g.b,iv g.c,iv g.d]
def grL(l:List Gr):List Value:=l.flatMap grV
structure GrOk(g:Gr):Prop where
 k:I64 g.k
 a:I64 g.a
 b:I64 g.b
 c:I64 g.c
 d:I64 g.d
def acV(l:List (Lac × S3)):List Value:=l.flatMap λp=>laV p.1 p.2.v
theorem E3(l:List (Lac × S3))(x:Lac)(y:S3):acV (l++[(x,y)])=acV l++laV x y.v:=by simp[acV]
theorem SI(l:List (Lac × S3)):(acV l).length=l.length*5:=E9 (f:=λp:Lac × S3=>laV p.1 p.2.v) (λ_=>rfl) l
theorem Zk(l:List (Lac × S3)):∀ u∈acV l,u.oneCell'=true:=by
 intro u b;obtain⟨p,_,a⟩:=mp.1 b;simp[laV]at a
 rcases a with rfl|rfl|rfl|rfl|rfl<;>rfl
def Dat(g:Gh)(w:World)(l:List (Lac × S3)):Prop:=∀ p∈l,FSl g w p.2 p.1.d
theorem Dat.ch(h:Dat g w l)(c:Cg B T g w g' w')(b:Tg.z∉T:=by simp):Dat g' w' l:=λp a=>(h p a).ch c b
theorem Dat.snoc(h:Dat g w l){x:Lac}{y:S3}(k:FSl g w y x.d):Dat g w (l++[(x,y)]):=λp a=>(Q'.1 a).elim (h p) λe=>by rw[G'.1 e];exact k
theorem Dat.app{m:List (Lac × S3)}(h:Dat g w l)(k:Dat g w m):Dat g w (l++m):=λp a=>(Q'.1 a).elim (h p) (k p)
def Fa.ac(x:S3)(l:List (Lac × S3)):Fa:=⟨none,λg w=>FzV g w x 5 (acV l)/\Dat g w l,λhz _ c h=>⟨h.1.ch c hz,h.2.ch c hz⟩⟩
def Fa.oa(r:Nat)(x:S3)(l:List (Lac × S3)):Fa:=⟨some r,λg w=>OwnS g w (.n 60 r) true 55 5 x (acV l)/\Dat g w l,λhz hr c h=>⟨h.1.ch c (hr r rfl) (by simp),h.2.ch c hz⟩⟩
def Fa.dt(l:List (Lac × S3)):Fa:=⟨none,λg w=>Dat g w l,λhz _ c h=>h.ch c hz⟩
structure AcR(w:World)(x:S3)(L:List Lac)(l:List (Lac × S3)):Prop where
 e:l.map (·.1)=L
 r:RdV w x 5 (acV l)
 d:∀ p∈l,Sl w p.2.v p.1.d
theorem AcR.of(h:(Fa.ac x l).p g w){L:List Lac}(e:l.map (·.1)=L):AcR w x L l:=⟨e,h.1.rd,λp a=>(h.2 p a).s⟩
theorem AcR.n(h:AcR w x L l):x.n=L.length:=by
 have:=h.r.len;rw[SI]at this
 rw[<- h.e,ka];omega
theorem AcR.sk(h:AcR w x L l)(q:L.length<=1000000):Sk w x.v (laF L) L.length:=by
 have o:=h.n;refine⟨⟨x.a,x.c,by rw[<- o],?_⟩,by omega⟩;rcases h.r.ex with h1|⟨b,off,h1,h2,h3⟩
 .exact .inl (by omega)
 .refine .inr ⟨b,off,h1,h2,λi k=>?_⟩;have g:i<l.length:=by rw[<- h.e,ka]at k;exact k
  refine⟨l[i].2.v,λj u m=>?_,?_⟩
  .rw[kM];refine h3 _ u (Km (f:=λp:Lac × S3=>laV p.1 p.2.v) (λ_=>rfl) l (E' g) ?_);have:laF L i=l[i].1:=by rw[Ol k];simp[<- h.e]
   rw[this]at m;exact m
  .have:laF L i=l[i].1:=by rw[Ol k];simp[<- h.e]
   rw[this];exact h.d _ (km g)
structure AcN(B:Nat)(w:World)(x:S3)(l:List (Lac × S3)):Prop where
 o:OwN B w 55 5 x (acV l)
 d:∀ p∈l,Sl w p.2.v p.1.d/\Nb B p.2 p.1.d
 ne:∀ p∈l,p.1.d≠[]->∀ a b,p.2.a=some a->x.a=some b->a.block≠b.block
theorem AcN.ac(h:AcN B w x l)(G:∀ b,B<=b->g.t b=.z):(Fa.ac x l).p g w:=⟨h.o.fz G,λp a=>Lm (h.d p a).1 (h.d p a).2 G⟩
theorem AcN.of{r:Nat}(h:(Fa.oa r x l).p g w)(C:Cg w0.heap.size TQ gS w0 g w)(n:∀ p∈l,Nb w0.heap.size p.2 p.1.d):AcN w0.heap.size w x l :=
 ⟨h.1.own C,λp i=>⟨(h.2 p i).s,n p i⟩,λp i m a b k f e=>by
  have j:=(h.2 p i).z m a k;rcases h.1.ex with⟨k1,_⟩|⟨c,cur,k1,_,_,_,_,_,k7,_⟩
  .rw[k1]at f;cases f
  .rw[k1]at f;cases f
   rw[e,k7]at j;cases j⟩
theorem VG(L:List Lac):I6 (laF L) L.length=L:=by
 apply mo
 .simp[I6]
 .intro i h1 h2;simp[I6,Ol h2]
def Meet.log(M:Meet)(j:Nat):List Cmd:=(M.af j).ae.take (M.af j).done
structure OutF(g:Gh)(w:World)(ly tv:S3)(ys:Nat->S3)(M:Meet):Prop where
 oC:FzV g w ly 1 [S3.v (ys 0),S3.v (ys 1),S3.v (ys 2),S3.v (ys 3),S3.v (ys 4)]
 log:∀ j,j<5->FzV g w (ys j) 5 (cmL (M.log j))
 cF:FzV g w tv 5 (M.cF.flatMap FV)
theorem OutF.ch(h:OutF g w ly tv ys M)(c:Cg B T g w g' w')(a:Tg.z∉T:=by simp):OutF g' w' ly tv ys M:=⟨h.oC.ch c a,λj b=>(h.log j b).ch c a,h.cF.ch c a⟩
def Fa.ot(ly tv:S3)(ys:Nat->S3)(M:Meet):Fa:=⟨none,λg w=>OutF g w ly tv ys M,λhz _ c h=>h.ch c hz⟩
theorem Tr(h:OutW w M ly tv ys)(n:OutN B M ly tv ys)(G:∀ b,B<=b->g.t b=.z):OutF g w ly tv ys M :=
 ⟨⟨h.oC,λ_ a c=>G _ (n.oC a c)⟩,λj e=>⟨(h.log j e).rv,λd a c=>G _ (n.log j e d a c)⟩,⟨h.cF,λd a c=>G _ (n.cF d a c)⟩⟩
theorem OutW.n5(h:OutW w M ly tv ys):ly.n=5:=by have:=h.oC.len;simp at this;omega
end
end Go.Proofs.YthohlalejhgbmaaGreatDoor
