/- Part 19 of the walk. -/
import Derived.Test.YtdjfdfpkkenjbabGreatDoorZ18
import Derived.Test.YtdjfdfpkkenjbabGreatDoorZ7
set_option maxRecDepth 100000
set_option maxHeartbeats 4000000
open Go.Proofs.Tryz
set_option linter.unusedVariables false
namespace Go.Proofs.YtdjfdfpkkenjbabGreatDoor
section
open Go.RowKit
section
theorem QG(p:Nod)(b:Bal):(p.bn b).1.ae=p.ae:=by
 unfold Nod.bn;repeat' split
 all_goals rfl
variable{B b i j ob sz:Nat}{F:Nat->Lac}{L:List Lac}{M:Meet}{T:List Tg}{W w w' w0:World}{g g':Gh}{l:List (Lac × S3)}{ly tv x:S3}{ys:Nat->S3}{α:Type}
theorem YT{b:Nat}{p:Nod}{U:List Let}{V:List Tol}(h:NS i b ob g w p U V){w0:World}(hB:Base w0 g w)(hT:Tabs w0)(hb:p.br.length<100000000)(hr:p.cl<1000000000000)(b3:-1000000000000<p.cl)(hv:p.vo.p.r<1000000000000) :
  Calls prog 51 #[pt b 0] w (NP i b ob g w (.tuple #[]) (if p.up then p.lead i else p) U V):=by
 obtain⟨x,lt,tl,Z,hO,hg⟩:=h;refine gI (fn:=f51) (TN i) g func51 hg (qN Z (qO hO (qR [] 13 [0,0,2,0] λo g1 w1 c1=>?_)));by_cases T:p.up=true
 .refine qI ((!p.up)) false (by simpa using T) ?_;rw[if_pos T];refine qR [] 15 [21,0,2,2,4,6,8,0,10,2,12,14,16,18,20,22,0] λs2 g2 w2 R=>qT 12 (iv (max p.cl p.vo.p.r)) (λ_=>(kY #[3,3] 3 p.cl p.vo.p.r)) (qT 13 (iv ((max p.cl p.vo.p.r)+1)) (λ_=>(AZ 23 (max p.cl p.vo.p.r) underlying3 (by omega))) (qR [] 12 [28,2,30,32,34,0,36,39,0,0,41,3,0,2,3] λq g4 w4 S=>Ad λK=>?_));have N5:NS i b ob g4 w4 p U V:=(nsC Z hO ((c1.n R).n S) K);refine qG 2 (TN i) [false,false,true,true] (Fp N5 (hB.ch (((c1.nil (TN i)).n R).n S) (Bg i)) hT (⟨(max p.cl p.vo.p.r)+1,(i:Int)⟩:Bal)) ?_;rintro e' w5 ⟨y,g5,rfl,a0,M5,L⟩;refine⟨_,g5,rfl,L,M5.new,?_⟩;replace L:=L.ret (B:=w.heap.size);obtain⟨d,j,m,a,I,b2⟩:=M5;refine qN a (qO I (qR [] 13 [0,0,4,0] λs g7 w7 M=>?_));by_cases N:(p.bn (⟨(max p.cl p.vo.p.r)+1,(i:Int)⟩:Bal)).2.2≠0
  .refine qI (((p.bn (⟨(max p.cl p.vo.p.r)+1,(i:Int)⟩:Bal)).2.2 != 0)) true (by simpa using N) (qE (.tuple #[]) λK=>?_);rw[show p.lead i=(p.bn (⟨(max p.cl p.vo.p.r)+1,(i:Int)⟩:Bal)).1 from by rw[LY N];exact if_pos N];exact⟨_,rfl,(nsC a I M K),(((((c1.nil (TN i)).n R).n S).trans (L)).n M)⟩
  .refine qI (((p.bn (⟨(max p.cl p.vo.p.r)+1,(i:Int)⟩:Bal)).2.2 != 0)) false (by simpa using N) (qR [.n 0 i] 17 [0,1,2,1] λb4 a4 c6 A=>fT 5 64 [(1,pt (o 0) 0),(2,pt (q 0) 0),(3,pt (s 0) 0),(44,iv 0)] [true,true,true,true,true] [⟨(o 0),.cells #[pt b 0] 118,.z,false⟩,⟨(q 0),.cells #[iv ((max p.cl p.vo.p.r)+1),iv (i:Int)] 123,.z,false⟩,⟨b,.cells (Az i ob ({ (p.bn (⟨(max p.cl p.vo.p.r)+1,(i:Int)⟩:Bal)).1 with bt:=⟨(⟨(max p.cl p.vo.p.r)+1,(i:Int)⟩:Bal),λ_=>false,λ_=>E9,λk=>if k<0 then d.ae.n else 0,0,[]⟩ }) ({ d with hv:=λ_=>s30,cn:=s30 })) 145,.n 0 i,false⟩,⟨ob,.cells #[S3.v j,S3.v m] 115,.n 50 0,false⟩,⟨(s 0),.cells #[S3.v y] 124,.z,false⟩] (by kernel_rfl) (by kernel_rfl) (by kernel_rfl) (by kernel_rfl) λt c z=>qR [.n 0 i] 35 [13,0,0,2,4,0,6,8,10,12,2,14,16,18,20,22,24,27,2,1] λb5 a5 c8 C=>Ee (t 5) 64 [(1,pt (o 0) 0),(2,pt (q 0) 0),(3,pt (s 0) 0),(44,iv 1)] [true,true,true,true,true] [⟨(o 0),.cells #[pt b 0] 118,.z,false⟩,⟨(q 0),.cells #[iv ((max p.cl p.vo.p.r)+1),iv (i:Int)] 123,.z,false⟩,⟨b,.cells (Az i ob ({ (p.bn (⟨(max p.cl p.vo.p.r)+1,(i:Int)⟩:Bal)).1 with bt:=⟨(⟨(max p.cl p.vo.p.r)+1,(i:Int)⟩:Bal),λ_=>false,λ_=>E9,λk=>if k<1 then d.ae.n else 0,0,[]⟩ }) ({ d with hv:=λ_=>s30,cn:=s30 })) 145,.n 0 i,false⟩,⟨ob,.cells #[S3.v j,S3.v m] 115,.n 50 0,false⟩,⟨(s 0),.cells #[S3.v y] 124,.z,false⟩] (by kernel_rfl) (by kernel_rfl) (by kernel_rfl) (by kernel_rfl) (by kernel_rfl) λz Q K=>c 4 _ _ _ _ _ ?_ K);refine qR [.n 0 i] 35 [13,0,0,2,4,0,6,8,10,12,2,14,16,18,20,22,24,27,2,1] λb6 a6 c9 D=>Ee (t 4) 64 [(1,pt (o 0) 0),(2,pt (q 0) 0),(3,pt (s 0) 0),(44,iv 2)] [true,true,true,true,true] [⟨(o 0),.cells #[pt b 0] 118,.z,false⟩,⟨(q 0),.cells #[iv ((max p.cl p.vo.p.r)+1),iv (i:Int)] 123,.z,false⟩,⟨b,.cells (Az i ob ({ (p.bn (⟨(max p.cl p.vo.p.r)+1,(i:Int)⟩:Bal)).1 with bt:=⟨(⟨(max p.cl p.vo.p.r)+1,(i:Int)⟩:Bal),λ_=>false,λ_=>E9,λk=>if k<2 then d.ae.n else 0,0,[]⟩ }) ({ d with hv:=λ_=>s30,cn:=s30 })) 145,.n 0 i,false⟩,⟨ob,.cells #[S3.v j,S3.v m] 115,.n 50 0,false⟩,⟨(s 0),.cells #[S3.v y] 124,.z,false⟩] (by kernel_rfl) (by kernel_rfl) (by kernel_rfl) (by kernel_rfl) (by kernel_rfl) λz Q K=>c 3 _ _ _ _ _ ?_ K;refine qR [.n 0 i] 35 [13,0,0,2,4,0,6,8,10,12,2,14,16,18,20,22,24,27,2,1] λb7 a7 d0 E=>Ee (t 3) 64 [(1,pt (o 0) 0),(2,pt (q 0) 0),(3,pt (s 0) 0),(44,iv 3)] [true,true,true,true,true] [⟨(o 0),.cells #[pt b 0] 118,.z,false⟩,⟨(q 0),.cells #[iv ((max p.cl p.vo.p.r)+1),iv (i:Int)] 123,.z,false⟩,⟨b,.cells (Az i ob ({ (p.bn (⟨(max p.cl p.vo.p.r)+1,(i:Int)⟩:Bal)).1 with bt:=⟨(⟨(max p.cl p.vo.p.r)+1,(i:Int)⟩:Bal),λ_=>false,λ_=>E9,λk=>if k<3 then d.ae.n else 0,0,[]⟩ }) ({ d with hv:=λ_=>s30,cn:=s30 })) 145,.n 0 i,false⟩,⟨ob,.cells #[S3.v j,S3.v m] 115,.n 50 0,false⟩,⟨(s 0),.cells #[S3.v y] 124,.z,false⟩] (by kernel_rfl) (by kernel_rfl) (by kernel_rfl) (by kernel_rfl) (by kernel_rfl) λz Q K=>c 2 _ _ _ _ _ ?_ K;refine qR [.n 0 i] 35 [13,0,0,2,4,0,6,8,10,12,2,14,16,18,20,22,24,27,2,1] λb8 a8 d1 F=>Ee (t 2) 64 [(1,pt (o 0) 0),(2,pt (q 0) 0),(3,pt (s 0) 0),(44,iv 4)] [true,true,true,true,true] [⟨(o 0),.cells #[pt b 0] 118,.z,false⟩,⟨(q 0),.cells #[iv ((max p.cl p.vo.p.r)+1),iv (i:Int)] 123,.z,false⟩,⟨b,.cells (Az i ob ({ (p.bn (⟨(max p.cl p.vo.p.r)+1,(i:Int)⟩:Bal)).1 with bt:=⟨(⟨(max p.cl p.vo.p.r)+1,(i:Int)⟩:Bal),λ_=>false,λ_=>E9,λk=>if k<4 then d.ae.n else 0,0,[]⟩ }) ({ d with hv:=λ_=>s30,cn:=s30 })) 145,.n 0 i,false⟩,⟨ob,.cells #[S3.v j,S3.v m] 115,.n 50 0,false⟩,⟨(s 0),.cells #[S3.v y] 124,.z,false⟩] (by kernel_rfl) (by kernel_rfl) (by kernel_rfl) (by kernel_rfl) (by kernel_rfl) λz Q K=>c 1 _ _ _ _ _ ?_ K;refine qR [.n 0 i] 35 [13,0,0,2,4,0,6,8,10,12,2,14,16,18,20,22,24,27,2,1] λb9 a9 d2 G=>Ee (t 1) 64 [(1,pt (o 0) 0),(2,pt (q 0) 0),(3,pt (s 0) 0),(44,iv 5)] [true,true,true,true,true] [⟨(o 0),.cells #[pt b 0] 118,.z,false⟩,⟨(q 0),.cells #[iv ((max p.cl p.vo.p.r)+1),iv (i:Int)] 123,.z,false⟩,⟨b,.cells (Az i ob ({ (p.bn (⟨(max p.cl p.vo.p.r)+1,(i:Int)⟩:Bal)).1 with bt:=⟨(⟨(max p.cl p.vo.p.r)+1,(i:Int)⟩:Bal),λ_=>false,λ_=>E9,λk=>if k<5 then d.ae.n else 0,0,[]⟩ }) ({ d with hv:=λ_=>s30,cn:=s30 })) 145,.n 0 i,false⟩,⟨ob,.cells #[S3.v j,S3.v m] 115,.n 50 0,false⟩,⟨(s 0),.cells #[S3.v y] 124,.z,false⟩] (by kernel_rfl) (by kernel_rfl) (by kernel_rfl) (by kernel_rfl) (by kernel_rfl) λz Q K=>c 0 _ _ _ _ _ ?_ K;refine qR [] 10 [0] λc0 Y a1 H=>?_;have hn:d.ae.n=p.ae.length:=by have:=a.ae.num;rw[QG]at this;exact this
   rw[show p.lead i=Nod.wait { (p.bn (⟨(max p.cl p.vo.p.r)+1,(i:Int)⟩:Bal)).1 with bt:=⟨(⟨(max p.cl p.vo.p.r)+1,(i:Int)⟩:Bal),λ_=>false,λ_=>E9,λ_=>d.ae.n,0,[]⟩ } (.began (⟨(max p.cl p.vo.p.r)+1,(i:Int)⟩:Bal) (p.bn (⟨(max p.cl p.vo.p.r)+1,(i:Int)⟩:Bal)).2.1)from by rw[hn];exact if_neg N];refine Ad λK=>?_;obtain⟨z1,z2⟩:=K.rG 0 (o 0) (.cells #[pt b 0] 118) false (by kernel_rfl);obtain⟨z3,z4⟩:=K.rG 1 (q 0) (.cells #[iv (⟨(max p.cl p.vo.p.r)+1,(i:Int)⟩:Bal).r,iv (⟨(max p.cl p.vo.p.r)+1,(i:Int)⟩:Bal).n] 123) false (by kernel_rfl);obtain⟨z5,z6⟩:=K.rG 4 (s 0) (.cells #[S3.v y] 124) false (by kernel_rfl);have e:=(((((((M.nil ([.n 0 i]:List Tg)).trans (A)).trans (C)).trans (D)).trans (E)).trans (F)).trans (G)).n H;have u:Tg.z∉([.n 0 i]:List Tg):=by simp
   have W:NS i b ob Y a1 ({ (p.bn (⟨(max p.cl p.vo.p.r)+1,(i:Int)⟩:Bal)).1 with bt:=⟨(⟨(max p.cl p.vo.p.r)+1,(i:Int)⟩:Bal),λ_=>false,λ_=>E9,λ_=>d.ae.n,0,[]⟩ }) U V:=⟨{ d with hv:=λ_=>s30,cn:=s30 },j,m,K.nd 2 (a.tape.ch e u) (a.eA.ch e u) (λ_ _=>⟨Sv.nil _,λh=>absurd rfl h⟩) (BL a.br e u (by simp)) (OwnS.nil _ _ _ _ _ _) (a.ae.ch e) (a.af.ch e) (a.bu.ch e) a.rP,I.ch e u (by simp<;>omega),K.new⟩;refine qS0 2 [true,true,false,false,true] (AJ W (by show(p.bn (⟨(max p.cl p.vo.p.r)+1,(i:Int)⟩:Bal)).1.br.length<_;rw[I0];exact hb) _ _ (.began (⟨(max p.cl p.vo.p.r)+1,(i:Int)⟩:Bal) (p.bn (⟨(max p.cl p.vo.p.r)+1,(i:Int)⟩:Bal)).2.1) ⟨(o 0),(q 0),(s 0),y,rfl,⟨z1,z2⟩,⟨z3,z4⟩,⟨z5,z6⟩,((((((((a0.ch M).ch A).ch C).ch D).ch E).ch F).ch G).ch H)⟩) λb0 d3 d5 a2 a3 O P X=>qR [] 1 [] λc3 b1 d4 J=>qF O P J ((((((((((((((c1.nil (TN i)).n R).n S).trans (L)).n M).trans (A.mono (by simp[TN]))).trans (C.mono (by simp[TN]))).trans (D.mono (by simp[TN]))).trans (E.mono (by simp[TN]))).trans (F.mono (by simp[TN]))).trans (G.mono (by simp[TN]))).n H).trans (X)).n J)
 .refine qI ((!p.up)) true (by simpa using T) (qE (.tuple #[]) λK=>?_);rw[if_neg T];exact⟨_,rfl,(nsC Z hO c1 K),(c1.nil (TN i))⟩
theorem mr{k:Int}(h:1<=k/\k<=9):k=1\/k=2\/k=3\/k=4\/k=5\/k=6\/k=7\/k=8\/k=9:=by omega
theorem ij{e l:Nat}{i:Nat->Nat}(h:MS e l ob i g w M){w0:World}(E:Base w0 g w)(F:Tabs w0)(x:Lac)(dv:S3)(hd:Sl w dv.v x.d)(G:LacOk x){n:Nat}(C:MOk n M)(hn:n<=1000000) :
  Calls prog 34 #[pt e 0,.agg #[iv x.k,iv x.n,iv x.a,iv x.p,dv.v]] w (MP e l ob i g w (.tuple #[]) (M.act x)):=by
 obtain⟨j,b0,c⟩:∃ j:Nat,x.n=(j:Int)/\j<5:=by
  cases hu:Aw x.k with
  | true=>have:=G.n hu;exact⟨x.n.toNat,by omega,by omega⟩
  | false=>have:=G.n0 hu;exact⟨0,by omega,by omega⟩
 obtain⟨at_,a9,m⟩:∃ at_:Nat,x.a=(at_:Int)/\at_<=1048576:=by
  cases hu:AA x.k with
  | true=>have:=G.a hu;exact⟨x.a.toNat,by omega,by omega⟩
  | false=>have:=G.a0 hu;exact⟨0,by omega,by omega⟩
 have d8:0<=x.p/\x.p<=100000:=by
  cases hu:AC x.k with
  | true=>exact G.p hu
  | false=>have:=G.p0 hu;omega
 have b1:=G.k;obtain⟨k,xn,xa,p,d⟩:=x;simp only at b0 a9 d8 b1 hd ⊢;subst b0 a9;clear G;have hp:=C.ao j c;have h9:=C.wt;have h8:=C.cF;have h6:=DH (M.ao j).br;have h7:=QK M c;have i0:=lS M c;have h5:=C.bad j c;refine gI (fn:=f34) TM g func34 h.new (BS ⟨e,_,.z,false⟩ (λ_=>⟨h.box.r,h.box.z,λh=>(by cases h),λh=>absurd rfl h⟩) (by kernel_rfl) ?_);refine qR [] 11 [0,0,8,0,2,4,1,6,8] λj5 g1 w1 c1=>?_;refine PZ 5 (pt e j) false (λW hW=>(by rcases hZ c with rfl|rfl|rfl|rfl|rfl<;>kernel_rfl)) (by kernel_rfl) ?_;refine qU 6 (pt (i j) 0) (λW hW=>(BW underlying118 rfl (UG (AO.at (hW rfl) 0 e (.cells (mtA i ob l) 121) .z (by kernel_rfl)) c))) (qR [] 13 [14,1] λj6 g3 w3 b=>?_);rcases mr b1 with rfl|rfl|rfl|rfl|rfl|rfl|rfl|rfl|rfl
 .refine qR [] 5 [1] λj7 g4 w4 c4=>?_;rw[show M.act ⟨1,(j:Int),(at_:Int),p,d⟩=(M.set j ((M.ao j).rO j d M.cF).1 M.bN ((M.ao j).rO j d M.cF).2)from rfl];refine Ad λK=>?_;have N5:MS e l ob i g4 w4 M:=(h.lp ((c1.trans b).trans c4) K.new);refine qG 3 TM [true,true] ((N5).call c (WR ((N5).ns c) (E.ch (((c1.nil TM).n b).n c4) EZ) F dv d (hd.ab (Cg.ab ((c1.trans b).trans c4) (λ_ _=>O'))) hp (by omega) (by omega) (by omega) rfl rfl)) ?_;rintro D w5 ⟨g5,rfl,M5,c5⟩;refine⟨_,g5,rfl,c5,M5.new,?_⟩;replace c5:=c5.ret (B:=w.heap.size);refine qR [] 2 [] λj8 g6 w6 c6=>qE (.tuple #[]) λK=>⟨_,rfl,(M5.lp c6 K.new),(((((c1.nil TM).n b).n c4).trans (c5)).n c6)⟩
 .refine qR [] 9 [] λj9 g7 w7 c7=>?_;rw[show M.act ⟨2,(j:Int),(at_:Int),p,d⟩=(M.set j (if(M.ao j).up then(M.ao j).lead j else(M.ao j)) M.bN M.cF)from rfl];refine Ad λK=>?_;have N8:MS e l ob i g7 w7 M:=(h.lp ((c1.trans b).trans c7) K.new);refine qG 1 TM [true,true] ((N8).call c (YT ((N8).ns c) (E.ch (((c1.nil TM).n b).n c7) EZ) F (by omega) (by have:=hp.ro;omega) (by have:=hp.ro;omega) (by have:=hp.vp.sT;omega))) ?_;rintro D w8 ⟨g8,rfl,M8,c8⟩;refine⟨_,g8,rfl,c8,M8.new,?_⟩;replace c8:=c8.ret (B:=w.heap.size);refine qR [] 2 [] λk0 g9 w9 c9=>qE (.tuple #[]) λK=>⟨_,rfl,(M8.lp c9 K.new),(((((c1.nil TM).n b).n c7).trans (c8)).n c9)⟩
 .refine qR [] 15 [] λe6 b6 d9 H=>?_;rw[show M.act ⟨3,(j:Int),(at_:Int),p,d⟩=(M.set j (if(M.ao j).up then((M.ao j).piece j M.bN M.cF).1 else(M.ao j)) (if(M.ao j).up then((M.ao j).piece j M.bN M.cF).2.1 else M.bN) (if(M.ao j).up then((M.ao j).piece j M.bN M.cF).2.2 else M.cF))from rfl];refine Ad λK=>?_;have X:MS e l ob i b6 d9 M:=(h.lp ((c1.trans b).trans H) K.new);refine qG 1 TM [true,true] ((X).call c (ZB ((X).ns c) (E.ch (((c1.nil TM).n b).n H) EZ) F c hp (by omega) C.bN (by omega))) ?_;rintro D i1 ⟨b7,rfl,P,o⟩;refine⟨_,b7,rfl,o,P.new,?_⟩;replace o:=o.ret (B:=w.heap.size);refine qR [] 2 [] λe7 g0 i2 a1=>qE (.tuple #[]) λK=>⟨_,rfl,(P.lp a1 K.new),(((((c1.nil TM).n b).n H).trans (o)).n a1)⟩
 .refine qR [] 28 [1,1] λe8 b8 e0 I=>?_;rw[show M.act ⟨4,(j:Int),(at_:Int),p,d⟩=(M.move 4 at_)from rfl];refine Ad λK=>?_;have b2:MS e l ob i b8 e0 M:=(h.lp ((c1.trans b).trans I) K.new);refine qG 5 TM [true,true] (LK b2 (E.ch (((c1.nil TM).n b).n I) EZ) F 4 at_ m C hn) ?_;rintro D i3 ⟨b9,rfl,Q,q⟩;refine⟨_,b9,rfl,q,Q.new,?_⟩;replace q:=q.ret (B:=w.heap.size);refine qR [] 2 [] λe9 g2 i4 a2=>qE (.tuple #[]) λK=>⟨_,rfl,(Q.lp a2 K.new),(((((c1.nil TM).n b).n I).trans (q)).n a2)⟩
 .refine qR [] 34 [1,1] λf0 c0 e1 J=>?_;rw[show M.act ⟨5,(j:Int),(at_:Int),p,d⟩=(M.move 5 at_)from rfl];refine Ad λK=>?_;have b3:MS e l ob i c0 e1 M:=(h.lp ((c1.trans b).trans J) K.new);refine qG 5 TM [true,true] (LK b3 (E.ch (((c1.nil TM).n b).n J) EZ) F 5 at_ m C hn) ?_;rintro D i5 ⟨c2,rfl,R,s⟩;refine⟨_,c2,rfl,s,R.new,?_⟩;replace s:=s.ret (B:=w.heap.size);refine qR [] 2 [] λf1 h0 i6 a3=>qE (.tuple #[]) λK=>⟨_,rfl,(R.lp a3 K.new),(((((c1.nil TM).n b).n J).trans (s)).n a3)⟩
 .refine qR [] 37 [1,1] λf2 d0 e2 L=>?_;rw[show M.act ⟨6,(j:Int),(at_:Int),p,d⟩=(M.move 6 at_)from rfl];refine Ad λK=>?_;have b4:MS e l ob i d0 e2 M:=(h.lp ((c1.trans b).trans L) K.new);refine qG 5 TM [true,true] (LK b4 (E.ch (((c1.nil TM).n b).n L) EZ) F 6 at_ m C hn) ?_;rintro D i7 ⟨d1,rfl,S,t⟩;refine⟨_,d1,rfl,t,S.new,?_⟩;replace t:=t.ret (B:=w.heap.size);refine qR [] 2 [] λf3 h1 i8 a4=>qE (.tuple #[]) λK=>⟨_,rfl,(S.lp a4 K.new),(((((c1.nil TM).n b).n L).trans (t)).n a4)⟩
 .refine qR [] 39 [] λf4 d2 e3 N=>?_;rw[show M.act ⟨7,(j:Int),(at_:Int),p,d⟩=M.ov from rfl];refine Ad λK=>?_;have b5:MS e l ob i d2 e3 M:=(h.lp ((c1.trans b).trans N) K.new);refine qG 1 TM [true,true] (PJ b5 (E.ch (((c1.nil TM).n b).n N) EZ) F C hn) ?_;rintro D i9 ⟨d3,rfl,T,u⟩;refine⟨_,d3,rfl,u,T.new,?_⟩;replace u:=u.ret (B:=w.heap.size);refine qR [] 2 [] λf5 h2 j0 a5=>qE (.tuple #[]) λK=>⟨_,rfl,(T.lp a5 K.new),(((((c1.nil TM).n b).n N).trans (u)).n a5)⟩
 .refine qR [] 47 [1] λf6 d4 e4 a6=>?_;rw[show M.act ⟨8,(j:Int),(at_:Int),p,d⟩=(M.set j (if(M.ao j).up then(M.ao j).pc p else(M.ao j)) M.bN M.cF)from rfl];refine Ad λK=>?_;have Y:MS e l ob i d4 e4 M:=(h.lp ((c1.trans b).trans a6) K.new);refine qG 3 TM [true,true] ((Y).call c (XR ((Y).ns c) p (by omega) (by omega))) ?_;rintro D j1 ⟨d5,rfl,U,y⟩;refine⟨_,d5,rfl,y,U.new,?_⟩;replace y:=y.ret (B:=w.heap.size);refine qR [] 2 [] λf7 h3 j2 a7=>qE (.tuple #[]) λK=>⟨_,rfl,(U.lp a7 K.new),(((((c1.nil TM).n b).n a6).trans (y)).n a7)⟩
 .refine qR [] 51 [] λf8 d6 e5 O=>?_;rw[show M.act ⟨9,(j:Int),(at_:Int),p,d⟩=(M.set j (if(M.ao j).up then(M.ao j)else(M.ao j).start) M.bN M.cF)from rfl];refine Ad λK=>?_;have Z:MS e l ob i d6 e5 M:=(h.lp ((c1.trans b).trans O) K.new);refine qG 1 TM [true,true] ((Z).call c (aI ((Z).ns c) (E.ch (((c1.nil TM).n b).n O) EZ) F)) ?_;rintro D j3 ⟨d7,rfl,V,A⟩;refine⟨_,d7,rfl,A,V.new,?_⟩;replace A:=A.ret (B:=w.heap.size);refine qR [] 2 [] λf9 h4 j4 a8=>qE (.tuple #[]) λK=>⟨_,rfl,(V.lp a8 K.new),(((((c1.nil TM).n b).n O).trans (A)).n a8)⟩
def IT(F:Nat->Lac)(n:Nat):List Lac:=(List.range n).map F
theorem Xw(F:Nat->Lac)(n:Nat):(IT F n).length=n:=by simp[IT]
theorem bR{n:Nat}(h:j<n):(IT F n).drop j=F j::(IT F n).drop (j+1):=by
 have a:(IT F n)[j]?=some (F j):=by simp[IT,h]
 obtain⟨b,c⟩:=Q'.1 a;rw[<- c];exact nz b
def ea:Array Value:=#[iv 0,.bool false,.bool false,.bool false,.bool false,.bool false,S3.v s30,iv 0,iv 0,iv 0,iv 0,iv 0,S3.v s30]
def TR:List Tg:=.n 70 0::TM
theorem jH:Tg.z∉TR:=by simp[TR,TM,TN]
theorem jE:∀ t∈TM,t∈TR:=λt h=>V' _ h
theorem N1:gS.t b∉TR:=jH
theorem Base.self(w:World):Base w gS w:=⟨Below.refl _ _,λ_ _=>rfl⟩
theorem gd{d:Option Addr}{a n c:Nat}(f:d=some ⟨b,a,none⟩)(j:Nat)(g:j<n):(Instr.indexAt 23 (.slice d n c) (iv (j:Int))).run prog W=.ok (pt b (a+5*j)) W:=by
 subst f;exact MX (P:=prog) (e:=43) (z:=5) underlying23 (by kernel_rfl) (by kernel_rfl) g _ rfl
theorem kX{k:Nat}{x:Lac}{y:Value}(h:W.rangeAt b k (laV x y)):(Instr.loadAt 43 (pt b k)).run prog W=.ok (.agg #[iv x.k,iv x.n,iv x.a,iv x.p,y]) W:=by
 have c:=run_loadVar_mid (P:=prog) W b k 43 (laV x y) _ h underlying43 rfl (by kernel_rfl);simp only[Instr.loadAt,Instr.sureAddr,Sem.run_bind,Sem.run_pure,Result.andThen_ok];exact c
theorem OutN.mono{C:Nat}(h:OutN B M ly tv ys)(b:C<=B):OutN C M ly tv ys:=⟨λa e=>mI b (h.mv a e),λj d c a e=>mI b (h.log j d c a e),λc a e=>mI b (h.cF c a e)⟩
theorem eE{lv:S3}{n:Nat}(h:Sk w lv.v F n)(a9:∀ i,i<n->LacOk (F i))(f2:n<=100000)(hT:Tabs w)(tw:LWTab w)(tb:LBTab w) :
  Calls prog 15 #[lv.v] w λe w'=>Bw w w'/\∃ (ly tv:S3) (ys:Nat->S3),e=.returned (.tuple #[.agg (Ix (D3.pk (IT F n)) ly tv),iv 0])/\OutW w' (D3.pk (IT F n)) ly tv ys/\OutN w.heap.size (D3.pk (IT F n)) ly tv ys:=by
 obtain⟨X,lq,H⟩:=lv;have f4:lq=n:=by obtain⟨a,e1,hh⟩:=h.shape;simp only[S3.v,Value.slice.injEq]at hh;exact hh.2.1
 subst lq;have f3:=h.len;obtain⟨G,E⟩:∃ G,IT F n=G:=⟨_,rfl⟩;have f1:G.length=n:=by rw[<- E];exact Xw F n
 rw[E];refine gI (fn:=f15) TR gS func15 (λ_ _=>⟨rfl,rfl⟩) (qR [] 12 [1,0] λd g1 w1 c1=>qI ((decide (100000<(n:Int)))) false (G' (by omega)) (qR [] 9 [] λh7 g3 w3 c3=>BJ 40 [(0,.slice X n H),(2,pt (d 0) 0),(14,.slice X n H),(15,iv (n:Int)),(16,iv 0)] [true] [⟨(d 0),.cells ea 35,.l,false⟩] (λk g' w' e L=>∃ j:Nat,k=n-j/\j<=n/\e=[(0,.slice X n H),(2,pt (d 0) 0),(14,.slice X n H),(15,iv (n:Int)),(16,iv (j:Int))]/\L=[⟨(d 0),.cells ea 35,.l,false⟩]/\Cg w.heap.size TR gS w g' w') (by kernel_rfl) (by kernel_rfl) (by kernel_rfl) (by kernel_rfl) n (λK=>?_) ?_))
 .exact⟨0,rfl,ng _,rfl,rfl,((c1.nil TR).n c3)⟩
 .rintro k gr wr _ zr _ ⟨j,rfl,hj,rfl,rfl,hC⟩ J hJ;refine qR [] 5 [] λh8 g4 w4 c4=>?_;by_cases h0:j<n
  .refine qI ((decide ((j:Int)<(n:Int)))) true (N' (by omega)) (qR [] 5 [] λh9 g5 w5 c5=>?_);obtain⟨b,r,I,M,N,R,Q,S,U⟩:=h.spot j h0;refine qV 0 (pt b (r+5*j)) (gd R (n:=n) (c:=H) j h0) (qV 1 (.agg #[iv (F j).k,iv (F j).n,iv (F j).a,iv (F j).p,.slice I M N]) (kX (x:=F j) (y:=.slice I M N) (λq u W=>(((Cg.ab (((hC).n c4).n c5) (λ_ _=>N1))).cell (p:=⟨b,r+5*j+q,none⟩) Q).trans (S q u W))) (qR [] 6 [0,0,1,0,1] λi0 g7 w7 c7=>?_));have a1:=(Cg.ab ((((hC).n c4).n c5).n c7) (λ_ _=>N1));refine qC 1 (Ll (x:=F j) (y:=⟨I,M,N⟩) (a9 j h0) (Jv (x:=⟨I,M,N⟩) U) (tw.ab a1) (tb.ab a1)) ?_;rintro e' w8 ⟨rfl,b8⟩;refine⟨_,rfl,b8,?_⟩;have c8:=Cg.au (B:=w.heap.size) (T:=[]) (g:=g7) b8;refine qR [] 7 [] λi1 g9 w9 c9=>qR [] 4 [] λd0 e2 f7 b2=>qV 0 (iv ((j:Int)+1)) (AZ 16 (j:Int) underlying3 (by omega)) (qR [] 2 [] λd1 e3 f8 b3=>qB [true,false] λz K0 K=>hJ (n-(j+1)) _ _ _ z _ (by omega) ⟨j+1,rfl,by omega,rfl,rfl,((((((((hC).n c4).n c5).n c7).n c8).n c9).n b2).n b3)⟩ K)
  .refine qI ((decide ((j:Int)<(n:Int)))) false (G' (by omega)) ?_;obtain rfl:j=n:=by omega
   refine qR [] 3 [] λd2 e4 f9 b4=>Ad λK=>qG 0 [.n 70 0] [true] (LM K.new) ?_;rintro e' g0 ⟨mb,V,ob,nb,b6,rfl,a6,s⟩;refine⟨_,b6,rfl,s,a6.new,?_⟩;replace s:=s.ret (B:=w.heap.size);refine qR [] 10 [] λd3 e5 g2 a2=>BJ 40 [(2,pt (d 0) 0),(7,pt mb 0),(28,.slice X j H),(29,iv (j:Int)),(30,iv 0)] [true] [⟨(d 0),.cells ea 35,.l,false⟩] (λk g' w' e L=>∃ (i:Nat) (A:Meet),k=j-i/\i<=j/\e=[(2,pt (d 0) 0),(7,pt mb 0),(28,.slice X j H),(29,iv (j:Int)),(30,iv (i:Int))]/\L=[⟨(d 0),.cells ea 35,.l,false⟩]/\MS mb V ob nb g' w' A/\(G.drop i).foldl Meet.act A=D3.pk G/\MOk i A/\Cg w.heap.size TR gS w g' w') (by kernel_rfl) (by kernel_rfl) (by kernel_rfl) (by kernel_rfl) j (λK=>?_) ?_
   .exact⟨0,D3,rfl,ng _,rfl,rfl,(a6.lp a2 K.new),rfl,MOk.zero,(((((hC).n c4).n b4).trans (s.mono (by simp[TR]))).n a2)⟩
   .rintro k gq wq _ zq _ ⟨i,A,rfl,hi,rfl,rfl,hM,hI2,hA,hC2⟩ J2 hJ2;refine qR [] 5 [] λd4 e6 g6 m=>?_;by_cases h3:i<j
    .refine qI ((decide ((i:Int)<(j:Int)))) true (N' (by omega)) ?_;rw[<- E,bR h3,E,List.foldl_cons]at hI2
     have a8:LacOk (F i):=a9 i h3;refine qR [] 5 [] λd5 e7 g8 o=>?_;obtain⟨b,r,I,M,N,R,Q,S,U⟩:=h.spot i h3;refine qV 0 (pt b (r+5*i)) (gd R (n:=j) (c:=H) i h3) (qV 1 (.agg #[iv (F i).k,iv (F i).n,iv (F i).a,iv (F i).p,.slice I M N]) (kX (x:=F i) (y:=.slice I M N) (λq u W=>(((Cg.ab (((hC2).n m).n o) (λ_ _=>N1))).cell (p:=⟨b,r+5*i+q,none⟩) Q).trans (S q u W))) (qR [] 6 [0,0,1,0,1] λd6 b7 c6 C=>Ad λK=>?_));have NM:MS mb V ob nb b7 c6 A:=(hM.lp ((m.trans o).trans C) K.new);have b1:=(Cg.ab ((((hC2).n m).n o).n C) (λ_ _=>N1));refine qG 2 TM [true,true] (ij NM ((Base.self w).ch ((((hC2).n m).n o).n C) jH) hT (F i) ⟨I,M,N⟩ (U.ab b1) a8 hA (by omega)) ?_;rintro e' h1 ⟨b9,rfl,Y,D⟩;refine⟨_,b9,rfl,D,Y.new,?_⟩;replace D:=D.ret (B:=w.heap.size);refine qR [] 3 [] λd7 e8 h2 a3=>qV 0 (iv ((i:Int)+1)) (AZ 30 (i:Int) underlying3 (by omega)) (qR [] 2 [] λd8 e9 h4 a4=>qB [true,false] λz K0 K=>hJ2 (j-(i+1)) _ _ _ z _ (by omega) ⟨i+1,A.act (F i),rfl,by omega,rfl,rfl,(Y.lp (a3.trans a4) K0.new),hI2,hA.act (by omega) a8,(((((((hC2).n m).n o).n C).trans (D.mono jE)).n a3).n a4)⟩ K)
    .refine qI ((decide ((i:Int)<(j:Int)))) false (G' (by omega)) ?_;obtain rfl:i=j:=by omega
     rw[nu (by omega)]at hI2
     replace hI2:A=D3.pk G:=hI2;subst hI2;refine qR [] 4 [] λd9 P b0 O=>Ad λK=>?_;have NM:MS mb V ob nb P b0 (D3.pk G):=(hM.lp (m.trans O) K.new);have f6:=hA.wt;have f5:=hA.cF;have c0:∀ b,b0.heap.size<=b->P.t b=.z:=λb hb=>(K.new b hb).1;have a0:=(Cg.ab (((hC2).n m).n O) (λ_ _=>N1));refine qC 1 (QB NM (λq W=>⟨(hA.ao q W).dn,(hA.ao q W).ag⟩) (by omega) (by omega)) ?_;rintro e' h5 ⟨ly,tv,ys,rfl,c2,a7,Z⟩;refine⟨_,rfl,Z,?_⟩;have b5:=Cg.au (B:=w.heap.size) (T:=[]) (g:=P) Z;refine qR [] 3 [0,0] λe0 f0 h6 a5=>qE2 2 3 35 0 (d 0) (Ix (D3.pk G) ly tv) (iv 0) λK=>⟨(Cg.ab (((((hC2).n m).n O).n b5).n a5) (λ_ _=>N1)),ly,tv,ys,rfl,(c2.ch a7 c0 a5),a7.mono a0.size⟩
theorem tbA(h:Tabs w0)(C:Cg w0.heap.size TQ gS w0 g w):Tabs w:=⟨h.t.ab (CgQ.ab C),h.n.ab (CgQ.ab C),h.q.ab h.q.pos (CgQ.ab C)⟩
def Vi(w:World):Prop:=Tabs w/\LWTab w/\LBTab w
theorem tb5(h:Vi w0)(C:Cg w0.heap.size TQ gS w0 g w):Vi w:=⟨tbA h.1 C,h.2.1.ab (CgQ.ab C),h.2.2.ab (CgQ.ab C)⟩
theorem OE{f:α->List Value}(d:∀ a,(f a).length=sz)(l:List α){i j:Nat}{a:α}{u:Value}(b:l[i]?=some a)(e:(f a)[j]?=some u):(l.flatMap f)[sz*i+j]?=some u:=by
 have g:j<sz:=by rw[<- d a];exact(Q'.1 e).1
 induction l generalizing i with
 | nil=>cases b
 | cons c l ih =>
  rw[oS];cases i with
  | zero =>
   simp only[nY,P']at b;subst b;rw[mP (by rw[d];omega),Nat.mul_zero,nn];exact e
  | succ i =>
   rw[mQ (by rw[d,Nat.mul_succ];omega),d,show sz*(i+1)+j-sz=sz*i+j by rw[Nat.mul_succ];omega];exact ih (by simpa using b)
theorem EF{f:α->List Value}(b:∀ a,(f a).length=sz)(l:List α):(l.flatMap f).length=l.length*sz:=by
 induction l with
 | nil=>simp
 | cons c l ih=>rw[oS,I',b,ih,mR,pP];omega
theorem cB{l:List Cmd}(h:RdV w x 5 (cmL l)):x.n=l.length:=h.rc.len
def grV(g:Gr):List Value:=[iv g.k,iv g.a,iv g.b,iv g.c,iv g.d]
def grL(l:List Gr):List Value:=l.flatMap grV
structure GrOk(g:Gr):Prop where
 k:I64 g.k
 a:I64 g.a
 b:I64 g.b
 c:I64 g.c
 d:I64 g.d
def acV(l:List (Lac × S3)):List Value:=l.flatMap λp=>laV p.1 p.2.v
theorem La(l:List (Lac × S3))(x:Lac)(y:S3):acV (l++[(x,y)])=acV l++laV x y.v:=by simp[acV]
theorem bP(l:List (Lac × S3)):(acV l).length=l.length*5:=EF (f:=λp:Lac × S3=>laV p.1 p.2.v) (λ_=>rfl) l
def Dat(g:Gh)(w:World)(l:List (Lac × S3)):Prop:=∀ p∈l,FSl g w p.2 p.1.d
theorem Dat.ch(h:Dat g w l)(c:Cg B T g w g' w')(b:Tg.z∉T:=by simp):Dat g' w' l:=λp a=>(h p a).ch c b
theorem Dat.snoc(h:Dat g w l){x:Lac}{y:S3}(k:FSl g w y x.d):Dat g w (l++[(x,y)]):=λp a=>(Z'.1 a).elim (h p) λe=>by rw[U'.1 e];exact k
def Fa.ac(x:S3)(l:List (Lac × S3)):Fa:=⟨none,λg w=>FzV g w x 5 (acV l)/\Dat g w l,λhz _ c h=>⟨h.1.ch c hz,h.2.ch c hz⟩⟩
def Fa.oa(r:Nat)(x:S3)(l:List (Lac × S3)):Fa:=⟨some r,λg w=>OwnS g w (.n 60 r) true 43 5 x (acV l)/\Dat g w l,λhz hr c h=>⟨h.1.ch c (hr r rfl) (by simp),h.2.ch c hz⟩⟩
def Fa.dt(l:List (Lac × S3)):Fa:=⟨none,λg w=>Dat g w l,λhz _ c h=>h.ch c hz⟩
structure AcR(w:World)(x:S3)(L:List Lac)(l:List (Lac × S3)):Prop where
 e:l.map (·.1)=L
 r:RdV w x 5 (acV l)
 d:∀ p∈l,Sl w p.2.v p.1.d
theorem AcR.of(h:(Fa.ac x l).p g w){L:List Lac}(e:l.map (·.1)=L):AcR w x L l:=⟨e,h.1.rd,λp a=>(h.2 p a).s⟩
theorem AcR.n(h:AcR w x L l):x.n=L.length:=by
 have:=h.r.len;rw[bP]at this
 rw[<- h.e,mU];omega
theorem AcR.sk(h:AcR w x L l)(q:L.length<=1000000):Sk w x.v (laF L) L.length:=by
 have o:=h.n;refine⟨⟨x.a,x.c,by rw[<- o],?_⟩,by omega⟩;rcases h.r.ex with h1|⟨b,off,h1,h2,h3⟩
 .exact .inl (by omega)
 .refine .inr ⟨b,off,h1,h2,λi k=>?_⟩;have g:i<l.length:=by rw[<- h.e,mU]at k;exact k
  refine⟨l[i].2.v,λj u m=>?_,?_⟩
  .rw[nP];refine h3 _ u (OE (f:=λp:Lac × S3=>laV p.1 p.2.v) (λ_=>rfl) l (H' g) ?_);have:laF L i=l[i].1:=by rw[FQ k];simp[<- h.e]
   rw[this]at m;exact m
  .have:laF L i=l[i].1:=by rw[FQ k];simp[<- h.e]
   rw[this];exact h.d _ (na g)
structure AcN(B:Nat)(w:World)(x:S3)(l:List (Lac × S3)):Prop where
 o:OwN B w 43 5 x (acV l)
 d:∀ p∈l,Sl w p.2.v p.1.d/\Nb B p.2 p.1.d
 ne:∀ p∈l,p.1.d≠[]->∀ a b,p.2.a=some a->x.a=some b->a.block≠b.block
theorem AcN.ac(h:AcN B w x l)(G:∀ b,B<=b->g.t b=.z):(Fa.ac x l).p g w:=⟨h.o.fz G,λp a=>OO (h.d p a).1 (h.d p a).2 G⟩
theorem AcN.of{r:Nat}(h:(Fa.oa r x l).p g w)(C:Cg w0.heap.size TQ gS w0 g w)(n:∀ p∈l,Nb w0.heap.size p.2 p.1.d):AcN w0.heap.size w x l :=
 ⟨h.1.own C,λp i=>⟨(h.2 p i).s,n p i⟩,λp i m a b k f e=>by
  have j:=(h.2 p i).z m a k;rcases h.1.ex with⟨k1,_⟩|⟨c,cur,k1,_,_,_,_,_,k7,_⟩
  .rw[k1]at f;cases f
  .rw[k1]at f;cases f
   rw[e,k7]at j;cases j⟩
theorem Xv(L:List Lac):IT (laF L) L.length=L:=by
 apply pq
 .simp[IT]
 .intro i h1 h2;simp[IT,FQ h2]
def Meet.log(M:Meet)(j:Nat):List Cmd:=(M.ao j).ae.take (M.ao j).done
structure OutF(g:Gh)(w:World)(ly tv:S3)(ys:Nat->S3)(M:Meet):Prop where
 mv:FzV g w ly 1 [S3.v (ys 0),S3.v (ys 1),S3.v (ys 2),S3.v (ys 3),S3.v (ys 4)]
 log:∀ j,j<5->FzV g w (ys j) 5 (cmL (M.log j))
 cF:FzV g w tv 5 (M.cF.flatMap F4)
theorem OutF.ch(h:OutF g w ly tv ys M)(c:Cg B T g w g' w')(a:Tg.z∉T:=by simp):OutF g' w' ly tv ys M:=⟨h.mv.ch c a,λj b=>(h.log j b).ch c a,h.cF.ch c a⟩
def Fa.ot(ly tv:S3)(ys:Nat->S3)(M:Meet):Fa:=⟨none,λg w=>OutF g w ly tv ys M,λhz _ c h=>h.ch c hz⟩
theorem OV(h:OutW w M ly tv ys)(n:OutN B M ly tv ys)(G:∀ b,B<=b->g.t b=.z):OutF g w ly tv ys M :=
 ⟨⟨h.mv,λ_ a c=>G _ (n.mv a c)⟩,λj e=>⟨(h.log j e).rv,λd a c=>G _ (n.log j e d a c)⟩,⟨h.cF,λd a c=>G _ (n.cF d a c)⟩⟩
theorem OutW.n5(h:OutW w M ly tv ys):ly.n=5:=by have:=h.mv.len;simp at this;omega
end
section
variable{n tc tr tu k c s m v:Int}(h:paE n tc tr tu k c s m v=0)
include h
end
section
theorem LV{n a b d k c s m v:Int}(h:paE n a b d k c s m v=0):(paL n a b d k c s m v).length=63:=by
 rw[Zx h,mR,FX,Hl]
variable{G:List Gr}{L:List Lac}{M:Meet}{W w:World}{b off:Nat}{cr:Bool}{g:Gh}{l:List Int}{x:S3}
theorem m7(x:S3)(k:Nat)(f:k<=x.c)(d:∃ b off,x.a=some ⟨b,off,none⟩):(Instr.sliceAt 41 x.v none (some (iv (k:Int))) none).run prog W=.ok (S3.v ⟨x.a,k,x.c⟩) W:=by
 obtain⟨b,off,d⟩:=d;obtain⟨h,i,g⟩:=x;simp only at d f;subst d;have e:prog.elem 41=5:=by kernel_rfl
 rw[run_sliceAt_slice _ _ _ _ _ _ fe,run_slice_h (P:=prog) (w:=W) _ _ _ _ fe .i64 k (by omega) (by show(k:Int)<=((g:Nat):Int);omega),e,Hr];simp[Result.andThen,sliced,Addr.add]
theorem FSl.take(h:FSl g w x l)(k:Nat)(y:k<=l.length):FSl g w ⟨x.a,k,x.c⟩ (l.take k):=by
 have f:=Jv h.s;obtain⟨⟨⟨a,m,j,v,f,d⟩,u,n⟩,o⟩:=h;simp only[Value.slice.injEq]at j;obtain⟨rfl,r,rfl⟩:=j;refine⟨⟨⟨_,_,by simp only[Value.slice.injEq,and_true,true_and,mH];omega,by rw[mH];omega,f,?_⟩,by rw[mH];omega,λz t=>n z (mY t)⟩,λq=>o λe=>q (by rw[e];simp)⟩;rcases d with d|⟨b,off,ha,hbs,hcell⟩
 .exact .inl (by rw[d];simp)
 .refine .inr ⟨b,off,ha,hbs,λi p=>?_⟩;rw[mH]at p
  rw[show(l.take k).getD i 0=l.getD i 0 by simp[List.getD,show i<k by omega]];exact hcell i (by omega)
theorem FSl.addr(h:FSl g w x l)(j:l≠[]):(∃ b off,x.a=some ⟨b,off,none⟩)/\l.length<=x.c:=by
 obtain⟨⟨⟨a,f,e,i,p,d⟩,m,n⟩,o⟩:=h;simp only[Value.slice.injEq]at e;obtain⟨rfl,k,rfl⟩:=e;rcases d with d|⟨b,off,ha,_⟩
 .exact absurd d j
 .exact⟨⟨b,off,ha⟩,i⟩
theorem Wr{g:Gr}(h:GrOk g)(hT:Tabs w) :
  Calls prog 17 #[.agg #[iv g.k,iv g.a,iv g.b,iv g.c,iv g.d]] w λe w'=>∃ y:S3,e=.returned y.v/\Sl w' y.v (pkB g)/\Nb w.heap.size y (pkB g)/\Bw w w':=by
 have A:(pkP g).length=63:=LV (ZC g);have r4:=Bl g.c 4 (by omega);refine tIn [] func17 trivial (tR 18 [0,0,0,0,0,0,0] λr _ _=>tC1 11 (λF C=>Rx h.b h.c h.d h.a h.d) λ_=>tR 16 [0,0,1,0,1,1,0,2,0,0] λi _ _=>tC1 2 (λF C=>Cf h.d 17) λ_=>tR 1 [] λa1 _ _=>K7 56 (λZ X q=>∃ (E G:Int),Z=[(1,pt (r 0) 0),(3,pt (i 0) 0),(4,pt (i 1) 0)]/\X=[⟨(r 0),.cells #[iv g.k,iv g.a,iv g.b,iv g.c,iv g.d] 46,.z,false⟩,⟨(i 0),.cells #[iv (wK g.b),iv (pick g.c 4),iv (pick g.d 6),iv (pick g.a 4),iv (wV g.b g.d)] 64,.z,false⟩,⟨(i 1),.cells #[iv E,iv G,iv 60] 101,.l,false⟩]/\q=[]/\E=pkT g/\G=pkR g) (λJ I=>?_) ?_)
 .refine tR 6 [] λa2 _ _=>?_;by_cases f:pick g.d 17=15
  .refine tI (((pick g.d 17)==15)) true (by simpa using f) (tR 5 [2,0] λa3 _ _=>tD I [true,true,true] ⟨pick g.c 4,0,rfl,rfl,rfl,(if_neg (by omega)).symm,(if_pos f).symm⟩ (λF=>trivial))
  .refine tI (((pick g.d 17)==15)) false (by simpa using f) (tR 5 [] λa4 _ _=>?_);by_cases u:pick g.d 17=16
   .refine tI (((pick g.d 17)==16)) true (by simpa using u) (tR 3 [2] λa5 _ _=>tV 2 (iv (pick g.c 4+1)) (λF C=>(AZ 31 (pick g.c 4) underlying3 (by omega))) (tV 3 (iv ((pick g.c 4+1)%4)) (λF C=>(ZJ (x:=(.tmp 32)) (y:=(.const (iv 4))) (pick g.c 4+1) 4 underlying3 (by omega) (by omega) (by decide) (by decide))) (tR 4 [2,0] λO _ _=>tD I [true,true,true] ⟨(pick g.c 4+1)%4,7,rfl,rfl,rfl,(if_pos u).symm,(if_neg f).symm⟩ (λF=>trivial))))
   .refine tI (((pick g.d 17)==16)) false (by simpa using u) (tR 2 [] λP _ _=>tD I [true,true,true] ⟨pick g.c 4,7,rfl,rfl,rfl,(if_neg u).symm,(if_neg f).symm⟩ (λF=>trivial))
 rintro _ _ _ ⟨E,G,rfl,rfl,rfl,o,p⟩ _ _ _;refine tR 6 [11,0,2,0,6,2,8,1] λQ _ _=>tC1 2 (λF C=>Cf h.a 1000) λ_=>tF λ_ W=>?_;have j:=W.size;have M:=ZC g;rw[<- o,<- p]at M
 have N:pkP g=paL (pick g.a 1000) E G 60 (wK g.b) (pick g.c 4) (pick g.d 6) (pick g.a 4) (wV g.b g.d):=by rw[o,p];rfl
 refine tC 5 (λF C=>ef M (tbA hT C)) λY=>?_;rintro _ _ ⟨y,rfl,K,D,H⟩;refine⟨_,Fa.sl y (pkP g)::_,rfl,H,λF=>⟨(by rw[N];exact OO K D Y),F⟩,?_⟩;rw[<- N]at K D
 have a0:=Jv K;refine tR 11 [12,14,16,18,20,0] λR _ _=>tC1 2 (λF C=>Cf h.d 23) λ_=>?_;by_cases f:pick g.d 23=22
 .refine tV 3 (.bool true) (λF C=>(EO (t:=3) (m:=pick g.d 23) (n:=22) (x:=(.tmp 46)) (y:=(.const (iv 22))) (by simpa using f))) (tR 6 [] λS _ _=>tI ((decide (30<(y.n:Int)))) true (N' (by omega)) (tR 2 [] λT _ _=>tF λF _=>?_));have L:=FSl.addr F.1 (λe=>by rw[e]at A;cases A);refine tV 1 (S3.v ⟨y.a,30,y.c⟩) (λF C=>(m7 y 30 (by omega) L.1)) (tR 7 [] λU _ _=>?_);rw[show pkB g=_ from if_pos ⟨f,by omega⟩];exact tE (S3.v ⟨y.a,30,y.c⟩) λF B=>⟨⟨y.a,30,y.c⟩,rfl,(F.1.take 30 (by omega)).s,λ_ a ha=>D.mono j (λe=>by rw[e]at A;cases A) a ha,B⟩
 .refine tV 3 (.bool false) (λF C=>(EO (t:=3) (m:=pick g.d 23) (n:=22) (x:=(.tmp 46)) (y:=(.const (iv 22))) (by simpa using f))) (tR 13 [] λV _ _=>?_);rw[show pkB g=_ from if_neg (λe=>f e.1)];exact tE (S3.v y) λF B=>⟨y,rfl,F.1.s,D.mono j,B⟩
theorem gA{g:Gr}(h:GrOk g)(hT:Tabs w){x:Lac}(i:PX g cr=x) :
  Calls prog 9 #[.agg #[iv g.k,iv g.a,iv g.b,iv g.c,iv g.d],.bool cr] w λe w'=>∃ y:S3,e=.returned (.agg #[iv x.k,iv x.n,iv x.a,iv x.p,y.v])/\Sl w' y.v x.d/\Nb w.heap.size y x.d/\Bw w w':=by
 refine tIn [] func9 trivial (tR 9 [0,0,1,0,0] λj _ _=>tC1 2 (λF C=>Cf h.a 5) λ_=>tR 7 [0] λa0 _ _=>tC1 2 (λF C=>Cf h.k 24) λ_=>?_);unfold PX at i;refine tR 9 [] λa1 _ _=>?_;by_cases f:pick g.k 24<3
 .refine tI ((decide ((pick g.k 24)<3))) true (by simpa using f) ?_;rw[if_pos f]at i
  refine tR 4 [0] λa2 _ _=>tF λ_ Cs=>?_;have o:=Cs.size;refine tC 2 (λF C=>Wr h (tbA hT C)) λNz=>?_;rintro _ _ ⟨y,rfl,hy,q,b8⟩;refine⟨_,Fa.sl y (pkB g)::_,rfl,b8,λF=>⟨OO hy q Nz,F⟩,?_⟩;refine tR 3 [1,0] λa3 _ _=>?_;subst i;exact tX λF C=>qE1 4 43 1 (j 1) #[iv 1,iv (pick g.a 5),iv 0,iv 0,S3.v y] λ_=>⟨y,rfl,F.1.s,q.mono o,CgQ.ab C⟩
 .refine tI ((decide ((pick g.k 24)<3))) false (by simpa using f) ?_;rw[if_neg f]at i
  refine tR 6 [] λr _ _=>?_;by_cases f:pick g.k 24<5
  .refine tI ((decide ((pick g.k 24)<5))) true (by simpa using f) ?_;rw[if_pos f]at i
   refine tR 6 [1,0] λu _ _=>?_;subst i;exact tX λF C=>qE1 4 43 1 (j 1) #[iv 2,iv (pick g.a 5),iv 0,iv 0,S3.v s30] λ_=>⟨s30,rfl,Ec _,λe=>absurd rfl e,CgQ.ab C⟩
  .refine tI ((decide ((pick g.k 24)<5))) false (by simpa using f) ?_;rw[if_neg f]at i
   refine tR 6 [] λz _ _=>?_;by_cases f:pick g.k 24<14
   .refine tI ((decide ((pick g.k 24)<14))) true (by simpa using f) ?_;rw[if_pos f]at i
    refine tR 6 [1,0] λA _ _=>?_;subst i;exact tX λF C=>qE1 4 43 1 (j 1) #[iv 3,iv (pick g.a 5),iv 0,iv 0,S3.v s30] λ_=>⟨s30,rfl,Ec _,λe=>absurd rfl e,CgQ.ab C⟩
   .refine tI ((decide ((pick g.k 24)<14))) false (by simpa using f) ?_;rw[if_neg f]at i
    refine tR 6 [] λB _ _=>?_;by_cases f:pick g.k 24=14
    .refine tI (((pick g.k 24)==14)) true (by simpa using f) ?_;rw[if_pos f]at i
     refine tR 4 [0] λD _ _=>tC1 2 (λF C=>Cf h.c 20) λ_=>tR 3 [1,0] λE _ _=>?_;subst i;exact tX λF C=>qE1 4 43 1 (j 1) #[iv 4,iv 0,iv (pick g.c 20),iv 0,S3.v s30] λ_=>⟨s30,rfl,Ec _,λe=>absurd rfl e,CgQ.ab C⟩
    .refine tI (((pick g.k 24)==14)) false (by simpa using f) ?_;rw[if_neg f]at i
     refine tR 6 [] λG _ _=>?_;by_cases f:pick g.k 24=15
     .refine tI (((pick g.k 24)==15)) true (by simpa using f) ?_;rw[if_pos f]at i
      refine tR 4 [0] λH _ _=>tC1 2 (λF C=>Cf h.c 20) λ_=>tR 3 [1,0] λI _ _=>?_;subst i;exact tX λF C=>qE1 4 43 1 (j 1) #[iv 5,iv 0,iv (pick g.c 20),iv 0,S3.v s30] λ_=>⟨s30,rfl,Ec _,λe=>absurd rfl e,CgQ.ab C⟩
     .refine tI (((pick g.k 24)==15)) false (by simpa using f) ?_;rw[if_neg f]at i
      refine tR 6 [] λJ _ _=>?_;by_cases f:pick g.k 24=16
      .refine tI (((pick g.k 24)==16)) true (by simpa using f) ?_;rw[if_pos f]at i
       refine tR 4 [0] λK _ _=>tC1 2 (λF C=>Cf h.c 20) λ_=>tR 3 [1,0] λL _ _=>?_;subst i;exact tX λF C=>qE1 4 43 1 (j 1) #[iv 6,iv 0,iv (pick g.c 20),iv 0,S3.v s30] λ_=>⟨s30,rfl,Ec _,λe=>absurd rfl e,CgQ.ab C⟩
      .refine tI (((pick g.k 24)==16)) false (by simpa using f) ?_;rw[if_neg f]at i
       refine tR 3 [] λM _ _=>?_;by_cases f:pick g.k 24=17
       .refine tV 1 (.bool true) (λF C=>(EO (t:=3) (m:=pick g.k 24) (n:=17) (x:=(.tmp 52)) (y:=(.const (iv 17))) (by simpa using f))) (tR 5 [] λN _ _=>?_);by_cases l:cr=true
        .refine tI (cr) true l ?_;rw[if_pos ⟨f,l⟩]at i
         refine tR 5 [0] λO _ _=>tC1 3 (λF C=>Cf h.c 90) λ_=>tR 3 [1,0] λP _ _=>?_;subst i;exact tX λF C=>qE1 4 43 1 (j 1) #[iv 8,iv (pick g.a 5),iv 0,iv (pick g.c 90),S3.v s30] λ_=>⟨s30,rfl,Ec _,λe=>absurd rfl e,CgQ.ab C⟩
        .refine tI (cr) false (by simpa using l) ?_;rw[if_neg (λe=>l e.2)]at i
         refine tR 3 [] λQ _ _=>?_;by_cases f:pick g.k 24=18
         .refine tV 1 (.bool true) (λF C=>(EO (t:=3) (m:=pick g.k 24) (n:=18) (x:=(.tmp 63)) (y:=(.const (iv 18))) (by simpa using f))) (tR 5 [] λR _ _=>?_);by_cases l:cr=true
          .refine tI (cr) true l ?_;rw[if_pos ⟨f,l⟩]at i
           refine tR 6 [1,0] λS _ _=>?_;subst i;exact tX λF C=>qE1 4 43 1 (j 1) #[iv 9,iv (pick g.a 5),iv 0,iv 0,S3.v s30] λ_=>⟨s30,rfl,Ec _,λe=>absurd rfl e,CgQ.ab C⟩
          .refine tI (cr) false (by simpa using l) ?_;rw[if_neg (λe=>l e.2)]at i
           refine tR 7 [1,0] λT _ _=>?_;subst i;exact tX λF C=>qE1 4 43 1 (j 1) #[iv 7,iv 0,iv 0,iv 0,S3.v s30] λ_=>⟨s30,rfl,Ec _,λe=>absurd rfl e,CgQ.ab C⟩
         .refine tV 1 (.bool false) (λF C=>(EO (t:=3) (m:=pick g.k 24) (n:=18) (x:=(.tmp 63)) (y:=(.const (iv 18))) (by simpa using f))) ?_;rw[if_neg (λe=>f e.1)]at i
          refine tR 13 [1,0] λU _ _=>?_;subst i;exact tX λF C=>qE1 4 43 1 (j 1) #[iv 7,iv 0,iv 0,iv 0,S3.v s30] λ_=>⟨s30,rfl,Ec _,λe=>absurd rfl e,CgQ.ab C⟩
       .refine tV 1 (.bool false) (λF C=>(EO (t:=3) (m:=pick g.k 24) (n:=17) (x:=(.tmp 52)) (y:=(.const (iv 17))) (by simpa using f))) ?_;rw[if_neg (λe=>f e.1)]at i
        refine tR 9 [] λV _ _=>?_;by_cases f:pick g.k 24=18
        .refine tV 1 (.bool true) (λF C=>(EO (t:=3) (m:=pick g.k 24) (n:=18) (x:=(.tmp 63)) (y:=(.const (iv 18))) (by simpa using f))) (tR 5 [] λW _ _=>?_);by_cases l:cr=true
         .refine tI (cr) true l ?_;rw[if_pos ⟨f,l⟩]at i
          refine tR 6 [1,0] λX _ _=>?_;subst i;exact tX λF C=>qE1 4 43 1 (j 1) #[iv 9,iv (pick g.a 5),iv 0,iv 0,S3.v s30] λ_=>⟨s30,rfl,Ec _,λe=>absurd rfl e,CgQ.ab C⟩
         .refine tI (cr) false (by simpa using l) ?_;rw[if_neg (λe=>l e.2)]at i
          refine tR 7 [1,0] λY _ _=>?_;subst i;exact tX λF C=>qE1 4 43 1 (j 1) #[iv 7,iv 0,iv 0,iv 0,S3.v s30] λ_=>⟨s30,rfl,Ec _,λe=>absurd rfl e,CgQ.ab C⟩
        .refine tV 1 (.bool false) (λF C=>(EO (t:=3) (m:=pick g.k 24) (n:=18) (x:=(.tmp 63)) (y:=(.const (iv 18))) (by simpa using f))) ?_;rw[if_neg (λe=>f e.1)]at i
         refine tR 13 [1,0] λZ _ _=>?_;subst i;exact tX λF C=>qE1 4 43 1 (j 1) #[iv 7,iv 0,iv 0,iv 0,S3.v s30] λ_=>⟨s30,rfl,Ec _,λe=>absurd rfl e,CgQ.ab C⟩
theorem mu{k:Nat}(g:Gr)(h:∀ j u,(grV g)[j]?=some u->W.cell? ⟨b,k+j,none⟩=some u):(Instr.loadAt 46 (pt b k)).run prog W=.ok (.agg #[iv g.k,iv g.a,iv g.b,iv g.c,iv g.d]) W:=by
 have e:=run_loadVar_mid (P:=prog) W b k 46 (grV g) _ h underlying46 rfl (by kernel_rfl);simp only[Instr.loadAt,Instr.sureAddr,Sem.run_bind,Sem.run_pure,Result.andThen_ok];exact e
theorem kU(c:x.a=some ⟨b,off,none⟩)(j:Nat)(d:j<x.n):(Instr.indexAt 22 x.v (iv (j:Int))).run prog W=.ok (pt b (off+5*j)) W:=by
 obtain⟨f,h,g⟩:=x;simp only at c d;subst c;exact MX (P:=prog) (e:=46) (z:=5) underlying22 (by kernel_rfl) (by kernel_rfl) d _ rfl
theorem kl{l:S3}{i:Nat}{g:Gr}(h:RdV w l 5 (grL G))(m:l.a=some ⟨b,off,none⟩)(d:G[i]?=some g){j:Nat}{u:Value}(o:(grV g)[j]?=some u):w.cell? ⟨b,off+5*i+j,none⟩=some u:=by
 have p:l.n=G.length:=by have:=h.len;rw[show(grL G).length=G.length*5 from EF (f:=grV) (λ_=>rfl) G]at this;omega
 obtain⟨q,e,c,_,k⟩:=h.spot (i:=i) (by rw[p];exact(Q'.1 d).1);rw[m]at c
 cases c;exact k j u (OE (f:=grV) (λ_=>rfl) G d o)
theorem WL{l:S3}{kv:Nat}(h:RdV w l 5 (grL G))(hG:∀ g∈G,GrOk g)(hm:kv<=100)(hT:Tabs w) :
  Calls prog 4 #[l.v,iv (kv:Int),.bool cr] w λe w'=>∃ (y:S3) (P:List (Lac × S3)),e=.returned y.v/\P.map (·.1)=scr G kv cr/\AcN w.heap.size w' y P/\Bw w w':=by
 have a9:l.n=G.length:=by have:=h.len;rw[show(grL G).length=G.length*5 from EF (f:=grV) (λ_=>rfl) G]at this;omega
 refine tIn [Fa.zv l 5 (grL G)] func4 ⟨h.fz,trivial⟩ (tR 18 [] λb5 _ _=>GU 41 [(0,S3.v l),(1,iv (kv:Int)),(2,.bool cr),(7,sn),(8,iv 0),(9,iv 0)] [] [] [Fa.zv l 5 (grL G),Fa.oa 0 s30 []] (λkk ee LL M=>∃ (i s:Nat) (y:S3) (P:List (Lac × S3)),kk=min G.length kv-i/\ee=[(0,S3.v l),(1,iv (kv:Int)),(2,.bool cr),(7,S3.v y),(8,iv (s:Int)),(9,iv (i:Int))]/\LL=[]/\M=[Fa.zv l 5 (grL G),Fa.oa 0 y P]/\i<=min G.length kv/\y.n=i/\s<=i/\scr G kv cr=P.map (·.1)++Ph cr s ((G.take kv).drop i)/\(∀ p∈P,Nb w.heap.size p.2 p.1.d)) (min G.length kv) ⟨0,0,s30,[],rfl,rfl,rfl,rfl,by omega,rfl,by omega,rfl,λp q=>by cases q⟩ (λF=>⟨F.1,⟨OwnS.nil _ _ _ _ _ _,λp q=>by cases q⟩,trivial⟩) ?_);rintro k _ _ _ ⟨i,s,y,P,rfl,rfl,rfl,rfl,R,b1,b0,o,E⟩ _ _ _ J N;refine tR 6 [] λb6 _ _=>?_;by_cases h1:i<G.length
 .refine tV 3 (.bool true) (λF C=>(rLt (t:=3) (m:=(i:Int)) (n:=(l.n:Int)) (x:=(.tmp 11)) (y:=(.tmp 13)) (N' (by omega)))) (tR 6 [] λb7 _ _=>?_);by_cases h2:i<kv
  .refine tI ((decide ((i:Int)<(kv:Int)))) true (N' (by omega)) ?_;have R:i<(G.take kv).length:=by rw[mH];omega
   obtain⟨g,O⟩:∃ g,(G.take kv)[i]?=some g:=⟨_,H' R⟩;have H:G[i]?=some g:=by rw[nQ,if_pos h2]at O;exact O
   have Q:=hG g (nm H);rw[nz R,show(G.take kv)[i]=g from(Q'.1 O).2,Ph]at o
   refine tF λF _=>?_;obtain⟨b,T,I,_,a8⟩:=F.1.rd.spot (i:=i) (by omega);refine tR 7 [] λb9 _ _=>tV 2 (pt b (T+5*i)) (λF C=>(kU I i (by omega))) (tV 3 (.agg #[iv g.k,iv g.a,iv g.b,iv g.c,iv g.d]) (λF C=>(mu g λj u hj=>kl F.1.rd I H hj)) (tR 1 [] λc0 _ _=>?_));obtain⟨x,X⟩:∃ x,PX g cr=x:=⟨_,rfl⟩;refine tF λ_ Cs=>?_;have L:=Cs.size;refine tC 5 (λF C=>gA Q (tbA hT C) X) λNz=>?_;rintro _ _ ⟨d,rfl,hd,S,b8⟩;refine⟨_,Fa.sl d x.d::_,rfl,b8,λF=>⟨OO hd S Nz,F⟩,?_⟩;rw[X]at o
   refine tR 10 [1,0,0,0,0] λc1 _ _=>?_;by_cases D:x.k=1
   .refine tI ((x.k==1)) true (by simpa using D) (tR 3 [] λY _ _=>tV 1 (iv ((s:Int)+1)) (λF C=>(AZ 31 (s:Int) underlying3 (by omega))) (tR 7 [] λZ _ _=>?_));rw[show jg s x=s+1 from if_pos D]at o
    by_cases h4:6<s+1
    .refine tI ((decide (6<((s:Int)+1)))) true (N' (by omega)) ?_;rw[show ZX s x=acN 7 0 from if_pos ⟨D,by omega⟩]at o
     refine tR 8 [0,0,0,0,0] λr _ _=>eV 3 0 (x:=y) 23 23 43 5 56 zLa ⟨(r 0),0,none⟩ 1 1 [iv 7,iv 0,iv 0,iv 0,sn] (λF=>F.2.2.1.1) [Fa.zv l 5 (grL G),Fa.dt (P++[(acN 7 0,s30)])] (λF=>⟨F.2.1,Dat.snoc F.2.2.1.2 (ml _ _),trivial⟩) rfl (by simp[TQ]) rfl (by simp[Value.oneCell']) (λF K=>D0 K 1 (r 0) [iv 7,iv 0,iv 0,iv 0,sn] 43 .z true (by kernel_rfl)) (by unfold maxLen;omega) (by omega) λU _ _ b2=>tR 5 [] λa0 _ _=>tV 1 (iv ((i:Int)+1)) (λF C=>(AZ 20 (i:Int) underlying3 (by omega))) (tR 2 [] λa1 _ _=>tB N (min G.length kv-(i+1)) (by omega) [false,false] ⟨i+1,(s+1),U,P++[(acN 7 0,s30)],rfl,rfl,rfl,rfl,by omega,by omega,by omega,(by rw[o,mS,mN];rfl),λp q=>(Z'.1 q).elim (E p) λe=>by rw[U'.1 e];exact λe=>absurd rfl e⟩ (λF=>⟨F.2.1,⟨(by rw[La];exact F.1),F.2.2.1⟩,trivial⟩))
    .refine tI ((decide (6<((s:Int)+1)))) false (G' (by omega)) ?_;rw[show ZX s x=x from if_neg (λe=>h4 (by omega))]at o
     refine tR 5 [0,0,0] λA _ _=>eV 3 0 (x:=y) 23 23 43 5 56 zLa ⟨(A 0),0,none⟩ 1 1 [iv x.k,iv x.n,iv x.a,iv x.p,S3.v d] (λF=>F.2.2.1.1) [Fa.zv l 5 (grL G),Fa.dt (P++[(x,d)])] (λF=>⟨F.2.1,Dat.snoc F.2.2.1.2 (F.1),trivial⟩) rfl (by simp[TQ]) rfl (by simp[Value.oneCell']) (λF K=>D0 K 1 (A 0) [iv x.k,iv x.n,iv x.a,iv x.p,S3.v d] 43 .z true (by kernel_rfl)) (by unfold maxLen;omega) (by omega) λV _ _ b3=>tR 5 [] λa2 _ _=>tV 1 (iv ((i:Int)+1)) (λF C=>(AZ 20 (i:Int) underlying3 (by omega))) (tR 2 [] λa3 _ _=>tB N (min G.length kv-(i+1)) (by omega) [false,false] ⟨i+1,(s+1),V,P++[(x,d)],rfl,rfl,rfl,rfl,by omega,by omega,by omega,(by rw[o,mS,mN];rfl),λp q=>(Z'.1 q).elim (E p) λe=>by rw[U'.1 e];exact S.mono L⟩ (λF=>⟨F.2.1,⟨(by rw[La];exact F.1),F.2.2.1⟩,trivial⟩))
   .refine tI ((x.k==1)) false (by simpa using D) ?_;rw[show jg s x=s from if_neg D,show ZX s x=x from if_neg (λe=>D e.1)]at o
    refine tR 5 [0,0,0] λB _ _=>eV 3 0 (x:=y) 23 23 43 5 56 zLa ⟨(B 0),0,none⟩ 1 1 [iv x.k,iv x.n,iv x.a,iv x.p,S3.v d] (λF=>F.2.2.1.1) [Fa.zv l 5 (grL G),Fa.dt (P++[(x,d)])] (λF=>⟨F.2.1,Dat.snoc F.2.2.1.2 (F.1),trivial⟩) rfl (by simp[TQ]) rfl (by simp[Value.oneCell']) (λF K=>D0 K 1 (B 0) [iv x.k,iv x.n,iv x.a,iv x.p,S3.v d] 43 .z true (by kernel_rfl)) (by unfold maxLen;omega) (by omega) λW _ _ b4=>tR 5 [] λa4 _ _=>tV 1 (iv ((i:Int)+1)) (λF C=>(AZ 20 (i:Int) underlying3 (by omega))) (tR 2 [] λa5 _ _=>tB N (min G.length kv-(i+1)) (by omega) [false,false] ⟨i+1,s,W,P++[(x,d)],rfl,rfl,rfl,rfl,by omega,by omega,by omega,(by rw[o,mS,mN];rfl),λp q=>(Z'.1 q).elim (E p) λe=>by rw[U'.1 e];exact S.mono L⟩ (λF=>⟨F.2.1,⟨(by rw[La];exact F.1),F.2.2.1⟩,trivial⟩))
  .refine tI ((decide ((i:Int)<(kv:Int)))) false (G' (by omega)) (tR 6 [] λa6 _ _=>?_);rw[nu (by rw[mH];omega),Ph,nI]at o
   exact tX λF C=>qE (S3.v y) λ_=>⟨y,P,rfl,o.symm,AcN.of F.2.1 C E,CgQ.ab C⟩
 .refine tV 3 (.bool false) (λF C=>(rLt (t:=3) (m:=(i:Int)) (n:=(l.n:Int)) (x:=(.tmp 11)) (y:=(.tmp 13)) (G' (by omega)))) (tR 13 [] λa7 _ _=>?_);rw[nu (by rw[mH];omega),Ph,nI]at o
  exact tX λF C=>qE (S3.v y) λ_=>⟨y,P,rfl,o.symm,AcN.of F.2.1 C E,CgQ.ab C⟩
theorem OW{a b:S3}{c:Nat->S3}(h:OutF g w a b c M):OutW w M a b c:=⟨h.mv.rd,λj d=>(h.log j d).rd.rc,h.cF.rd⟩
theorem jf(h:Sk w x.v (laF L) L.length)(m:∀ a∈L,LacOk a)(l:L.length<=100000)(b:Vi w){M:Meet}(j:D3.pk L=M) :
  Calls prog 15 #[x.v] w λe w'=>∃ (ly tv:S3) (ys:Nat->S3),e=.returned (.tuple #[.agg (Ix M ly tv),iv 0])/\OutW w' M ly tv ys/\OutN w.heap.size M ly tv ys/\Bw w w':=by
 subst j;refine(eE h (λi c=>by rw[FQ c];exact m _ (na c)) l b.1 b.2.1 b.2.2).mono ?_;rw[Xv];rintro e w' ⟨k,ly,tv,ys,d,f,g⟩;exact⟨ly,tv,ys,d,f,g,k⟩
theorem ZK(h:Sk w x.v (laF L) L.length)(y:∀ a∈L,LacOk a)(t:L.length<=100000)(s:Vi w){M:Meet}(r:D3.pk L=M) :
  Calls prog 7 #[x.v] w λe w'=>∃ (ly tv:S3) (ys:Nat->S3),e=.returned (.tuple #[.agg (Ix M ly tv),.bool true])/\OutW w' M ly tv ys/\OutN w.heap.size M ly tv ys/\Bw w w':=by
 refine tIn [] func7 trivial (tR 8 [1,0] λb _ _=>tF λ_ k=>?_);have d:=k.size;refine tC 1 (λF C=>jf (h.ab (CgQ.ab C)) y t (tb5 s C) r) λo=>?_;rintro _ _ ⟨ly,tv,ys,rfl,j,i,p⟩;refine⟨_,Fa.ot ly tv ys M::_,rfl,p,λF=>⟨OV j i o,F⟩,?_⟩;refine tR 14 [0,0,1,0,9,0,1,2,4,6,8] λf _ _=>K7 20 (λq m c=>∃ (_:Unit),q=[(2,pt (b 0) 0),(3,.bool ((ly.n:Int)==5))]/\m=[⟨(b 0),.cells (Ix M ly tv) 35,.l,false⟩,⟨(f 0),.cells (Ix M ly tv) 35,.z,false⟩]/\c=[Fa.ot ly tv ys M]) (λJ g=>?_) ?_
 .refine K8 5 9 ?_ ?_
  .refine tR 7 [1,12,14,16,19,0,0,20] λA _ _=>tD g [true,true] ⟨(),rfl,rfl,rfl⟩ (λF=>⟨F.1,trivial⟩)
  .refine tR 7 [0,0,11,1,12,14,16,20] λB _ _=>tD g [true,true] ⟨(),rfl,rfl,rfl⟩ (λF=>⟨F.1,trivial⟩)
 rintro _ _ _ ⟨_,rfl,rfl,rfl⟩ _ _ _;have u:(((ly.n:Nat):Int)==5)=true:=by rw[j.n5];rfl
 exact tX λF C=>qE2 2 3 35 0 (b 0) (Ix M ly tv) (.bool ((ly.n:Int)==5)) λ_=>⟨ly,tv,ys,by rw[u],OW F.1,i.mono d,CgQ.ab C⟩
theorem jb{l:List (Lac × S3)}(h:AcR w x L l)(f:∀ a∈L,LacOk a)(d:L.length<=100000)(c:Vi w){M:Meet}(b:D3.pk L=M) :
  Calls prog 7 #[x.v] w λe w'=>∃ (ly tv:S3) (ys:Nat->S3),e=.returned (.tuple #[.agg (Ix M ly tv),.bool true])/\OutW w' M ly tv ys/\OutN w.heap.size M ly tv ys/\Bw w w':=ZK (h.sk (by omega)) f d c b
end
section
variable{P:Program}{fn:Func}{R:Ending->World->Prop}{w0:World}{Φ:List Fa}{g:Gh}{w:World}
theorem tZ{s:Xs}(Ψ:List Fa)(a:AllF g w Φ->AllF gS w Ψ)(h:GT P fn R w0 Ψ ⟨s.K,s.f,[]⟩ gS w):GT P fn R w0 Φ s g w :=
 ⟨λF C=>⟨λb=>(h.ex (a F) (Cg.au (CgQ.ab C))).ex ⟨λ_ c=>(by cases c),qw,λ_ _=>⟨rfl,rfl⟩,b.base⟩⟩⟩
end
section
structure SkZ(g:Gh)(w:World)(x:S3)(L:List Lac)(Y:Nat->S3):Prop where
 n:x.n=L.length
 m:L.length<=2513169434916
 ex:L.length=0\/∃ b off,x.a=some ⟨b,off,none⟩/\b<w.heap.size/\g.t b=.z/\∀ i,i<L.length->w.rangeAt b (off+5*i) (laV (laF L i) (Y i).v)/\FSl g w (Y i) (laF L i).d
variable{L:List Lac}{Y:Nat->S3}{g:Gh}{w:World}{x:S3}
theorem SkZ.sk(h:SkZ g w x L Y):Sk w x.v (laF L) L.length :=
 ⟨⟨x.a,x.c,by rw[<- h.n],h.ex.imp id λ⟨b,d,j,k,_,e⟩=>⟨b,d,j,k,λi f=>⟨_,(e i f).1,(e i f).2.s⟩⟩⟩,h.m⟩
theorem SkZ.ch{B:Nat}{T:List Tg}{k:Gh}{r:World}(h:SkZ g w x L Y)(c:Cg B T g w k r)(q:Tg.z∉T):SkZ k r x L Y :=
 ⟨h.n,h.m,h.ex.imp id λ⟨b,f,s,d,a,o⟩=>⟨b,f,s,X' d c.size,(c.tag d (λe=>by rw[a]at e;cases e)).trans a,λi p=>⟨λj u t=>(World.cell?_of_block (w:=w) (c.same b d (by rw[a];exact q) (λe=>by rw[a]at e;cases e))).trans ((o i p).1 j u t),(o i p).2.ch c q⟩⟩⟩
def Fa.sk(x:S3)(L:List Lac)(Y:Nat->S3):Fa:=⟨none,λg w=>SkZ g w x L Y,λhz _ c h=>h.ch c hz⟩
theorem Sk.z{v:Value}(h:Sk w v (laF L) L.length):∃ x Y,v=S3.v x/\SkZ gS w x L Y:=by
 obtain⟨⟨a,c,rfl,l⟩,j⟩:=h;by_cases g:L.length=0
 .exact⟨⟨a,L.length,c⟩,λ_=>s30,rfl,rfl,j,.inl g⟩
 .obtain⟨b,off,ha,hb,hc⟩:=l.resolve_left g;have key:∀ i,∃ y:S3,i<L.length->w.rangeAt b (off+5*i) (laV (laF L i) y.v)/\Sl w y.v (laF L i).d:=λi=>by
   by_cases f:i<L.length
   .obtain⟨y,k1,k2⟩:=hc i f;obtain⟨⟨m,n,rfl,_⟩,_,_⟩:=id k2;exact⟨⟨m,_,n⟩,λ_=>⟨k1,k2⟩⟩
   .exact⟨s30,λe=>absurd e f⟩
  obtain⟨Y,k⟩:=Classical.axiomOfChoice key;exact⟨⟨a,L.length,c⟩,Y,rfl,rfl,j,.inr ⟨b,off,ha,hb,rfl,λi f=>⟨(k i f).1,(k i f).2,λ_ _ _=>rfl⟩⟩⟩
end
end
section
def alk:List Cmd->List Cmd->Bool
 | c::a,d::b=>decide (c=d)&&alk a b
 | _,_=>true
theorem Uh(a:List Cmd):alk a []=true:=by cases a<;>rfl
theorem Ug{a b:List Cmd}{i:Nat}(h:¬ (i<a.length/\i<b.length)):alk (a.drop i) (b.drop i)=true:=by
 by_cases c:i<a.length
 .rw[show b.drop i=[]from nu (by omega),Uh]
 .rw[show a.drop i=[]from nu (by omega)];rfl
theorem Xy{a b:List Cmd}{i:Nat}{c d:Cmd}(g:a[i]?=some c)(h:b[i]?=some d):alk (a.drop i) (b.drop i)=(decide (c=d)&&alk (a.drop (i+1)) (b.drop (i+1))):=by
 obtain⟨e,rfl⟩:=Q'.1 g;obtain⟨f,rfl⟩:=Q'.1 h;rw[nz e,nz f,alk]
end
section
open Go.RowKit
section
theorem mq(a b c d e f g h i j:Int):∀ w,(binOp .neq 64 (.agg #[.int .i64 a,.int .i64 b,.int .i64 c,.int .i64 d,.int .i64 e]) (.agg #[.int .i64 f,.int .i64 g,.int .i64 h,.int .i64 i,.int .i64 j])).run prog w=.ok (.bool (!decide (a=f/\b=g/\c=h/\d=i/\e=j))) w:=by
 intro w;rw[run_neq_struct,run_equalIn_agg w 9999 _ _ _ (by kernel_rfl) (by kernel_rfl)];unfold Program.fieldsOf;rw[underlying64];have k:=underlying3;simp[Op.eqFields,go_sem,k]
 repeat' split
 all_goals simp_all
variable{W w:World}{b off:Nat}{x:S3}
theorem lf{x y:Operand}(a b:Cmd):(do Go.eqGuard .neq 64 x y (.agg #[iv a.k,iv a.c,iv a.s,iv a.n,iv a.v]) (.agg #[iv b.k,iv b.c,iv b.s,iv b.n,iv b.v]);Go.binOp .neq 64 (.agg #[iv a.k,iv a.c,iv a.s,iv a.n,iv a.v]) (.agg #[iv b.k,iv b.c,iv b.s,iv b.n,iv b.v]):Sem Value).run prog W=.ok (.bool (!decide (a=b))) W:=by
 have d:=mq a.k a.c a.s a.n a.v b.k b.c b.s b.n b.v W;rw[OB]at d
 have e:(Go.eqGuard .neq 64 x y (.agg #[iv a.k,iv a.c,iv a.s,iv a.n,iv a.v]) (.agg #[iv b.k,iv b.c,iv b.s,iv b.n,iv b.v])).run prog W=.ok () W:=by kernel_rfl
 rw[Sem.run_bind,e,Result.andThen_ok];exact d
theorem Hz{y:S3}{a b:List Cmd}(h:RdV w x 5 (cmL a))(k:RdV w y 5 (cmL b))(hb:a.length<1000000){r:Bool}(Q:alk a b=r) :
  Calls prog 8 #[x.v,y.v] w λe w'=>e=.returned (.bool r)/\Bw w w':=by
 have hx:=cB h;have hy:=cB k;refine tIn [Fa.zv x 5 (cmL a),Fa.zv y 5 (cmL b)] func8 ⟨h.fz,k.fz,trivial⟩ (tR 10 [] λU _ _=>GU 27 [(0,S3.v x),(1,S3.v y),(5,iv 0)] [] [] [Fa.zv x 5 (cmL a),Fa.zv y 5 (cmL b)] (λR D z f=>∃ (i:Nat),R=a.length-i/\D=[(0,S3.v x),(1,S3.v y),(5,iv (i:Int))]/\z=[]/\f=[Fa.zv x 5 (cmL a),Fa.zv y 5 (cmL b)]/\i<=a.length/\alk (a.drop i) (b.drop i)=r) (a.length) ⟨0,rfl,rfl,rfl,rfl,by omega,Q⟩ (λF=>F) ?_);rintro k _ _ _ ⟨i,rfl,rfl,rfl,rfl,hi,g⟩ _ _ _ J q;refine tR 6 [] λV _ _=>?_;by_cases Z:i<a.length
 .refine tV 3 (.bool true) (λF C=>(rLt (t:=3) (m:=(i:Int)) (n:=(x.n:Int)) (x:=(.tmp 6)) (y:=(.tmp 8)) (N' (by omega)))) (tR 7 [] λW _ _=>?_);by_cases h2:i<b.length
  .refine tI ((decide ((i:Int)<(y.n:Int)))) true (N' (by omega)) ?_;obtain⟨c,E⟩:∃ c,a[i]?=some c:=⟨_,H' (by omega)⟩;obtain⟨d,G⟩:∃ d,b[i]?=some d:=⟨_,H' (by omega)⟩;rw[Xy E G]at g
   refine tF λF _=>?_;obtain⟨bx,S,l⟩:=F.1.rd.rc.addr (k:=i) (by omega);obtain⟨A,T,o⟩:=F.2.1.rd.rc.addr (k:=i) (by omega);refine tR 7 [9,0,2] λX _ _=>tT 2 (pt bx (S+5*i)) (λ_=>(Mb l i (by omega))) (tR 2 [8,10] λY _ _=>tT 6 (pt A (T+5*i)) (λ_=>(Mb o i (by omega))) (K7 27 (λD z f=>∃ (_:Unit),D=[(0,S3.v x),(1,S3.v y),(5,iv (i:Int)),(26,.bool (!decide (c=d)))]/\z=[]/\f=[Fa.zv x 5 (cmL a),Fa.zv y 5 (cmL b)]) (λJ q=>?_) ?_))
   .refine K8 3 7 ?_ ?_
    .refine tV 3 (.agg #[iv c.k,iv c.c,iv c.s,iv c.n,iv c.v]) (λF C=>(Pa c λH u j=>F.1.rd.rc.cellAt l E j)) (tV 7 (.agg #[iv d.k,iv d.c,iv d.s,iv d.n,iv d.v]) (λF C=>(Pa d λH u j=>F.2.1.rd.rc.cellAt o G j)) (tT 8 (.bool (!decide (c=d))) (λ_=>(lf (x:=(.tmp 21)) (y:=(.tmp 25)) c d)) (tR 1 [] λI _ _=>tD q [] ⟨(),rfl,rfl,rfl⟩ (λF=>F))))
    .refine tV 7 (.agg #[iv d.k,iv d.c,iv d.s,iv d.n,iv d.v]) (λF C=>(Pa d λH u j=>F.2.1.rd.rc.cellAt o G j)) (tV 3 (.agg #[iv c.k,iv c.c,iv c.s,iv c.n,iv c.v]) (λF C=>(Pa c λH u j=>F.1.rd.rc.cellAt l E j)) (tT 8 (.bool (!decide (c=d))) (λ_=>(lf (x:=(.tmp 21)) (y:=(.tmp 25)) c d)) (tR 1 [] λK _ _=>tD q [] ⟨(),rfl,rfl,rfl⟩ (λF=>F))))
   rintro _ _ _ ⟨_,rfl,rfl,rfl⟩ _ _ _;by_cases p:¬ c=d
   .refine tI ((!decide (c=d))) true (by simpa using p) (tR 4 [] λL _ _=>?_);rw[G' p]at g
    subst g;exact tE (.bool false) λ_ B=>⟨rfl,B⟩
   .refine tI ((!decide (c=d))) false (by simpa using p) ?_;rw[N' (oJ.1 p),Bool.true_and]at g
    refine tR 4 [] λM _ _=>tV 1 (iv ((i:Int)+1)) (λF C=>(AZ 16 (i:Int) underlying3 (by omega))) (tR 2 [] λN _ _=>tB q (a.length-(i+1)) (by omega) [] ⟨i+1,rfl,rfl,rfl,rfl,by omega,g⟩ (λF=>F))
  .refine tI ((decide ((i:Int)<(y.n:Int)))) false (G' (by omega)) (tR 5 [] λO _ _=>?_);rw[Ug (by omega)]at g
   subst g;exact tE (.bool true) λ_ B=>⟨rfl,B⟩
 .refine tV 3 (.bool false) (λF C=>(rLt (t:=3) (m:=(i:Int)) (n:=(x.n:Int)) (x:=(.tmp 6)) (y:=(.tmp 8)) (G' (by omega)))) (tR 13 [] λP _ _=>?_);rw[Ug (by omega)]at g
  subst g;exact tE (.bool true) λ_ B=>⟨rfl,B⟩
theorem Oa(c:x.a=some ⟨b,off,none⟩)(j:Nat)(d:j<x.n):(Instr.indexAt 31 x.v (iv (j:Int))).run prog W=.ok (pt b (off+j)) W:=by
 obtain⟨f,h,g⟩:=x;simp only at c d;subst c;exact MX (P:=prog) (e:=38) (z:=1) underlying31 (by kernel_rfl) (by kernel_rfl) d _ (by rw[qj])
theorem Cz{d:S3}{c:Nat->S3}{j:Nat}(h:RdV w d 1 [S3.v (c 0),S3.v (c 1),S3.v (c 2),S3.v (c 3),S3.v (c 4)])(e:d.a=some ⟨b,off,none⟩)(f:j<5):w.cell? ⟨b,off+j,none⟩=some (S3.v (c j)):=by
 rcases h.ex with h1|⟨b',off',h1,h2,h3⟩
 .have:=h.len;simp at this;omega
 .rw[e]at h1;cases h1
  refine h3 j _ ?_;rcases hZ f with rfl|rfl|rfl|rfl|rfl<;>rfl
theorem gk{l:List Tol}(h:RdV w x 5 (l.flatMap F4)):x.n=l.length:=by
 have:=h.len;rw[EF (f:=F4) (sz:=5) (λ_=>rfl)]at this
 omega
end
end
end Go.Proofs.YtdjfdfpkkenjbabGreatDoor
