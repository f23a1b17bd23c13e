/- Part 12 of the walk. -/
import Derived.Test.YtogibonjmbhliabGreatDoorZ11
set_option maxRecDepth 100000
set_option maxHeartbeats 4000000
open Go.Proofs.Tryz
set_option linter.unusedVariables false
namespace Go.Proofs.YtogibonjmbhliabGreatDoor
open Go.RowKit
section
theorem Rr(p:Nod)(b:Bal):(p.au b).1.ae=p.ae:=by
 unfold Nod.au;repeat' split
 all_goals rfl
variable{B C b i j mb ob r sz tb:Nat}{F:Nat->Lac}{L:List Lac}{M:Meet}{T:List Tg}{W w w' w0:World}{e:TypeId}{g g':Gh}{k:Int}{kp:Bool}{l:List (Lac × S3)}{ly tv x y:S3}{nb:Nat->Nat}{vs xs:List Value}{ys:Nat->S3}{α:Type}
theorem ZF{nb:Nat}{p:Nod}{S:List Let}{T:List Tol}(h:NS i nb ob g w p S T)(hB:Base w0 g w)(hT:Tabs w0)(hb:p.bw.length<100000000)(hr:p.dT<1000000000000)(b2:-1000000000000<p.dT)(hv:p.vo.p.r<1000000000000) :
  Calls prog 27 #[pt nb 0] w (NP i nb ob g w (.tuple #[]) (if p.up then p.lead i else p) S T):=by
 obtain⟨x,lt,tl,X,Y,hg⟩:=h;refine gI (fn:=f27) (TN i) g func27 hg (qN X (qO Y (qR [] 13 [0,0,2,0] λl g1 w1 c1=>?_)));by_cases R:p.up=true
 .refine qI ((!p.up)) false (by simpa using R) ?_;rw[if_pos R];refine qR [] 15 [21,0,2,2,4,6,8,0,10,2,12,14,16,18,20,22,0] λs2 g2 w2 P=>qT 12 (iv (max p.dT p.vo.p.r)) (λ_=>(lD #[3,3] 3 p.dT p.vo.p.r)) (qT 13 (iv ((max p.dT p.vo.p.r)+1)) (λ_=>(AU 23 (max p.dT p.vo.p.r) underlying3 (by omega))) (qR [] 12 [28,2,30,32,34,0,36,39,0,0,41,3,0,2,3] λm g4 w4 Q=>Af λK=>?_));have N5:NS i nb ob g4 w4 p S T:=(nsC X Y ((c1.n P).n Q) K);refine qG 2 (TN i) [false,false,true,true] (FJ N5 (hB.ch (((c1.nil (TN i)).n P).n Q) (BB i)) hT (⟨(max p.dT p.vo.p.r)+1,(i:Int)⟩:Bal)) ?_;rintro e' w5 ⟨t,g5,rfl,Z,M5,I⟩;refine⟨_,g5,rfl,I,M5.new,?_⟩;replace I:=I.ret (B:=w.heap.size);obtain⟨c,e,j,a,G,b1⟩:=M5;refine qN a (qO G (qR [] 13 [0,0,4,0] λo g7 w7 J=>?_));by_cases L:(p.au (⟨(max p.dT p.vo.p.r)+1,(i:Int)⟩:Bal)).2.2≠0
  .refine qI (((p.au (⟨(max p.dT p.vo.p.r)+1,(i:Int)⟩:Bal)).2.2 != 0)) true (by simpa using L) (qE (.tuple #[]) λK=>?_);rw[show p.lead i=(p.au (⟨(max p.dT p.vo.p.r)+1,(i:Int)⟩:Bal)).1 from by rw[Mu L];exact if_pos L];exact⟨_,rfl,(nsC a G J K),(((((c1.nil (TN i)).n P).n Q).trans (I)).n J)⟩
  .refine qI (((p.au (⟨(max p.dT p.vo.p.r)+1,(i:Int)⟩:Bal)).2.2 != 0)) false (by simpa using L) (qR [.n 0 i] 17 [0,1,2,1] λb3 a3 c3 u=>gG 5 64 [(1,pt (l 0) 0),(2,pt (m 0) 0),(3,pt (o 0) 0),(44,iv 0)] [true,true,true,true,true] [⟨(l 0),.cells #[pt nb 0] 70,.z,false⟩,⟨(m 0),.cells #[iv ((max p.dT p.vo.p.r)+1),iv (i:Int)] 75,.z,false⟩,⟨nb,.cells (AG i ob ({ (p.au (⟨(max p.dT p.vo.p.r)+1,(i:Int)⟩:Bal)).1 with bn:=⟨(⟨(max p.dT p.vo.p.r)+1,(i:Int)⟩:Bal),λ_=>false,λ_=>DW,λk=>if k<0 then c.ae.n else 0,0,[]⟩ }) ({ c with hv:=λ_=>s30,fa:=s30 })) 97,.n 0 i,false⟩,⟨ob,.cells #[S3.v e,S3.v j] 67,.n 50 0,false⟩,⟨(o 0),.cells #[S3.v t] 76,.z,false⟩] (by kernel_rfl) (by kernel_rfl) (by kernel_rfl) (by kernel_rfl) λq b z=>qR [.n 0 i] 35 [13,0,0,2,4,0,6,8,10,12,2,14,16,18,20,22,24,27,2,1] λb4 a4 c6 y=>EE (q 5) 64 [(1,pt (l 0) 0),(2,pt (m 0) 0),(3,pt (o 0) 0),(44,iv 1)] [true,true,true,true,true] [⟨(l 0),.cells #[pt nb 0] 70,.z,false⟩,⟨(m 0),.cells #[iv ((max p.dT p.vo.p.r)+1),iv (i:Int)] 75,.z,false⟩,⟨nb,.cells (AG i ob ({ (p.au (⟨(max p.dT p.vo.p.r)+1,(i:Int)⟩:Bal)).1 with bn:=⟨(⟨(max p.dT p.vo.p.r)+1,(i:Int)⟩:Bal),λ_=>false,λ_=>DW,λk=>if k<1 then c.ae.n else 0,0,[]⟩ }) ({ c with hv:=λ_=>s30,fa:=s30 })) 97,.n 0 i,false⟩,⟨ob,.cells #[S3.v e,S3.v j] 67,.n 50 0,false⟩,⟨(o 0),.cells #[S3.v t] 76,.z,false⟩] (by kernel_rfl) (by kernel_rfl) (by kernel_rfl) (by kernel_rfl) (by kernel_rfl) λz O K=>b 4 _ _ _ _ _ ?_ K);refine qR [.n 0 i] 35 [13,0,0,2,4,0,6,8,10,12,2,14,16,18,20,22,24,27,2,1] λb5 a5 c8 A=>EE (q 4) 64 [(1,pt (l 0) 0),(2,pt (m 0) 0),(3,pt (o 0) 0),(44,iv 2)] [true,true,true,true,true] [⟨(l 0),.cells #[pt nb 0] 70,.z,false⟩,⟨(m 0),.cells #[iv ((max p.dT p.vo.p.r)+1),iv (i:Int)] 75,.z,false⟩,⟨nb,.cells (AG i ob ({ (p.au (⟨(max p.dT p.vo.p.r)+1,(i:Int)⟩:Bal)).1 with bn:=⟨(⟨(max p.dT p.vo.p.r)+1,(i:Int)⟩:Bal),λ_=>false,λ_=>DW,λk=>if k<2 then c.ae.n else 0,0,[]⟩ }) ({ c with hv:=λ_=>s30,fa:=s30 })) 97,.n 0 i,false⟩,⟨ob,.cells #[S3.v e,S3.v j] 67,.n 50 0,false⟩,⟨(o 0),.cells #[S3.v t] 76,.z,false⟩] (by kernel_rfl) (by kernel_rfl) (by kernel_rfl) (by kernel_rfl) (by kernel_rfl) λz O K=>b 3 _ _ _ _ _ ?_ K;refine qR [.n 0 i] 35 [13,0,0,2,4,0,6,8,10,12,2,14,16,18,20,22,24,27,2,1] λb6 a6 c9 C=>EE (q 3) 64 [(1,pt (l 0) 0),(2,pt (m 0) 0),(3,pt (o 0) 0),(44,iv 3)] [true,true,true,true,true] [⟨(l 0),.cells #[pt nb 0] 70,.z,false⟩,⟨(m 0),.cells #[iv ((max p.dT p.vo.p.r)+1),iv (i:Int)] 75,.z,false⟩,⟨nb,.cells (AG i ob ({ (p.au (⟨(max p.dT p.vo.p.r)+1,(i:Int)⟩:Bal)).1 with bn:=⟨(⟨(max p.dT p.vo.p.r)+1,(i:Int)⟩:Bal),λ_=>false,λ_=>DW,λk=>if k<3 then c.ae.n else 0,0,[]⟩ }) ({ c with hv:=λ_=>s30,fa:=s30 })) 97,.n 0 i,false⟩,⟨ob,.cells #[S3.v e,S3.v j] 67,.n 50 0,false⟩,⟨(o 0),.cells #[S3.v t] 76,.z,false⟩] (by kernel_rfl) (by kernel_rfl) (by kernel_rfl) (by kernel_rfl) (by kernel_rfl) λz O K=>b 2 _ _ _ _ _ ?_ K;refine qR [.n 0 i] 35 [13,0,0,2,4,0,6,8,10,12,2,14,16,18,20,22,24,27,2,1] λb7 a7 d0 D=>EE (q 2) 64 [(1,pt (l 0) 0),(2,pt (m 0) 0),(3,pt (o 0) 0),(44,iv 4)] [true,true,true,true,true] [⟨(l 0),.cells #[pt nb 0] 70,.z,false⟩,⟨(m 0),.cells #[iv ((max p.dT p.vo.p.r)+1),iv (i:Int)] 75,.z,false⟩,⟨nb,.cells (AG i ob ({ (p.au (⟨(max p.dT p.vo.p.r)+1,(i:Int)⟩:Bal)).1 with bn:=⟨(⟨(max p.dT p.vo.p.r)+1,(i:Int)⟩:Bal),λ_=>false,λ_=>DW,λk=>if k<4 then c.ae.n else 0,0,[]⟩ }) ({ c with hv:=λ_=>s30,fa:=s30 })) 97,.n 0 i,false⟩,⟨ob,.cells #[S3.v e,S3.v j] 67,.n 50 0,false⟩,⟨(o 0),.cells #[S3.v t] 76,.z,false⟩] (by kernel_rfl) (by kernel_rfl) (by kernel_rfl) (by kernel_rfl) (by kernel_rfl) λz O K=>b 1 _ _ _ _ _ ?_ K;refine qR [.n 0 i] 35 [13,0,0,2,4,0,6,8,10,12,2,14,16,18,20,22,24,27,2,1] λb8 a8 d1 E=>EE (q 1) 64 [(1,pt (l 0) 0),(2,pt (m 0) 0),(3,pt (o 0) 0),(44,iv 5)] [true,true,true,true,true] [⟨(l 0),.cells #[pt nb 0] 70,.z,false⟩,⟨(m 0),.cells #[iv ((max p.dT p.vo.p.r)+1),iv (i:Int)] 75,.z,false⟩,⟨nb,.cells (AG i ob ({ (p.au (⟨(max p.dT p.vo.p.r)+1,(i:Int)⟩:Bal)).1 with bn:=⟨(⟨(max p.dT p.vo.p.r)+1,(i:Int)⟩:Bal),λ_=>false,λ_=>DW,λk=>if k<5 then c.ae.n else 0,0,[]⟩ }) ({ c with hv:=λ_=>s30,fa:=s30 })) 97,.n 0 i,false⟩,⟨ob,.cells #[S3.v e,S3.v j] 67,.n 50 0,false⟩,⟨(o 0),.cells #[S3.v t] 76,.z,false⟩] (by kernel_rfl) (by kernel_rfl) (by kernel_rfl) (by kernel_rfl) (by kernel_rfl) λz O K=>b 0 _ _ _ _ _ ?_ K;refine qR [] 10 [0] λb9 W a0 F=>?_;have hn:c.ae.n=p.ae.length:=by have:=a.ae.num;rw[Rr]at this;exact this
   rw[show p.lead i=Nod.wait { (p.au (⟨(max p.dT p.vo.p.r)+1,(i:Int)⟩:Bal)).1 with bn:=⟨(⟨(max p.dT p.vo.p.r)+1,(i:Int)⟩:Bal),λ_=>false,λ_=>DW,λ_=>c.ae.n,0,[]⟩ } (.began (⟨(max p.dT p.vo.p.r)+1,(i:Int)⟩:Bal) (p.au (⟨(max p.dT p.vo.p.r)+1,(i:Int)⟩:Bal)).2.1)from by rw[hn];exact if_neg L];refine Af λK=>?_;obtain⟨z1,z2⟩:=K.sB 0 (l 0) (.cells #[pt nb 0] 70) false (by kernel_rfl);obtain⟨z3,z4⟩:=K.sB 1 (m 0) (.cells #[iv (⟨(max p.dT p.vo.p.r)+1,(i:Int)⟩:Bal).r,iv (⟨(max p.dT p.vo.p.r)+1,(i:Int)⟩:Bal).n] 75) false (by kernel_rfl);obtain⟨z5,z6⟩:=K.sB 4 (o 0) (.cells #[S3.v t] 76) false (by kernel_rfl);have d:=(((((((J.nil ([.n 0 i]:List Tg)).trans (u)).trans (y)).trans (A)).trans (C)).trans (D)).trans (E)).n F;have s:Tg.z∉([.n 0 i]:List Tg):=by simp
   have U:NS i nb ob W a0 ({ (p.au (⟨(max p.dT p.vo.p.r)+1,(i:Int)⟩:Bal)).1 with bn:=⟨(⟨(max p.dT p.vo.p.r)+1,(i:Int)⟩:Bal),λ_=>false,λ_=>DW,λ_=>c.ae.n,0,[]⟩ }) S T:=⟨{ c with hv:=λ_=>s30,fa:=s30 },e,j,K.nd 2 (a.tape.ch d s) (a.mv.ch d s) (λ_ _=>⟨Sv.nil _,λh=>absurd rfl h⟩) (Ci a.bw d s (by simp)) (OwnS.nil _ _ _ _ _ _) (a.ae.ch d) (a.br.ch d) (a.cl.ch d) a.sJ,G.ch d s (by simp<;>omega),K.new⟩;refine qS0 2 [true,true,false,false,true] (AQ U (by show(p.au (⟨(max p.dT p.vo.p.r)+1,(i:Int)⟩:Bal)).1.bw.length<_;rw[FQ];exact hb) _ _ (.began (⟨(max p.dT p.vo.p.r)+1,(i:Int)⟩:Bal) (p.au (⟨(max p.dT p.vo.p.r)+1,(i:Int)⟩:Bal)).2.1) ⟨(l 0),(m 0),(o 0),t,rfl,⟨z1,z2⟩,⟨z3,z4⟩,⟨z5,z6⟩,((((((((Z.ch J).ch u).ch y).ch A).ch C).ch D).ch E).ch F)⟩) λa9 d2 d4 a1 a2 M N V=>qR [] 1 [] λc0 b0 d3 H=>qF M N H ((((((((((((((c1.nil (TN i)).n P).n Q).trans (I)).n J).trans (u.mono (by simp[TN]))).trans (y.mono (by simp[TN]))).trans (A.mono (by simp[TN]))).trans (C.mono (by simp[TN]))).trans (D.mono (by simp[TN]))).trans (E.mono (by simp[TN]))).n F).trans (V)).n H)
 .refine qI ((!p.up)) true (by simpa using R) (qE (.tuple #[]) λK=>?_);rw[if_neg R];exact⟨_,rfl,(nsC X Y c1 K),(c1.nil (TN i))⟩
theorem m9(h:1<=k/\k<=9):k=1\/k=2\/k=3\/k=4\/k=5\/k=6\/k=7\/k=8\/k=9:=by omega
theorem iI(h:MS mb tb ob nb g w M)(A:Base w0 g w)(C:Tabs w0)(x:Lac)(dv:S3)(hd:Sl w dv.v x.d)(D:LacOk x){n:Nat}(u:MOk n M)(hn:n<=1000000) :
  Calls prog 17 #[pt mb 0,.agg #[iv x.k,iv x.n,iv x.a,iv x.p,dv.v]] w (MP mb tb ob nb g w (.tuple #[]) (M.act x)):=by
 obtain⟨j,a7,c⟩:∃ j:Nat,x.n=(j:Int)/\j<5:=by
  cases hu:FZ x.k with
  | true=>have:=D.n hu;exact⟨x.n.toNat,by omega,by omega⟩
  | false=>have:=D.n0 hu;exact⟨0,by omega,by omega⟩
 obtain⟨at_,a6,e⟩:∃ at_:Nat,x.a=(at_:Int)/\at_<=1048576:=by
  cases hu:Hv x.k with
  | true=>have:=D.a hu;exact⟨x.a.toNat,by omega,by omega⟩
  | false=>have:=D.a0 hu;exact⟨0,by omega,by omega⟩
 have d5:0<=x.p/\x.p<=100000:=by
  cases hu:Hw x.k with
  | true=>exact D.p hu
  | false=>have:=D.p0 hu;omega
 have a8:=D.k;obtain⟨k,xn,xa,p,d⟩:=x;simp only at a7 a6 d5 a8 hd ⊢;subst a7 a6;clear D;have hp:=u.ab j c;have h6:=u.wt;have h5:=u.ew;have h3:=Ei (M.ab j).bw;have h4:=Rw M c;have h7:=mh M c;have h2:=u.bad j c;refine gI (fn:=f17) TM g func17 h.new (Cr ⟨mb,_,.z,false⟩ (λ_=>⟨h.box.r,h.box.z,λh=>(by cases h),λh=>absurd rfl h⟩) (by kernel_rfl) ?_);refine qR [] 11 [0,0,8,0,2,4,1,6,8] λj2 g1 w1 c1=>?_;refine QI 5 (pt mb j) false (λW hW=>(by rcases rU c with rfl|rfl|rfl|rfl|rfl<;>kernel_rfl)) (by kernel_rfl) ?_;refine qU 6 (pt (nb j) 0) (λW hW=>(D4 underlying70 rfl (Vf (AV.at (hW rfl) 0 mb (.cells (mtA nb ob tb) 73) .z (by kernel_rfl)) c))) (qR [] 13 [14,1] λj3 g3 w3 b=>?_);rcases m9 a8 with rfl|rfl|rfl|rfl|rfl|rfl|rfl|rfl|rfl
 .refine qR [] 5 [1] λj4 g4 w4 c4=>?_;rw[show M.act ⟨1,(j:Int),(at_:Int),p,d⟩=(M.set j ((M.ab j).sj j d M.ew).1 M.bt ((M.ab j).sj j d M.ew).2)from rfl];refine Af λK=>?_;have N5:MS mb tb ob nb g4 w4 M:=(h.sc ((c1.trans b).trans c4) K.new);refine qG 3 TM [true,true] ((N5).call c (Xp ((N5).ns c) (A.ch (((c1.nil TM).n b).n c4) F4) C dv d (hd.af (Cg.af ((c1.trans b).trans c4) (λ_ _=>P'))) hp (by omega) (by omega) (by omega) rfl rfl)) ?_;rintro y w5 ⟨g5,rfl,M5,c5⟩;refine⟨_,g5,rfl,c5,M5.new,?_⟩;replace c5:=c5.ret (B:=w.heap.size);refine qR [] 2 [] λj5 g6 w6 c6=>qE (.tuple #[]) λK=>⟨_,rfl,(M5.sc c6 K.new),(((((c1.nil TM).n b).n c4).trans (c5)).n c6)⟩
 .refine qR [] 9 [] λj6 g7 w7 c7=>?_;rw[show M.act ⟨2,(j:Int),(at_:Int),p,d⟩=(M.set j (if(M.ab j).up then(M.ab j).lead j else(M.ab j)) M.bt M.ew)from rfl];refine Af λK=>?_;have N8:MS mb tb ob nb g7 w7 M:=(h.sc ((c1.trans b).trans c7) K.new);refine qG 1 TM [true,true] ((N8).call c (ZF ((N8).ns c) (A.ch (((c1.nil TM).n b).n c7) F4) C (by omega) (by have:=hp.ro;omega) (by have:=hp.ro;omega) (by have:=hp.vp.um;omega))) ?_;rintro y w8 ⟨g8,rfl,M8,c8⟩;refine⟨_,g8,rfl,c8,M8.new,?_⟩;replace c8:=c8.ret (B:=w.heap.size);refine qR [] 2 [] λj7 g9 w9 c9=>qE (.tuple #[]) λK=>⟨_,rfl,(M8.sc c9 K.new),(((((c1.nil TM).n b).n c7).trans (c8)).n c9)⟩
 .refine qR [] 15 [] λe3 b3 d6 E=>?_;rw[show M.act ⟨3,(j:Int),(at_:Int),p,d⟩=(M.set j (if(M.ab j).up then((M.ab j).piece j M.bt M.ew).1 else(M.ab j)) (if(M.ab j).up then((M.ab j).piece j M.bt M.ew).2.1 else M.bt) (if(M.ab j).up then((M.ab j).piece j M.bt M.ew).2.2 else M.ew))from rfl];refine Af λK=>?_;have T:MS mb tb ob nb b3 d6 M:=(h.sc ((c1.trans b).trans E) K.new);refine qG 1 TM [true,true] ((T).call c (aG ((T).ns c) (A.ch (((c1.nil TM).n b).n E) F4) C c hp (by omega) u.bt (by omega))) ?_;rintro y h8 ⟨b4,rfl,L,i⟩;refine⟨_,b4,rfl,i,L.new,?_⟩;replace i:=i.ret (B:=w.heap.size);refine qR [] 2 [] λe4 f7 h9 X=>qE (.tuple #[]) λK=>⟨_,rfl,(L.sc X K.new),(((((c1.nil TM).n b).n E).trans (i)).n X)⟩
 .refine qR [] 28 [1,1] λe5 b5 d7 F=>?_;rw[show M.act ⟨4,(j:Int),(at_:Int),p,d⟩=(M.move 4 at_)from rfl];refine Af λK=>?_;have a9:MS mb tb ob nb b5 d7 M:=(h.sc ((c1.trans b).trans F) K.new);refine qG 5 TM [true,true] (Mk a9 (A.ch (((c1.nil TM).n b).n F) F4) C 4 at_ e u hn) ?_;rintro y i0 ⟨b6,rfl,N,l⟩;refine⟨_,b6,rfl,l,N.new,?_⟩;replace l:=l.ret (B:=w.heap.size);refine qR [] 2 [] λe6 f8 i1 Y=>qE (.tuple #[]) λK=>⟨_,rfl,(N.sc Y K.new),(((((c1.nil TM).n b).n F).trans (l)).n Y)⟩
 .refine qR [] 34 [1,1] λe7 b7 d8 G=>?_;rw[show M.act ⟨5,(j:Int),(at_:Int),p,d⟩=(M.move 5 at_)from rfl];refine Af λK=>?_;have b0:MS mb tb ob nb b7 d8 M:=(h.sc ((c1.trans b).trans G) K.new);refine qG 5 TM [true,true] (Mk b0 (A.ch (((c1.nil TM).n b).n G) F4) C 5 at_ e u hn) ?_;rintro y i2 ⟨b8,rfl,O,m⟩;refine⟨_,b8,rfl,m,O.new,?_⟩;replace m:=m.ret (B:=w.heap.size);refine qR [] 2 [] λe8 f9 i3 Z=>qE (.tuple #[]) λK=>⟨_,rfl,(O.sc Z K.new),(((((c1.nil TM).n b).n G).trans (m)).n Z)⟩
 .refine qR [] 37 [1,1] λe9 b9 d9 H=>?_;rw[show M.act ⟨6,(j:Int),(at_:Int),p,d⟩=(M.move 6 at_)from rfl];refine Af λK=>?_;have b1:MS mb tb ob nb b9 d9 M:=(h.sc ((c1.trans b).trans H) K.new);refine qG 5 TM [true,true] (Mk b1 (A.ch (((c1.nil TM).n b).n H) F4) C 6 at_ e u hn) ?_;rintro y i4 ⟨c0,rfl,P,o⟩;refine⟨_,c0,rfl,o,P.new,?_⟩;replace o:=o.ret (B:=w.heap.size);refine qR [] 2 [] λf0 g0 i5 a1=>qE (.tuple #[]) λK=>⟨_,rfl,(P.sc a1 K.new),(((((c1.nil TM).n b).n H).trans (o)).n a1)⟩
 .refine qR [] 39 [] λf1 c2 e0 I=>?_;rw[show M.act ⟨7,(j:Int),(at_:Int),p,d⟩=M.rY from rfl];refine Af λK=>?_;have b2:MS mb tb ob nb c2 e0 M:=(h.sc ((c1.trans b).trans I) K.new);refine qG 1 TM [true,true] (Qx b2 (A.ch (((c1.nil TM).n b).n I) F4) C u hn) ?_;rintro y i6 ⟨d0,rfl,Q,q⟩;refine⟨_,d0,rfl,q,Q.new,?_⟩;replace q:=q.ret (B:=w.heap.size);refine qR [] 2 [] λf2 g2 i7 a2=>qE (.tuple #[]) λK=>⟨_,rfl,(Q.sc a2 K.new),(((((c1.nil TM).n b).n I).trans (q)).n a2)⟩
 .refine qR [] 47 [1] λf3 d1 e1 a3=>?_;rw[show M.act ⟨8,(j:Int),(at_:Int),p,d⟩=(M.set j (if(M.ab j).up then(M.ab j).lp p else(M.ab j)) M.bt M.ew)from rfl];refine Af λK=>?_;have U:MS mb tb ob nb d1 e1 M:=(h.sc ((c1.trans b).trans a3) K.new);refine qG 3 TM [true,true] ((U).call c (Y0 ((U).ns c) p (by omega) (by omega))) ?_;rintro y i8 ⟨d2,rfl,R,s⟩;refine⟨_,d2,rfl,s,R.new,?_⟩;replace s:=s.ret (B:=w.heap.size);refine qR [] 2 [] λf4 h0 i9 a4=>qE (.tuple #[]) λK=>⟨_,rfl,(R.sc a4 K.new),(((((c1.nil TM).n b).n a3).trans (s)).n a4)⟩
 .refine qR [] 51 [] λf5 d3 e2 J=>?_;rw[show M.act ⟨9,(j:Int),(at_:Int),p,d⟩=(M.set j (if(M.ab j).up then(M.ab j)else(M.ab j).start) M.bt M.ew)from rfl];refine Af λK=>?_;have V:MS mb tb ob nb d3 e2 M:=(h.sc ((c1.trans b).trans J) K.new);refine qG 1 TM [true,true] ((V).call c (bG ((V).ns c) (A.ch (((c1.nil TM).n b).n J) F4) C)) ?_;rintro y j0 ⟨d4,rfl,S,t⟩;refine⟨_,d4,rfl,t,S.new,?_⟩;replace t:=t.ret (B:=w.heap.size);refine qR [] 2 [] λf6 h1 j1 a5=>qE (.tuple #[]) λK=>⟨_,rfl,(S.sc a5 K.new),(((((c1.nil TM).n b).n J).trans (t)).n a5)⟩
theorem gL(h:OwnS g' w' (.n 60 0) kp e sz y xs)(c:Cg w.heap.size [.n 60 0] gz w g' w'):∀ a,y.a=some a->w.heap.size<=a.block:=by
 intro a d;rcases h.ex with⟨h1,_⟩|⟨b,_,h1,_,_,_,_,_,h7,_⟩
 .rw[h1]at d;cases d
 .rw[h1]at d
  simp only[Y']at d;subst d;rcases nW b w.heap.size with hlt|hge
  .have:=c.tag hlt (λh=>hlt);rw[h7]at this;cases this
  .exact hge
theorem Sw(h:RdV w x 5 vs)(H:∀ u∈vs,u.oneCell'=true)(L:x.n<100000000) :
  Calls prog 34 #[x.v] w λe w'=>∃ y:S3,e=.returned y.v/\RdV w' y 5 vs/\y.n=x.n/\(vs≠[]->∀ a,y.a=some a->w.heap.size<=a.block)/\Bw w w':=by
 obtain⟨S,c,i⟩:=x;simp only at L;refine gI (fn:=f34) [.n 60 0] gz func34 (λ_ _=>⟨rfl,rfl⟩) (qR [] 8 [] λT Y w1 c1=>?_);by_cases B:S=none
 .subst B;have m:i=0:=h.tg rfl;have o:c=0:=by have:=h.cap;simp only at this;omega
  subst m o;refine qV 1 (.bool true) (fu (z:=⟨none,0,0⟩) (t:=38) (e:=49) (x:=(.tmp 3)) (y:=(.const (sn))) rfl underlying38 (by kernel_rfl)) (qR [] 6 [] λU Z w2 E=>qE (S3.v s30) λK=>⟨s30,rfl,⟨h.len,A' _,λ_=>rfl,.inl rfl⟩,rfl,λ_ a J=>(by cases J),Cg.af ((c1.nil [.n 60 0]).n E) (λ_ _=>Ep)⟩)
 .obtain⟨ad,rfl⟩:=o8.1 B;refine qV 1 (.bool false) (fu (z:=⟨some ad,c,i⟩) (t:=38) (e:=49) (x:=(.tmp 3)) (y:=(.const (sn))) rfl underlying38 (by kernel_rfl)) (qR [] 7 [62,0] λb G R d=>?_);by_cases C:c=0
  .subst C;obtain⟨r,q⟩:∃ r,prog.info? 49=some r:=oq.1 (by kernel_rfl);refine qV 2 (.slice (some ⟨(b 0),0,none⟩) 0 0) (gN 38 38 49 r underlying38 q (b 0) ad i) (qR [] 2 [] λV g4 w4 F=>qE (S3.v ⟨some ⟨(b 0),0,none⟩,0,0⟩) λK=>⟨_,rfl,⟨h.len,A' _,λh=>(by cases h),.inl rfl⟩,rfl,λN=>absurd (Z' (by rw[h.len];exact rK 5)) N,Cg.af (((c1.nil [.n 60 0]).n d).n F) (λ_ _=>Ep)⟩)
  .obtain⟨bx,ox,hx1,hx2,hx3⟩:∃ bx ox,(some ad:Option Addr)=some ⟨bx,ox,none⟩/\bx<w.heap.size/\∀ j u,vs[j]?=some u->w.cell? ⟨bx,ox+j,none⟩=some u:=by rcases h.ex with h|h;exact absurd h C;exact h
   simp only[Y']at hx1;subst hx1;refine Af λK=>?_;obtain⟨O,P,Q⟩:=K.ue 0 (b 0) (.cells #[] 49) 60 0 true (by kernel_rfl);have I:OwnS G R (.n 60 0) true 49 5 ⟨some ⟨(b 0),0,none⟩,0,0⟩ []:=⟨rfl,.inr ⟨(b 0),#[],rfl,O,A' _,nB _,rfl,rfl,P,Q⟩⟩;refine IJ [false] ?_;have l:=Cg.af ((c1.nil [.n 60 0]).n d) (λ_ _=>Ep);refine KL 2 (x:=⟨some ⟨(b 0),0,none⟩,0,0⟩) 38 38 49 5 40 (.agg #[iv 0,iv 0,iv 0,iv 0,iv 0]) ⟨bx,ox,none⟩ c i vs I (by kernel_rfl) (by kernel_rfl) (by kernel_rfl) underlying38 (by kernel_rfl) (by kernel_rfl) (by decide) (by omega) h.len H (λK j u M=>by rw[KF];exact(l.cell (p:=⟨bx,ox+j,none⟩) hx2).trans (hx3 j u M)) (by show 0+c<=_;unfold maxLen;omega) (by show(0+c)*40<=_;omega) ?_;intro D g5 w5 s n5 k X;have A:=k w.heap.size [.n 60 0] (G'.2 rfl);refine qR [] 2 [] λW g6 w6 g=>qE (S3.v D) λK=>⟨D,rfl,(by have:=(s.ch g).rv;rwa [oU]at this),(by rw[n5];show 0+c=c;omega),λ_=>gL (s.ch g) ((((c1.nil [.n 60 0]).n d).trans A).n g),Cg.af ((((c1.nil [.n 60 0]).n d).trans A).n g) (λ_ _=>Ep)⟩
theorem LC(h:RdV w x 5 vs)(H:∀ u∈vs,u.oneCell'=true)(L:x.n<100000000) :
  Calls prog 33 #[x.v] w λe w'=>∃ y:S3,e=.returned y.v/\RdV w' y 5 vs/\y.n=x.n/\(vs≠[]->∀ a,y.a=some a->w.heap.size<=a.block)/\Bw w w':=by
 obtain⟨S,c,i⟩:=x;simp only at L;refine gI (fn:=f33) [.n 60 0] gz func33 (λ_ _=>⟨rfl,rfl⟩) (qR [] 8 [] λT Y w1 c1=>?_);by_cases B:S=none
 .subst B;have m:i=0:=h.tg rfl;have o:c=0:=by have:=h.cap;simp only at this;omega
  subst m o;refine qV 1 (.bool true) (fu (z:=⟨none,0,0⟩) (t:=28) (e:=103) (x:=(.tmp 3)) (y:=(.const (sn))) rfl underlying28 (by kernel_rfl)) (qR [] 6 [] λU Z w2 E=>qE (S3.v s30) λK=>⟨s30,rfl,⟨h.len,A' _,λ_=>rfl,.inl rfl⟩,rfl,λ_ a J=>(by cases J),Cg.af ((c1.nil [.n 60 0]).n E) (λ_ _=>Ep)⟩)
 .obtain⟨ad,rfl⟩:=o8.1 B;refine qV 1 (.bool false) (fu (z:=⟨some ad,c,i⟩) (t:=28) (e:=103) (x:=(.tmp 3)) (y:=(.const (sn))) rfl underlying28 (by kernel_rfl)) (qR [] 7 [62,0] λb G R d=>?_);by_cases C:c=0
  .subst C;obtain⟨r,q⟩:∃ r,prog.info? 103=some r:=oq.1 (by kernel_rfl);refine qV 2 (.slice (some ⟨(b 0),0,none⟩) 0 0) (gN 28 28 103 r underlying28 q (b 0) ad i) (qR [] 2 [] λV g4 w4 F=>qE (S3.v ⟨some ⟨(b 0),0,none⟩,0,0⟩) λK=>⟨_,rfl,⟨h.len,A' _,λh=>(by cases h),.inl rfl⟩,rfl,λN=>absurd (Z' (by rw[h.len];exact rK 5)) N,Cg.af (((c1.nil [.n 60 0]).n d).n F) (λ_ _=>Ep)⟩)
  .obtain⟨bx,ox,hx1,hx2,hx3⟩:∃ bx ox,(some ad:Option Addr)=some ⟨bx,ox,none⟩/\bx<w.heap.size/\∀ j u,vs[j]?=some u->w.cell? ⟨bx,ox+j,none⟩=some u:=by rcases h.ex with h|h;exact absurd h C;exact h
   simp only[Y']at hx1;subst hx1;refine Af λK=>?_;obtain⟨O,P,Q⟩:=K.ue 0 (b 0) (.cells #[] 103) 60 0 true (by kernel_rfl);have I:OwnS G R (.n 60 0) true 103 5 ⟨some ⟨(b 0),0,none⟩,0,0⟩ []:=⟨rfl,.inr ⟨(b 0),#[],rfl,O,A' _,nB _,rfl,rfl,P,Q⟩⟩;refine IJ [false] ?_;have l:=Cg.af ((c1.nil [.n 60 0]).n d) (λ_ _=>Ep);refine KL 2 (x:=⟨some ⟨(b 0),0,none⟩,0,0⟩) 28 28 103 5 40 (.agg #[iv 0,iv 0,iv 0,iv 0,iv 0]) ⟨bx,ox,none⟩ c i vs I (by kernel_rfl) (by kernel_rfl) (by kernel_rfl) underlying28 (by kernel_rfl) (by kernel_rfl) (by decide) (by omega) h.len H (λK j u M=>by rw[KF];exact(l.cell (p:=⟨bx,ox+j,none⟩) hx2).trans (hx3 j u M)) (by show 0+c<=_;unfold maxLen;omega) (by show(0+c)*40<=_;omega) ?_;intro D g5 w5 s n5 k X;have A:=k w.heap.size [.n 60 0] (G'.2 rfl);refine qR [] 2 [] λW g6 w6 g=>qE (S3.v D) λK=>⟨D,rfl,(by have:=(s.ch g).rv;rwa [oU]at this),(by rw[n5];show 0+c=c;omega),λ_=>gL (s.ch g) ((((c1.nil [.n 60 0]).n d).trans A).n g),Cg.af ((((c1.nil [.n 60 0]).n d).trans A).n g) (λ_ _=>Ep)⟩
def KQ(M:Meet)(ly tv:S3):Array Value:=#[iv (M.bt.length:Int),.bool (M.ab 0).up,.bool (M.ab 1).up,.bool (M.ab 2).up,.bool (M.ab 3).up,.bool (M.ab 4).up,S3.v ly,iv ((M.ab 0).bad:Int),iv ((M.ab 1).bad:Int),iv ((M.ab 2).bad:Int),iv ((M.ab 3).bad:Int),iv ((M.ab 4).bad:Int),S3.v tv]
structure OutW(w:World)(M:Meet)(ly tv:S3)(ys:Nat->S3):Prop where
 sw:RdV w ly 1 [S3.v (ys 0),S3.v (ys 1),S3.v (ys 2),S3.v (ys 3),S3.v (ys 4)]
 log:∀ j,j<5->RdC w (ys j) ((M.ab j).ae.take (M.ab j).done)
 ew:RdV w tv 5 (M.ew.flatMap GM)
structure OutN(B:Nat)(M:Meet)(ly tv:S3)(ys:Nat->S3):Prop where
 sw:∀ a,ly.a=some a->B<=a.block
 log:∀ j,j<5->cmL ((M.ab j).ae.take (M.ab j).done)≠[]->∀ a,(ys j).a=some a->B<=a.block
 ew:M.ew.flatMap GM≠[]->∀ a,tv.a=some a->B<=a.block
theorem OutW.ch(h:OutW w M ly tv ys)(hn:OutN B M ly tv ys)(e:∀ b,B<=b->g.t b=.z)(c:Cg C [] g w g' w'):OutW w' M ly tv ys :=
 ⟨((⟨h.sw,λ_ a d=>e _ (hn.sw a d)⟩:FzV g w ly 1 _).ch c).rd,λj i=>(((⟨(h.log j i).rv,λf a d=>e _ (hn.log j i f a d)⟩:FzV g w (ys j) 5 _).ch c).rd).rc,((⟨h.ew,λf a d=>e _ (hn.ew f a d)⟩:FzV g w tv 5 _).ch c).rd⟩
theorem V0(d:List Tol):∀ u∈d.flatMap GM,u.oneCell'=true:=by
 intro u b;obtain⟨c,_,a⟩:=pV.1 b;simp only[GM,nf,P',or_false]at a;rcases a with rfl|rfl|rfl|rfl|rfl<;>rfl
theorem bV{P:Program}{c:Func}{R:Ending->World->Prop}{Φ:List Fa}{s:Xs}(b:Nat)(o:Obj)(a:w0.heap[b]?=some o)(h:GT P c R w0 Φ ⟨s.K,s.f,BS s.L++[⟨b,o,.z,false⟩]⟩ g w):GT P c R w0 Φ s g w :=
 ⟨λF C=>Cr ⟨b,o,.z,false⟩ (λ_=>⟨((CgQ.af C).block b (rl a)).trans a,C.tag (rl a) (λ_=>rl a),(λh=>by cases h),λh=>absurd rfl h⟩) rfl (h.ex F C)⟩
theorem jb(h:MS mb tb ob nb g w0 M)(b:Bw w0 w)(c:i<5)(a:(M.ab i).done<=(M.ab i).ae.length) :
  Calls prog 35 #[pt (nb i) 0] w λe w'=>∃ y:S3,e=.returned y.v/\RdC w' y ((M.ab i).ae.take (M.ab i).done)/\Bw w w' :=
 UY ((h.sc (Cg.ed (B:=0) b) λd a=>h.new d (mV b.size a)).ns c) a
theorem l8(a:i<5):(Instr.index 71 (.agg #[pt (nb 0) 0,pt (nb 1) 0,pt (nb 2) 0,pt (nb 3) 0,pt (nb 4) 0]) (iv (i:Int))).run prog W=.ok (pt (nb i) 0) W:=by
 rcases rU a with rfl|rfl|rfl|rfl|rfl<;>kernel_rfl
def ysL(ys:Nat->S3)(i:Nat):List Value:=(List.range i).map λj=>S3.v (ys j)
def Gm(f:Nat->Bool)(i:Nat)(b:Bool):Nat->Bool:=λj=>bif Nat.beq j i then b else f j
def KM(f:Nat->Int)(i:Nat)(b:Int):Nat->Int:=λj=>bif Nat.beq j i then b else f j
def rN(M:Meet)(i:Nat):Nat->Bool:=λj=>bif Nat.blt j i then(M.ab j).up else false
def CM(M:Meet)(i:Nat):Nat->Int:=λj=>bif Nat.blt j i then((M.ab j).bad:Int)else 0
theorem Qi(j i:Nat):Nat.blt j (i+1)=bif Nat.beq j i then true else Nat.blt j i:=by
 rw[rH];rcases qp j i with h|h|h
 .simp[Nat.blt,show Nat.beq j i=false from Bool.eq_false_iff.2 λe=>by have:=Nat.eq_of_beq_eq_true e;omega];omega
 .subst h;simp[Nat.blt,Nat.beq_refl]
 .simp[Nat.blt,show Nat.beq j i=false from Bool.eq_false_iff.2 λe=>by have:=Nat.eq_of_beq_eq_true e;omega];omega
theorem jO(M:Meet)(i:Nat):Gm (rN M i) i (M.ab i).up=rN M (i+1):=by
 funext j
 unfold Gm rN;rw[Qi];cases h:Nat.beq j i
 .rfl
 .rw[nF h];rfl
theorem iw(M:Meet)(i:Nat):KM (CM M i) i ((M.ab i).bad:Int)=CM M (i+1):=by
 funext j
 unfold KM CM;rw[Qi];cases h:Nat.beq j i
 .rfl
 .rw[nF h];rfl
def Lgs(g:Gh)(w:World)(M:Meet)(ys:Nat->S3)(i:Nat):Prop:=∀ j,j<i->FzV g w (ys j) 5 (cmL ((M.ab j).ae.take (M.ab j).done))
def Fa.lg(M:Meet)(ys:Nat->S3)(i:Nat):Fa:=⟨none,λg w=>Lgs g w M ys i,λhz _ c h j hj=>(h j hj).ch c hz⟩
def yup(ys:Nat->S3)(i:Nat)(y:S3):Nat->S3:=λj=>if j=i then y else ys j
theorem eD(h:Lgs g w M ys i)(k:FzV g w y 5 (cmL ((M.ab i).ae.take (M.ab i).done))):Lgs g w M (yup ys i y) (i+1):=by
 intro j a;unfold yup;split
 .rename_i e;rw[e];exact k
 .exact h j (by omega)
theorem mm(a:Nat->S3)(i:Nat)(y:S3):ysL (yup a i y) (i+1)=ysL a i++[S3.v y]:=by
 unfold ysL;rw[o0,nE]
 congr 1
 .apply qQ;intro j b;have:=oK.1 b;unfold yup;rw[if_neg (by omega)]
 .simp[yup]
theorem gA(h:∀ j,j<i->cmL ((M.ab j).ae.take (M.ab j).done)≠[]->∀ a,(ys j).a=some a->B<=a.block)(k:cmL ((M.ab i).ae.take (M.ab i).done)≠[]->∀ a,y.a=some a->B<=a.block):∀ j,j<i+1->cmL ((M.ab j).ae.take (M.ab j).done)≠[]->∀ a,(yup ys i y j).a=some a->B<=a.block:=by
 intro j b;unfold yup;split
 .rename_i e;rw[e];exact k
 .exact h j (by omega)
theorem jm(h:OwnS g w (.n 60 0) true e sz x xs)(C:Cg w0.heap.size TQ gS w0 g w):∀ a,x.a=some a->w0.heap.size<=a.block:=by
 intro a c;rcases h.ex with⟨h1,_⟩|⟨b,cur,h1,_,_,_,_,_,h7,_⟩
 .rw[h1]at c;cases c
 .rw[h1]at c;cases c
  refine qK λd=>?_;have:=C.tag d (λ_=>d);rw[h7]at this
  cases this
theorem Ro(h:MS mb tb ob nb g w M)(hd:∀ i,i<5->(M.ab i).done<=(M.ab i).ae.length/\(M.ab i).ae.length<=40)(b2:M.bt.length<100000000)(b5:M.ew.length<100000000) :
  Calls prog 18 #[pt mb 0] w λe w'=>∃ (ly tv:S3) (ys:Nat->S3),e=.returned (.agg (KQ M ly tv))/\OutW w' M ly tv ys/\OutN w.heap.size M ly tv ys/\Bw w w':=by
 obtain⟨lt,tl,E⟩:=h.out;obtain⟨bs,hL,R⟩:=E.bt;have S:lt.n=M.bt.length:=by have:=hL.len;have:=R.len;simp at *;omega
 have b6:tl.n=M.ew.length:=by have Z:=E.ew.len;rw[GN]at Z;omega
 refine tIn [] func18 trivial (bV mb _ h.box.r ?_);refine bV ob _ E.row ?_;refine tR 21 [1,0,19,0,2,4,6,0,8,10,12,1,14,16,18,20,22,0,24,26,28,1] λb _ _=>KV 55 (λy t c=>∃ (tv:S3) (m:Nat),y=[(0,pt mb 0),(2,pt (b 0) 0),(3,pt m 0)]/\t=[⟨mb,.cells (mtA nb ob tb) 73,.z,false⟩,⟨ob,.cells #[S3.v lt,S3.v tl] 67,.z,false⟩,⟨(b 0),.cells #[iv 0,.bool false,.bool false,.bool false,.bool false,.bool false,sn,iv 0,iv 0,iv 0,iv 0,iv 0,sn] 30,.l,false⟩,⟨m,.cells #[iv (lt.n:Int),.bool false,.bool false,.bool false,.bool false,.bool false,sn,iv 0,iv 0,iv 0,iv 0,iv 0,S3.v tv] 30,.l,false⟩]/\c=[Fa.zv tv 5 (M.ew.flatMap GM)]/\(M.ew.flatMap GM≠[]->∀ a,tv.a=some a->w.heap.size<=a.block)) (λJ q=>?_) ?_
 .refine PR 15 17 ?_ ?_
  .refine tF λ_ D=>?_;have T:=D.size;refine tC 15 (λF C=>LC (E.ew.rv.af (CgQ.af C)) (V0 _) (by omega)) λB=>?_;rintro _ _ ⟨tv,rfl,A,_,f,b4⟩;refine⟨_,Fa.zv tv 5 (M.ew.flatMap GM)::_,rfl,b4,λF=>⟨⟨A,λp a o=>B _ (f p a o)⟩,F⟩,?_⟩;refine tR 4 [32,35,1,0,37,3,0] λX _ _=>tD q [true,true,true,true] ⟨tv,(X 0),rfl,rfl,rfl,λp a o=>mV T (f p a o)⟩ (λF=>⟨F.1,trivial⟩)
  .refine tR 1 [1,0] λY _ _=>tF λ_ D=>?_;have U:=D.size;refine tC 15 (λF C=>LC (E.ew.rv.af (CgQ.af C)) (V0 _) (by omega)) λB=>?_;rintro _ _ ⟨tv,rfl,A,_,f,b8⟩;refine⟨_,Fa.zv tv 5 (M.ew.flatMap GM)::_,rfl,b8,λF=>⟨⟨A,λp a o=>B _ (f p a o)⟩,F⟩,?_⟩;refine tR 3 [32,37,3,0] λb9 _ _=>tD q [true,true,true,true] ⟨tv,(Y 0),rfl,rfl,rfl,λp a o=>mV U (f p a o)⟩ (λF=>⟨F.1,trivial⟩)
 rintro _ _ _ ⟨tv,m,rfl,rfl,rfl,f⟩ _ _ _;refine tR 10 [0] λa1 _ _=>DU 55 [(2,pt (b 0) 0),(3,pt m 0),(26,.agg #[pt (nb 0) 0,pt (nb 1) 0,pt (nb 2) 0,pt (nb 3) 0,pt (nb 4) 0]),(27,iv 0)] [true,false,true,true] [⟨mb,.cells (mtA nb ob tb) 73,.z,false⟩,⟨(b 0),.cells #[iv 0,.bool false,.bool false,.bool false,.bool false,.bool false,sn,iv 0,iv 0,iv 0,iv 0,iv 0,sn] 30,.l,false⟩,⟨m,.cells #[iv (lt.n:Int),.bool false,.bool false,.bool false,.bool false,.bool false,sn,iv 0,iv 0,iv 0,iv 0,iv 0,S3.v tv] 30,.l,false⟩] [Fa.zv tv 5 (M.ew.flatMap GM),Fa.ow 0 38 1 s30 (ysL (λ_=>s30) 0),Fa.lg M (λ_=>s30) 0] (λkk y t c=>∃ (i:Nat) (ly:S3) (ys:Nat->S3),kk=5-i/\y=[(2,pt (b 0) 0),(3,pt m 0),(26,.agg #[pt (nb 0) 0,pt (nb 1) 0,pt (nb 2) 0,pt (nb 3) 0,pt (nb 4) 0]),(27,iv (i:Int))]/\t=[⟨mb,.cells (mtA nb ob tb) 73,.z,false⟩,⟨(b 0),.cells #[iv 0,.bool false,.bool false,.bool false,.bool false,.bool false,sn,iv 0,iv 0,iv 0,iv 0,iv 0,sn] 30,.l,false⟩,⟨m,.cells #[iv (lt.n:Int),.bool (rN M i 0),.bool (rN M i 1),.bool (rN M i 2),.bool (rN M i 3),.bool (rN M i 4),S3.v ly,iv (CM M i 0),iv (CM M i 1),iv (CM M i 2),iv (CM M i 3),iv (CM M i 4),S3.v tv] 30,.l,false⟩]/\c=[Fa.zv tv 5 (M.ew.flatMap GM),Fa.ow 0 38 1 ly (ysL ys i),Fa.lg M ys i]/\i<=5/\ly.n=i/\(∀ j,j<i->cmL ((M.ab j).ae.take (M.ab j).done)≠[]->∀ a,(ys j).a=some a->w.heap.size<=a.block)) (5) ⟨0,s30,λ_=>s30,rfl,rfl,rfl,rfl,by omega,rfl,λj G=>absurd G (oZ _)⟩ (λF=>⟨F.1,OwnS.nil _ _ _ _ _ _,(λj G=>absurd G (oZ _)),trivial⟩) ?_;rintro k _ _ _ ⟨i,ly,ys,rfl,rfl,rfl,rfl,hi,a0,hw⟩ _ _ _ J q;refine tR 5 [] λa2 _ _=>?_;by_cases Z:i<5
 .refine tI ((decide ((i:Int)<5))) true (M' (by omega)) ?_;have d:i<5:=by omega
  obtain⟨x,hN⟩:=h.ab i d;refine tR 6 [] λa3 _ _=>tV 1 (pt (nb i) 0) (λF C=>(l8 d)) (bV (nb i) _ hN.row ?_);refine tR 4 [] λa4 _ _=>KV 55 (λy t c=>y=[(2,pt (b 0) 0),(3,pt m 0),(26,.agg #[pt (nb 0) 0,pt (nb 1) 0,pt (nb 2) 0,pt (nb 3) 0,pt (nb 4) 0]),(27,iv (i:Int)),(4,iv (i:Int)),(5,pt (nb i) 0)]/\t=[⟨mb,.cells (mtA nb ob tb) 73,.z,false⟩,⟨(b 0),.cells #[iv 0,.bool false,.bool false,.bool false,.bool false,.bool false,sn,iv 0,iv 0,iv 0,iv 0,iv 0,sn] 30,.l,false⟩,⟨m,.cells #[iv (lt.n:Int),.bool (Gm (rN M i) i (M.ab i).up 0),.bool (Gm (rN M i) i (M.ab i).up 1),.bool (Gm (rN M i) i (M.ab i).up 2),.bool (Gm (rN M i) i (M.ab i).up 3),.bool (Gm (rN M i) i (M.ab i).up 4),S3.v ly,iv (CM M i 0),iv (CM M i 1),iv (CM M i 2),iv (CM M i 3),iv (CM M i 4),S3.v tv] 30,.l,false⟩,⟨(nb i),.cells (AG i ob (M.ab i) x) 97,.z,false⟩]/\c=[Fa.zv tv 5 (M.ew.flatMap GM),Fa.ow 0 38 1 ly (ysL ys i),Fa.lg M ys i]) (λJ q=>?_) ?_
  .rcases rU d with rfl|rfl|rfl|rfl|rfl<;>exact tR 10 [3,2,0] λa5 _ _=>tD q [true,true,true,true] ⟨rfl,rfl,rfl⟩ (λF=>F)
  rintro _ _ _ ⟨rfl,rfl,rfl⟩ _ _ _;refine tR 1 [] λa6 _ _=>KV 55 (λy t c=>y=[(2,pt (b 0) 0),(3,pt m 0),(26,.agg #[pt (nb 0) 0,pt (nb 1) 0,pt (nb 2) 0,pt (nb 3) 0,pt (nb 4) 0]),(27,iv (i:Int)),(4,iv (i:Int)),(5,pt (nb i) 0)]/\t=[⟨mb,.cells (mtA nb ob tb) 73,.z,false⟩,⟨(b 0),.cells #[iv 0,.bool false,.bool false,.bool false,.bool false,.bool false,sn,iv 0,iv 0,iv 0,iv 0,iv 0,sn] 30,.l,false⟩,⟨m,.cells #[iv (lt.n:Int),.bool (Gm (rN M i) i (M.ab i).up 0),.bool (Gm (rN M i) i (M.ab i).up 1),.bool (Gm (rN M i) i (M.ab i).up 2),.bool (Gm (rN M i) i (M.ab i).up 3),.bool (Gm (rN M i) i (M.ab i).up 4),S3.v ly,iv (KM (CM M i) i ((M.ab i).bad:Int) 0),iv (KM (CM M i) i ((M.ab i).bad:Int) 1),iv (KM (CM M i) i ((M.ab i).bad:Int) 2),iv (KM (CM M i) i ((M.ab i).bad:Int) 3),iv (KM (CM M i) i ((M.ab i).bad:Int) 4),S3.v tv] 30,.l,false⟩,⟨(nb i),.cells (AG i ob (M.ab i) x) 97,.z,false⟩]/\c=[Fa.zv tv 5 (M.ew.flatMap GM),Fa.ow 0 38 1 ly (ysL ys i),Fa.lg M ys i]) (λJ q=>?_) ?_
  .rcases rU d with rfl|rfl|rfl|rfl|rfl<;>exact tR 10 [3,2,0] λa7 _ _=>tD q [true,true,true,true] ⟨rfl,rfl,rfl⟩ (λF=>F)
  rintro _ _ _ ⟨rfl,rfl,rfl⟩ _ _ _;refine tR 4 [8,0,2,2,4] λa8 _ _=>tC 3 (λF C=>jb h (CgQ.af C) d (hd i d).1) λB=>?_;rintro _ _ ⟨yl,rfl,I,P⟩;refine⟨_,_,rfl,P,id,?_⟩;have V:yl.n<100000000:=by rw[I.len,X'];have:=hd i d;omega
  refine tF λ_ D=>?_;have H:=D.size;refine tC 4 (λF C=>Sw I.rv (λu hu=>Pj _ u hu) V) λB=>?_;rintro _ _ ⟨O,rfl,W,_,L,Q⟩;refine⟨_,Fa.zv O 5 (cmL ((M.ab i).ae.take (M.ab i).done))::_,rfl,Q,λF=>⟨⟨W,λp a o=>B _ (L p a o)⟩,F⟩,?_⟩;refine tR 1 [11,0,0] λs _ _=>NU 6 0 (x:=ly) 26 26 38 1 24 sn ⟨(s 0),0,none⟩ 1 1 [S3.v O] (λF=>F.2.2.1) [Fa.zv tv 5 (M.ew.flatMap GM),Fa.lg M (yup ys i O) (i+1)] (λF=>⟨F.2.1,eD F.2.2.2.1 F.1,trivial⟩) rfl (by simp[TQ]) rfl (by simp[Value.oneCell']) (λF K=>Cz K 4 (s 0) [S3.v O] 38 .z true (by kernel_rfl)) (by unfold maxLen;omega) (by omega) λN _ _ b7=>tR 5 [14,17,2,0] λa9 _ _=>tV 0 (iv ((i:Int)+1)) (λF C=>(AU 27 (i:Int) underlying3 (by omega))) (tR 2 [] λb0 _ _=>tB q (5-(i+1)) (by omega) [true,true,true,false,false] (L':=[⟨mb,.cells (mtA nb ob tb) 73,.z,false⟩,⟨(b 0),.cells #[iv 0,.bool false,.bool false,.bool false,.bool false,.bool false,sn,iv 0,iv 0,iv 0,iv 0,iv 0,sn] 30,.l,false⟩,⟨m,.cells #[iv (lt.n:Int),.bool (Gm (rN M i) i (M.ab i).up 0),.bool (Gm (rN M i) i (M.ab i).up 1),.bool (Gm (rN M i) i (M.ab i).up 2),.bool (Gm (rN M i) i (M.ab i).up 3),.bool (Gm (rN M i) i (M.ab i).up 4),S3.v N,iv (KM (CM M i) i ((M.ab i).bad:Int) 0),iv (KM (CM M i) i ((M.ab i).bad:Int) 1),iv (KM (CM M i) i ((M.ab i).bad:Int) 2),iv (KM (CM M i) i ((M.ab i).bad:Int) 3),iv (KM (CM M i) i ((M.ab i).bad:Int) 4),S3.v tv] 30,.l,false⟩]) ⟨i+1,N,yup ys i O,rfl,rfl,(by rw[jO,iw]),rfl,by omega,by omega,gA hw (λp a o=>mV H (L p a o))⟩ (λF=>⟨F.2.1,(by rw[mm];exact F.1),F.2.2.1,trivial⟩))
 .refine tI ((decide ((i:Int)<5))) false (D' (by omega)) ?_;obtain rfl:i=5:=by omega
  refine tR 6 [2,1,0] λb1 _ _=>?_;have hA:KQ M ly tv=#[iv (lt.n:Int),.bool (rN M 5 0),.bool (rN M 5 1),.bool (rN M 5 2),.bool (rN M 5 3),.bool (rN M 5 4),S3.v ly,iv (CM M 5 0),iv (CM M 5 1),iv (CM M 5 2),iv (CM M 5 3),iv (CM M 5 4),S3.v tv]:=by rw[S];rfl
  exact tX λF C=>qE1 2 30 1 (b 0) #[iv (lt.n:Int),.bool (rN M 5 0),.bool (rN M 5 1),.bool (rN M 5 2),.bool (rN M 5 3),.bool (rN M 5 4),S3.v ly,iv (CM M 5 0),iv (CM M 5 1),iv (CM M 5 2),iv (CM M 5 3),iv (CM M 5 4),S3.v tv] λ_=>⟨ly,tv,ys,by rw[hA],⟨F.2.1.rv,λj G=>(F.2.2.1 j G).rd.rc,F.1.rd⟩,⟨jm F.2.1 C,hw,f⟩,CgQ.af C⟩
theorem ZK(h:1<=k/\k<=9):Calls prog 21 #[iv k] w λe w'=>e=.returned (.bool true)/\Bw w w':=by
 refine tIn [] func21 trivial (tR 7 [] λa _ _=>tV 1 (.bool true) (λF C=>(rGe (t:=3) (m:=k) (n:=1) (x:=(.tmp 3)) (y:=(.const (iv 1))) (M' h.1))) (tR 6 [] λb _ _=>tE (.bool (decide (k<10))) λ_ B=>⟨by rw[M' (show k<10 by omega)],B⟩))
theorem ZC:Calls prog 43 #[iv k] w λe w'=>e=.returned (.bool (k==1))/\Bw w w':=by
 refine tIn [] func43 trivial (tR 10 [] λa _ _=>tE (.bool (k==1)) λ_ B=>⟨rfl,B⟩)
theorem QU:Calls prog 42 #[pt b 0] w λe w'=>e=.returned (.agg #[pt b 1,pt b 2,pt b 3])/\Bw w w':=by
 refine tIn [] func42 trivial (tR 18 [1,0,10,0,2,4,6,8,10,12,14,16,18,21,0,0] λa _ _=>tX λF C=>qE1 2 116 0 (a 0) #[pt b 1,pt b 2,pt b 3] λ_=>⟨rfl,CgQ.af C⟩)
theorem ZM(h:j<3):j=0\/j=1\/j=2:=by omega
theorem Je(h:1<=k/\k<=9):(Instr.indexAt 122 (pt 0 0) (iv k)).run prog W=.ok (pt 0 (4*k.toNat)) W:=by
 have:=Xe k.toNat (by omega) W
 rwa [pC (by omega)]at this
theorem LWTab.at(h:LWTab w)(c:1<=k/\k<=9)(a:j<3){b:Bool}(e:Nh j k=b):w.cell? ⟨0,4*k.toNat+1+j,none⟩=some (.bool b):=by
 have:=h.has k.toNat j (by omega) a
 rwa [pC (by omega),e]at this
theorem iS{x:Lac}(h:LacOk x)(hy:y.n=x.d.length)(i:LWTab w)(o:LBTab w):Calls prog 22 #[.agg #[iv x.k,iv x.n,iv x.a,iv x.p,S3.v y]] w λe w'=>e=.returned (.bool true)/\Bw w w':=by
 have f:=h.k;refine tIn [] func22 trivial (tR 8 [0,0] λc _ _=>tC1 0 (λF C=>QU (b:=(c 0))) λ_=>tR 3 [] λa0 _ _=>DU 33 [(1,pt (c 0) 0),(5,.agg #[pt (c 0) 1,pt (c 0) 2,pt (c 0) 3]),(6,iv 0)] [true] [⟨(c 0),.cells #[iv x.k,iv x.n,iv x.a,iv x.p,S3.v y] 36,.z,false⟩] [] (λZ Y X l=>∃ (j:Nat),Z=3-j/\Y=[(1,pt (c 0) 0),(5,.agg #[pt (c 0) 1,pt (c 0) 2,pt (c 0) 3]),(6,iv (j:Int))]/\X=[⟨(c 0),.cells #[iv x.k,iv x.n,iv x.a,iv x.p,S3.v y] 36,.z,false⟩]/\l=[]/\j<=3) (3) ⟨0,rfl,rfl,rfl,rfl,by omega⟩ (λF=>trivial) ?_);rintro k _ _ _ ⟨j,rfl,rfl,rfl,rfl,hj⟩ _ _ _ J g;refine tR 5 [] λa1 _ _=>?_;by_cases h0:j<3
 .refine tI ((decide ((j:Int)<3))) true (M' (by omega)) ?_;rcases ZM (show j<3 by omega)with rfl|rfl|rfl
  .by_cases h1:FZ x.k=true
   .have hv:=h.n h1;refine tR 15 [22,0,2,0,4] λa2 _ _=>tT 3 (pt (0) (4*x.k.toNat)) (λ_=>(Je f)) (tR 2 [8,10] λa3 _ _=>tV 6 (.bool true) (λF C=>(D4 underlying4 rfl ((i.af (CgQ.af C)).at f (j:=0) (by decide) (show FZ x.k=true from h1)))) (tR 4 [14,16,18,20,0] λa4 _ _=>tT 11 (.bool false) (λ_=>(rLt (t:=3) (m:=x.n) (n:=0) (x:=(.tmp 20)) (y:=(.const (iv 0))) (D' (by omega)))) (tR 6 [24,26,28,30,0,32,34] λa5 _ _=>tV 18 (iv 4) (λF C=>(D4 underlying3 rfl ((o.af (CgQ.af C)).uj 0 (by decide)))) (tR 4 [38,40,42] λa6 _ _=>tI ((decide (4<x.n))) false (D' (by omega)) (tR 6 [] λq _ _=>tB g (3-1) (by omega) [true] ⟨1,rfl,rfl,rfl,rfl,by omega⟩ (λF=>trivial))))))
   .refine tR 15 [22,0,2,0,4] λr _ _=>tT 3 (pt (0) (4*x.k.toNat)) (λ_=>(Je f)) (tR 2 [8,10] λs _ _=>tV 6 (.bool false) (λF C=>(D4 underlying4 rfl ((i.af (CgQ.af C)).at f (j:=0) (by decide) (show FZ x.k=false from(by simpa using h1))))) (tR 23 [14,16,18,20,22,24,26,28,30,32,34,36,38,40,42] λu _ _=>tB g (3-1) (by omega) [true] ⟨1,rfl,rfl,rfl,rfl,by omega⟩ (λF=>trivial)))
  .by_cases h1:Hv x.k=true
   .have hv:=h.a h1;refine tR 15 [22,0,2,0,4] λA _ _=>tT 3 (pt (0) (4*x.k.toNat)) (λ_=>(Je f)) (tR 2 [8,10] λD _ _=>tV 6 (.bool true) (λF C=>(D4 underlying4 rfl ((i.af (CgQ.af C)).at f (j:=1) (by decide) (show Hv x.k=true from h1)))) (tR 4 [14,16,18,20,0] λE _ _=>tT 11 (.bool false) (λ_=>(rLt (t:=3) (m:=x.a) (n:=0) (x:=(.tmp 20)) (y:=(.const (iv 0))) (D' (by omega)))) (tR 6 [24,26,28,30,0,32,34] λG _ _=>tV 18 (iv 1048576) (λF C=>(D4 underlying3 rfl ((o.af (CgQ.af C)).uj 1 (by decide)))) (tR 4 [38,40,42] λH _ _=>tI ((decide (1048576<x.a))) false (D' (by omega)) (tR 6 [] λI _ _=>tB g (3-2) (by omega) [true] ⟨2,rfl,rfl,rfl,rfl,by omega⟩ (λF=>trivial))))))
   .refine tR 15 [22,0,2,0,4] λK _ _=>tT 3 (pt (0) (4*x.k.toNat)) (λ_=>(Je f)) (tR 2 [8,10] λL _ _=>tV 6 (.bool false) (λF C=>(D4 underlying4 rfl ((i.af (CgQ.af C)).at f (j:=1) (by decide) (show Hv x.k=false from(by simpa using h1))))) (tR 23 [14,16,18,20,22,24,26,28,30,32,34,36,38,40,42] λM _ _=>tB g (3-2) (by omega) [true] ⟨2,rfl,rfl,rfl,rfl,by omega⟩ (λF=>trivial)))
  .by_cases h1:Hw x.k=true
   .have hv:=h.p h1;refine tR 15 [22,0,2,0,4] λN _ _=>tT 3 (pt (0) (4*x.k.toNat)) (λ_=>(Je f)) (tR 2 [8,10] λO _ _=>tV 6 (.bool true) (λF C=>(D4 underlying4 rfl ((i.af (CgQ.af C)).at f (j:=2) (by decide) (show Hw x.k=true from h1)))) (tR 4 [14,16,18,20,0] λP _ _=>tT 11 (.bool false) (λ_=>(rLt (t:=3) (m:=x.p) (n:=0) (x:=(.tmp 20)) (y:=(.const (iv 0))) (D' (by omega)))) (tR 6 [24,26,28,30,0,32,34] λQ _ _=>tV 18 (iv 100000) (λF C=>(D4 underlying3 rfl ((o.af (CgQ.af C)).uj 2 (by decide)))) (tR 4 [38,40,42] λR _ _=>tI ((decide (100000<x.p))) false (D' (by omega)) (tR 6 [] λS _ _=>tB g (3-3) (by omega) [true] ⟨3,rfl,rfl,rfl,rfl,by omega⟩ (λF=>trivial))))))
   .refine tR 15 [22,0,2,0,4] λT _ _=>tT 3 (pt (0) (4*x.k.toNat)) (λ_=>(Je f)) (tR 2 [8,10] λU _ _=>tV 6 (.bool false) (λF C=>(D4 underlying4 rfl ((i.af (CgQ.af C)).at f (j:=2) (by decide) (show Hw x.k=false from(by simpa using h1))))) (tR 23 [14,16,18,20,22,24,26,28,30,32,34,36,38,40,42] λV _ _=>tB g (3-3) (by omega) [true] ⟨3,rfl,rfl,rfl,rfl,by omega⟩ (λF=>trivial)))
 .refine tI ((decide ((j:Int)<3))) false (D' (by omega)) (tR 5 [] λW _ _=>tE (.bool true) λ_ B=>⟨rfl,B⟩)
theorem dJ{x:Lac}(h:LacOk x)(hy:y.n=x.d.length)(o:LWTab w)(tb:LBTab w):Calls prog 23 #[.agg #[iv x.k,iv x.n,iv x.a,iv x.p,S3.v y]] w λe w'=>e=.returned (.bool true)/\Bw w w':=by
 have g:=h.k;refine tIn [] func23 trivial (tR 8 [0,0] λc _ _=>tC1 0 (λF C=>QU (b:=(c 0))) λ_=>tR 3 [] λa1 _ _=>DU 34 [(1,pt (c 0) 0),(5,.agg #[pt (c 0) 1,pt (c 0) 2,pt (c 0) 3]),(6,iv 0)] [true] [⟨(c 0),.cells #[iv x.k,iv x.n,iv x.a,iv x.p,S3.v y] 36,.z,false⟩] [] (λkk Y X i=>∃ (j:Nat),kk=3-j/\Y=[(1,pt (c 0) 0),(5,.agg #[pt (c 0) 1,pt (c 0) 2,pt (c 0) 3]),(6,iv (j:Int))]/\X=[⟨(c 0),.cells #[iv x.k,iv x.n,iv x.a,iv x.p,S3.v y] 36,.z,false⟩]/\i=[]/\j<=3) (3) ⟨0,rfl,rfl,rfl,rfl,by omega⟩ (λF=>trivial) ?_);rintro k _ _ _ ⟨j,rfl,rfl,rfl,rfl,hj⟩ _ _ _ J f;refine tR 5 [] λa2 _ _=>?_;by_cases h0:j<3
 .refine tI ((decide ((j:Int)<3))) true (M' (by omega)) ?_;rcases ZM (show j<3 by omega)with rfl|rfl|rfl
  .by_cases h1:FZ x.k=true
   .by_cases h2:x.n=0
    .refine tR 15 [0] λa3 _ _=>tV 3 (.bool false) (λF C=>(Ix (t:=3) (m:=x.n) (n:=0) (x:=(.tmp 12)) (y:=(.const (iv 0))) (by simpa using h2))) (tR 18 [] λa4 _ _=>tB f (3-1) (by omega) [true] ⟨1,rfl,rfl,rfl,rfl,by omega⟩ (λF=>trivial))
    .refine tR 15 [0] λa5 _ _=>tV 3 (.bool true) (λF C=>(Ix (t:=3) (m:=x.n) (n:=0) (x:=(.tmp 12)) (y:=(.const (iv 0))) (by simpa using h2))) (tR 4 [0] λa6 _ _=>tV 8 (pt (0) (4*x.k.toNat)) (λF C=>(Je g)) (tR 2 [] λa7 _ _=>tV 11 (.bool true) (λF C=>(D4 underlying4 rfl ((o.af (CgQ.af C)).at g (j:=0) (by decide) (show FZ x.k=true from h1)))) (tR 10 [] λq _ _=>tB f (3-1) (by omega) [true] ⟨1,rfl,rfl,rfl,rfl,by omega⟩ (λF=>trivial))))
   .have h2:x.n=0:=h.n0 (by simpa using h1);refine tR 15 [0] λr _ _=>tV 3 (.bool false) (λF C=>(Ix (t:=3) (m:=x.n) (n:=0) (x:=(.tmp 12)) (y:=(.const (iv 0))) (by simpa using h2))) (tR 18 [] λs _ _=>tB f (3-1) (by omega) [true] ⟨1,rfl,rfl,rfl,rfl,by omega⟩ (λF=>trivial))
  .by_cases h1:Hv x.k=true
   .by_cases h2:x.a=0
    .refine tR 15 [0] λu _ _=>tV 3 (.bool false) (λF C=>(Ix (t:=3) (m:=x.a) (n:=0) (x:=(.tmp 12)) (y:=(.const (iv 0))) (by simpa using h2))) (tR 18 [] λA _ _=>tB f (3-2) (by omega) [true] ⟨2,rfl,rfl,rfl,rfl,by omega⟩ (λF=>trivial))
    .refine tR 15 [0] λD _ _=>tV 3 (.bool true) (λF C=>(Ix (t:=3) (m:=x.a) (n:=0) (x:=(.tmp 12)) (y:=(.const (iv 0))) (by simpa using h2))) (tR 4 [0] λE _ _=>tV 8 (pt (0) (4*x.k.toNat)) (λF C=>(Je g)) (tR 2 [] λG _ _=>tV 11 (.bool true) (λF C=>(D4 underlying4 rfl ((o.af (CgQ.af C)).at g (j:=1) (by decide) (show Hv x.k=true from h1)))) (tR 10 [] λH _ _=>tB f (3-2) (by omega) [true] ⟨2,rfl,rfl,rfl,rfl,by omega⟩ (λF=>trivial))))
   .have h2:x.a=0:=h.a0 (by simpa using h1);refine tR 15 [0] λI _ _=>tV 3 (.bool false) (λF C=>(Ix (t:=3) (m:=x.a) (n:=0) (x:=(.tmp 12)) (y:=(.const (iv 0))) (by simpa using h2))) (tR 18 [] λK _ _=>tB f (3-2) (by omega) [true] ⟨2,rfl,rfl,rfl,rfl,by omega⟩ (λF=>trivial))
  .by_cases h1:Hw x.k=true
   .by_cases h2:x.p=0
    .refine tR 15 [0] λL _ _=>tV 3 (.bool false) (λF C=>(Ix (t:=3) (m:=x.p) (n:=0) (x:=(.tmp 12)) (y:=(.const (iv 0))) (by simpa using h2))) (tR 18 [] λM _ _=>tB f (3-3) (by omega) [true] ⟨3,rfl,rfl,rfl,rfl,by omega⟩ (λF=>trivial))
    .refine tR 15 [0] λN _ _=>tV 3 (.bool true) (λF C=>(Ix (t:=3) (m:=x.p) (n:=0) (x:=(.tmp 12)) (y:=(.const (iv 0))) (by simpa using h2))) (tR 4 [0] λO _ _=>tV 8 (pt (0) (4*x.k.toNat)) (λF C=>(Je g)) (tR 2 [] λP _ _=>tV 11 (.bool true) (λF C=>(D4 underlying4 rfl ((o.af (CgQ.af C)).at g (j:=2) (by decide) (show Hw x.k=true from h1)))) (tR 10 [] λQ _ _=>tB f (3-3) (by omega) [true] ⟨3,rfl,rfl,rfl,rfl,by omega⟩ (λF=>trivial))))
   .have h2:x.p=0:=h.p0 (by simpa using h1);refine tR 15 [0] λR _ _=>tV 3 (.bool false) (λF C=>(Ix (t:=3) (m:=x.p) (n:=0) (x:=(.tmp 12)) (y:=(.const (iv 0))) (by simpa using h2))) (tR 18 [] λS _ _=>tB f (3-3) (by omega) [true] ⟨3,rfl,rfl,rfl,rfl,by omega⟩ (λF=>trivial))
 .refine tI ((decide ((j:Int)<3))) false (D' (by omega)) (tR 6 [0] λT _ _=>?_);by_cases Z:y.n=0
  .refine tV 3 (.bool true) (λF C=>(Fu (t:=3) (m:=(y.n:Int)) (n:=0) (x:=(.tmp 27)) (y:=(.const (iv 0))) (by simp;omega))) (tR 7 [] λU _ _=>tE (.bool true) λ_ B=>⟨rfl,B⟩)
  .refine tV 3 (.bool false) (λF C=>(Fu (t:=3) (m:=(y.n:Int)) (n:=0) (x:=(.tmp 27)) (y:=(.const (iv 0))) (by simp;omega))) (tR 3 [0] λV _ _=>tC1 7 (λF C=>ZC (k:=x.k)) λ_=>tR 3 [] λW _ _=>?_);have l:x.k=1:=nP λe=>Z (by rw[hy,h.d0 e];rfl);exact tE (.bool (x.k==1)) λ_ B=>⟨by rw[l];rfl,B⟩
theorem Sq{x:Lac}(h:LacOk x)(b:y.n=x.d.length)(f:LWTab w)(c:LBTab w):Calls prog 15 #[.agg #[iv x.k,iv x.n,iv x.a,iv x.p,S3.v y]] w λe w'=>e=.returned (iv 0)/\Bw w w':=by
 have o:=h.d;refine tIn [] func15 trivial (tR 10 [0,0,0] λg _ _=>tC1 2 (λF C=>ZK h.k) λ_=>tR 8 [0] λi _ _=>tC1 1 (λF C=>iS h b (f.af (CgQ.af C)) (c.af (CgQ.af C))) λ_=>tR 12 [0] λj _ _=>tI ((decide (2000<(y.n:Int)))) false (D' (by omega)) (tR 5 [0] λl _ _=>tC1 1 (λF C=>dJ h b (f.af (CgQ.af C)) (c.af (CgQ.af C))) λ_=>tR 8 [] λm _ _=>tE (iv 0) λ_ B=>⟨rfl,B⟩))
def laV(x:Lac)(y:Value):List Value:=[.int .i64 x.k,.int .i64 x.n,.int .i64 x.a,.int .i64 x.p,y]
def zLa:Value:=.agg #[.int .i64 0,.int .i64 0,.int .i64 0,.int .i64 0,.slice none 0 0]
def m6:Lac:=⟨0,0,0,0,[]⟩
structure Sk(w:World)(x:Value)(F:Nat->Lac)(n:Nat):Prop where
 ex:∃ a cap,x=.slice a n cap/\(n=0\/∃ b off,a=some ⟨b,off,none⟩/\b<w.heap.size/\∀ i,i<n->∃ y,w.rangeAt b (off+5*i) (laV (F i) y)/\Sl w y (F i).d)
 len:n<=2513169434916
theorem Sk.shape{x:Value}{n:Nat}(h:Sk w x F n):∃ a cap,x=.slice a n cap:=by
 obtain⟨⟨a,cap,e,_⟩,_⟩:=h;exact⟨a,cap,e⟩
theorem Sk.spot{a:Option Addr}{n c:Nat}(h:Sk w (.slice a n c) F n)(i:Nat)(j:i<n):∃ b off xa xm xp,a=some ⟨b,off,none⟩/\b<w.heap.size/\w.rangeAt b (off+5*i) (laV (F i) (.slice xa xm xp))/\Sl w (.slice xa xm xp) (F i).d:=by
 obtain⟨⟨k,f,e,g⟩,_⟩:=h;simp only[Value.slice.injEq]at e;obtain⟨rfl,_,rfl⟩:=e;rcases g with rfl|⟨b,off,rfl,hb,hcell⟩
 .omega
 .obtain⟨y,h3,h4⟩:=hcell i j;obtain⟨xa,xp,rfl⟩:=h4.sh;exact⟨b,off,xa,_,xp,rfl,hb,h3,h4⟩
def laF(l:List Lac):Nat->Lac:=λi=>l.getD i m6
theorem Px{l:List Lac}(h:i<l.length):laF l i=l[i]:=by simp[laF,List.getD,List.getElem?_eq_getElem h]
def Jy(F:Nat->Lac)(n:Nat):List Lac:=(List.range n).map F
theorem XN(F:Nat->Lac)(n:Nat):(Jy F n).length=n:=by simp[Jy]
theorem cV{n:Nat}(h:j<n):(Jy F n).drop j=F j::(Jy F n).drop (j+1):=by
 have a:(Jy F n)[j]?=some (F j):=by simp[Jy,h]
 obtain⟨b,c⟩:=V'.1 a;rw[<- c];exact nO b
def eV:Array Value:=#[iv 0,.bool false,.bool false,.bool false,.bool false,.bool false,S3.v s30,iv 0,iv 0,iv 0,iv 0,iv 0,S3.v s30]
def TR:List Tg:=.n 70 0::TM
theorem ke:Tg.z∉TR:=by simp[TR,TM,TN]
theorem jY:∀ t∈TM,t∈TR:=λt h=>I' _ h
theorem Ov:gS.t b∉TR:=ke
theorem Base.self(w:World):Base w gS w:=⟨Below.refl _ _,λ_ _=>rfl⟩
theorem aP{d:Option Addr}{a n c:Nat}(f:d=some ⟨b,a,none⟩)(j:Nat)(g:j<n):(Instr.indexAt 23 (.slice d n c) (iv (j:Int))).run prog W=.ok (pt b (a+5*j)) W:=by
 subst f;exact NL (P:=prog) (e:=36) (z:=5) underlying23 (by kernel_rfl) (by kernel_rfl) g _ rfl
theorem lC{k:Nat}{x:Lac}{y:Value}(h:W.rangeAt b k (laV x y)):(Instr.loadAt 36 (pt b k)).run prog W=.ok (.agg #[iv x.k,iv x.n,iv x.a,iv x.p,y]) W:=by
 have c:=run_loadVar_mid (P:=prog) W b k 36 (laV x y) _ h underlying36 rfl (by kernel_rfl);simp only[Instr.loadAt,Instr.sureAddr,Sem.run_bind,Sem.run_pure,Result.andThen_ok];exact c
theorem OutN.mono(h:OutN B M ly tv ys)(b:C<=B):OutN C M ly tv ys:=⟨λa e=>mV b (h.sw a e),λj d c a e=>mV b (h.log j d c a e),λc a e=>mV b (h.ew c a e)⟩
theorem fE{lv:S3}{n:Nat}(h:Sk w lv.v F n)(a9:∀ i,i<n->LacOk (F i))(f2:n<=100000)(hT:Tabs w)(tw:LWTab w)(tb:LBTab w) :
  Calls prog 11 #[lv.v] w λe w'=>Bw w w'/\∃ (ly tv:S3) (ys:Nat->S3),e=.returned (.tuple #[.agg (KQ (Ap.dW (Jy F n)) ly tv),iv 0])/\OutW w' (Ap.dW (Jy F n)) ly tv ys/\OutN w.heap.size (Ap.dW (Jy F n)) ly tv ys:=by
 obtain⟨X,lq,H⟩:=lv;have f4:lq=n:=by obtain⟨a,e1,hh⟩:=h.shape;simp only[S3.v,Value.slice.injEq]at hh;exact hh.2.1
 subst lq;have f3:=h.len;obtain⟨G,E⟩:∃ G,Jy F n=G:=⟨_,rfl⟩;have f1:G.length=n:=by rw[<- E];exact XN F n
 rw[E];refine gI (fn:=f11) TR gS func11 (λ_ _=>⟨rfl,rfl⟩) (qR [] 12 [1,0] λd g1 w1 c1=>qI ((decide (100000<(n:Int)))) false (D' (by omega)) (qR [] 9 [] λh7 g3 w3 c3=>Ce 40 [(0,.slice X n H),(2,pt (d 0) 0),(14,.slice X n H),(15,iv (n:Int)),(16,iv 0)] [true] [⟨(d 0),.cells eV 30,.l,false⟩] (λk g' w' e L=>∃ j:Nat,k=n-j/\j<=n/\e=[(0,.slice X n H),(2,pt (d 0) 0),(14,.slice X n H),(15,iv (n:Int)),(16,iv (j:Int))]/\L=[⟨(d 0),.cells eV 30,.l,false⟩]/\Cg w.heap.size TR gS w g' w') (by kernel_rfl) (by kernel_rfl) (by kernel_rfl) (by kernel_rfl) n (λK=>?_) ?_))
 .exact⟨0,rfl,nB _,rfl,rfl,((c1.nil TR).n c3)⟩
 .rintro k gr wr _ zr _ ⟨j,rfl,hj,rfl,rfl,hC⟩ J hJ;refine qR [] 5 [] λh8 g4 w4 c4=>?_;by_cases h0:j<n
  .refine qI ((decide ((j:Int)<(n:Int)))) true (M' (by omega)) (qR [] 5 [] λh9 g5 w5 c5=>?_);obtain⟨b,r,I,M,N,R,Q,S,U⟩:=h.spot j h0;refine qV 0 (pt b (r+5*j)) (aP R (n:=n) (c:=H) j h0) (qV 1 (.agg #[iv (F j).k,iv (F j).n,iv (F j).a,iv (F j).p,.slice I M N]) (lC (x:=F j) (y:=.slice I M N) (λq u W=>(((Cg.af (((hC).n c4).n c5) (λ_ _=>Ov))).cell (p:=⟨b,r+5*j+q,none⟩) Q).trans (S q u W))) (qR [] 6 [0,0,1,0,1] λi0 g7 w7 c7=>?_));have a1:=(Cg.af ((((hC).n c4).n c5).n c7) (λ_ _=>Ov));refine qC 1 (Sq (x:=F j) (y:=⟨I,M,N⟩) (a9 j h0) (JS (x:=⟨I,M,N⟩) U) (tw.af a1) (tb.af a1)) ?_;rintro e' w8 ⟨rfl,b8⟩;refine⟨_,rfl,b8,?_⟩;have c8:=Cg.ed (B:=w.heap.size) (T:=[]) (g:=g7) b8;refine qR [] 7 [] λi1 g9 w9 c9=>qR [] 4 [] λd0 e2 f7 b2=>qV 0 (iv ((j:Int)+1)) (AU 16 (j:Int) underlying3 (by omega)) (qR [] 2 [] λd1 e3 f8 b3=>qB [true,false] λz K0 K=>hJ (n-(j+1)) _ _ _ z _ (by omega) ⟨j+1,rfl,by omega,rfl,rfl,((((((((hC).n c4).n c5).n c7).n c8).n c9).n b2).n b3)⟩ K)
  .refine qI ((decide ((j:Int)<(n:Int)))) false (D' (by omega)) ?_;obtain rfl:j=n:=by omega
   refine qR [] 3 [] λd2 e4 f9 b4=>Af λK=>qG 0 [.n 70 0] [true] (Ml K.new) ?_;rintro e' g0 ⟨mb,V,ob,nb,b6,rfl,a6,s⟩;refine⟨_,b6,rfl,s,a6.new,?_⟩;replace s:=s.ret (B:=w.heap.size);refine qR [] 10 [] λd3 e5 g2 a2=>Ce 40 [(2,pt (d 0) 0),(7,pt mb 0),(28,.slice X j H),(29,iv (j:Int)),(30,iv 0)] [true] [⟨(d 0),.cells eV 30,.l,false⟩] (λk g' w' e L=>∃ (i:Nat) (A:Meet),k=j-i/\i<=j/\e=[(2,pt (d 0) 0),(7,pt mb 0),(28,.slice X j H),(29,iv (j:Int)),(30,iv (i:Int))]/\L=[⟨(d 0),.cells eV 30,.l,false⟩]/\MS mb V ob nb g' w' A/\(G.drop i).foldl Meet.act A=Ap.dW G/\MOk i A/\Cg w.heap.size TR gS w g' w') (by kernel_rfl) (by kernel_rfl) (by kernel_rfl) (by kernel_rfl) j (λK=>?_) ?_
   .exact⟨0,Ap,rfl,nB _,rfl,rfl,(a6.sc a2 K.new),rfl,MOk.zero,(((((hC).n c4).n b4).trans (s.mono (by simp[TR]))).n a2)⟩
   .rintro k gq wq _ zq _ ⟨i,A,rfl,hi,rfl,rfl,hM,hI2,hA,hC2⟩ J2 hJ2;refine qR [] 5 [] λd4 e6 g6 m=>?_;by_cases h3:i<j
    .refine qI ((decide ((i:Int)<(j:Int)))) true (M' (by omega)) ?_;rw[<- E,cV h3,E,rL]at hI2
     have a8:LacOk (F i):=a9 i h3;refine qR [] 5 [] λd5 e7 g8 o=>?_;obtain⟨b,r,I,M,N,R,Q,S,U⟩:=h.spot i h3;refine qV 0 (pt b (r+5*i)) (aP R (n:=j) (c:=H) i h3) (qV 1 (.agg #[iv (F i).k,iv (F i).n,iv (F i).a,iv (F i).p,.slice I M N]) (lC (x:=F i) (y:=.slice I M N) (λq u W=>(((Cg.af (((hC2).n m).n o) (λ_ _=>Ov))).cell (p:=⟨b,r+5*i+q,none⟩) Q).trans (S q u W))) (qR [] 6 [0,0,1,0,1] λd6 b7 c6 C=>Af λK=>?_));have NM:MS mb V ob nb b7 c6 A:=(hM.sc ((m.trans o).trans C) K.new);have b1:=(Cg.af ((((hC2).n m).n o).n C) (λ_ _=>Ov));refine qG 2 TM [true,true] (iI NM ((Base.self w).ch ((((hC2).n m).n o).n C) ke) hT (F i) ⟨I,M,N⟩ (U.af b1) a8 hA (by omega)) ?_;rintro e' h1 ⟨b9,rfl,Y,D⟩;refine⟨_,b9,rfl,D,Y.new,?_⟩;replace D:=D.ret (B:=w.heap.size);refine qR [] 3 [] λd7 e8 h2 a3=>qV 0 (iv ((i:Int)+1)) (AU 30 (i:Int) underlying3 (by omega)) (qR [] 2 [] λd8 e9 h4 a4=>qB [true,false] λz K0 K=>hJ2 (j-(i+1)) _ _ _ z _ (by omega) ⟨i+1,A.act (F i),rfl,by omega,rfl,rfl,(Y.sc (a3.trans a4) K0.new),hI2,hA.act (by omega) a8,(((((((hC2).n m).n o).n C).trans (D.mono jY)).n a3).n a4)⟩ K)
    .refine qI ((decide ((i:Int)<(j:Int)))) false (D' (by omega)) ?_;obtain rfl:i=j:=by omega
     rw[nN (by omega)]at hI2
     replace hI2:A=Ap.dW G:=hI2;subst hI2;refine qR [] 4 [] λd9 P b0 O=>Af λK=>?_;have NM:MS mb V ob nb P b0 (Ap.dW G):=(hM.sc (m.trans O) K.new);have f6:=hA.wt;have f5:=hA.ew;have c0:∀ b,b0.heap.size<=b->P.t b=.z:=λb hb=>(K.new b hb).1;have a0:=(Cg.af (((hC2).n m).n O) (λ_ _=>Ov));refine qC 1 (Ro NM (λq W=>⟨(hA.ab q W).dn,(hA.ab q W).ag⟩) (by omega) (by omega)) ?_;rintro e' h5 ⟨ly,tv,ys,rfl,c2,a7,Z⟩;refine⟨_,rfl,Z,?_⟩;have b5:=Cg.ed (B:=w.heap.size) (T:=[]) (g:=P) Z;refine qR [] 3 [0,0] λe0 f0 h6 a5=>qE2 2 3 30 0 (d 0) (KQ (Ap.dW G) ly tv) (iv 0) λK=>⟨(Cg.af (((((hC2).n m).n O).n b5).n a5) (λ_ _=>Ov)),ly,tv,ys,rfl,(c2.ch a7 c0 a5),a7.mono a0.size⟩
theorem tbA(h:Tabs w0)(C:Cg w0.heap.size TQ gS w0 g w):Tabs w:=⟨h.t.af (CgQ.af C),h.n.af (CgQ.af C),h.q.af h.q.pos (CgQ.af C)⟩
def XJ(w:World):Prop:=Tabs w/\LWTab w/\LBTab w
theorem tb5(h:XJ w0)(C:Cg w0.heap.size TQ gS w0 g w):XJ w:=⟨tbA h.1 C,h.2.1.af (CgQ.af C),h.2.2.af (CgQ.af C)⟩
theorem Tt{l:List Int}(h:Sl w y.v l)(n:Nb B y l)(G:∀ b,B<=b->g.t b=.z):FSl g w y l:=⟨h,λd a c=>G _ (n d a c)⟩
structure OwN(B:Nat)(w:World)(e:TypeId)(sz:Nat)(x:S3)(xs:List Value):Prop where
 len:xs.length=x.n*sz
 ex:(x.a=none/\x.n=0/\x.c=0)\/∃ b cur,B<=b/\x.a=some ⟨b,0,none⟩/\w.heap[b]?=some (.cells cur e (0,0))/\x.n<=x.c/\x.c<=maxLen/\cur.size=x.c*sz/\cur.toList.take (x.n*sz)=xs
theorem OwnS.own(h:OwnS g w (.n 60 r) kp e sz x xs)(C:Cg w0.heap.size TQ gS w0 g w):OwN w0.heap.size w e sz x xs:=by
 refine⟨h.len,h.ex.imp id λ⟨b,a,d,f,i,j,k,l,m,o⟩=>⟨b,a,?_,d,f,i,j,k,l⟩⟩;refine qK λc=>?_;have:=C.tag c (λ_=>c);rw[m]at this
 cases this
theorem OwN.rv(h:OwN B w e sz x xs):RdV w x sz xs:=by
 rcases h.ex with⟨h1,h2,h3⟩|⟨b,cur,h0,h1,h2,h3,h4,h5,h6⟩
 .exact⟨h.len,by omega,λ_=>h3,.inl h2⟩
 .refine⟨h.len,h3,λh=>(by rw[h1]at h;cases h),.inr ⟨b,0,h1,rl h2,λj u a=>?_⟩⟩;rw[nS,cell_of_row _ _ _ _ _ _ h2];rw[<- h6,ol]at a
  split at a
  .simpa using a
  .cases a
theorem OwN.fz(h:OwN B w e sz x xs)(G:∀ b,B<=b->g.t b=.z):FzV g w x sz xs :=
 ⟨h.rv,λ_ a c=>by
  rcases h.ex with⟨h1,h2,h3⟩|⟨b,cur,h0,h1,_⟩
  .rw[h1]at c;cases c
  .rw[h1]at c;cases c;exact G _ h0⟩
theorem RdV.fz(h:RdV w x sz xs):FzV gS w x sz xs:=⟨h,λ_ _ _=>rfl⟩
theorem RdV.spot(h:RdV w x sz xs)(d:i<x.n):∃ b off,x.a=some ⟨b,off,none⟩/\b<w.heap.size/\∀ j u,xs[sz*i+j]?=some u->w.cell? ⟨b,off+sz*i+j,none⟩=some u:=by
 rcases h.ex with h1|⟨b,off,h1,h2,h3⟩
 .omega
 .exact⟨b,off,h1,h2,λj u c=>by rw[oe];exact h3 _ u c⟩
theorem Lj{f:α->List Value}(d:∀ a,(f a).length=sz)(l:List α){a:α}{u:Value}(b:l[i]?=some a)(e:(f a)[j]?=some u):(l.flatMap f)[sz*i+j]?=some u:=by
 have g:j<sz:=by rw[<- d a];exact(V'.1 e).1
 induction l generalizing i with
 | nil=>cases b
 | cons c l ih =>
  rw[po];cases i with
  | zero =>
   simp only[oC,Y']at b;subst b;rw[nm (by rw[d];omega),Nat.mul_zero,nS];exact e
  | succ i =>
   rw[nt (by rw[d,Nat.mul_succ];omega),d,show sz*(i+1)+j-sz=sz*i+j by rw[Nat.mul_succ];omega];exact ih (by simpa using b)
theorem Gy{f:α->List Value}(b:∀ a,(f a).length=sz)(l:List α):(l.flatMap f).length=l.length*sz:=by
 induction l with
 | nil=>simp
 | cons c l ih=>rw[po,H',b,ih,nD,qo];omega
theorem VN{l:List Cmd}(h:RdV w x 5 (cmL l)):x.n=l.length:=h.rc.len
def grV(g:Gr):List Value:=[iv g.k,iv g.a,iv g.b,iv g.c,iv g.d]
def grL(l:List Gr):List Value:=l.flatMap grV
structure GrOk(g:Gr):Prop where
 k:I64 g.k
 a:I64 g.a
 b:I64 g.b
 c:I64 g.c
 d:I64 g.d
def acV(l:List (Lac × S3)):List Value:=l.flatMap λp=>laV p.1 p.2.v
theorem DG(l:List (Lac × S3))(x:Lac)(y:S3):acV (l++[(x,y)])=acV l++laV x y.v:=by simp[acV]
theorem Le(l:List (Lac × S3)):(acV l).length=l.length*5:=Gy (f:=λp:Lac × S3=>laV p.1 p.2.v) (λ_=>rfl) l
theorem U0(l:List (Lac × S3)):∀ u∈acV l,u.oneCell'=true:=by
 intro u b;obtain⟨p,_,a⟩:=pV.1 b;simp[laV]at a
 rcases a with rfl|rfl|rfl|rfl|rfl<;>rfl
def Dat(g:Gh)(w:World)(l:List (Lac × S3)):Prop:=∀ p∈l,FSl g w p.2 p.1.d
theorem Dat.ch(h:Dat g w l)(c:Cg B T g w g' w')(b:Tg.z∉T:=by simp):Dat g' w' l:=λp a=>(h p a).ch c b
theorem Dat.snoc(h:Dat g w l){x:Lac}(k:FSl g w y x.d):Dat g w (l++[(x,y)]):=λp a=>(U'.1 a).elim (h p) λe=>by rw[G'.1 e];exact k
theorem Dat.app{m:List (Lac × S3)}(h:Dat g w l)(k:Dat g w m):Dat g w (l++m):=λp a=>(U'.1 a).elim (h p) (k p)
theorem SS(g:Gh)(w:World):FSl g w s30 []:=⟨⟨⟨none,0,rfl,A' _,λ_=>rfl,.inl rfl⟩,by simp,by simp⟩,λh=>absurd rfl h⟩
def Fa.ac(x:S3)(l:List (Lac × S3)):Fa:=⟨none,λg w=>FzV g w x 5 (acV l)/\Dat g w l,λhz _ c h=>⟨h.1.ch c hz,h.2.ch c hz⟩⟩
def Fa.oa(r:Nat)(x:S3)(l:List (Lac × S3)):Fa:=⟨some r,λg w=>OwnS g w (.n 60 r) true 36 5 x (acV l)/\Dat g w l,λhz hr c h=>⟨h.1.ch c (hr r rfl) (by simp),h.2.ch c hz⟩⟩
def Fa.dt(l:List (Lac × S3)):Fa:=⟨none,λg w=>Dat g w l,λhz _ c h=>h.ch c hz⟩
structure AcR(w:World)(x:S3)(L:List Lac)(l:List (Lac × S3)):Prop where
 e:l.map (·.1)=L
 r:RdV w x 5 (acV l)
 d:∀ p∈l,Sl w p.2.v p.1.d
theorem AcR.of(h:(Fa.ac x l).p g w)(e:l.map (·.1)=L):AcR w x L l:=⟨e,h.1.rd,λp a=>(h.2 p a).s⟩
theorem AcR.oo(h:(Fa.oa r x l).p g w)(e:l.map (·.1)=L):AcR w x L l:=⟨e,h.1.rv,λp a=>(h.2 p a).s⟩
theorem AcR.af(h:AcR w x L l)(b:Bw w w'):AcR w' x L l:=⟨h.e,h.r.af b,λp a=>(h.d p a).af b⟩
theorem AcR.n(h:AcR w x L l):x.n=L.length:=by
 have:=h.r.len;rw[Le]at this
 rw[<- h.e,nw];omega
theorem AcR.sk(h:AcR w x L l)(q:L.length<=1000000):Sk w x.v (laF L) L.length:=by
 have o:=h.n;refine⟨⟨x.a,x.c,by rw[<- o],?_⟩,by omega⟩;rcases h.r.ex with h1|⟨b,off,h1,h2,h3⟩
 .exact .inl (by omega)
 .refine .inr ⟨b,off,h1,h2,λi k=>?_⟩;have g:i<l.length:=by rw[<- h.e,nw]at k;exact k
  refine⟨l[i].2.v,λj u m=>?_,?_⟩
  .rw[oe];refine h3 _ u (Lj (f:=λp:Lac × S3=>laV p.1 p.2.v) (λ_=>rfl) l (E' g) ?_);have:laF L i=l[i].1:=by rw[Px k];simp[<- h.e]
   rw[this]at m;exact m
  .have:laF L i=l[i].1:=by rw[Px k];simp[<- h.e]
   rw[this];exact h.d _ (nM g)
theorem AcR.spot(h:AcR w x L l){a:Lac}(g:L[i]?=some a):∃ b off y,x.a=some ⟨b,off,none⟩/\w.rangeAt b (off+5*i) (laV a (S3.v y))/\Sl w y.v a.d/\i<x.n:=by
 have t:=h.n;have k:=(V'.1 g).1;have c:i<l.length:=by rw[<- h.e,nw]at k;exact k
 have e:l[i].1=a:=by
  have:=(V'.1 g).2;rw[<- this];simp[<- h.e]
 obtain⟨b,off,m,s,o⟩:=h.r.spot (i:=i) (by omega);refine⟨b,off,l[i].2,m,λj u q=>?_,?_,by omega⟩
 .refine o j u (Lj (f:=λp:Lac × S3=>laV p.1 p.2.v) (λ_=>rfl) l (E' c) ?_);rw[e];exact q
 .rw[<- e];exact h.d _ (nM c)
structure AcN(B:Nat)(w:World)(x:S3)(l:List (Lac × S3)):Prop where
 o:OwN B w 36 5 x (acV l)
 d:∀ p∈l,Sl w p.2.v p.1.d/\Nb B p.2 p.1.d
 ne:∀ p∈l,p.1.d≠[]->∀ a b,p.2.a=some a->x.a=some b->a.block≠b.block
theorem AcN.of(h:(Fa.oa r x l).p g w)(C:Cg w0.heap.size TQ gS w0 g w)(n:∀ p∈l,Nb w0.heap.size p.2 p.1.d):AcN w0.heap.size w x l :=
 ⟨h.1.own C,λp i=>⟨(h.2 p i).s,n p i⟩,λp i m a b k f e=>by
  have j:=(h.2 p i).z m a k;rcases h.1.ex with⟨k1,_⟩|⟨c,cur,k1,_,_,_,_,_,k7,_⟩
  .rw[k1]at f;cases f
  .rw[k1]at f;cases f
   rw[e,k7]at j;cases j⟩
theorem AcN.oa(h:AcN B w x l)(i:OwnS g w (.n 60 r) true 36 5 x (acV l))(k:∀ b,B<=b->(∀ a,x.a=some a->b≠a.block)->g.t b=.z):(Fa.oa r x l).p g w :=
 ⟨i,λp c=>⟨(h.d p c).1,λf a e=>k _ ((h.d p c).2 f a e) λb j=>h.ne p c f a b e j⟩⟩
theorem XM(L:List Lac):Jy (laF L) L.length=L:=by
 apply pa
 .simp[Jy]
 .intro i h1 h2;simp[Jy,Px h2]
def Meet.log(M:Meet)(j:Nat):List Cmd:=(M.ab j).ae.take (M.ab j).done
structure OutF(g:Gh)(w:World)(ly tv:S3)(ys:Nat->S3)(M:Meet):Prop where
 sw:FzV g w ly 1 [S3.v (ys 0),S3.v (ys 1),S3.v (ys 2),S3.v (ys 3),S3.v (ys 4)]
 log:∀ j,j<5->FzV g w (ys j) 5 (cmL (M.log j))
 ew:FzV g w tv 5 (M.ew.flatMap GM)
theorem OutF.ch(h:OutF g w ly tv ys M)(c:Cg B T g w g' w')(a:Tg.z∉T:=by simp):OutF g' w' ly tv ys M:=⟨h.sw.ch c a,λj b=>(h.log j b).ch c a,h.ew.ch c a⟩
def Fa.ot(ly tv:S3)(ys:Nat->S3)(M:Meet):Fa:=⟨none,λg w=>OutF g w ly tv ys M,λhz _ c h=>h.ch c hz⟩
theorem Lm(h:OutW w M ly tv ys)(n:OutN B M ly tv ys)(G:∀ b,B<=b->g.t b=.z):OutF g w ly tv ys M :=
 ⟨⟨h.sw,λ_ a c=>G _ (n.sw a c)⟩,λj e=>⟨(h.log j e).rv,λd a c=>G _ (n.log j e d a c)⟩,⟨h.ew,λd a c=>G _ (n.ew d a c)⟩⟩
theorem OutW.n5(h:OutW w M ly tv ys):ly.n=5:=by have:=h.sw.len;simp at this;omega
theorem OwN.take(h:OwN w.heap.size w' e sz x xs)(b:Bw w w')(G:∀ b,w.heap.size<=b->g.t b=.z/\g.k b=0)(r:Nat):∃ g',(∀ B,Cg B [] g w g' w')/\(∀ b,w'.heap.size<=b->g'.t b=.z/\g'.k b=0)/\OwnS g' w' (.n 60 r) true e sz x xs/\∀ b,w.heap.size<=b->(∀ a,x.a=some a->b≠a.block)->g'.t b=.z:=by
 have l:=b.size;rcases h.ex with h1|⟨c,cur,h0,h1,h2,h3,h4,h5,h6⟩
 .exact⟨g,λ_=>Cg.ed b,λd f=>G d (mV l f),⟨h.len,.inl h1⟩,λd f _=>(G d f).1⟩
 .have hc:c<w'.heap.size:=rl h2;have i:∀ d,d<w.heap.size->¬ d=c:=λd f e=>by omega
  refine⟨⟨λd=>if d=c then .n 60 r else g.t d,λd=>if d=c then xs.length else g.k d⟩,λ_=>⟨b.os,b.tape,b.output,l,λd f=>.inl (if_neg (i d f)),λd f=>?_,λd f _ _=>if_neg (i d f),λd f _ _=>b.block d f,λd f j _=>World.cell?_of_block (w:=w) (b.block d f)⟩,λd f=>?_,⟨h.len,.inr ⟨c,cur,h1,h2,h3,h4,h5,h6,if_pos rfl,if_pos rfl⟩⟩,λd f m=>(if_neg (m _ h1)).trans (G d f).1⟩
  .show g.k d<=(if d=c then _ else g.k d);rw[if_neg (i d f)];exact A' _
  .have hd2:¬ d=c:=by omega
   show(if d=c then _ else g.t d)=.z/\(if d=c then _ else g.k d)=0;rw[if_neg hd2,if_neg hd2];exact G d (mV l f)
end
section
variable{P:Program}{fn:Func}{R:Ending->World->Prop}{w0:World}{Φ:List Fa}{g:Gh}{w:World}
theorem tG{s:Xs}(i:Nat)(m:List Bool)(r:Nat){f:FuncId}{j:Array Value}{K:Ending->World->Prop}(B:AllF g w Φ->Cg w0.heap.size TQ gS w0 g w->Calls P f j w K)(E:(∀ b,w.heap.size<=b->g.t b=.z)->∀ e w',K e w'->∃ v Ψ et sz x xs,e=.returned v/\Bw w w'/\OwN w.heap.size w' et sz x xs/\∀ g',(AllF g' w' Φ->OwnS g' w' (.n 60 r) true et sz x xs->(∀ b,w.heap.size<=b->(∀ a,x.a=some a->b≠a.block)->g'.t b=.z)->AllF g' w' Ψ)/\GT P fn R w0 Ψ (nxt s i v (AI m s.L)).s g' w')(H:∀ W,Df P s i W=some (.ok (.enter f j) W):=by intro _;kernel_rfl)(D:KK s i=true:=by kernel_rfl)(d:(nxt s i undef (AI m s.L)).o.map Ob.l'=(nxt s i undef (AI m s.L)).o.map Ob.r':=by kernel_rfl):GT P fn R w0 Φ s g w:=by
 refine⟨λF C=>Af λl=>qG i [] m (B F C) (λe w' h=>?_) H D d (by simp)⟩;obtain⟨v,Ψ,et,sz,x,xs,p,q,u,k⟩:=E (λb A=>(l.new b A).1) e w' h;obtain⟨g',c,G,y,I⟩:=u.take q l.new r;exact⟨v,g',p,c _,G,(k g').2.ex ((k g').1 (F.sc (c w0.heap.size)) y I) (C.trans ((c _).nil TQ))⟩
theorem jw{P:Program}{W:World}(t f e:TypeId)(i:TypeInfo)(c:P.underlying t=some (.slice e))(b:P.info? e=some i)(y:S3)(d:y.n=0):(Builtin.append_ #[t,t] f #[s30.v,y.v]).run P W=.ok s30.v W:=by
 obtain⟨g,k,h⟩:=y;simp only at d;subst d;show(Builtin.append_ #[t,t] f #[.slice none 0 0,.slice g 0 h]).run P W=.ok (.slice none 0 0) W;cases g with
 | none=>simp[Builtin.append_,run_underlying c,sizeOf,typeInfo,b,Builtin.lenOf,run_firstCells_none]
 | some a =>
  have j:=run_firstCells_some (P:=P) W i.size 0 a 0 h [] (by simp) (by simp);simp[Builtin.append_,run_underlying c,sizeOf,typeInfo,b,Builtin.lenOf,run_firstCells_none,j]
theorem gW{s:Xs}(i:Nat)(r:Nat)(y:S3)(news:List Value)(t K e:TypeId)(l a:Nat)(z:Value)(N:AllF g w Φ->RdV w y l news)(Ψ:List Fa)(A:AllF g w Φ->AllF g w Ψ)(H:Ψ.all (λf=>f.ro != some r)=true)(G:Tg.n 60 r∈TQ)
  (O:∀ u∈news,u.oneCell'=true)(D:y.n<=maxLen)(h:y.n*a<=140737488355328)
  (E:∀ x' g' w',x'.n=y.n->GT P fn R w0 (Fa.ow r e l x' news::Ψ) (nxt s i (S3.v x') s.L).s g' w')(I:0<l:=by decide)
  (M:P.underlying t=some (.slice e):=by kernel_rfl)(d:(P.info? e).map (λi=>(i.zero,i.size,i.bytes))=some (some z,l,a):=by kernel_rfl)(J:Nat.beq z.cells.size l=true:=by kernel_rfl)
  (k:D7 s i=some (Builtin.append_ #[t,t] K #[s30.v,y.v]>>=λv=>pure (.value v)):=by kernel_rfl)(q:(nxt s i undef s.L).o.map Ob.l'=(nxt s i undef s.L).o.map Ob.r':=by kernel_rfl)(Q:s.L.all (λy=>[Tg.n 60 r].all λt=>y.t.ne t)=true:=by kernel_rfl):GT P fn R w0 Φ s g w:=by
 refine tF λF C=>?_;have B:=N F;by_cases p:y.n=0
 .obtain⟨inf,hi⟩:∃ inf,P.info? e=some inf:=by cases hh:P.info? e with|none=>rw[hh]at d;cases d|some j=>exact⟨j,rfl⟩
  obtain rfl:news=[]:=Z' (by rw[B.len,p,rK]);refine tV i s30.v (λ_ _=>jw t K e inf M hi y p) ?_ k q;exact tCv (Fa.ow r e l s30 []::Ψ) (λF=>⟨OwnS.nil _ _ _ _ _ _,A F⟩) (E s30 g w p.symm)
 .obtain⟨b,off,ha,_,_⟩:=B.spot (i:=0) (by omega);obtain⟨U,m,c⟩:=y;simp only at ha p D h E k B;subst ha;refine NU i r (x:=s30) (xs:=[]) t K e l a z ⟨b,off,none⟩ m c news (λ_=>OwnS.nil _ _ _ _ _ _) Ψ A H G B.len O (λF _ j u S=>?_) (by show 0+m<=_;omega) (by show(0+m)*a<=_;rw[nS];exact h) (λx' g' w' T=>?_) (Nat.pos_of_ne_zero p) I M d J k q Q
  .rcases(N F).ex with h2|⟨b2,off2,k1,k2,k3⟩
   .exact absurd h2 p
   .cases k1;have:(⟨b,off,none⟩:Addr).add j=⟨b,off+j,none⟩:=by unfold Addr.add;split<;>simp_all
    rw[this];exact k3 j u S
  .rw[oU];exact E x' g' w' (by rw[T];show 0+m=m;omega)
end
section
variable{n tc tr tu k c s m v:Int}(h:paE n tc tr tu k c s m v=0)
include h
end
section
variable{G:List Gr}{L:List Lac}{M:Meet}{W w:World}{a:List Cmd}{b i j n off:Nat}{cr:Bool}{g:Gh}{l:List (Lac × S3)}{ly tv x:S3}{ys:Nat->S3}
theorem Mr{n a b d k c s m v:Int}(h:paE n a b d k c s m v=0):(paL n a b d k c s m v).length=63:=by
 rw[aC h,nD,GB,Iu]
theorem mI(x:S3)(k:Nat)(f:k<=x.c)(d:∃ b off,x.a=some ⟨b,off,none⟩):(Instr.sliceAt 34 x.v none (some (iv (k:Int))) none).run prog W=.ok (S3.v ⟨x.a,k,x.c⟩) W:=by
 obtain⟨b,off,d⟩:=d;obtain⟨h,i,g⟩:=x;simp only at d f;subst d;have e:prog.elem 34=5:=by kernel_rfl
 rw[run_sliceAt_slice _ _ _ _ _ _ ga,run_slice_h (P:=prog) (w:=W) _ _ _ _ ga .i64 k (by omega) (by show(k:Int)<=((g:Nat):Int);omega),e,I0];simp[Result.andThen,sliced,Addr.add]
theorem FSl.take{l:List Int}(h:FSl g w x l)(k:Nat)(y:k<=l.length):FSl g w ⟨x.a,k,x.c⟩ (l.take k):=by
 have f:=JS h.s;obtain⟨⟨⟨a,m,j,v,f,d⟩,u,n⟩,o⟩:=h;simp only[Value.slice.injEq]at j;obtain⟨rfl,r,rfl⟩:=j;refine⟨⟨⟨_,_,by simp only[Value.slice.injEq,and_true,true_and,X'];omega,by rw[X'];omega,f,?_⟩,by rw[X'];omega,λz t=>n z (nu t)⟩,λq=>o λe=>q (by rw[e];simp)⟩;rcases d with d|⟨b,off,ha,hbs,hcell⟩
 .exact .inl (by rw[d];simp)
 .refine .inr ⟨b,off,ha,hbs,λi p=>?_⟩;rw[X']at p
  rw[show(l.take k).getD i 0=l.getD i 0 by simp[List.getD,show i<k by omega]];exact hcell i (by omega)
theorem FSl.addr{l:List Int}(h:FSl g w x l)(j:l≠[]):(∃ b off,x.a=some ⟨b,off,none⟩)/\l.length<=x.c:=by
 obtain⟨⟨⟨a,f,e,i,p,d⟩,m,n⟩,o⟩:=h;simp only[Value.slice.injEq]at e;obtain⟨rfl,k,rfl⟩:=e;rcases d with d|⟨b,off,ha,_⟩
 .exact absurd d j
 .exact⟨⟨b,off,ha⟩,i⟩
theorem WO{g:Gr}(h:GrOk g)(hT:Tabs w) :
  Calls prog 14 #[.agg #[iv g.k,iv g.a,iv g.b,iv g.c,iv g.d]] w λe w'=>∃ y:S3,e=.returned y.v/\Sl w' y.v (pkB g)/\Nb w.heap.size y (pkB g)/\Bw w w':=by
 have A:(pkP g).length=63:=Mr (aI g);have r4:=Bg g.c 4 (by omega);refine tIn [] func14 trivial (tR 18 [0,0,0,0,0,0,0] λr _ _=>tC1 11 (λF C=>RX h.b h.c h.d h.a h.d) λ_=>tR 16 [0,0,1,0,1,1,0,2,0,0] λi _ _=>tC1 2 (λF C=>Cn h.d 17) λ_=>tR 1 [] λa1 _ _=>KV 56 (λZ X q=>∃ (E G:Int),Z=[(1,pt (r 0) 0),(3,pt (i 0) 0),(4,pt (i 1) 0)]/\X=[⟨(r 0),.cells #[iv g.k,iv g.a,iv g.b,iv g.c,iv g.d] 44,.z,false⟩,⟨(i 0),.cells #[iv (wK g.b),iv (pick g.c 4),iv (pick g.d 6),iv (pick g.a 4),iv (wV g.b g.d)] 49,.z,false⟩,⟨(i 1),.cells #[iv E,iv G,iv 60] 59,.l,false⟩]/\q=[]/\E=pkT g/\G=pkR g) (λJ I=>?_) ?_)
 .refine tR 6 [] λa2 _ _=>?_;by_cases f:pick g.d 17=15
  .refine tI (((pick g.d 17)==15)) true (by simpa using f) (tR 5 [2,0] λa3 _ _=>tD I [true,true,true] ⟨pick g.c 4,0,rfl,rfl,rfl,(if_neg (by omega)).symm,(if_pos f).symm⟩ (λF=>trivial))
  .refine tI (((pick g.d 17)==15)) false (by simpa using f) (tR 5 [] λa4 _ _=>?_);by_cases u:pick g.d 17=16
   .refine tI (((pick g.d 17)==16)) true (by simpa using u) (tR 3 [2] λa5 _ _=>tV 2 (iv (pick g.c 4+1)) (λF C=>(AU 31 (pick g.c 4) underlying3 (by omega))) (tV 3 (iv ((pick g.c 4+1)%4)) (λF C=>(aR (x:=(.tmp 32)) (y:=(.const (iv 4))) (pick g.c 4+1) 4 underlying3 (by omega) (by omega) (by decide) (by decide))) (tR 4 [2,0] λO _ _=>tD I [true,true,true] ⟨(pick g.c 4+1)%4,7,rfl,rfl,rfl,(if_pos u).symm,(if_neg f).symm⟩ (λF=>trivial))))
   .refine tI (((pick g.d 17)==16)) false (by simpa using u) (tR 2 [] λP _ _=>tD I [true,true,true] ⟨pick g.c 4,7,rfl,rfl,rfl,(if_neg u).symm,(if_neg f).symm⟩ (λF=>trivial))
 rintro _ _ _ ⟨E,G,rfl,rfl,rfl,o,p⟩ _ _ _;refine tR 6 [11,0,2,0,6,2,8,1] λQ _ _=>tC1 2 (λF C=>Cn h.a 1000) λ_=>tF λ_ W=>?_;have j:=W.size;have M:=aI g;rw[<- o,<- p]at M
 have N:pkP g=paL (pick g.a 1000) E G 60 (wK g.b) (pick g.c 4) (pick g.d 6) (pick g.a 4) (wV g.b g.d):=by rw[o,p];rfl
 refine tC 5 (λF C=>eZ M (tbA hT C)) λY=>?_;rintro _ _ ⟨y,rfl,K,D,H⟩;refine⟨_,Fa.sl y (pkP g)::_,rfl,H,λF=>⟨(by rw[N];exact Tt K D Y),F⟩,?_⟩;rw[<- N]at K D
 have a0:=JS K;refine tR 11 [12,14,16,18,20,0] λR _ _=>tC1 2 (λF C=>Cn h.d 23) λ_=>?_;by_cases f:pick g.d 23=22
 .refine tV 3 (.bool true) (λF C=>(Fu (t:=3) (m:=pick g.d 23) (n:=22) (x:=(.tmp 46)) (y:=(.const (iv 22))) (by simpa using f))) (tR 6 [] λS _ _=>tI ((decide (30<(y.n:Int)))) true (M' (by omega)) (tR 2 [] λT _ _=>tF λF _=>?_));have L:=FSl.addr F.1 (λe=>by rw[e]at A;cases A);refine tV 1 (S3.v ⟨y.a,30,y.c⟩) (λF C=>(mI y 30 (by omega) L.1)) (tR 7 [] λU _ _=>?_);rw[show pkB g=_ from if_pos ⟨f,by omega⟩];exact tE (S3.v ⟨y.a,30,y.c⟩) λF B=>⟨⟨y.a,30,y.c⟩,rfl,(F.1.take 30 (by omega)).s,λ_ a ha=>D.mono j (λe=>by rw[e]at A;cases A) a ha,B⟩
 .refine tV 3 (.bool false) (λF C=>(Fu (t:=3) (m:=pick g.d 23) (n:=22) (x:=(.tmp 46)) (y:=(.const (iv 22))) (by simpa using f))) (tR 13 [] λV _ _=>?_);rw[show pkB g=_ from if_neg (λe=>f e.1)];exact tE (S3.v y) λF B=>⟨y,rfl,F.1.s,D.mono j,B⟩
theorem ic{g:Gr}(h:GrOk g)(hT:Tabs w){x:Lac}(i:Ps g cr=x) :
  Calls prog 10 #[.agg #[iv g.k,iv g.a,iv g.b,iv g.c,iv g.d],.bool cr] w λe w'=>∃ y:S3,e=.returned (.agg #[iv x.k,iv x.n,iv x.a,iv x.p,y.v])/\Sl w' y.v x.d/\Nb w.heap.size y x.d/\Bw w w':=by
 refine tIn [] func10 trivial (tR 9 [0,0,1,0,0] λj _ _=>tC1 2 (λF C=>Cn h.a 5) λ_=>tR 7 [0] λa0 _ _=>tC1 2 (λF C=>Cn h.k 24) λ_=>?_);unfold Ps at i;refine tR 9 [] λa1 _ _=>?_;by_cases f:pick g.k 24<3
 .refine tI ((decide ((pick g.k 24)<3))) true (by simpa using f) ?_;rw[if_pos f]at i
  refine tR 4 [0] λa2 _ _=>tF λ_ Cs=>?_;have o:=Cs.size;refine tC 2 (λF C=>WO h (tbA hT C)) λNz=>?_;rintro _ _ ⟨y,rfl,hy,q,b8⟩;refine⟨_,Fa.sl y (pkB g)::_,rfl,b8,λF=>⟨Tt hy q Nz,F⟩,?_⟩;refine tR 3 [1,0] λa3 _ _=>?_;subst i;exact tX λF C=>qE1 4 36 1 (j 1) #[iv 1,iv (pick g.a 5),iv 0,iv 0,S3.v y] λ_=>⟨y,rfl,F.1.s,q.mono o,CgQ.af C⟩
 .refine tI ((decide ((pick g.k 24)<3))) false (by simpa using f) ?_;rw[if_neg f]at i
  refine tR 6 [] λr _ _=>?_;by_cases f:pick g.k 24<5
  .refine tI ((decide ((pick g.k 24)<5))) true (by simpa using f) ?_;rw[if_pos f]at i
   refine tR 6 [1,0] λu _ _=>?_;subst i;exact tX λF C=>qE1 4 36 1 (j 1) #[iv 2,iv (pick g.a 5),iv 0,iv 0,S3.v s30] λ_=>⟨s30,rfl,EA _,λe=>absurd rfl e,CgQ.af C⟩
  .refine tI ((decide ((pick g.k 24)<5))) false (by simpa using f) ?_;rw[if_neg f]at i
   refine tR 6 [] λz _ _=>?_;by_cases f:pick g.k 24<14
   .refine tI ((decide ((pick g.k 24)<14))) true (by simpa using f) ?_;rw[if_pos f]at i
    refine tR 6 [1,0] λA _ _=>?_;subst i;exact tX λF C=>qE1 4 36 1 (j 1) #[iv 3,iv (pick g.a 5),iv 0,iv 0,S3.v s30] λ_=>⟨s30,rfl,EA _,λe=>absurd rfl e,CgQ.af C⟩
   .refine tI ((decide ((pick g.k 24)<14))) false (by simpa using f) ?_;rw[if_neg f]at i
    refine tR 6 [] λB _ _=>?_;by_cases f:pick g.k 24=14
    .refine tI (((pick g.k 24)==14)) true (by simpa using f) ?_;rw[if_pos f]at i
     refine tR 4 [0] λD _ _=>tC1 2 (λF C=>Cn h.c 20) λ_=>tR 3 [1,0] λE _ _=>?_;subst i;exact tX λF C=>qE1 4 36 1 (j 1) #[iv 4,iv 0,iv (pick g.c 20),iv 0,S3.v s30] λ_=>⟨s30,rfl,EA _,λe=>absurd rfl e,CgQ.af C⟩
    .refine tI (((pick g.k 24)==14)) false (by simpa using f) ?_;rw[if_neg f]at i
     refine tR 6 [] λG _ _=>?_;by_cases f:pick g.k 24=15
     .refine tI (((pick g.k 24)==15)) true (by simpa using f) ?_;rw[if_pos f]at i
      refine tR 4 [0] λH _ _=>tC1 2 (λF C=>Cn h.c 20) λ_=>tR 3 [1,0] λI _ _=>?_;subst i;exact tX λF C=>qE1 4 36 1 (j 1) #[iv 5,iv 0,iv (pick g.c 20),iv 0,S3.v s30] λ_=>⟨s30,rfl,EA _,λe=>absurd rfl e,CgQ.af C⟩
     .refine tI (((pick g.k 24)==15)) false (by simpa using f) ?_;rw[if_neg f]at i
      refine tR 6 [] λJ _ _=>?_;by_cases f:pick g.k 24=16
      .refine tI (((pick g.k 24)==16)) true (by simpa using f) ?_;rw[if_pos f]at i
       refine tR 4 [0] λK _ _=>tC1 2 (λF C=>Cn h.c 20) λ_=>tR 3 [1,0] λL _ _=>?_;subst i;exact tX λF C=>qE1 4 36 1 (j 1) #[iv 6,iv 0,iv (pick g.c 20),iv 0,S3.v s30] λ_=>⟨s30,rfl,EA _,λe=>absurd rfl e,CgQ.af C⟩
      .refine tI (((pick g.k 24)==16)) false (by simpa using f) ?_;rw[if_neg f]at i
       refine tR 3 [] λM _ _=>?_;by_cases f:pick g.k 24=17
       .refine tV 1 (.bool true) (λF C=>(Fu (t:=3) (m:=pick g.k 24) (n:=17) (x:=(.tmp 52)) (y:=(.const (iv 17))) (by simpa using f))) (tR 5 [] λN _ _=>?_);by_cases l:cr=true
        .refine tI (cr) true l ?_;rw[if_pos ⟨f,l⟩]at i
         refine tR 5 [0] λO _ _=>tC1 3 (λF C=>Cn h.c 90) λ_=>tR 3 [1,0] λP _ _=>?_;subst i;exact tX λF C=>qE1 4 36 1 (j 1) #[iv 8,iv (pick g.a 5),iv 0,iv (pick g.c 90),S3.v s30] λ_=>⟨s30,rfl,EA _,λe=>absurd rfl e,CgQ.af C⟩
        .refine tI (cr) false (by simpa using l) ?_;rw[if_neg (λe=>l e.2)]at i
         refine tR 3 [] λQ _ _=>?_;by_cases f:pick g.k 24=18
         .refine tV 1 (.bool true) (λF C=>(Fu (t:=3) (m:=pick g.k 24) (n:=18) (x:=(.tmp 63)) (y:=(.const (iv 18))) (by simpa using f))) (tR 5 [] λR _ _=>?_);by_cases l:cr=true
          .refine tI (cr) true l ?_;rw[if_pos ⟨f,l⟩]at i
           refine tR 6 [1,0] λS _ _=>?_;subst i;exact tX λF C=>qE1 4 36 1 (j 1) #[iv 9,iv (pick g.a 5),iv 0,iv 0,S3.v s30] λ_=>⟨s30,rfl,EA _,λe=>absurd rfl e,CgQ.af C⟩
          .refine tI (cr) false (by simpa using l) ?_;rw[if_neg (λe=>l e.2)]at i
           refine tR 7 [1,0] λT _ _=>?_;subst i;exact tX λF C=>qE1 4 36 1 (j 1) #[iv 7,iv 0,iv 0,iv 0,S3.v s30] λ_=>⟨s30,rfl,EA _,λe=>absurd rfl e,CgQ.af C⟩
         .refine tV 1 (.bool false) (λF C=>(Fu (t:=3) (m:=pick g.k 24) (n:=18) (x:=(.tmp 63)) (y:=(.const (iv 18))) (by simpa using f))) ?_;rw[if_neg (λe=>f e.1)]at i
          refine tR 13 [1,0] λU _ _=>?_;subst i;exact tX λF C=>qE1 4 36 1 (j 1) #[iv 7,iv 0,iv 0,iv 0,S3.v s30] λ_=>⟨s30,rfl,EA _,λe=>absurd rfl e,CgQ.af C⟩
       .refine tV 1 (.bool false) (λF C=>(Fu (t:=3) (m:=pick g.k 24) (n:=17) (x:=(.tmp 52)) (y:=(.const (iv 17))) (by simpa using f))) ?_;rw[if_neg (λe=>f e.1)]at i
        refine tR 9 [] λV _ _=>?_;by_cases f:pick g.k 24=18
        .refine tV 1 (.bool true) (λF C=>(Fu (t:=3) (m:=pick g.k 24) (n:=18) (x:=(.tmp 63)) (y:=(.const (iv 18))) (by simpa using f))) (tR 5 [] λW _ _=>?_);by_cases l:cr=true
         .refine tI (cr) true l ?_;rw[if_pos ⟨f,l⟩]at i
          refine tR 6 [1,0] λX _ _=>?_;subst i;exact tX λF C=>qE1 4 36 1 (j 1) #[iv 9,iv (pick g.a 5),iv 0,iv 0,S3.v s30] λ_=>⟨s30,rfl,EA _,λe=>absurd rfl e,CgQ.af C⟩
         .refine tI (cr) false (by simpa using l) ?_;rw[if_neg (λe=>l e.2)]at i
          refine tR 7 [1,0] λY _ _=>?_;subst i;exact tX λF C=>qE1 4 36 1 (j 1) #[iv 7,iv 0,iv 0,iv 0,S3.v s30] λ_=>⟨s30,rfl,EA _,λe=>absurd rfl e,CgQ.af C⟩
        .refine tV 1 (.bool false) (λF C=>(Fu (t:=3) (m:=pick g.k 24) (n:=18) (x:=(.tmp 63)) (y:=(.const (iv 18))) (by simpa using f))) ?_;rw[if_neg (λe=>f e.1)]at i
         refine tR 13 [1,0] λZ _ _=>?_;subst i;exact tX λF C=>qE1 4 36 1 (j 1) #[iv 7,iv 0,iv 0,iv 0,S3.v s30] λ_=>⟨s30,rfl,EA _,λe=>absurd rfl e,CgQ.af C⟩
theorem mC{k:Nat}(g:Gr)(h:∀ j u,(grV g)[j]?=some u->W.cell? ⟨b,k+j,none⟩=some u):(Instr.loadAt 44 (pt b k)).run prog W=.ok (.agg #[iv g.k,iv g.a,iv g.b,iv g.c,iv g.d]) W:=by
 have e:=run_loadVar_mid (P:=prog) W b k 44 (grV g) _ h underlying44 rfl (by kernel_rfl);simp only[Instr.loadAt,Instr.sureAddr,Sem.run_bind,Sem.run_pure,Result.andThen_ok];exact e
theorem l9(c:x.a=some ⟨b,off,none⟩)(j:Nat)(d:j<x.n):(Instr.indexAt 22 x.v (iv (j:Int))).run prog W=.ok (pt b (off+5*j)) W:=by
 obtain⟨f,h,g⟩:=x;simp only at c d;subst c;exact NL (P:=prog) (e:=44) (z:=5) underlying22 (by kernel_rfl) (by kernel_rfl) d _ rfl
theorem kK{l:S3}{g:Gr}(h:RdV w l 5 (grL G))(m:l.a=some ⟨b,off,none⟩)(d:G[i]?=some g){u:Value}(o:(grV g)[j]?=some u):w.cell? ⟨b,off+5*i+j,none⟩=some u:=by
 have p:l.n=G.length:=by have:=h.len;rw[show(grL G).length=G.length*5 from Gy (f:=grV) (λ_=>rfl) G]at this;omega
 obtain⟨q,e,c,_,k⟩:=h.spot (i:=i) (by rw[p];exact(V'.1 d).1);rw[m]at c
 cases c;exact k j u (Lj (f:=grV) (λ_=>rfl) G d o)
theorem Xh{l:S3}{most:Nat}(h:RdV w l 5 (grL G))(hG:∀ g∈G,GrOk g)(hm:most<=100)(hT:Tabs w) :
  Calls prog 4 #[l.v,iv (most:Int),.bool cr] w λe w'=>∃ (y:S3) (P:List (Lac × S3)),e=.returned y.v/\P.map (·.1)=scr G most cr/\AcN w.heap.size w' y P/\Bw w w':=by
 have a9:l.n=G.length:=by have:=h.len;rw[show(grL G).length=G.length*5 from Gy (f:=grV) (λ_=>rfl) G]at this;omega
 refine tIn [Fa.zv l 5 (grL G)] func4 ⟨h.fz,trivial⟩ (tR 18 [] λb5 _ _=>DU 41 [(0,S3.v l),(1,iv (most:Int)),(2,.bool cr),(7,sn),(8,iv 0),(9,iv 0)] [] [] [Fa.zv l 5 (grL G),Fa.oa 0 s30 []] (λkk ee LL M=>∃ (i s:Nat) (y:S3) (P:List (Lac × S3)),kk=min G.length most-i/\ee=[(0,S3.v l),(1,iv (most:Int)),(2,.bool cr),(7,S3.v y),(8,iv (s:Int)),(9,iv (i:Int))]/\LL=[]/\M=[Fa.zv l 5 (grL G),Fa.oa 0 y P]/\i<=min G.length most/\y.n=i/\s<=i/\scr G most cr=P.map (·.1)++MI cr s ((G.take most).drop i)/\(∀ p∈P,Nb w.heap.size p.2 p.1.d)) (min G.length most) ⟨0,0,s30,[],rfl,rfl,rfl,rfl,by omega,rfl,by omega,rfl,λp q=>by cases q⟩ (λF=>⟨F.1,⟨OwnS.nil _ _ _ _ _ _,λp q=>by cases q⟩,trivial⟩) ?_);rintro k _ _ _ ⟨i,s,y,P,rfl,rfl,rfl,rfl,R,b1,b0,o,E⟩ _ _ _ J N;refine tR 6 [] λb6 _ _=>?_;by_cases h1:i<G.length
 .refine tV 3 (.bool true) (λF C=>(rLt (t:=3) (m:=(i:Int)) (n:=(l.n:Int)) (x:=(.tmp 11)) (y:=(.tmp 13)) (M' (by omega)))) (tR 6 [] λb7 _ _=>?_);by_cases h2:i<most
  .refine tI ((decide ((i:Int)<(most:Int)))) true (M' (by omega)) ?_;have R:i<(G.take most).length:=by rw[X'];omega
   obtain⟨g,O⟩:∃ g,(G.take most)[i]?=some g:=⟨_,E' R⟩;have H:G[i]?=some g:=by rw[ol,if_pos h2]at O;exact O
   have Q:=hG g (nH H);rw[nO R,show(G.take most)[i]=g from(V'.1 O).2,MI]at o
   refine tF λF _=>?_;obtain⟨b,T,I,_,a8⟩:=F.1.rd.spot (i:=i) (by omega);refine tR 7 [] λb9 _ _=>tV 2 (pt b (T+5*i)) (λF C=>(l9 I i (by omega))) (tV 3 (.agg #[iv g.k,iv g.a,iv g.b,iv g.c,iv g.d]) (λF C=>(mC g λj u hj=>kK F.1.rd I H hj)) (tR 1 [] λc0 _ _=>?_));obtain⟨x,X⟩:∃ x,Ps g cr=x:=⟨_,rfl⟩;refine tF λ_ Cs=>?_;have L:=Cs.size;refine tC 5 (λF C=>ic Q (tbA hT C) X) λNz=>?_;rintro _ _ ⟨d,rfl,hd,S,b8⟩;refine⟨_,Fa.sl d x.d::_,rfl,b8,λF=>⟨Tt hd S Nz,F⟩,?_⟩;rw[X]at o
   refine tR 10 [1,0,0,0,0] λc1 _ _=>?_;by_cases D:x.k=1
   .refine tI ((x.k==1)) true (by simpa using D) (tR 3 [] λY _ _=>tV 1 (iv ((s:Int)+1)) (λF C=>(AU 31 (s:Int) underlying3 (by omega))) (tR 7 [] λZ _ _=>?_));rw[show fH s x=s+1 from if_pos D]at o
    by_cases h4:6<s+1
    .refine tI ((decide (6<((s:Int)+1)))) true (M' (by omega)) ?_;rw[show Xg s x=acN 7 0 from if_pos ⟨D,by omega⟩]at o
     refine tR 8 [0,0,0,0,0] λr _ _=>NU 3 0 (x:=y) 23 23 36 5 56 zLa ⟨(r 0),0,none⟩ 1 1 [iv 7,iv 0,iv 0,iv 0,sn] (λF=>F.2.2.1.1) [Fa.zv l 5 (grL G),Fa.dt (P++[(acN 7 0,s30)])] (λF=>⟨F.2.1,Dat.snoc F.2.2.1.2 (SS _ _),trivial⟩) rfl (by simp[TQ]) rfl (by simp[Value.oneCell']) (λF K=>Cz K 1 (r 0) [iv 7,iv 0,iv 0,iv 0,sn] 36 .z true (by kernel_rfl)) (by unfold maxLen;omega) (by omega) λU _ _ b2=>tR 5 [] λa0 _ _=>tV 1 (iv ((i:Int)+1)) (λF C=>(AU 20 (i:Int) underlying3 (by omega))) (tR 2 [] λa1 _ _=>tB N (min G.length most-(i+1)) (by omega) [false,false] ⟨i+1,(s+1),U,P++[(acN 7 0,s30)],rfl,rfl,rfl,rfl,by omega,by omega,by omega,(by rw[o,nE,mU];rfl),λp q=>(U'.1 q).elim (E p) λe=>by rw[G'.1 e];exact λe=>absurd rfl e⟩ (λF=>⟨F.2.1,⟨(by rw[DG];exact F.1),F.2.2.1⟩,trivial⟩))
    .refine tI ((decide (6<((s:Int)+1)))) false (D' (by omega)) ?_;rw[show Xg s x=x from if_neg (λe=>h4 (by omega))]at o
     refine tR 5 [0,0,0] λA _ _=>NU 3 0 (x:=y) 23 23 36 5 56 zLa ⟨(A 0),0,none⟩ 1 1 [iv x.k,iv x.n,iv x.a,iv x.p,S3.v d] (λF=>F.2.2.1.1) [Fa.zv l 5 (grL G),Fa.dt (P++[(x,d)])] (λF=>⟨F.2.1,Dat.snoc F.2.2.1.2 (F.1),trivial⟩) rfl (by simp[TQ]) rfl (by simp[Value.oneCell']) (λF K=>Cz K 1 (A 0) [iv x.k,iv x.n,iv x.a,iv x.p,S3.v d] 36 .z true (by kernel_rfl)) (by unfold maxLen;omega) (by omega) λV _ _ b3=>tR 5 [] λa2 _ _=>tV 1 (iv ((i:Int)+1)) (λF C=>(AU 20 (i:Int) underlying3 (by omega))) (tR 2 [] λa3 _ _=>tB N (min G.length most-(i+1)) (by omega) [false,false] ⟨i+1,(s+1),V,P++[(x,d)],rfl,rfl,rfl,rfl,by omega,by omega,by omega,(by rw[o,nE,mU];rfl),λp q=>(U'.1 q).elim (E p) λe=>by rw[G'.1 e];exact S.mono L⟩ (λF=>⟨F.2.1,⟨(by rw[DG];exact F.1),F.2.2.1⟩,trivial⟩))
   .refine tI ((x.k==1)) false (by simpa using D) ?_;rw[show fH s x=s from if_neg D,show Xg s x=x from if_neg (λe=>D e.1)]at o
    refine tR 5 [0,0,0] λB _ _=>NU 3 0 (x:=y) 23 23 36 5 56 zLa ⟨(B 0),0,none⟩ 1 1 [iv x.k,iv x.n,iv x.a,iv x.p,S3.v d] (λF=>F.2.2.1.1) [Fa.zv l 5 (grL G),Fa.dt (P++[(x,d)])] (λF=>⟨F.2.1,Dat.snoc F.2.2.1.2 (F.1),trivial⟩) rfl (by simp[TQ]) rfl (by simp[Value.oneCell']) (λF K=>Cz K 1 (B 0) [iv x.k,iv x.n,iv x.a,iv x.p,S3.v d] 36 .z true (by kernel_rfl)) (by unfold maxLen;omega) (by omega) λW _ _ b4=>tR 5 [] λa4 _ _=>tV 1 (iv ((i:Int)+1)) (λF C=>(AU 20 (i:Int) underlying3 (by omega))) (tR 2 [] λa5 _ _=>tB N (min G.length most-(i+1)) (by omega) [false,false] ⟨i+1,s,W,P++[(x,d)],rfl,rfl,rfl,rfl,by omega,by omega,by omega,(by rw[o,nE,mU];rfl),λp q=>(U'.1 q).elim (E p) λe=>by rw[G'.1 e];exact S.mono L⟩ (λF=>⟨F.2.1,⟨(by rw[DG];exact F.1),F.2.2.1⟩,trivial⟩))
  .refine tI ((decide ((i:Int)<(most:Int)))) false (D' (by omega)) (tR 6 [] λa6 _ _=>?_);rw[nN (by rw[X'];omega),MI,nA]at o
   exact tX λF C=>qE (S3.v y) λ_=>⟨y,P,rfl,o.symm,AcN.of F.2.1 C E,CgQ.af C⟩
 .refine tV 3 (.bool false) (λF C=>(rLt (t:=3) (m:=(i:Int)) (n:=(l.n:Int)) (x:=(.tmp 11)) (y:=(.tmp 13)) (D' (by omega)))) (tR 13 [] λa7 _ _=>?_);rw[nN (by rw[X'];omega),MI,nA]at o
  exact tX λF C=>qE (S3.v y) λ_=>⟨y,P,rfl,o.symm,AcN.of F.2.1 C E,CgQ.af C⟩
def rnP(l:List Lac):List (Lac × S3):=l.map λa=>(a,s30)
theorem Vp(l:List Lac):(rnP l).map (·.1)=l:=by simp[rnP,Function.comp_def]
theorem PJ(g:Gh)(w:World){l:List Lac}(h:∀ a∈l,a.d=[]):Dat g w (rnP l):=by
 intro p c;obtain⟨a,b,rfl⟩:=ny.1 c;show FSl g w s30 a.d;rw[h a b];exact SS g w
theorem GD(l:List Lac)(a:Lac):rnP (l++[a])=rnP l++[(a,s30)]:=by simp[rnP]
theorem Vo(l m:List Lac):rnP (l++m)=rnP l++rnP m:=by simp[rnP]
theorem Lp(l:List Lac):(rnP l).length=l.length:=by simp[rnP]
theorem Il(m:Nat):(Al m).length=6*m:=by
 induction m with
 | zero=>rfl
 | succ m ih=>rw[Al,H',ih];show _+6=_;omega
def AD(k:Int)(j:Nat):List Lac:=(List.range j).map λn:Nat=>acN k (n:Int)
theorem BX(k:Int)(j:Nat):AD k (j+1)=AD k j++[acN k (j:Int)]:=by simp[AD,List.range_succ]
theorem Zu(k:Int)(j:Nat):(AD k j).length=j:=by simp[AD]
theorem OI{many:Nat}(h:RdV w x 5 (acV l))(P:∀ p∈l,Sl w p.2.v p.1.d)(hm:l.length+6*many<=1000000) :
  Calls prog 13 #[x.v,iv (many:Int)] w λe w'=>∃ y:S3,e=.returned y.v/\OwN w.heap.size w' 36 5 y (acV (l++rnP (Dm many)))/\Bw w w':=by
 have t:x.n=l.length:=by have:=h.len;rw[Le]at this;omega
 refine tIn [Fa.ac x l] func13 ⟨⟨h.fz,λp R=>⟨P p R,λ_ _ _=>rfl⟩⟩,trivial⟩ (tR 7 [] λV _ _=>gW 1 0 x (acV l) 23 23 36 5 56 zLa (λF=>F.1.1.rd) [Fa.dt l] (λF=>⟨F.1.2,trivial⟩) rfl (by simp[TQ]) (U0 l) (by rw[t];unfold maxLen;omega) (by omega) λu _ _ n0=>tR 8 [] λW _ _=>DU 39 [(1,iv (many:Int)),(5,S3.v u),(6,iv 0)] [] [] [Fa.oa 0 u (l++rnP (AD 9 0))] (λo g f a=>∃ (j:Nat) (y:S3),o=5-j/\g=[(1,iv (many:Int)),(5,S3.v y),(6,iv (j:Int))]/\f=[]/\a=[Fa.oa 0 y (l++rnP (AD 9 j))]/\j<=5/\y.n=l.length+j) (5) ⟨0,u,rfl,rfl,rfl,rfl,by omega,by omega⟩ (λF=>⟨by rw[show rnP (AD 9 0)=[]from rfl,nA];exact⟨F.1,F.2.1⟩,trivial⟩) ?_);rintro k _ _ _ ⟨j,y,rfl,rfl,rfl,rfl,Q,m⟩ _ _ _ J O;refine tR 6 [] λX _ _=>?_;by_cases h1:j<5
 .refine tI ((decide ((j:Int)<5))) true (M' (by omega)) (tR 8 [0,0] λq _ _=>NU 4 0 (x:=y) 23 23 36 5 56 zLa ⟨(q 0),0,none⟩ 1 1 [iv 9,iv (j:Int),iv 0,iv 0,sn] (λF=>F.1.1) [Fa.dt ((l++rnP (AD 9 j))++[(acN 9 (j:Int),s30)])] (λF=>⟨Dat.snoc F.1.2 (SS _ _),trivial⟩) rfl (by simp[TQ]) rfl (by simp[Value.oneCell']) (λF K=>Cz K 0 (q 0) [iv 9,iv (j:Int),iv 0,iv 0,sn] 36 .z true (by kernel_rfl)) (by unfold maxLen;omega) (by omega) λU _ _ n6=>tR 5 [] λY _ _=>tV 1 (iv ((j:Int)+1)) (λF C=>(AU 13 (j:Int) underlying3 (by omega))) (tR 2 [] λZ _ _=>tB O (5-(j+1)) (by omega) [false] ⟨j+1,U,rfl,rfl,rfl,rfl,by omega,by omega⟩ (λF=>by rw[BX,GD,<- mU];exact⟨⟨(by rw[DG];exact F.1),F.2.1⟩,trivial⟩)))
 .refine tI ((decide ((j:Int)<5))) false (D' (by omega)) ?_;obtain rfl:j=5:=by omega
  refine tR 7 [] λa0 _ _=>DU 39 [(1,iv (many:Int)),(5,S3.v y),(7,iv 0)] [] [] [Fa.oa 0 y (l++rnP (Ax++Al 0))] (λo g f a=>∃ (i:Nat) (y:S3),o=many-i/\g=[(1,iv (many:Int)),(5,S3.v y),(7,iv (i:Int))]/\f=[]/\a=[Fa.oa 0 y (l++rnP (Ax++Al i))]/\i<=many/\y.n=l.length+(5+6*i)) (many) ⟨0,y,rfl,rfl,rfl,rfl,by omega,by omega⟩ (λF=>⟨F.1,trivial⟩) ?_;rintro k _ _ _ ⟨i,y,rfl,rfl,rfl,rfl,hi,m⟩ _ _ _ Jb r;refine tR 7 [] λD _ _=>?_;by_cases h2:i<many
  .refine tI ((decide ((i:Int)<(many:Int)))) true (M' (by omega)) (tR 9 [] λE _ _=>DU 39 [(1,iv (many:Int)),(5,S3.v y),(7,iv (i:Int)),(8,iv 0)] [] [] [Fa.oa 0 y (l++rnP (Ax++Al i++AD 3 0))] (λo g f a=>∃ (j:Nat) (y:S3),o=5-j/\g=[(1,iv (many:Int)),(5,S3.v y),(7,iv (i:Int)),(8,iv (j:Int))]/\f=[]/\a=[Fa.oa 0 y (l++rnP (Ax++Al i++AD 3 j))]/\j<=5/\y.n=l.length+(5+6*i+j)) (5) ⟨0,y,rfl,rfl,rfl,rfl,by omega,by omega⟩ (λF=>⟨by rw[show AD 3 0=[]from rfl,nA];exact F.1,trivial⟩) ?_);rintro k _ _ _ ⟨j,y,rfl,rfl,rfl,rfl,Q,m⟩ _ _ _ Jc s;refine tR 6 [] λG _ _=>?_;by_cases h3:j<5
   .refine tI ((decide ((j:Int)<5))) true (M' (by omega)) (tR 8 [0,0] λb _ _=>NU 4 0 (x:=y) 23 23 36 5 56 zLa ⟨(b 0),0,none⟩ 1 1 [iv 3,iv (j:Int),iv 0,iv 0,sn] (λF=>F.1.1) [Fa.dt ((l++rnP (Ax++Al i++AD 3 j))++[(acN 3 (j:Int),s30)])] (λF=>⟨Dat.snoc F.1.2 (SS _ _),trivial⟩) rfl (by simp[TQ]) rfl (by simp[Value.oneCell']) (λF K=>Cz K 0 (b 0) [iv 3,iv (j:Int),iv 0,iv 0,sn] 36 .z true (by kernel_rfl)) (by unfold maxLen;omega) (by omega) λA _ _ S=>tR 5 [] λH _ _=>tV 1 (iv ((j:Int)+1)) (λF C=>(AU 27 (j:Int) underlying3 (by omega))) (tR 2 [] λI _ _=>tB s (5-(j+1)) (by omega) [false] ⟨j+1,A,rfl,rfl,rfl,rfl,by omega,by omega⟩ (λF=>by rw[BX,<- mU (Ax++Al i),GD,<- mU l];exact⟨⟨(by rw[DG];exact F.1),F.2.1⟩,trivial⟩)))
   .refine tI ((decide ((j:Int)<5))) false (D' (by omega)) ?_;obtain rfl:j=5:=by omega
    refine tR 5 [0,0] λc _ _=>NU 3 0 (x:=y) 23 23 36 5 56 zLa ⟨(c 0),0,none⟩ 1 1 [iv 7,iv 0,iv 0,iv 0,sn] (λF=>F.1.1) [Fa.dt ((l++rnP (Ax++Al i++AD 3 5))++[(acN 7 0,s30)])] (λF=>⟨Dat.snoc F.1.2 (SS _ _),trivial⟩) rfl (by simp[TQ]) rfl (by simp[Value.oneCell']) (λF K=>Cz K 0 (c 0) [iv 7,iv 0,iv 0,iv 0,sn] 36 .z true (by kernel_rfl)) (by unfold maxLen;omega) (by omega) λB _ _ T=>tR 5 [] λL _ _=>tV 1 (iv ((i:Int)+1)) (λF C=>(AU 23 (i:Int) underlying3 (by omega))) (tR 2 [] λM _ _=>tB r (many-(i+1)) (by omega) [false] ⟨i+1,B,rfl,rfl,rfl,rfl,by omega,by omega⟩ (λF=>by rw[show Ax++Al (i+1)=Ax++Al i++AD 3 5++[acN 7 0]by rw[Al,<- mU,mU _ (AD 3 5)];rfl,GD,<- mU l];exact⟨⟨(by rw[DG];exact F.1),F.2.1⟩,trivial⟩))
  .refine tI ((decide ((i:Int)<(many:Int)))) false (D' (by omega)) ?_;obtain rfl:i=many:=by omega
   refine tR 6 [] λN _ _=>tX λF C=>qE (S3.v y) λ_=>⟨y,rfl,F.1.1.own C,CgQ.af C⟩
theorem Zt(k:Int)(j:Nat):∀ a∈AD k j,a.d=[]:=by
 intro a b;obtain⟨n,_,rfl⟩:=ny.1 b;rfl
theorem YO(m:Nat):∀ a∈Al m,a.d=[]:=by
 induction m with
 | zero=>intro a b;cases b
 | succ m ih =>
  intro a b;rcases U'.1 b with h|h
  .exact ih a h
  .rcases U'.1 h with h|h
   .exact Zt 3 5 a h
   .rw[G'.1 h];rfl
theorem aV(m:Nat):∀ a∈Dm m,a.d=[]:=by
 intro a b;rcases U'.1 b with h|h
 .exact Zt 9 5 a h
 .exact YO m a h
theorem GE(m:Nat):(Dm m).length=5+6*m:=by unfold Dm;rw[H',Il];rfl
theorem mr{a:Lac}(h:AcR w x L l)(g:x.a=some ⟨b,off,none⟩)(f:L[i]?=some a):w.cell? ⟨b,off+5*i,none⟩=some (iv a.k):=by
 obtain⟨j,d,y,c,e,_,_⟩:=h.spot f;rw[g]at c
 cases c;exact e 0 _ rfl
theorem W8{a:Lac}(h:L[i]?=some a):Fq (L.take (i+1))=if hvy a then Fq (L.take i)+20 else Fq (L.take i):=by
 unfold Fq;rw[px,h,oV];cases hh:hvy a<;>simp[hh];omega
theorem Vb(L:List Lac):Fq L<=100+20*L.length:=by
 unfold Fq;have:=pP hvy L;omega
theorem Zd(m:Nat)(n:Int):(Cy m n).length=11+6*m:=by unfold Cy;rw[H',H',GE,GE,n7];omega
theorem Uf{n:Int}(h:AcR w x L l)(hm:L.length<=2000) :
  Calls prog 7 #[x.v,iv n] w λe w'=>∃ y:S3,e=.returned y.v/\OwN w.heap.size w' 36 5 y (acV (l++rnP (GL L n)))/\Bw w w':=by
 have U:x.n=L.length:=h.n;have c4:l.length=L.length:=by rw[<- h.e,nw]
 refine tIn [Fa.ac x l] func7 ⟨⟨h.r.fz,λp hp=>⟨h.d p hp,λ_ _ _=>rfl⟩⟩,trivial⟩ (tR 14 [] λc6 _ _=>DU 44 [(0,S3.v x),(1,iv n),(5,iv 100),(6,iv 0)] [] [] [Fa.ac x l] (λV D B f=>∃ (i m:Nat),V=L.length-i/\D=[(0,S3.v x),(1,iv n),(5,iv (m:Int)),(6,iv (i:Int))]/\B=[]/\f=[Fa.ac x l]/\i<=L.length/\m=Fq (L.take i)) (L.length) ⟨0,100,rfl,rfl,rfl,rfl,by omega,rfl⟩ (λF=>⟨F.1,trivial⟩) ?_);rintro k _ _ _ ⟨i,m,rfl,rfl,rfl,rfl,hi,g⟩ _ _ _ J o;refine tR 8 [] λc7 _ _=>?_;by_cases h1:i<L.length
 .refine tI ((decide ((i:Int)<(x.n:Int)))) true (M' (by omega)) ?_;have s:=Vb (L.take i);rw[<- g,X']at s
  obtain⟨a,S⟩:∃ a,L[i]?=some a:=⟨_,E' (by omega)⟩;refine tF λF _=>?_;obtain⟨b,W,yd,I,_,_,hin⟩:=(AcR.of F.1 h.e).spot S;refine tR 7 [] λc8 _ _=>tV 2 (pt b (W+5*i)) (λF C=>(aP (c:=x.c) I i hin)) (tR 1 [] λc9 _ _=>tV 4 (iv a.k) (λF C=>(D4 underlying3 rfl (mr (AcR.of F.1 h.e) I S))) (tR 1 [] λd0 _ _=>KV 44 (λD B f=>∃ (N:Nat),D=[(0,S3.v x),(1,iv n),(5,iv (N:Int)),(6,iv (i:Int))]/\B=[]/\f=[Fa.ac x l]/\N=(if hvy a then m+20 else m)) (λJ o=>?_) ?_))
  .refine tR 7 [] λd1 _ _=>?_;by_cases A:a.k=1
   .refine tI ((a.k==1)) true (by simpa using A) (tR 1 [] λd2 _ _=>tI ((a.k==1)) true (by simpa using A) (tR 2 [] λd3 _ _=>tV 1 (iv ((m:Int)+20)) (λF C=>(Mz (x:=(.tmp 25)) (y:=(.const (iv 20))) (m:Int) 20 underlying3 (by omega))) (tR 3 [] λd4 _ _=>tD o [] ⟨m+20,rfl,rfl,rfl,(if_pos (by simp[hvy,A])).symm⟩ (λF=>⟨F.1,trivial⟩))))
   .refine tI ((a.k==1)) false (by simpa using A) (tR 5 [] λa1 _ _=>?_);by_cases E:a.k=2
    .refine tI ((a.k==2)) true (by simpa using E) (tR 1 [] λa2 _ _=>tI ((a.k==2)) true (by simpa using E) (tR 2 [] λa3 _ _=>tV 1 (iv ((m:Int)+20)) (λF C=>(Mz (x:=(.tmp 25)) (y:=(.const (iv 20))) (m:Int) 20 underlying3 (by omega))) (tR 3 [] λa4 _ _=>tD o [] ⟨m+20,rfl,rfl,rfl,(if_pos (by simp[hvy,E])).symm⟩ (λF=>⟨F.1,trivial⟩))))
    .refine tI ((a.k==2)) false (by simpa using E) (tR 5 [] λa5 _ _=>?_);by_cases G:a.k=6
     .refine tI ((a.k==6)) true (by simpa using G) (tR 1 [] λa6 _ _=>tI ((a.k==6)) true (by simpa using G) (tR 2 [] λa7 _ _=>tV 1 (iv ((m:Int)+20)) (λF C=>(Mz (x:=(.tmp 25)) (y:=(.const (iv 20))) (m:Int) 20 underlying3 (by omega))) (tR 3 [] λa8 _ _=>tD o [] ⟨m+20,rfl,rfl,rfl,(if_pos (by simp[hvy,G])).symm⟩ (λF=>⟨F.1,trivial⟩))))
     .refine tI ((a.k==6)) false (by simpa using G) (tR 4 [] λa9 _ _=>?_);by_cases M:a.k=8
      .refine tI ((a.k==8)) true (by simpa using M) (tR 2 [] λb0 _ _=>tV 1 (iv ((m:Int)+20)) (λF C=>(Mz (x:=(.tmp 25)) (y:=(.const (iv 20))) (m:Int) 20 underlying3 (by omega))) (tR 3 [] λb1 _ _=>tD o [] ⟨m+20,rfl,rfl,rfl,(if_pos (by simp[hvy,M])).symm⟩ (λF=>⟨F.1,trivial⟩)))
      .refine tI ((a.k==8)) false (by simpa using M) (tR 2 [] λb2 _ _=>tD o [] ⟨m,rfl,rfl,rfl,(if_neg (by simp[hvy,A,E,G,M])).symm⟩ (λF=>⟨F.1,trivial⟩))
  rintro _ _ _ ⟨N,rfl,rfl,rfl,T⟩ _ _ _;refine tR 3 [] λb3 _ _=>tV 1 (iv ((i:Int)+1)) (λF C=>(AU 13 (i:Int) underlying3 (by omega))) (tR 2 [] λb4 _ _=>tB o (L.length-(i+1)) (by omega) [] ⟨i+1,N,rfl,rfl,rfl,rfl,by omega,(by rw[T,W8 S,<- g])⟩ (λF=>⟨F.1,trivial⟩))
 .refine tI ((decide ((i:Int)<(x.n:Int)))) false (D' (by omega)) ?_;rw[show L.take i=L from np (by omega)]at g
  have s:=Vb L;rw[<- g]at s
  refine tR 4 [] λb5 _ _=>gW 1 0 x (acV l) 23 23 36 5 56 zLa (λF=>F.1.1.rd) [Fa.dt l] (λF=>⟨F.1.2,trivial⟩) rfl (by simp[TQ]) (U0 l) (by rw[U];unfold maxLen;omega) (by omega) λZ _ _ n0=>tR 8 [] λb6 _ _=>DU 44 [(1,iv n),(5,iv (m:Int)),(7,S3.v Z),(8,iv 0)] [] [] [Fa.oa 0 Z (l++rnP [])] (λV D B f=>∃ (j:Nat) (y:S3) (Q:List Lac),V=2-j/\D=[(1,iv n),(5,iv (m:Int)),(7,S3.v y),(8,iv (j:Int))]/\B=[]/\f=[Fa.oa 0 y (l++rnP Q)]/\j<=2/\Q.length<=j*300000/\Q=(List.replicate j (Cy m n)).flatten) (2) ⟨0,Z,[],rfl,rfl,rfl,rfl,by omega,by simp,by simp⟩ (λF=>⟨by rw[show rnP []=[]from rfl,nA];exact⟨F.1,F.2.1⟩,trivial⟩) ?_;rintro k _ _ _ ⟨j,y,Q,rfl,rfl,rfl,rfl,hj,c3,hQ⟩ _ _ _ J o;refine tR 6 [] λb7 _ _=>?_;by_cases A:j<2
  .refine tI ((decide ((j:Int)<2))) true (M' (by omega)) (tR 6 [] λb8 _ _=>tG 1 [] 0 (λF C=>OI (many:=0) (AcR.oo F.1 rfl).r (AcR.oo F.1 rfl).d (by rw[H',Lp];omega)) λNz=>?_);rintro _ _ ⟨X,rfl,H,O⟩;have t:X.n=((l++rnP Q)++rnP (Dm 0)).length:=by have:=H.len;rw[Le]at this;omega
   simp only[H',Lp,GE]at t;refine⟨_,[Fa.oa 0 X ((l++rnP Q)++rnP (Dm 0))],_,_,_,_,rfl,O,H,λ_=>⟨λF R _=>⟨⟨R,Dat.app F.1.2 (PJ _ _ (aV _))⟩,trivial⟩,?_⟩⟩;refine tR 8 [0,0] λq _ _=>NU 4 0 (x:=X) 23 23 36 5 56 zLa ⟨(q 0),0,none⟩ 1 1 [iv 2,iv n,iv 0,iv 0,sn] (λF=>F.1.1) [Fa.dt ((l++rnP Q++rnP (Dm 0))++[(acN 2 n,s30)])] (λF=>⟨Dat.snoc F.1.2 (SS _ _),trivial⟩) rfl (by simp[TQ]) rfl (by simp[Value.oneCell']) (λF K=>Cz K 0 (q 0) [iv 2,iv n,iv 0,iv 0,sn] 36 .z true (by kernel_rfl)) (by unfold maxLen;omega) (by omega) λa0 _ _ c5=>tCv [Fa.oa 0 a0 (l++rnP (Q++Dm 0++[acN 2 n]))] (λF=>by rw[GD,Vo,<- mU l,<- mU l];exact⟨⟨(by rw[DG];exact F.1),F.2.1⟩,trivial⟩) (tR 5 [] λb9 _ _=>tG 2 [false] 0 (λF C=>OI (many:=m) (AcR.oo F.1 rfl).r (AcR.oo F.1 rfl).d (by rw[H',Lp,H',H',GE,n7];omega)) λNz=>?_);rintro _ _ ⟨Y,rfl,H,P⟩;have u:Y.n=((l++rnP (Q++Dm 0++[acN 2 n]))++rnP (Dm m)).length:=by have:=H.len;rw[Le]at this;omega
   simp only[H',Lp,GE,n7]at u;refine⟨_,[Fa.oa 0 Y ((l++rnP (Q++Dm 0++[acN 2 n]))++rnP (Dm m))],_,_,_,_,rfl,P,H,λ_=>⟨λF R _=>⟨⟨R,Dat.app F.1.2 (PJ _ _ (aV _))⟩,trivial⟩,?_⟩⟩;refine tR 5 [] λc0 _ _=>tV 1 (iv ((j:Int)+1)) (λF C=>(AU 31 (j:Int) underlying3 (by omega))) (tR 2 [] λc1 _ _=>?_);exact tB o (2-(j+1)) (by omega) [] ⟨j+1,Y,Q++Cy m n,rfl,rfl,rfl,rfl,by omega,(by rw[H',Zd];omega),(by rw[hQ];rcases(show j=0\/j=1 by omega)with rfl|rfl<;>simp)⟩ (λF=>by rw[show Q++Cy m n=Q++Dm 0++[acN 2 n]++Dm m by simp[Cy,List.append_assoc],Vo _ (Dm m),<- mU l];exact F)
  .refine tI ((decide ((j:Int)<2))) false (D' (by omega)) ?_;obtain rfl:j=2:=by omega
   refine tR 6 [] λc2 _ _=>?_;have hS:Q=GL L n:=by rw[hQ,g];simp[GL]
   rw[<- hS];exact tX λF C=>qE (S3.v y) λ_=>⟨y,rfl,F.1.1.own C,CgQ.af C⟩
theorem Ln(h:OutF g w ly tv ys M):OutW w M ly tv ys:=⟨h.sw.rd,λj a=>(h.log j a).rd.rc,h.ew.rd⟩
theorem j7(h:AcR w x L l)(n:∀ a∈L,LacOk a)(m:L.length<=100000)(b:XJ w)(j:Ap.dW L=M) :
  Calls prog 11 #[x.v] w λe w'=>∃ (ly tv:S3) (ys:Nat->S3),e=.returned (.tuple #[.agg (KQ M ly tv),iv 0])/\OutW w' M ly tv ys/\OutN w.heap.size M ly tv ys/\Bw w w':=by
 subst j;refine(fE (h.sk (by omega)) (λi c=>by rw[Px c];exact n _ (nM c)) m b.1 b.2.1 b.2.2).mono ?_;rw[XM];rintro e w' ⟨k,ly,tv,ys,d,f,g⟩;exact⟨ly,tv,ys,d,f,g,k⟩
theorem TY(h:AcR w x L l)(y:∀ a∈L,LacOk a)(t:L.length<=100000)(s:XJ w)(r:Ap.dW L=M) :
  Calls prog 5 #[x.v] w λe w'=>∃ (ly tv:S3) (ys:Nat->S3),e=.returned (.tuple #[.agg (KQ M ly tv),.bool true])/\OutW w' M ly tv ys/\OutN w.heap.size M ly tv ys/\Bw w w':=by
 refine tIn [] func5 trivial (tR 8 [1,0] λb _ _=>tF λ_ k=>?_);have d:=k.size;refine tC 1 (λF C=>j7 (h.af (CgQ.af C)) y t (tb5 s C) r) λo=>?_;rintro _ _ ⟨ly,tv,ys,rfl,j,i,p⟩;refine⟨_,Fa.ot ly tv ys M::_,rfl,p,λF=>⟨Lm j i o,F⟩,?_⟩;refine tR 14 [0,0,1,0,9,0,1,2,4,6,8] λf _ _=>KV 20 (λq m c=>∃ (_:Unit),q=[(2,pt (b 0) 0),(3,.bool ((ly.n:Int)==5))]/\m=[⟨(b 0),.cells (KQ M ly tv) 30,.l,false⟩,⟨(f 0),.cells (KQ M ly tv) 30,.z,false⟩]/\c=[Fa.ot ly tv ys M]) (λJ g=>?_) ?_
 .refine PR 5 9 ?_ ?_
  .refine tR 7 [1,12,14,16,19,0,0,20] λA _ _=>tD g [true,true] ⟨(),rfl,rfl,rfl⟩ (λF=>⟨F.1,trivial⟩)
  .refine tR 7 [0,0,11,1,12,14,16,20] λB _ _=>tD g [true,true] ⟨(),rfl,rfl,rfl⟩ (λF=>⟨F.1,trivial⟩)
 rintro _ _ _ ⟨_,rfl,rfl,rfl⟩ _ _ _;have u:(((ly.n:Nat):Int)==5)=true:=by rw[j.n5];rfl
 exact tX λF C=>qE2 2 3 30 0 (b 0) (KQ M ly tv) (.bool ((ly.n:Int)==5)) λ_=>⟨ly,tv,ys,by rw[u],Ln F.1,i.mono d,CgQ.af C⟩
def lgN(M:Meet):Nat->Option Nat
 | 0=>none
 | n+1=>if(((lgN M n).map M.log).getD []).length<(M.log n).length then some n else lgN M n
def lgY(ys:Nat->S3)(o:Option Nat):S3:=(o.map ys).getD s30
theorem Tp(h:lgN M n=some j):j<n:=by
 induction n with
 | zero=>cases h
 | succ n ih =>
  rw[lgN]at h
  split at h
  .cases h;omega
  .have:=ih h;omega
theorem Mg(h:OutF g w ly tv ys M)(a:n<=5):FzV g w (lgY ys (lgN M n)) 5 (cmL (((lgN M n).map M.log).getD [])):=by
 cases hh:lgN M n with
 | none=>exact⟨⟨rfl,A' _,λ_=>rfl,.inl rfl⟩,λe=>absurd rfl e⟩
 | some j=>exact h.log j (j' (Tp hh) a)
theorem gR(c:x.a=some ⟨b,off,none⟩)(j:Nat)(d:j<x.n):(Instr.indexAt 26 x.v (iv (j:Int))).run prog W=.ok (pt b (off+j)) W:=by
 obtain⟨f,h,g⟩:=x;simp only at c d;subst c;exact NL (P:=prog) (e:=38) (z:=1) underlying26 (by kernel_rfl) (by kernel_rfl) d _ (by rw[rP])
theorem UZ(h:RdV w ly 1 [S3.v (ys 0),S3.v (ys 1),S3.v (ys 2),S3.v (ys 3),S3.v (ys 4)])(c:ly.a=some ⟨b,off,none⟩)(d:j<5):w.cell? ⟨b,off+j,none⟩=some (S3.v (ys j)):=by
 rcases h.ex with h1|⟨b',off',h1,h2,h3⟩
 .have:=h.len;simp at this;omega
 .rw[c]at h1;cases h1
  refine h3 j _ ?_;rcases rU d with rfl|rfl|rfl|rfl|rfl<;>rfl
theorem eC(h:∀ j,j<5->M.log j=[])(a:n<=5):lgN M n=none:=by
 induction n with
 | zero=>rfl
 | succ n ih=>rw[lgN,ih (by omega),h n (by omega),if_neg (by simp)]
theorem Io(h:OutW w M ly tv ys) :
  Calls prog 8 #[.agg (KQ M ly tv)] w λe w'=>e=.returned (S3.v (lgY ys (lgN M 5)))/\Bw w w':=by
 have L:=h.n5;refine tIn [Fa.ot ly tv ys M] func8 ⟨⟨h.sw.fz,λj t=>(h.log j t).rv.fz,h.ew.fz⟩,trivial⟩ (tR 15 [0,0] λc _ _=>DU 27 [(1,pt (c 0) 0),(3,sn),(4,iv 0)] [true] [⟨(c 0),.cells #[iv (M.bt.length:Int),.bool (M.ab 0).up,.bool (M.ab 1).up,.bool (M.ab 2).up,.bool (M.ab 3).up,.bool (M.ab 4).up,S3.v ly,iv ((M.ab 0).bad:Int),iv ((M.ab 1).bad:Int),iv ((M.ab 2).bad:Int),iv ((M.ab 3).bad:Int),iv ((M.ab 4).bad:Int),S3.v tv] 30,.z,false⟩] [Fa.ot ly tv ys M] (λu q p f=>∃ (i:Nat),u=5-i/\q=[(1,pt (c 0) 0),(3,S3.v (lgY ys (lgN M i))),(4,iv (i:Int))]/\p=[⟨(c 0),.cells (KQ M ly tv) 30,.z,false⟩]/\f=[Fa.ot ly tv ys M]/\i<=5) (5) ⟨0,rfl,rfl,rfl,rfl,by omega⟩ (λF=>F) ?_);rintro k _ _ _ ⟨i,rfl,rfl,rfl,rfl,K⟩ _ _ _ J g;refine tR 9 [0] λx _ _=>?_;by_cases H:i<5
 .refine tI ((decide ((i:Int)<(ly.n:Int)))) true (M' (by omega)) (tF λF _=>?_);obtain⟨b,d,a,_⟩:=F.1.sw.rd.spot (i:=i) (by omega);have r:=VN (F.1.log i (by omega)).rd;have s:=VN (Mg F.1 (n:=i) (by omega)).rd;refine tR 8 [0] λy _ _=>tV 3 (pt b (d+i)) (λF C=>(gR a i (by omega))) (tV 4 (S3.v (ys i)) (λF C=>(D4 underlying38 rfl (UZ F.1.sw.rd a (by omega)))) (tR 5 [] λA _ _=>?_));by_cases I:(((lgN M i).map M.log).getD []).length<(M.log i).length
  .refine tI ((decide (((lgY ys (lgN M i)).n:Int)<((ys i).n:Int)))) true (M' (by omega)) (tR 4 [0] λD _ _=>tV 3 (pt b (d+i)) (λF C=>(gR a i (by omega))) (tV 4 (S3.v (ys i)) (λF C=>(D4 underlying38 rfl (UZ F.1.sw.rd a (by omega)))) (tR 5 [] λE _ _=>tV 1 (iv ((i:Int)+1)) (λF C=>(AU 10 (i:Int) underlying3 (by omega))) (tR 2 [] λG _ _=>tB g (5-(i+1)) (by omega) [true] ⟨i+1,rfl,(by rw[show lgN M (i+1)=some i from if_pos (by omega)]),rfl,rfl,by omega⟩ (λF=>F)))))
  .refine tI ((decide (((lgY ys (lgN M i)).n:Int)<((ys i).n:Int)))) false (D' (by omega)) (tR 4 [] λl _ _=>tV 1 (iv ((i:Int)+1)) (λF C=>(AU 10 (i:Int) underlying3 (by omega))) (tR 2 [] λm _ _=>tB g (5-(i+1)) (by omega) [true] ⟨i+1,rfl,(by rw[show lgN M (i+1)=lgN M i from if_neg (by omega)]),rfl,rfl,by omega⟩ (λF=>F)))
 .refine tI ((decide ((i:Int)<(ly.n:Int)))) false (D' (by omega)) (tR 6 [] λo _ _=>?_);obtain rfl:i=5:=by omega
  exact tE (S3.v (lgY ys (lgN M 5))) λ_ B=>⟨rfl,B⟩
def alk:List Cmd->List Cmd->Bool
 | c::a,d::b=>decide (c=d)&&alk a b
 | _,_=>true
theorem U7(a:List Cmd):alk a []=true:=by cases a<;>rfl
theorem U6{b:List Cmd}(h:¬ (i<a.length/\i<b.length)):alk (a.drop i) (b.drop i)=true:=by
 by_cases c:i<a.length
 .rw[show b.drop i=[]from nN (by omega),U7]
 .rw[show a.drop i=[]from nN (by omega)];rfl
theorem XT{b:List Cmd}{c d:Cmd}(g:a[i]?=some c)(h:b[i]?=some d):alk (a.drop i) (b.drop i)=(decide (c=d)&&alk (a.drop (i+1)) (b.drop (i+1))):=by
 obtain⟨e,rfl⟩:=V'.1 g;obtain⟨f,rfl⟩:=V'.1 h;rw[nO e,nO f,alk]
theorem m8(a b c d e f g h i j:Int):∀ w,(binOp .neq 49 (.agg #[.int .i64 a,.int .i64 b,.int .i64 c,.int .i64 d,.int .i64 e]) (.agg #[.int .i64 f,.int .i64 g,.int .i64 h,.int .i64 i,.int .i64 j])).run prog w=.ok (.bool (!decide (a=f/\b=g/\c=h/\d=i/\e=j))) w:=by
 intro w;rw[run_neq_struct,run_equalIn_agg w 9999 _ _ _ (by kernel_rfl) (by kernel_rfl)];unfold Program.fieldsOf;rw[underlying49];have k:=underlying3;simp[Op.eqFields,go_sem,k]
 repeat' split
 all_goals simp_all
theorem lF{x y:Operand}(a b:Cmd):(do Go.eqGuard .neq 49 x y (.agg #[iv a.k,iv a.c,iv a.s,iv a.n,iv a.v]) (.agg #[iv b.k,iv b.c,iv b.s,iv b.n,iv b.v]);Go.binOp .neq 49 (.agg #[iv a.k,iv a.c,iv a.s,iv a.n,iv a.v]) (.agg #[iv b.k,iv b.c,iv b.s,iv b.n,iv b.v]):Sem Value).run prog W=.ok (.bool (!decide (a=b))) W:=by
 have d:=m8 a.k a.c a.s a.n a.v b.k b.c b.s b.n b.v W;rw[Pk]at d
 have e:(Go.eqGuard .neq 49 x y (.agg #[iv a.k,iv a.c,iv a.s,iv a.n,iv a.v]) (.agg #[iv b.k,iv b.c,iv b.s,iv b.n,iv b.v])).run prog W=.ok () W:=by kernel_rfl
 rw[Sem.run_bind,e,Result.andThen_ok];exact d
theorem XS{y:S3}{b:List Cmd}(h:RdV w x 5 (cmL a))(k:RdV w y 5 (cmL b))(hb:a.length<1000000){r:Bool}(P:alk a b=r) :
  Calls prog 9 #[x.v,y.v] w λe w'=>e=.returned (.bool r)/\Bw w w':=by
 have hx:=VN h;have hy:=VN k;refine tIn [Fa.zv x 5 (cmL a),Fa.zv y 5 (cmL b)] func9 ⟨h.fz,k.fz,trivial⟩ (tR 10 [] λT _ _=>DU 27 [(0,S3.v x),(1,S3.v y),(5,iv 0)] [] [] [Fa.zv x 5 (cmL a),Fa.zv y 5 (cmL b)] (λQ A z f=>∃ (i:Nat),Q=a.length-i/\A=[(0,S3.v x),(1,S3.v y),(5,iv (i:Int))]/\z=[]/\f=[Fa.zv x 5 (cmL a),Fa.zv y 5 (cmL b)]/\i<=a.length/\alk (a.drop i) (b.drop i)=r) (a.length) ⟨0,rfl,rfl,rfl,rfl,by omega,P⟩ (λF=>F) ?_);rintro k _ _ _ ⟨i,rfl,rfl,rfl,rfl,hi,g⟩ _ _ _ J q;refine tR 6 [] λU _ _=>?_;by_cases Y:i<a.length
 .refine tV 3 (.bool true) (λF C=>(rLt (t:=3) (m:=(i:Int)) (n:=(x.n:Int)) (x:=(.tmp 6)) (y:=(.tmp 8)) (M' (by omega)))) (tR 7 [] λV _ _=>?_);by_cases Z:i<b.length
  .refine tI ((decide ((i:Int)<(y.n:Int)))) true (M' (by omega)) ?_;obtain⟨c,D⟩:∃ c,a[i]?=some c:=⟨_,E' (by omega)⟩;obtain⟨d,E⟩:∃ d,b[i]?=some d:=⟨_,E' (by omega)⟩;rw[XT D E]at g
   refine tF λF _=>?_;obtain⟨bx,R,l⟩:=F.1.rd.rc.addr (k:=i) (by omega);obtain⟨tj,S,o⟩:=F.2.1.rd.rc.addr (k:=i) (by omega);refine tR 7 [9,0,2] λW _ _=>tT 2 (pt bx (R+5*i)) (λ_=>(MA l i (by omega))) (tR 2 [8,10] λX _ _=>tT 6 (pt tj (S+5*i)) (λ_=>(MA o i (by omega))) (KV 27 (λA z f=>∃ (_:Unit),A=[(0,S3.v x),(1,S3.v y),(5,iv (i:Int)),(26,.bool (!decide (c=d)))]/\z=[]/\f=[Fa.zv x 5 (cmL a),Fa.zv y 5 (cmL b)]) (λJ q=>?_) ?_))
   .refine PR 3 7 ?_ ?_
    .refine tV 3 (.agg #[iv c.k,iv c.c,iv c.s,iv c.n,iv c.v]) (λF C=>(PF c λG u j=>F.1.rd.rc.cellAt l D j)) (tV 7 (.agg #[iv d.k,iv d.c,iv d.s,iv d.n,iv d.v]) (λF C=>(PF d λG u j=>F.2.1.rd.rc.cellAt o E j)) (tT 8 (.bool (!decide (c=d))) (λ_=>(lF (x:=(.tmp 21)) (y:=(.tmp 25)) c d)) (tR 1 [] λH _ _=>tD q [] ⟨(),rfl,rfl,rfl⟩ (λF=>F))))
    .refine tV 7 (.agg #[iv d.k,iv d.c,iv d.s,iv d.n,iv d.v]) (λF C=>(PF d λG u j=>F.2.1.rd.rc.cellAt o E j)) (tV 3 (.agg #[iv c.k,iv c.c,iv c.s,iv c.n,iv c.v]) (λF C=>(PF c λG u j=>F.1.rd.rc.cellAt l D j)) (tT 8 (.bool (!decide (c=d))) (λ_=>(lF (x:=(.tmp 21)) (y:=(.tmp 25)) c d)) (tR 1 [] λI _ _=>tD q [] ⟨(),rfl,rfl,rfl⟩ (λF=>F))))
   rintro _ _ _ ⟨_,rfl,rfl,rfl⟩ _ _ _;by_cases p:¬ c=d
   .refine tI ((!decide (c=d))) true (by simpa using p) (tR 4 [] λK _ _=>?_);rw[D' p]at g
    subst g;exact tE (.bool false) λ_ B=>⟨rfl,B⟩
   .refine tI ((!decide (c=d))) false (by simpa using p) ?_;rw[M' (mX.1 p),Bool.true_and]at g
    refine tR 4 [] λL _ _=>tV 1 (iv ((i:Int)+1)) (λF C=>(AU 16 (i:Int) underlying3 (by omega))) (tR 2 [] λM _ _=>tB q (a.length-(i+1)) (by omega) [] ⟨i+1,rfl,rfl,rfl,rfl,by omega,g⟩ (λF=>F))
  .refine tI ((decide ((i:Int)<(y.n:Int)))) false (D' (by omega)) (tR 5 [] λN _ _=>?_);rw[U6 (by omega)]at g
   subst g;exact tE (.bool true) λ_ B=>⟨rfl,B⟩
 .refine tV 3 (.bool false) (λF C=>(rLt (t:=3) (m:=(i:Int)) (n:=(x.n:Int)) (x:=(.tmp 6)) (y:=(.tmp 8)) (D' (by omega)))) (tR 13 [] λO _ _=>?_);rw[U6 (by omega)]at g
  subst g;exact tE (.bool true) λ_ B=>⟨rfl,B⟩
end
end Go.Proofs.YtogibonjmbhliabGreatDoor
