/- Part 17 of the walk. -/
import Derived.Test.YtalbmmghmoggcaaGreatDoorZ16
set_option maxRecDepth 100000
set_option maxHeartbeats 4000000
open Go.Proofs.Tryz
set_option linter.unusedVariables false
namespace Go.Proofs.YtalbmmghmoggcaaGreatDoor
open Go.RowKit
theorem OA(p:Nod)(b:Bal):(p.promise b).1.agreed=p.agreed:=by
 unfold Nod.promise;repeat' split
 all_goals rfl
theorem VD{g:Gh}{w:World}{i nb ob:Nat}{p:Nod}{ls:List Let}{ts:List Tol}(h:NS i nb ob g w p ls ts){w0:World}(hB:Base w0 g w)(hT:Tabs w0)(hb:p.pend.length<100000000)(hr:p.rounds<1000000000000)(hr2:-1000000000000<p.rounds)(hv:p.vo.p.r<1000000000000) :
  Calls prog 25 #[pt nb 0] w (NP i nb ob g w (.tuple #[]) (if p.up then p.lead i else p) ls ts):=by
 obtain⟨x,lt,tl,hN,hO,hg⟩:=h;refine gI (fn:=f25) (TN i) g func25 hg ?_;refine qN hN ?_;refine qO hO ?_;refine qR [] 13 [0,0,2,0] fun s1 g1 w1 c1=>?_;by_cases h1:p.up=true
 .refine qI ((!p.up)) false (by simpa using h1) ?_;rw[if_pos h1];refine qR [] 15 [21,0,2,2,4,6,8,0,10,2,12,14,16,18,20,22,0] fun s2 g2 w2 c2=>?_;refine qT 12 (iv (max p.rounds p.vo.p.r)) (fun _=>(eo #[3,3] 3 p.rounds p.vo.p.r)) ?_;refine qT 13 (iv ((max p.rounds p.vo.p.r)+1)) (fun _=>(AN (x:=(.tmp 23)) (y:=(.const (iv 1))) (max p.rounds p.vo.p.r) 1 underlying3 (by omega))) ?_;refine qR [] 12 [28,2,30,32,34,0,36,39,0,0,41,3,0,2,3] fun s4 g4 w4 c4=>?_;refine Ae fun K=>?_;have N5:NS i nb ob g4 w4 p ls ts:=(nsC hN hO ((c1.n c2).n c4) K);refine qG 2 (TN i) [false,false,true,true] (E2 N5 (hB.ch (((c1.nil (TN i)).n c2).n c4) (AV i)) hT (⟨(max p.rounds p.vo.p.r)+1,(i:Int)⟩:Bal)) ?_;rintro e' w5 ⟨y5,g5,rfl,hy5,M5,c5⟩;refine⟨_,g5,rfl,c5,M5.new,?_⟩;replace c5:=c5.ret (B:=w.heap.size);obtain⟨x5,lt5,tl5,hN5,hO5,hg5⟩:=M5;refine qN hN5 ?_;refine qO hO5 ?_;refine qR [] 13 [0,0,4,0] fun s7 g7 w7 c7=>?_;by_cases h2:(p.promise (⟨(max p.rounds p.vo.p.r)+1,(i:Int)⟩:Bal)).2.2≠0
  .refine qI (((p.promise (⟨(max p.rounds p.vo.p.r)+1,(i:Int)⟩:Bal)).2.2 != 0)) true (by simpa using h2) ?_;refine qE (.tuple #[]) fun K=>?_;rw[show p.lead i=(p.promise (⟨(max p.rounds p.vo.p.r)+1,(i:Int)⟩:Bal)).1 from by rw[Kv h2];exact if_pos h2];exact⟨_,rfl,(nsC hN5 hO5 c7 K),(((((c1.nil (TN i)).n c2).n c4).trans (c5)).n c7)⟩
  .refine qI (((p.promise (⟨(max p.rounds p.vo.p.r)+1,(i:Int)⟩:Bal)).2.2 != 0)) false (by simpa using h2) ?_;refine qR [.n 0 i] 17 [0,1,2,1] fun s10 g10 w10 c10=>?_;refine ZJ 5 64 [(1,pt (s1 0) 0),(2,pt (s4 0) 0),(3,pt (s7 0) 0),(44,iv 0)] [true,true,true,true,true] [⟨(s1 0),.cells #[pt nb 0] 69,.z,false⟩,⟨(s4 0),.cells #[iv ((max p.rounds p.vo.p.r)+1),iv (i:Int)] 74,.z,false⟩,⟨nb,.cells (Ax i ob ({ (p.promise (⟨(max p.rounds p.vo.p.r)+1,(i:Int)⟩:Bal)).1 with rnd:=⟨(⟨(max p.rounds p.vo.p.r)+1,(i:Int)⟩:Bal),fun _=>false,fun _=>DY,fun k=>if k<0 then x5.agreed.n else 0,0,[]⟩ }) ({ x5 with hv:=fun _=>s30,queue:=s30 })) 96,.n 0 i,false⟩,⟨ob,.cells #[S3.v lt5,S3.v tl5] 66,.n 50 0,false⟩,⟨(s7 0),.cells #[S3.v y5] 75,.z,false⟩] (by kernel_rfl) (by kernel_rfl) (by kernel_rfl) (by kernel_rfl) fun J11 hJ11 z=>?_;refine qR [.n 0 i] 35 [13,0,0,2,4,0,6,8,10,12,2,14,16,18,20,22,24,27,2,1] fun s12 g12 w12 c12=>?_;refine DA (J11 5) 64 [(1,pt (s1 0) 0),(2,pt (s4 0) 0),(3,pt (s7 0) 0),(44,iv 1)] [true,true,true,true,true] [⟨(s1 0),.cells #[pt nb 0] 69,.z,false⟩,⟨(s4 0),.cells #[iv ((max p.rounds p.vo.p.r)+1),iv (i:Int)] 74,.z,false⟩,⟨nb,.cells (Ax i ob ({ (p.promise (⟨(max p.rounds p.vo.p.r)+1,(i:Int)⟩:Bal)).1 with rnd:=⟨(⟨(max p.rounds p.vo.p.r)+1,(i:Int)⟩:Bal),fun _=>false,fun _=>DY,fun k=>if k<1 then x5.agreed.n else 0,0,[]⟩ }) ({ x5 with hv:=fun _=>s30,queue:=s30 })) 96,.n 0 i,false⟩,⟨ob,.cells #[S3.v lt5,S3.v tl5] 66,.n 50 0,false⟩,⟨(s7 0),.cells #[S3.v y5] 75,.z,false⟩] (by kernel_rfl) (by kernel_rfl) (by kernel_rfl) (by kernel_rfl) (by kernel_rfl) fun z K0 K=>hJ11 4 _ _ _ _ _ ?_ K;refine qR [.n 0 i] 35 [13,0,0,2,4,0,6,8,10,12,2,14,16,18,20,22,24,27,2,1] fun s13 g13 w13 c13=>?_;refine DA (J11 4) 64 [(1,pt (s1 0) 0),(2,pt (s4 0) 0),(3,pt (s7 0) 0),(44,iv 2)] [true,true,true,true,true] [⟨(s1 0),.cells #[pt nb 0] 69,.z,false⟩,⟨(s4 0),.cells #[iv ((max p.rounds p.vo.p.r)+1),iv (i:Int)] 74,.z,false⟩,⟨nb,.cells (Ax i ob ({ (p.promise (⟨(max p.rounds p.vo.p.r)+1,(i:Int)⟩:Bal)).1 with rnd:=⟨(⟨(max p.rounds p.vo.p.r)+1,(i:Int)⟩:Bal),fun _=>false,fun _=>DY,fun k=>if k<2 then x5.agreed.n else 0,0,[]⟩ }) ({ x5 with hv:=fun _=>s30,queue:=s30 })) 96,.n 0 i,false⟩,⟨ob,.cells #[S3.v lt5,S3.v tl5] 66,.n 50 0,false⟩,⟨(s7 0),.cells #[S3.v y5] 75,.z,false⟩] (by kernel_rfl) (by kernel_rfl) (by kernel_rfl) (by kernel_rfl) (by kernel_rfl) fun z K0 K=>hJ11 3 _ _ _ _ _ ?_ K;refine qR [.n 0 i] 35 [13,0,0,2,4,0,6,8,10,12,2,14,16,18,20,22,24,27,2,1] fun s14 g14 w14 c14=>?_;refine DA (J11 3) 64 [(1,pt (s1 0) 0),(2,pt (s4 0) 0),(3,pt (s7 0) 0),(44,iv 3)] [true,true,true,true,true] [⟨(s1 0),.cells #[pt nb 0] 69,.z,false⟩,⟨(s4 0),.cells #[iv ((max p.rounds p.vo.p.r)+1),iv (i:Int)] 74,.z,false⟩,⟨nb,.cells (Ax i ob ({ (p.promise (⟨(max p.rounds p.vo.p.r)+1,(i:Int)⟩:Bal)).1 with rnd:=⟨(⟨(max p.rounds p.vo.p.r)+1,(i:Int)⟩:Bal),fun _=>false,fun _=>DY,fun k=>if k<3 then x5.agreed.n else 0,0,[]⟩ }) ({ x5 with hv:=fun _=>s30,queue:=s30 })) 96,.n 0 i,false⟩,⟨ob,.cells #[S3.v lt5,S3.v tl5] 66,.n 50 0,false⟩,⟨(s7 0),.cells #[S3.v y5] 75,.z,false⟩] (by kernel_rfl) (by kernel_rfl) (by kernel_rfl) (by kernel_rfl) (by kernel_rfl) fun z K0 K=>hJ11 2 _ _ _ _ _ ?_ K;refine qR [.n 0 i] 35 [13,0,0,2,4,0,6,8,10,12,2,14,16,18,20,22,24,27,2,1] fun s15 g15 w15 c15=>?_;refine DA (J11 2) 64 [(1,pt (s1 0) 0),(2,pt (s4 0) 0),(3,pt (s7 0) 0),(44,iv 4)] [true,true,true,true,true] [⟨(s1 0),.cells #[pt nb 0] 69,.z,false⟩,⟨(s4 0),.cells #[iv ((max p.rounds p.vo.p.r)+1),iv (i:Int)] 74,.z,false⟩,⟨nb,.cells (Ax i ob ({ (p.promise (⟨(max p.rounds p.vo.p.r)+1,(i:Int)⟩:Bal)).1 with rnd:=⟨(⟨(max p.rounds p.vo.p.r)+1,(i:Int)⟩:Bal),fun _=>false,fun _=>DY,fun k=>if k<4 then x5.agreed.n else 0,0,[]⟩ }) ({ x5 with hv:=fun _=>s30,queue:=s30 })) 96,.n 0 i,false⟩,⟨ob,.cells #[S3.v lt5,S3.v tl5] 66,.n 50 0,false⟩,⟨(s7 0),.cells #[S3.v y5] 75,.z,false⟩] (by kernel_rfl) (by kernel_rfl) (by kernel_rfl) (by kernel_rfl) (by kernel_rfl) fun z K0 K=>hJ11 1 _ _ _ _ _ ?_ K;refine qR [.n 0 i] 35 [13,0,0,2,4,0,6,8,10,12,2,14,16,18,20,22,24,27,2,1] fun s16 g16 w16 c16=>?_;refine DA (J11 1) 64 [(1,pt (s1 0) 0),(2,pt (s4 0) 0),(3,pt (s7 0) 0),(44,iv 5)] [true,true,true,true,true] [⟨(s1 0),.cells #[pt nb 0] 69,.z,false⟩,⟨(s4 0),.cells #[iv ((max p.rounds p.vo.p.r)+1),iv (i:Int)] 74,.z,false⟩,⟨nb,.cells (Ax i ob ({ (p.promise (⟨(max p.rounds p.vo.p.r)+1,(i:Int)⟩:Bal)).1 with rnd:=⟨(⟨(max p.rounds p.vo.p.r)+1,(i:Int)⟩:Bal),fun _=>false,fun _=>DY,fun k=>if k<5 then x5.agreed.n else 0,0,[]⟩ }) ({ x5 with hv:=fun _=>s30,queue:=s30 })) 96,.n 0 i,false⟩,⟨ob,.cells #[S3.v lt5,S3.v tl5] 66,.n 50 0,false⟩,⟨(s7 0),.cells #[S3.v y5] 75,.z,false⟩] (by kernel_rfl) (by kernel_rfl) (by kernel_rfl) (by kernel_rfl) (by kernel_rfl) fun z K0 K=>hJ11 0 _ _ _ _ _ ?_ K;refine qR [] 10 [0] fun s17 g17 w17 c17=>?_;have hn:x5.agreed.n=p.agreed.length:=by have:=hN5.agreed.num;rw[OA]at this;exact this
   rw[show p.lead i=Nod.wait { (p.promise (⟨(max p.rounds p.vo.p.r)+1,(i:Int)⟩:Bal)).1 with rnd:=⟨(⟨(max p.rounds p.vo.p.r)+1,(i:Int)⟩:Bal),fun _=>false,fun _=>DY,fun _=>x5.agreed.n,0,[]⟩ } (.began (⟨(max p.rounds p.vo.p.r)+1,(i:Int)⟩:Bal) (p.promise (⟨(max p.rounds p.vo.p.r)+1,(i:Int)⟩:Bal)).2.1)from by rw[hn];exact if_neg h2];refine Ae fun K=>?_;obtain⟨z1,z2⟩:=K.isZ 0 (s1 0) (.cells #[pt nb 0] 69) false (by kernel_rfl);obtain⟨z3,z4⟩:=K.isZ 1 (s4 0) (.cells #[iv (⟨(max p.rounds p.vo.p.r)+1,(i:Int)⟩:Bal).r,iv (⟨(max p.rounds p.vo.p.r)+1,(i:Int)⟩:Bal).n] 74) false (by kernel_rfl);obtain⟨z5,z6⟩:=K.isZ 4 (s7 0) (.cells #[S3.v y5] 75) false (by kernel_rfl);have C19:=(((((((c7.nil ([.n 0 i]:List Tg)).trans (c10)).trans (c12)).trans (c13)).trans (c14)).trans (c15)).trans (c16)).n c17;have Z19:Tg.z∉([.n 0 i]:List Tg):=by simp
   have N18:NS i nb ob g17 w17 ({ (p.promise (⟨(max p.rounds p.vo.p.r)+1,(i:Int)⟩:Bal)).1 with rnd:=⟨(⟨(max p.rounds p.vo.p.r)+1,(i:Int)⟩:Bal),fun _=>false,fun _=>DY,fun _=>x5.agreed.n,0,[]⟩ }) ls ts:=⟨{ x5 with hv:=fun _=>s30,queue:=s30 },lt5,tl5,K.nd 2 (hN5.tape.ch C19 Z19) (hN5.votes.ch C19 Z19) (fun _ _=>⟨Sv.nil _,fun h=>absurd rfl h⟩) (B0 hN5.pend C19 Z19 (by simp)) (OwnS.nil _ _ _ _ _ _) (hN5.agreed.ch C19) (hN5.wants.ch C19) (hN5.asked.ch C19) hN5.upm,hO5.ch C19 Z19 (by simp<;>omega),K.new⟩;refine qS0 2 [true,true,false,false,true] (AG N18 (by show(p.promise (⟨(max p.rounds p.vo.p.r)+1,(i:Int)⟩:Bal)).1.pend.length<_;rw[GZ];exact hb) _ _ (.began (⟨(max p.rounds p.vo.p.r)+1,(i:Int)⟩:Bal) (p.promise (⟨(max p.rounds p.vo.p.r)+1,(i:Int)⟩:Bal)).2.1) ⟨(s1 0),(s4 0),(s7 0),y5,rfl,⟨z1,z2⟩,⟨z3,z4⟩,⟨z5,z6⟩,((((((((hy5.ch c7).ch c10).ch c12).ch c13).ch c14).ch c15).ch c16).ch c17)⟩) fun g18 w18 x18 lt18 tl18 hN18 hO18 c18=>?_;refine qR [] 1 [] fun s20 g20 w20 c20=>?_;exact qF hN18 hO18 c20 ((((((((((((((c1.nil (TN i)).n c2).n c4).trans (c5)).n c7).trans (c10.mono (by simp[TN]))).trans (c12.mono (by simp[TN]))).trans (c13.mono (by simp[TN]))).trans (c14.mono (by simp[TN]))).trans (c15.mono (by simp[TN]))).trans (c16.mono (by simp[TN]))).n c17).trans (c18)).n c20)
 .refine qI ((!p.up)) true (by simpa using h1) ?_;refine qE (.tuple #[]) fun K=>?_;rw[if_neg h1];exact⟨_,rfl,(nsC hN hO c1 K),(c1.nil (TN i))⟩
theorem fw{k:Int}(h:1<=k/\k<=9):k=1\/k=2\/k=3\/k=4\/k=5\/k=6\/k=7\/k=8\/k=9:=by omega
theorem aT{g:Gh}{w:World}{mb tb ob:Nat}{nb:Nat->Nat}{M:Meet}(h:MS mb tb ob nb g w M){w0:World}(hB:Base w0 g w)(hT:Tabs w0)(x:Lac)(dv:S3)(hd:Sl w dv.v x.d)(hx:LacOk x){n:Nat}(hm:MOk n M)(hn:n<=1000000) :
  Calls prog 14 #[pt mb 0,.agg #[iv x.k,iv x.n,iv x.a,iv x.p,dv.v]] w (MP mb tb ob nb g w (.tuple #[]) (M.act x)):=by
 obtain⟨j,hjn,hj⟩:∃ j:Nat,x.n=(j:Int)/\j<5:=by
  cases hu:Fw x.k with
  | true=>have:=hx.n hu;exact⟨x.n.toNat,by omega,by omega⟩
  | false=>have:=hx.n0 hu;exact⟨0,by omega,by omega⟩
 obtain⟨at_,hat,hatl⟩:∃ at_:Nat,x.a=(at_:Int)/\at_<=1048576:=by
  cases hu:G4 x.k with
  | true=>have:=hx.a hu;exact⟨x.a.toNat,by omega,by omega⟩
  | false=>have:=hx.a0 hu;exact⟨0,by omega,by omega⟩
 have hpp:0<=x.p/\x.p<=100000:=by
  cases hu:G7 x.k with
  | true=>exact hx.p hu
  | false=>have:=hx.p0 hu;omega
 have hk9:=hx.k;obtain⟨k,xn,xa,p,d⟩:=x;simp only at hjn hat hpp hk9 hd ⊢;subst hjn hat;clear hx;have hp:=hm.node j hj;have hwt:=hm.wt;have htl:=hm.told;have hpl:=Dj (M.node j).pend;have hpw:=OE M hj;have hww:=eV M hj;have hbd:=hm.bad j hj;refine gI (fn:=f14) TM g func14 h.new ?_;refine BF ⟨mb,_,.z,false⟩ (fun _=>⟨h.box.r,h.box.z,fun h=>(by cases h),fun h=>absurd rfl h⟩) (by kernel_rfl) ?_;refine qR [] 11 [0,0,8,0,2,4,1,6,8] fun σ1 g1 w1 c1=>?_;refine NW 5 (pt mb j) false (fun W hW=>(by rcases five hj with rfl|rfl|rfl|rfl|rfl<;>kernel_rfl)) (by kernel_rfl) ?_;refine qU 6 (pt (nb j) 0) (fun W hW=>(CV underlying69 rfl (RE (AJ.at (hW rfl) 0 mb (.cells (mtA nb ob tb) 72) .z (by kernel_rfl)) hj))) ?_;refine qR [] 13 [14,1] fun σ3 g3 w3 c3=>?_;rcases fw hk9 with rfl|rfl|rfl|rfl|rfl|rfl|rfl|rfl|rfl
 .refine qR [] 5 [1] fun σ4 g4 w4 c4=>?_;rw[show M.act ⟨1,(j:Int),(at_:Int),p,d⟩=(M.set j ((M.node j).subm j d M.told).1 M.lets ((M.node j).subm j d M.told).2)from rfl];refine Ae fun K=>?_;have N5:MS mb tb ob nb g4 w4 M:=(h.ch0 ((c1.trans c3).trans c4) K.new);refine qG 3 TM [true,true] ((N5).call hj (TC ((N5).ns hj) (hB.ch (((c1.nil TM).n c3).n c4) Ep) hT dv d (hd.below (Cg.below ((c1.trans c3).trans c4) (fun _ _=>List.not_mem_nil))) hp (by omega) (by omega) (by omega) rfl rfl)) ?_;rintro e' w5 ⟨g5,rfl,M5,c5⟩;refine⟨_,g5,rfl,c5,M5.new,?_⟩;replace c5:=c5.ret (B:=w.heap.size);refine qR [] 2 [] fun σ6 g6 w6 c6=>?_;refine qE (.tuple #[]) fun K=>?_;exact⟨_,rfl,(M5.ch0 c6 K.new),(((((c1.nil TM).n c3).n c4).trans (c5)).n c6)⟩
 .refine qR [] 9 [] fun σ7 g7 w7 c7=>?_;rw[show M.act ⟨2,(j:Int),(at_:Int),p,d⟩=(M.set j (if(M.node j).up then(M.node j).lead j else(M.node j)) M.lets M.told)from rfl];refine Ae fun K=>?_;have N8:MS mb tb ob nb g7 w7 M:=(h.ch0 ((c1.trans c3).trans c7) K.new);refine qG 1 TM [true,true] ((N8).call hj (VD ((N8).ns hj) (hB.ch (((c1.nil TM).n c3).n c7) Ep) hT (by omega) (by have:=hp.ro;omega) (by have:=hp.ro;omega) (by have:=hp.vp.rng;omega))) ?_;rintro e' w8 ⟨g8,rfl,M8,c8⟩;refine⟨_,g8,rfl,c8,M8.new,?_⟩;replace c8:=c8.ret (B:=w.heap.size);refine qR [] 2 [] fun σ9 g9 w9 c9=>?_;refine qE (.tuple #[]) fun K=>?_;exact⟨_,rfl,(M8.ch0 c9 K.new),(((((c1.nil TM).n c3).n c7).trans (c8)).n c9)⟩
 .refine qR [] 15 [] fun σ10 g10 w10 c10=>?_;rw[show M.act ⟨3,(j:Int),(at_:Int),p,d⟩=(M.set j (if(M.node j).up then((M.node j).piece j M.lets M.told).1 else(M.node j)) (if(M.node j).up then((M.node j).piece j M.lets M.told).2.1 else M.lets) (if(M.node j).up then((M.node j).piece j M.lets M.told).2.2 else M.told))from rfl];refine Ae fun K=>?_;have N11:MS mb tb ob nb g10 w10 M:=(h.ch0 ((c1.trans c3).trans c10) K.new);refine qG 1 TM [true,true] ((N11).call hj (Wg ((N11).ns hj) (hB.ch (((c1.nil TM).n c3).n c10) Ep) hT hj hp (by omega) hm.lets (by omega))) ?_;rintro e' w11 ⟨g11,rfl,M11,c11⟩;refine⟨_,g11,rfl,c11,M11.new,?_⟩;replace c11:=c11.ret (B:=w.heap.size);refine qR [] 2 [] fun σ12 g12 w12 c12=>?_;refine qE (.tuple #[]) fun K=>?_;exact⟨_,rfl,(M11.ch0 c12 K.new),(((((c1.nil TM).n c3).n c10).trans (c11)).n c12)⟩
 .refine qR [] 28 [1,1] fun σ13 g13 w13 c13=>?_;rw[show M.act ⟨4,(j:Int),(at_:Int),p,d⟩=(M.move 4 at_)from rfl];refine Ae fun K=>?_;have N14:MS mb tb ob nb g13 w13 M:=(h.ch0 ((c1.trans c3).trans c13) K.new);refine qG 5 TM [true,true] (Ki N14 (hB.ch (((c1.nil TM).n c3).n c13) Ep) hT 4 at_ hatl hm hn) ?_;rintro e' w14 ⟨g14,rfl,M14,c14⟩;refine⟨_,g14,rfl,c14,M14.new,?_⟩;replace c14:=c14.ret (B:=w.heap.size);refine qR [] 2 [] fun σ15 g15 w15 c15=>?_;refine qE (.tuple #[]) fun K=>?_;exact⟨_,rfl,(M14.ch0 c15 K.new),(((((c1.nil TM).n c3).n c13).trans (c14)).n c15)⟩
 .refine qR [] 34 [1,1] fun σ16 g16 w16 c16=>?_;rw[show M.act ⟨5,(j:Int),(at_:Int),p,d⟩=(M.move 5 at_)from rfl];refine Ae fun K=>?_;have N17:MS mb tb ob nb g16 w16 M:=(h.ch0 ((c1.trans c3).trans c16) K.new);refine qG 5 TM [true,true] (Ki N17 (hB.ch (((c1.nil TM).n c3).n c16) Ep) hT 5 at_ hatl hm hn) ?_;rintro e' w17 ⟨g17,rfl,M17,c17⟩;refine⟨_,g17,rfl,c17,M17.new,?_⟩;replace c17:=c17.ret (B:=w.heap.size);refine qR [] 2 [] fun σ18 g18 w18 c18=>?_;refine qE (.tuple #[]) fun K=>?_;exact⟨_,rfl,(M17.ch0 c18 K.new),(((((c1.nil TM).n c3).n c16).trans (c17)).n c18)⟩
 .refine qR [] 37 [1,1] fun σ19 g19 w19 c19=>?_;rw[show M.act ⟨6,(j:Int),(at_:Int),p,d⟩=(M.move 6 at_)from rfl];refine Ae fun K=>?_;have N20:MS mb tb ob nb g19 w19 M:=(h.ch0 ((c1.trans c3).trans c19) K.new);refine qG 5 TM [true,true] (Ki N20 (hB.ch (((c1.nil TM).n c3).n c19) Ep) hT 6 at_ hatl hm hn) ?_;rintro e' w20 ⟨g20,rfl,M20,c20⟩;refine⟨_,g20,rfl,c20,M20.new,?_⟩;replace c20:=c20.ret (B:=w.heap.size);refine qR [] 2 [] fun σ21 g21 w21 c21=>?_;refine qE (.tuple #[]) fun K=>?_;exact⟨_,rfl,(M20.ch0 c21 K.new),(((((c1.nil TM).n c3).n c19).trans (c20)).n c21)⟩
 .refine qR [] 39 [] fun σ22 g22 w22 c22=>?_;rw[show M.act ⟨7,(j:Int),(at_:Int),p,d⟩=M.comeAll from rfl];refine Ae fun K=>?_;have N23:MS mb tb ob nb g22 w22 M:=(h.ch0 ((c1.trans c3).trans c22) K.new);refine qG 1 TM [true,true] (NE N23 (hB.ch (((c1.nil TM).n c3).n c22) Ep) hT hm hn) ?_;rintro e' w23 ⟨g23,rfl,M23,c23⟩;refine⟨_,g23,rfl,c23,M23.new,?_⟩;replace c23:=c23.ret (B:=w.heap.size);refine qR [] 2 [] fun σ24 g24 w24 c24=>?_;refine qE (.tuple #[]) fun K=>?_;exact⟨_,rfl,(M23.ch0 c24 K.new),(((((c1.nil TM).n c3).n c22).trans (c23)).n c24)⟩
 .refine qR [] 47 [1] fun σ25 g25 w25 c25=>?_;rw[show M.act ⟨8,(j:Int),(at_:Int),p,d⟩=(M.set j (if(M.node j).up then(M.node j).crash p else(M.node j)) M.lets M.told)from rfl];refine Ae fun K=>?_;have N26:MS mb tb ob nb g25 w25 M:=(h.ch0 ((c1.trans c3).trans c25) K.new);refine qG 3 TM [true,true] ((N26).call hj (UJ ((N26).ns hj) p (by omega) (by omega))) ?_;rintro e' w26 ⟨g26,rfl,M26,c26⟩;refine⟨_,g26,rfl,c26,M26.new,?_⟩;replace c26:=c26.ret (B:=w.heap.size);refine qR [] 2 [] fun σ27 g27 w27 c27=>?_;refine qE (.tuple #[]) fun K=>?_;exact⟨_,rfl,(M26.ch0 c27 K.new),(((((c1.nil TM).n c3).n c25).trans (c26)).n c27)⟩
 .refine qR [] 51 [] fun σ28 g28 w28 c28=>?_;rw[show M.act ⟨9,(j:Int),(at_:Int),p,d⟩=(M.set j (if(M.node j).up then(M.node j)else(M.node j).start) M.lets M.told)from rfl];refine Ae fun K=>?_;have N29:MS mb tb ob nb g28 w28 M:=(h.ch0 ((c1.trans c3).trans c28) K.new);refine qG 1 TM [true,true] ((N29).call hj (WL ((N29).ns hj) (hB.ch (((c1.nil TM).n c3).n c28) Ep) hT)) ?_;rintro e' w29 ⟨g29,rfl,M29,c29⟩;refine⟨_,g29,rfl,c29,M29.new,?_⟩;replace c29:=c29.ret (B:=w.heap.size);refine qR [] 2 [] fun σ30 g30 w30 c30=>?_;refine qE (.tuple #[]) fun K=>?_;exact⟨_,rfl,(M29.ch0 c30 K.new),(((((c1.nil TM).n c3).n c28).trans (c29)).n c30)⟩
theorem ZM{g':Gh}{w w':World}{kp:Bool}{e:TypeId}{sz:Nat}{y:S3}{xs:List Value}(h:OwnS g' w' (.n 60 0) kp e sz y xs)(c:Cg w.heap.size [.n 60 0] gz w g' w'):∀ a,y.a=some a->w.heap.size<=a.block:=by
 intro a ha;rcases h.ex with⟨h1,_⟩|⟨b,_,h1,_,_,_,_,_,h7,_⟩
 .rw[h1]at ha;cases ha
 .rw[h1]at ha
  simp only[Option.some.injEq]at ha;subst ha;rcases Nat.lt_or_ge b w.heap.size with hlt|hge
  .have:=c.tag hlt (fun h=>hlt);rw[h7]at this;cases this
  .exact hge
theorem P8{w:World}{x:S3}{vs:List Value}(h:RdV w x 5 vs)(h1:∀ u∈vs,u.oneCell'=true)(hb:x.n<100000000) :
  Calls prog 32 #[x.v] w fun e w'=>∃ y:S3,e=.returned y.v/\RdV w' y 5 vs/\y.n=x.n/\(vs≠[]->∀ a,y.a=some a->w.heap.size<=a.block)/\Bw w w':=by
 obtain⟨xa,xn,xc⟩:=x;simp only at hb;refine gI (fn:=f32) [.n 60 0] gz func32 (fun _ _=>⟨rfl,rfl⟩) ?_;refine qR [] 8 [] fun σ1 g1 w1 c1=>?_;by_cases h2:xa=none
 .subst h2;have hc0:xc=0:=h.nul rfl;have hn0:xn=0:=by have:=h.cap;simp only at this;omega
  subst hc0 hn0;refine qV 1 (.bool true) (YJ (z:=⟨none,0,0⟩) (t:=37) (e:=54) (x:=(.tmp 3)) (y:=(.const (sn))) rfl underlying37 (by kernel_rfl)) ?_;refine qR [] 6 [] fun σ2 g2 w2 c2=>?_;exact qE (S3.v s30) fun K=>⟨s30,rfl,⟨h.len,Nat.le_refl _,fun _=>rfl,.inl rfl⟩,rfl,fun _ a ha=>(by cases ha),Cg.below ((c1.nil [.n 60 0]).n c2) (fun _ _=>Ds)⟩
 .obtain⟨ad,rfl⟩:=Option.ne_none_iff_exists'.1 h2;refine qV 1 (.bool false) (YJ (z:=⟨some ad,xn,xc⟩) (t:=37) (e:=54) (x:=(.tmp 3)) (y:=(.const (sn))) rfl underlying37 (by kernel_rfl)) ?_;refine qR [] 7 [62,0] fun σ3 g3 w3 c3=>?_;by_cases h3:xn=0
  .subst h3;obtain⟨ti,hti⟩:∃ ti,prog.info? 54=some ti:=Option.isSome_iff_exists.1 (by kernel_rfl);refine qV 2 (.slice (some ⟨(σ3 0),0,none⟩) 0 0) (ZN 37 37 54 ti underlying37 hti (σ3 0) ad xc) ?_;refine qR [] 2 [] fun σ4 g4 w4 c4=>?_;exact qE (S3.v ⟨some ⟨(σ3 0),0,none⟩,0,0⟩) fun K=>⟨_,rfl,⟨h.len,Nat.le_refl _,fun h=>(by cases h),.inl rfl⟩,rfl,fun hv=>absurd (List.eq_nil_of_length_eq_zero (by rw[h.len];exact Nat.zero_mul 5)) hv,Cg.below (((c1.nil [.n 60 0]).n c3).n c4) (fun _ _=>Ds)⟩
  .obtain⟨bx,ox,hx1,hx2,hx3⟩:∃ bx ox,(some ad:Option Addr)=some ⟨bx,ox,none⟩/\bx<w.heap.size/\∀ j u,vs[j]?=some u->w.cell? ⟨bx,ox+j,none⟩=some u:=by rcases h.ex with h|h;exact absurd h h3;exact h
   simp only[Option.some.injEq]at hx1;subst hx1;refine Ae fun K=>?_;obtain⟨q1,q2,q3⟩:=K.isNw 0 (σ3 0) (.cells #[] 54) 60 0 true (by kernel_rfl);have hO:OwnS g3 w3 (.n 60 0) true 54 5 ⟨some ⟨(σ3 0),0,none⟩,0,0⟩ []:=⟨rfl,.inr ⟨(σ3 0),#[],rfl,q1,Nat.le_refl _,Nat.zero_le _,rfl,rfl,q2,q3⟩⟩;refine GM [false] ?_;have hbl:=Cg.below ((c1.nil [.n 60 0]).n c3) (fun _ _=>Ds);refine Jd 2 (x:=⟨some ⟨(σ3 0),0,none⟩,0,0⟩) 37 37 54 5 40 (.agg #[iv 0,iv 0,iv 0,iv 0,iv 0]) ⟨bx,ox,none⟩ xn xc vs hO (by kernel_rfl) (by kernel_rfl) (by kernel_rfl) underlying37 (by kernel_rfl) (by kernel_rfl) (by decide) (by omega) h.len h1 (fun K j u hj=>by rw[IX];exact(hbl.cell (p:=⟨bx,ox+j,none⟩) hx2).trans (hx3 j u hj)) (by show 0+xn<=_;unfold maxLen;omega) (by show(0+xn)*40<=_;omega) ?_;intro y5 g5 w5 a5 n5 cc5 G5;have c5:=cc5 w.heap.size [.n 60 0] (List.mem_singleton.2 rfl);refine qR [] 2 [] fun σ6 g6 w6 c6=>?_;exact qE (S3.v y5) fun K=>⟨y5,rfl,(by have:=(a5.ch c6).rv;rwa [List.nil_append]at this),(by rw[n5];show 0+xn=xn;omega),fun _=>ZM (a5.ch c6) ((((c1.nil [.n 60 0]).n c3).trans c5).n c6),Cg.below ((((c1.nil [.n 60 0]).n c3).trans c5).n c6) (fun _ _=>Ds)⟩
theorem JG{w:World}{x:S3}{vs:List Value}(h:RdV w x 5 vs)(h1:∀ u∈vs,u.oneCell'=true)(hb:x.n<100000000) :
  Calls prog 31 #[x.v] w fun e w'=>∃ y:S3,e=.returned y.v/\RdV w' y 5 vs/\y.n=x.n/\(vs≠[]->∀ a,y.a=some a->w.heap.size<=a.block)/\Bw w w':=by
 obtain⟨xa,xn,xc⟩:=x;simp only at hb;refine gI (fn:=f31) [.n 60 0] gz func31 (fun _ _=>⟨rfl,rfl⟩) ?_;refine qR [] 8 [] fun σ1 g1 w1 c1=>?_;by_cases h2:xa=none
 .subst h2;have hc0:xc=0:=h.nul rfl;have hn0:xn=0:=by have:=h.cap;simp only at this;omega
  subst hc0 hn0;refine qV 1 (.bool true) (YJ (z:=⟨none,0,0⟩) (t:=31) (e:=102) (x:=(.tmp 3)) (y:=(.const (sn))) rfl underlying31 (by kernel_rfl)) ?_;refine qR [] 6 [] fun σ2 g2 w2 c2=>?_;exact qE (S3.v s30) fun K=>⟨s30,rfl,⟨h.len,Nat.le_refl _,fun _=>rfl,.inl rfl⟩,rfl,fun _ a ha=>(by cases ha),Cg.below ((c1.nil [.n 60 0]).n c2) (fun _ _=>Ds)⟩
 .obtain⟨ad,rfl⟩:=Option.ne_none_iff_exists'.1 h2;refine qV 1 (.bool false) (YJ (z:=⟨some ad,xn,xc⟩) (t:=31) (e:=102) (x:=(.tmp 3)) (y:=(.const (sn))) rfl underlying31 (by kernel_rfl)) ?_;refine qR [] 7 [62,0] fun σ3 g3 w3 c3=>?_;by_cases h3:xn=0
  .subst h3;obtain⟨ti,hti⟩:∃ ti,prog.info? 102=some ti:=Option.isSome_iff_exists.1 (by kernel_rfl);refine qV 2 (.slice (some ⟨(σ3 0),0,none⟩) 0 0) (ZN 31 31 102 ti underlying31 hti (σ3 0) ad xc) ?_;refine qR [] 2 [] fun σ4 g4 w4 c4=>?_;exact qE (S3.v ⟨some ⟨(σ3 0),0,none⟩,0,0⟩) fun K=>⟨_,rfl,⟨h.len,Nat.le_refl _,fun h=>(by cases h),.inl rfl⟩,rfl,fun hv=>absurd (List.eq_nil_of_length_eq_zero (by rw[h.len];exact Nat.zero_mul 5)) hv,Cg.below (((c1.nil [.n 60 0]).n c3).n c4) (fun _ _=>Ds)⟩
  .obtain⟨bx,ox,hx1,hx2,hx3⟩:∃ bx ox,(some ad:Option Addr)=some ⟨bx,ox,none⟩/\bx<w.heap.size/\∀ j u,vs[j]?=some u->w.cell? ⟨bx,ox+j,none⟩=some u:=by rcases h.ex with h|h;exact absurd h h3;exact h
   simp only[Option.some.injEq]at hx1;subst hx1;refine Ae fun K=>?_;obtain⟨q1,q2,q3⟩:=K.isNw 0 (σ3 0) (.cells #[] 102) 60 0 true (by kernel_rfl);have hO:OwnS g3 w3 (.n 60 0) true 102 5 ⟨some ⟨(σ3 0),0,none⟩,0,0⟩ []:=⟨rfl,.inr ⟨(σ3 0),#[],rfl,q1,Nat.le_refl _,Nat.zero_le _,rfl,rfl,q2,q3⟩⟩;refine GM [false] ?_;have hbl:=Cg.below ((c1.nil [.n 60 0]).n c3) (fun _ _=>Ds);refine Jd 2 (x:=⟨some ⟨(σ3 0),0,none⟩,0,0⟩) 31 31 102 5 40 (.agg #[iv 0,iv 0,iv 0,iv 0,iv 0]) ⟨bx,ox,none⟩ xn xc vs hO (by kernel_rfl) (by kernel_rfl) (by kernel_rfl) underlying31 (by kernel_rfl) (by kernel_rfl) (by decide) (by omega) h.len h1 (fun K j u hj=>by rw[IX];exact(hbl.cell (p:=⟨bx,ox+j,none⟩) hx2).trans (hx3 j u hj)) (by show 0+xn<=_;unfold maxLen;omega) (by show(0+xn)*40<=_;omega) ?_;intro y5 g5 w5 a5 n5 cc5 G5;have c5:=cc5 w.heap.size [.n 60 0] (List.mem_singleton.2 rfl);refine qR [] 2 [] fun σ6 g6 w6 c6=>?_;exact qE (S3.v y5) fun K=>⟨y5,rfl,(by have:=(a5.ch c6).rv;rwa [List.nil_append]at this),(by rw[n5];show 0+xn=xn;omega),fun _=>ZM (a5.ch c6) ((((c1.nil [.n 60 0]).n c3).trans c5).n c6),Cg.below ((((c1.nil [.n 60 0]).n c3).trans c5).n c6) (fun _ _=>Ds)⟩
def Ij(M:Meet)(ly tv:S3):Array Value:=#[iv (M.lets.length:Int),.bool (M.node 0).up,.bool (M.node 1).up,.bool (M.node 2).up,.bool (M.node 3).up,.bool (M.node 4).up,S3.v ly,iv ((M.node 0).bad:Int),iv ((M.node 1).bad:Int),iv ((M.node 2).bad:Int),iv ((M.node 3).bad:Int),iv ((M.node 4).bad:Int),S3.v tv]
structure OutW(w:World)(M:Meet)(ly tv:S3)(ys:Nat->S3):Prop where
 logs:RdV w ly 1 [S3.v (ys 0),S3.v (ys 1),S3.v (ys 2),S3.v (ys 3),S3.v (ys 4)]
 log:∀ j,j<5->RdC w (ys j) ((M.node j).agreed.take (M.node j).done)
 told:RdV w tv 5 (M.told.flatMap EF)
structure OutN(B:Nat)(M:Meet)(ly tv:S3)(ys:Nat->S3):Prop where
 logs:∀ a,ly.a=some a->B<=a.block
 log:∀ j,j<5->cmL ((M.node j).agreed.take (M.node j).done)≠[]->∀ a,(ys j).a=some a->B<=a.block
 told:M.told.flatMap EF≠[]->∀ a,tv.a=some a->B<=a.block
theorem OutW.ch{B C:Nat}{g g':Gh}{w w':World}{M:Meet}{ly tv:S3}{ys:Nat->S3}(h:OutW w M ly tv ys)(hn:OutN B M ly tv ys)(hG:∀ b,B<=b->g.t b=.z)(c:Cg C [] g w g' w'):OutW w' M ly tv ys :=
 ⟨((⟨h.logs,fun _ a ha=>hG _ (hn.logs a ha)⟩:FzV g w ly 1 _).ch c).rd,fun j hj=>(((⟨(h.log j hj).rv,fun hv a ha=>hG _ (hn.log j hj hv a ha)⟩:FzV g w (ys j) 5 _).ch c).rd).rc,((⟨h.told,fun hv a ha=>hG _ (hn.told hv a ha)⟩:FzV g w tv 5 _).ch c).rd⟩
theorem RY(ts:List Tol):∀ u∈ts.flatMap EF,u.oneCell'=true:=by
 intro u hu;obtain⟨c,_,hc⟩:=List.mem_flatMap.1 hu;simp only[EF,List.mem_cons,List.not_mem_nil,or_false]at hc;rcases hc with rfl|rfl|rfl|rfl|rfl<;>rfl
theorem WW{P:Program}{fn:Func}{R:Ending->World->Prop}{w0:World}{Φ:List Fa}{g:Gh}{w:World}{s:Xs}(b:Nat)(o:Obj)(hb:w0.heap[b]?=some o)(h:GT P fn R w0 Φ ⟨s.K,s.f,Bj s.L++[⟨b,o,.z,false⟩]⟩ g w):GT P fn R w0 Φ s g w :=
 ⟨fun F C=>BF ⟨b,o,.z,false⟩ (fun _=>⟨((CgQ.below C).block b (rl hb)).trans hb,C.tag (rl hb) (fun _=>rl hb),(fun h=>by cases h),fun h=>absurd rfl h⟩) rfl (h.ex F C)⟩
theorem bE{M:Meet}{mb tb ob:Nat}{nb:Nat->Nat}{g:Gh}{w0 w:World}(h:MS mb tb ob nb g w0 M)(b:Bw w0 w){i:Nat}(hi:i<5)(hd:(M.node i).done<=(M.node i).agreed.length) :
  Calls prog 33 #[pt (nb i) 0] w fun e w'=>∃ y:S3,e=.returned y.v/\RdC w' y ((M.node i).agreed.take (M.node i).done)/\Bw w w' :=
 R9 ((h.ch0 (Cg.ofBelow (B:=0) b) fun d hd=>h.new d (Nat.le_trans b.size hd)).ns hi) hd
theorem ei{W:World}{nb:Nat->Nat}{i:Nat}(hi:i<5):(Instr.index 70 (.agg #[pt (nb 0) 0,pt (nb 1) 0,pt (nb 2) 0,pt (nb 3) 0,pt (nb 4) 0]) (iv (i:Int))).run prog W=.ok (pt (nb i) 0) W:=by
 rcases five hi with rfl|rfl|rfl|rfl|rfl<;>kernel_rfl
def ysL(ys:Nat->S3)(i:Nat):List Value:=(List.range i).map fun j=>S3.v (ys j)
def ET(f:Nat->Bool)(i:Nat)(b:Bool):Nat->Bool:=fun j=>bif Nat.beq j i then b else f j
def Je(f:Nat->Int)(i:Nat)(b:Int):Nat->Int:=fun j=>bif Nat.beq j i then b else f j
def upTo(M:Meet)(i:Nat):Nat->Bool:=fun j=>bif Nat.blt j i then(M.node j).up else false
def BS(M:Meet)(i:Nat):Nat->Int:=fun j=>bif Nat.blt j i then((M.node j).bad:Int)else 0
theorem No(j i:Nat):Nat.blt j (i+1)=bif Nat.beq j i then true else Nat.blt j i:=by
 rw[Bool.eq_iff_iff];rcases Nat.lt_trichotomy j i with h|h|h
 .simp[Nat.blt,show Nat.beq j i=false from Bool.eq_false_iff.2 fun e=>by have:=Nat.eq_of_beq_eq_true e;omega];omega
 .subst h;simp[Nat.blt,Nat.beq_refl]
 .simp[Nat.blt,show Nat.beq j i=false from Bool.eq_false_iff.2 fun e=>by have:=Nat.eq_of_beq_eq_true e;omega];omega
theorem da(M:Meet)(i:Nat):ET (upTo M i) i (M.node i).up=upTo M (i+1):=by
 funext j
 unfold ET upTo;rw[No];cases h:Nat.beq j i
 .rfl
 .rw[Nat.eq_of_beq_eq_true h];rfl
theorem aE(M:Meet)(i:Nat):Je (BS M i) i ((M.node i).bad:Int)=BS M (i+1):=by
 funext j
 unfold Je BS;rw[No];cases h:Nat.beq j i
 .rfl
 .rw[Nat.eq_of_beq_eq_true h];rfl
def Lgs(g:Gh)(w:World)(M:Meet)(ys:Nat->S3)(i:Nat):Prop:=∀ j,j<i->FzV g w (ys j) 5 (cmL ((M.node j).agreed.take (M.node j).done))
def Fa.lg(M:Meet)(ys:Nat->S3)(i:Nat):Fa:=⟨none,fun g w=>Lgs g w M ys i,fun hz _ c h j hj=>(h j hj).ch c hz⟩
def yup(ys:Nat->S3)(i:Nat)(y:S3):Nat->S3:=fun j=>if j=i then y else ys j
theorem Yt{g:Gh}{w:World}{M:Meet}{ys:Nat->S3}{i:Nat}{y:S3}(h:Lgs g w M ys i)(k:FzV g w y 5 (cmL ((M.node i).agreed.take (M.node i).done))):Lgs g w M (yup ys i y) (i+1):=by
 intro j hj;unfold yup;split
 .rename_i e;rw[e];exact k
 .exact h j (by omega)
theorem fb(ys:Nat->S3)(i:Nat)(y:S3):ysL (yup ys i y) (i+1)=ysL ys i++[S3.v y]:=by
 unfold ysL;rw[List.range_succ,List.map_append]
 congr 1
 .apply List.map_congr_left;intro j hj;have:=List.mem_range.1 hj;unfold yup;rw[if_neg (by omega)]
 .simp[yup]
theorem ZE{M:Meet}{ys:Nat->S3}{i B:Nat}{y:S3}(h:∀ j,j<i->cmL ((M.node j).agreed.take (M.node j).done)≠[]->∀ a,(ys j).a=some a->B<=a.block)(k:cmL ((M.node i).agreed.take (M.node i).done)≠[]->∀ a,y.a=some a->B<=a.block):∀ j,j<i+1->cmL ((M.node j).agreed.take (M.node j).done)≠[]->∀ a,(yup ys i y j).a=some a->B<=a.block:=by
 intro j hj;unfold yup;split
 .rename_i e;rw[e];exact k
 .exact h j (by omega)
theorem bQ{w0 w:World}{g:Gh}{e:TypeId}{sz:Nat}{x:S3}{xs:List Value}(h:OwnS g w (.n 60 0) true e sz x xs)(C:Cg w0.heap.size TQ gS w0 g w):∀ a,x.a=some a->w0.heap.size<=a.block:=by
 intro a ha;rcases h.ex with⟨h1,_⟩|⟨b,cur,h1,_,_,_,_,_,h7,_⟩
 .rw[h1]at ha;cases ha
 .rw[h1]at ha;cases ha
  refine Nat.le_of_not_lt fun hb=>?_;have:=C.tag hb (fun _=>hb);rw[h7]at this
  cases this
theorem O6{g:Gh}{w:World}{mb tb ob:Nat}{nb:Nat->Nat}{M:Meet}(h:MS mb tb ob nb g w M)(hd:∀ i,i<5->(M.node i).done<=(M.node i).agreed.length/\(M.node i).agreed.length<=40)(hlb:M.lets.length<100000000)(htb:M.told.length<100000000) :
  Calls prog 15 #[pt mb 0] w fun e w'=>∃ (ly tv:S3) (ys:Nat->S3),e=.returned (.agg (Ij M ly tv))/\OutW w' M ly tv ys/\OutN w.heap.size M ly tv ys/\Bw w w':=by
 obtain⟨lt,tl,hO⟩:=h.out;obtain⟨bs,hL,hLs⟩:=hO.lets;have hln:lt.n=M.lets.length:=by have:=hL.len;have:=hLs.len;simp at *;omega
 have htn:tl.n=M.told.length:=by have h1:=hO.told.len;rw[Ft]at h1;omega
 refine tIn [] func15 trivial ?_;refine WW mb _ h.box.r ?_;refine WW ob _ hO.row ?_;refine tR 21 [1,0,19,0,2,4,6,0,8,10,12,1,14,16,18,20,22,0,24,26,28,1] fun σ1 _ _=>?_;refine TF 55 (fun ee LL ΦΦ=>∃ (tv:S3) (b3:Nat),ee=[(0,pt mb 0),(2,pt (σ1 0) 0),(3,pt b3 0)]/\LL=[⟨mb,.cells (mtA nb ob tb) 72,.z,false⟩,⟨ob,.cells #[S3.v lt,S3.v tl] 66,.z,false⟩,⟨(σ1 0),.cells #[iv 0,.bool false,.bool false,.bool false,.bool false,.bool false,sn,iv 0,iv 0,iv 0,iv 0,iv 0,sn] 33,.l,false⟩,⟨b3,.cells #[iv (lt.n:Int),.bool false,.bool false,.bool false,.bool false,.bool false,sn,iv 0,iv 0,iv 0,iv 0,iv 0,S3.v tv] 33,.l,false⟩]/\ΦΦ=[Fa.zv tv 5 (M.told.flatMap EF)]/\(M.told.flatMap EF≠[]->∀ a,tv.a=some a->w.heap.size<=a.block)) (fun J hJ=>?_) ?_
 .refine TH 15 17 ?_ ?_
  .refine tF fun _ Cs=>?_;have hs3:=Cs.size;refine tC 15 (fun F C=>JG (hO.told.rv.below (CgQ.below C)) (RY _) (by omega)) fun Nz=>?_;rintro _ _ ⟨tv,rfl,htv,_,htw,b4⟩;refine⟨_,Fa.zv tv 5 (M.told.flatMap EF)::_,rfl,b4,fun F=>⟨⟨htv,fun hv a ha=>Nz _ (htw hv a ha)⟩,F⟩,?_⟩;refine tR 4 [32,35,1,0,37,3,0] fun σ5 _ _=>?_;exact tD hJ [true,true,true,true] ⟨tv,(σ5 0),rfl,rfl,rfl,fun hv a ha=>Nat.le_trans hs3 (htw hv a ha)⟩ (fun F=>⟨F.1,trivial⟩)
  .refine tR 1 [1,0] fun σ6 _ _=>?_;refine tF fun _ Cs=>?_;have hs7:=Cs.size;refine tC 15 (fun F C=>JG (hO.told.rv.below (CgQ.below C)) (RY _) (by omega)) fun Nz=>?_;rintro _ _ ⟨tv,rfl,htv,_,htw,b8⟩;refine⟨_,Fa.zv tv 5 (M.told.flatMap EF)::_,rfl,b8,fun F=>⟨⟨htv,fun hv a ha=>Nz _ (htw hv a ha)⟩,F⟩,?_⟩;refine tR 3 [32,37,3,0] fun σ9 _ _=>?_;exact tD hJ [true,true,true,true] ⟨tv,(σ6 0),rfl,rfl,rfl,fun hv a ha=>Nat.le_trans hs7 (htw hv a ha)⟩ (fun F=>⟨F.1,trivial⟩)
 rintro _ _ _ ⟨tv,b3,rfl,rfl,rfl,htw⟩ _ _ _;refine tR 10 [0] fun σ10 _ _=>?_;refine Hj 55 [(2,pt (σ1 0) 0),(3,pt b3 0),(26,.agg #[pt (nb 0) 0,pt (nb 1) 0,pt (nb 2) 0,pt (nb 3) 0,pt (nb 4) 0]),(27,iv 0)] [true,false,true,true] [⟨mb,.cells (mtA nb ob tb) 72,.z,false⟩,⟨(σ1 0),.cells #[iv 0,.bool false,.bool false,.bool false,.bool false,.bool false,sn,iv 0,iv 0,iv 0,iv 0,iv 0,sn] 33,.l,false⟩,⟨b3,.cells #[iv (lt.n:Int),.bool false,.bool false,.bool false,.bool false,.bool false,sn,iv 0,iv 0,iv 0,iv 0,iv 0,S3.v tv] 33,.l,false⟩] [Fa.zv tv 5 (M.told.flatMap EF),Fa.ow 0 37 1 s30 (ysL (fun _=>s30) 0),Fa.lg M (fun _=>s30) 0] (fun kk ee LL ΦΦ=>∃ (i:Nat) (ly:S3) (ys:Nat->S3),kk=5-i/\ee=[(2,pt (σ1 0) 0),(3,pt b3 0),(26,.agg #[pt (nb 0) 0,pt (nb 1) 0,pt (nb 2) 0,pt (nb 3) 0,pt (nb 4) 0]),(27,iv (i:Int))]/\LL=[⟨mb,.cells (mtA nb ob tb) 72,.z,false⟩,⟨(σ1 0),.cells #[iv 0,.bool false,.bool false,.bool false,.bool false,.bool false,sn,iv 0,iv 0,iv 0,iv 0,iv 0,sn] 33,.l,false⟩,⟨b3,.cells #[iv (lt.n:Int),.bool (upTo M i 0),.bool (upTo M i 1),.bool (upTo M i 2),.bool (upTo M i 3),.bool (upTo M i 4),S3.v ly,iv (BS M i 0),iv (BS M i 1),iv (BS M i 2),iv (BS M i 3),iv (BS M i 4),S3.v tv] 33,.l,false⟩]/\ΦΦ=[Fa.zv tv 5 (M.told.flatMap EF),Fa.ow 0 37 1 ly (ysL ys i),Fa.lg M ys i]/\i<=5/\ly.n=i/\(∀ j,j<i->cmL ((M.node j).agreed.take (M.node j).done)≠[]->∀ a,(ys j).a=some a->w.heap.size<=a.block)) (5) ⟨0,s30,fun _=>s30,rfl,rfl,rfl,rfl,by omega,rfl,fun j hj=>absurd hj (Nat.not_lt_zero _)⟩ (fun F=>⟨F.1,OwnS.nil _ _ _ _ _ _,(fun j hj=>absurd hj (Nat.not_lt_zero _)),trivial⟩) ?_;rintro k _ _ _ ⟨i,ly,ys,rfl,rfl,rfl,rfl,hi,hlyn,hw⟩ _ _ _ J hJ;refine tR 5 [] fun σ11 _ _=>?_;by_cases h1:i<5
 .refine tI ((decide ((i:Int)<5))) true (decide_eq_true (by omega)) ?_;have hi5:i<5:=by omega
  obtain⟨x,hN⟩:=h.node i hi5;refine tR 6 [] fun σ12 _ _=>?_;refine tV 1 (pt (nb i) 0) (fun F C=>(ei hi5)) ?_;refine WW (nb i) _ hN.row ?_;refine tR 4 [] fun σ13 _ _=>?_;refine TF 55 (fun ee LL ΦΦ=>ee=[(2,pt (σ1 0) 0),(3,pt b3 0),(26,.agg #[pt (nb 0) 0,pt (nb 1) 0,pt (nb 2) 0,pt (nb 3) 0,pt (nb 4) 0]),(27,iv (i:Int)),(4,iv (i:Int)),(5,pt (nb i) 0)]/\LL=[⟨mb,.cells (mtA nb ob tb) 72,.z,false⟩,⟨(σ1 0),.cells #[iv 0,.bool false,.bool false,.bool false,.bool false,.bool false,sn,iv 0,iv 0,iv 0,iv 0,iv 0,sn] 33,.l,false⟩,⟨b3,.cells #[iv (lt.n:Int),.bool (ET (upTo M i) i (M.node i).up 0),.bool (ET (upTo M i) i (M.node i).up 1),.bool (ET (upTo M i) i (M.node i).up 2),.bool (ET (upTo M i) i (M.node i).up 3),.bool (ET (upTo M i) i (M.node i).up 4),S3.v ly,iv (BS M i 0),iv (BS M i 1),iv (BS M i 2),iv (BS M i 3),iv (BS M i 4),S3.v tv] 33,.l,false⟩,⟨(nb i),.cells (Ax i ob (M.node i) x) 96,.z,false⟩]/\ΦΦ=[Fa.zv tv 5 (M.told.flatMap EF),Fa.ow 0 37 1 ly (ysL ys i),Fa.lg M ys i]) (fun J hJ=>?_) ?_
  .rcases five hi5 with rfl|rfl|rfl|rfl|rfl<;>exact tR 10 [3,2,0] fun σ14 _ _=>tD hJ [true,true,true,true] ⟨rfl,rfl,rfl⟩ (fun F=>F)
  rintro _ _ _ ⟨rfl,rfl,rfl⟩ _ _ _;refine tR 1 [] fun σ15 _ _=>?_;refine TF 55 (fun ee LL ΦΦ=>ee=[(2,pt (σ1 0) 0),(3,pt b3 0),(26,.agg #[pt (nb 0) 0,pt (nb 1) 0,pt (nb 2) 0,pt (nb 3) 0,pt (nb 4) 0]),(27,iv (i:Int)),(4,iv (i:Int)),(5,pt (nb i) 0)]/\LL=[⟨mb,.cells (mtA nb ob tb) 72,.z,false⟩,⟨(σ1 0),.cells #[iv 0,.bool false,.bool false,.bool false,.bool false,.bool false,sn,iv 0,iv 0,iv 0,iv 0,iv 0,sn] 33,.l,false⟩,⟨b3,.cells #[iv (lt.n:Int),.bool (ET (upTo M i) i (M.node i).up 0),.bool (ET (upTo M i) i (M.node i).up 1),.bool (ET (upTo M i) i (M.node i).up 2),.bool (ET (upTo M i) i (M.node i).up 3),.bool (ET (upTo M i) i (M.node i).up 4),S3.v ly,iv (Je (BS M i) i ((M.node i).bad:Int) 0),iv (Je (BS M i) i ((M.node i).bad:Int) 1),iv (Je (BS M i) i ((M.node i).bad:Int) 2),iv (Je (BS M i) i ((M.node i).bad:Int) 3),iv (Je (BS M i) i ((M.node i).bad:Int) 4),S3.v tv] 33,.l,false⟩,⟨(nb i),.cells (Ax i ob (M.node i) x) 96,.z,false⟩]/\ΦΦ=[Fa.zv tv 5 (M.told.flatMap EF),Fa.ow 0 37 1 ly (ysL ys i),Fa.lg M ys i]) (fun J hJ=>?_) ?_
  .rcases five hi5 with rfl|rfl|rfl|rfl|rfl<;>exact tR 10 [3,2,0] fun σ16 _ _=>tD hJ [true,true,true,true] ⟨rfl,rfl,rfl⟩ (fun F=>F)
  rintro _ _ _ ⟨rfl,rfl,rfl⟩ _ _ _;refine tR 4 [8,0,2,2,4] fun σ17 _ _=>?_;refine tC 3 (fun F C=>bE h (CgQ.below C) hi5 (hd i hi5).1) fun Nz=>?_;rintro _ _ ⟨yl,rfl,hyl,b18⟩;refine⟨_,_,rfl,b18,id,?_⟩;have hyb:yl.n<100000000:=by rw[hyl.len,List.length_take];have:=hd i hi5;omega
  refine tF fun _ Cs=>?_;have hs20:=Cs.size;refine tC 4 (fun F C=>P8 hyl.rv (fun u hu=>Mx _ u hu) hyb) fun Nz=>?_;rintro _ _ ⟨yc,rfl,hyc,_,hyw,b21⟩;refine⟨_,Fa.zv yc 5 (cmL ((M.node i).agreed.take (M.node i).done))::_,rfl,b21,fun F=>⟨⟨hyc,fun hv a ha=>Nz _ (hyw hv a ha)⟩,F⟩,?_⟩;refine tR 1 [11,0,0] fun σ22 _ _=>?_;refine Na 6 0 (x:=ly) 29 29 37 1 24 sn ⟨(σ22 0),0,none⟩ 1 1 [S3.v yc] (fun F=>F.2.2.1) [Fa.zv tv 5 (M.told.flatMap EF),Fa.lg M (yup ys i yc) (i+1)] (fun F=>⟨F.2.1,Yt F.2.2.2.1 F.1,trivial⟩) rfl (by simp[TQ]) rfl (by simp[Value.oneCell']) (fun F K=>BW K 4 (σ22 0) [S3.v yc] 37 .z true (by kernel_rfl)) (by unfold maxLen;omega) (by omega) fun y23 _ _ n23=>?_;refine tR 5 [14,17,2,0] fun σ24 _ _=>?_;refine tV 0 (iv ((i:Int)+1)) (fun F C=>(AN (x:=(.tmp 27)) (y:=(.const (iv 1))) (i:Int) 1 underlying3 (by omega))) ?_;refine tR 2 [] fun σ25 _ _=>?_;exact tB hJ (5-(i+1)) (by omega) [true,true,true,false,false] (L':=[⟨mb,.cells (mtA nb ob tb) 72,.z,false⟩,⟨(σ1 0),.cells #[iv 0,.bool false,.bool false,.bool false,.bool false,.bool false,sn,iv 0,iv 0,iv 0,iv 0,iv 0,sn] 33,.l,false⟩,⟨b3,.cells #[iv (lt.n:Int),.bool (ET (upTo M i) i (M.node i).up 0),.bool (ET (upTo M i) i (M.node i).up 1),.bool (ET (upTo M i) i (M.node i).up 2),.bool (ET (upTo M i) i (M.node i).up 3),.bool (ET (upTo M i) i (M.node i).up 4),S3.v y23,iv (Je (BS M i) i ((M.node i).bad:Int) 0),iv (Je (BS M i) i ((M.node i).bad:Int) 1),iv (Je (BS M i) i ((M.node i).bad:Int) 2),iv (Je (BS M i) i ((M.node i).bad:Int) 3),iv (Je (BS M i) i ((M.node i).bad:Int) 4),S3.v tv] 33,.l,false⟩]) ⟨i+1,y23,yup ys i yc,rfl,rfl,(by rw[da,aE]),rfl,by omega,by omega,ZE hw (fun hv a ha=>Nat.le_trans hs20 (hyw hv a ha))⟩ (fun F=>⟨F.2.1,(by rw[fb];exact F.1),F.2.2.1,trivial⟩)
 .refine tI ((decide ((i:Int)<5))) false (decide_eq_false (by omega)) ?_;obtain rfl:i=5:=by omega
  refine tR 6 [2,1,0] fun σ26 _ _=>?_;have hA:Ij M ly tv=#[iv (lt.n:Int),.bool (upTo M 5 0),.bool (upTo M 5 1),.bool (upTo M 5 2),.bool (upTo M 5 3),.bool (upTo M 5 4),S3.v ly,iv (BS M 5 0),iv (BS M 5 1),iv (BS M 5 2),iv (BS M 5 3),iv (BS M 5 4),S3.v tv]:=by rw[hln];rfl
  exact tX fun F C=>qE1 2 33 1 (σ1 0) #[iv (lt.n:Int),.bool (upTo M 5 0),.bool (upTo M 5 1),.bool (upTo M 5 2),.bool (upTo M 5 3),.bool (upTo M 5 4),S3.v ly,iv (BS M 5 0),iv (BS M 5 1),iv (BS M 5 2),iv (BS M 5 3),iv (BS M 5 4),S3.v tv] fun _=>⟨ly,tv,ys,by rw[hA],⟨F.2.1.rv,fun j hj=>(F.2.2.1 j hj).rd.rc,F.1.rd⟩,⟨bQ F.2.1 C,hw,htw⟩,CgQ.below C⟩
theorem VG{k:Int}{w:World}(h:1<=k/\k<=9):Calls prog 19 #[iv k] w fun e w'=>e=.returned (.bool true)/\Bw w w':=by
 refine tIn [] func19 trivial ?_;refine tR 7 [] fun σ1 _ _=>?_;refine tV 1 (.bool true) (fun F C=>(rGe (t:=3) (m:=k) (n:=1) (x:=(.tmp 3)) (y:=(.const (iv 1))) (decide_eq_true h.1))) ?_;refine tR 6 [] fun σ2 _ _=>?_;exact tE (.bool (decide (k<10))) fun _ B=>⟨by rw[decide_eq_true (show k<10 by omega)],B⟩
theorem VA{k:Int}{w:World}:Calls prog 41 #[iv k] w fun e w'=>e=.returned (.bool (k==1))/\Bw w w':=by
 refine tIn [] func41 trivial ?_;refine tR 10 [] fun σ1 _ _=>?_;exact tE (.bool (k==1)) fun _ B=>⟨rfl,B⟩
theorem Oj{b:Nat}{w:World}:Calls prog 40 #[pt b 0] w fun e w'=>e=.returned (.agg #[pt b 1,pt b 2,pt b 3])/\Bw w w':=by
 refine tIn [] func40 trivial ?_;refine tR 18 [1,0,10,0,2,4,6,8,10,12,14,16,18,21,0,0] fun σ1 _ _=>?_;exact tX fun F C=>qE1 2 115 0 (σ1 0) #[pt b 1,pt b 2,pt b 3] fun _=>⟨rfl,CgQ.below C⟩
theorem VH{j:Nat}(h:j<3):j=0\/j=1\/j=2:=by omega
theorem Hb{W:World}{k:Int}(h:1<=k/\k<=9):(Instr.indexAt 121 (pt 0 0) (iv k)).run prog W=.ok (pt 0 (4*k.toNat)) W:=by
 have:=T5 k.toNat (by omega) W
 rwa [Int.toNat_of_nonneg (by omega)]at this
theorem LWTab.at{w:World}(h:LWTab w){k:Int}(hk:1<=k/\k<=9){j:Nat}(hj:j<3){b:Bool}(e:KI j k=b):w.cell? ⟨0,4*k.toNat+1+j,none⟩=some (.bool b):=by
 have:=h.has k.toNat j (by omega) hj
 rwa [Int.toNat_of_nonneg (by omega),e]at this
theorem bg{x:Lac}{y:S3}{w:World}(h:LacOk x)(hy:y.n=x.d.length)(tw:LWTab w)(tb:LBTab w):Calls prog 20 #[.agg #[iv x.k,iv x.n,iv x.a,iv x.p,S3.v y]] w fun e w'=>e=.returned (.bool true)/\Bw w w':=by
 have hk:=h.k;refine tIn [] func20 trivial ?_;refine tR 8 [0,0] fun σ1 _ _=>?_;refine tC 0 (fun F C=>Oj (b:=(σ1 0))) fun Nz=>?_;rintro _ _ ⟨rfl,b2⟩;refine⟨_,_,rfl,b2,id,?_⟩;refine tR 3 [] fun σ3 _ _=>?_;refine Hj 33 [(1,pt (σ1 0) 0),(5,.agg #[pt (σ1 0) 1,pt (σ1 0) 2,pt (σ1 0) 3]),(6,iv 0)] [true] [⟨(σ1 0),.cells #[iv x.k,iv x.n,iv x.a,iv x.p,S3.v y] 27,.z,false⟩] [] (fun kk ee LL ΦΦ=>∃ (j:Nat),kk=3-j/\ee=[(1,pt (σ1 0) 0),(5,.agg #[pt (σ1 0) 1,pt (σ1 0) 2,pt (σ1 0) 3]),(6,iv (j:Int))]/\LL=[⟨(σ1 0),.cells #[iv x.k,iv x.n,iv x.a,iv x.p,S3.v y] 27,.z,false⟩]/\ΦΦ=[]/\j<=3) (3) ⟨0,rfl,rfl,rfl,rfl,by omega⟩ (fun F=>trivial) ?_;rintro k _ _ _ ⟨j,rfl,rfl,rfl,rfl,hj⟩ _ _ _ J hJ;refine tR 5 [] fun σ4 _ _=>?_;by_cases h0:j<3
 .refine tI ((decide ((j:Int)<3))) true (decide_eq_true (by omega)) ?_;rcases VH (show j<3 by omega)with rfl|rfl|rfl
  .by_cases h1:Fw x.k=true
   .have hv:=h.n h1;refine tR 15 [22,0,2,0,4] fun σ5 _ _=>?_;refine tT 3 (pt (0) (4*x.k.toNat)) (fun _=>(Hb hk)) ?_;refine tR 2 [8,10] fun σ6 _ _=>?_;refine tV 6 (.bool true) (fun F C=>(CV underlying4 rfl ((tw.below (CgQ.below C)).at hk (j:=0) (by decide) (show Fw x.k=true from h1)))) ?_;refine tR 4 [14,16,18,20,0] fun σ7 _ _=>?_;refine tT 11 (.bool false) (fun _=>(rLt (t:=3) (m:=x.n) (n:=0) (x:=(.tmp 20)) (y:=(.const (iv 0))) (decide_eq_false (by omega)))) ?_;refine tR 6 [24,26,28,30,0,32,34] fun σ8 _ _=>?_;refine tV 18 (iv 4) (fun F C=>(CV underlying3 rfl ((tb.below (CgQ.below C)).bnd 0 (by decide)))) ?_;refine tR 4 [38,40,42] fun σ9 _ _=>?_;refine tI ((decide (4<x.n))) false (decide_eq_false (by omega)) ?_;refine tR 6 [] fun σ10 _ _=>?_;exact tB hJ (3-1) (by omega) [true] ⟨1,rfl,rfl,rfl,rfl,by omega⟩ (fun F=>trivial)
   .refine tR 15 [22,0,2,0,4] fun σ11 _ _=>?_;refine tT 3 (pt (0) (4*x.k.toNat)) (fun _=>(Hb hk)) ?_;refine tR 2 [8,10] fun σ12 _ _=>?_;refine tV 6 (.bool false) (fun F C=>(CV underlying4 rfl ((tw.below (CgQ.below C)).at hk (j:=0) (by decide) (show Fw x.k=false from(by simpa using h1))))) ?_;refine tR 23 [14,16,18,20,22,24,26,28,30,32,34,36,38,40,42] fun σ13 _ _=>?_;exact tB hJ (3-1) (by omega) [true] ⟨1,rfl,rfl,rfl,rfl,by omega⟩ (fun F=>trivial)
  .by_cases h1:G4 x.k=true
   .have hv:=h.a h1;refine tR 15 [22,0,2,0,4] fun σ14 _ _=>?_;refine tT 3 (pt (0) (4*x.k.toNat)) (fun _=>(Hb hk)) ?_;refine tR 2 [8,10] fun σ15 _ _=>?_;refine tV 6 (.bool true) (fun F C=>(CV underlying4 rfl ((tw.below (CgQ.below C)).at hk (j:=1) (by decide) (show G4 x.k=true from h1)))) ?_;refine tR 4 [14,16,18,20,0] fun σ16 _ _=>?_;refine tT 11 (.bool false) (fun _=>(rLt (t:=3) (m:=x.a) (n:=0) (x:=(.tmp 20)) (y:=(.const (iv 0))) (decide_eq_false (by omega)))) ?_;refine tR 6 [24,26,28,30,0,32,34] fun σ17 _ _=>?_;refine tV 18 (iv 1048576) (fun F C=>(CV underlying3 rfl ((tb.below (CgQ.below C)).bnd 1 (by decide)))) ?_;refine tR 4 [38,40,42] fun σ18 _ _=>?_;refine tI ((decide (1048576<x.a))) false (decide_eq_false (by omega)) ?_;refine tR 6 [] fun σ19 _ _=>?_;exact tB hJ (3-2) (by omega) [true] ⟨2,rfl,rfl,rfl,rfl,by omega⟩ (fun F=>trivial)
   .refine tR 15 [22,0,2,0,4] fun σ20 _ _=>?_;refine tT 3 (pt (0) (4*x.k.toNat)) (fun _=>(Hb hk)) ?_;refine tR 2 [8,10] fun σ21 _ _=>?_;refine tV 6 (.bool false) (fun F C=>(CV underlying4 rfl ((tw.below (CgQ.below C)).at hk (j:=1) (by decide) (show G4 x.k=false from(by simpa using h1))))) ?_;refine tR 23 [14,16,18,20,22,24,26,28,30,32,34,36,38,40,42] fun σ22 _ _=>?_;exact tB hJ (3-2) (by omega) [true] ⟨2,rfl,rfl,rfl,rfl,by omega⟩ (fun F=>trivial)
  .by_cases h1:G7 x.k=true
   .have hv:=h.p h1;refine tR 15 [22,0,2,0,4] fun σ23 _ _=>?_;refine tT 3 (pt (0) (4*x.k.toNat)) (fun _=>(Hb hk)) ?_;refine tR 2 [8,10] fun σ24 _ _=>?_;refine tV 6 (.bool true) (fun F C=>(CV underlying4 rfl ((tw.below (CgQ.below C)).at hk (j:=2) (by decide) (show G7 x.k=true from h1)))) ?_;refine tR 4 [14,16,18,20,0] fun σ25 _ _=>?_;refine tT 11 (.bool false) (fun _=>(rLt (t:=3) (m:=x.p) (n:=0) (x:=(.tmp 20)) (y:=(.const (iv 0))) (decide_eq_false (by omega)))) ?_;refine tR 6 [24,26,28,30,0,32,34] fun σ26 _ _=>?_;refine tV 18 (iv 100000) (fun F C=>(CV underlying3 rfl ((tb.below (CgQ.below C)).bnd 2 (by decide)))) ?_;refine tR 4 [38,40,42] fun σ27 _ _=>?_;refine tI ((decide (100000<x.p))) false (decide_eq_false (by omega)) ?_;refine tR 6 [] fun σ28 _ _=>?_;exact tB hJ (3-3) (by omega) [true] ⟨3,rfl,rfl,rfl,rfl,by omega⟩ (fun F=>trivial)
   .refine tR 15 [22,0,2,0,4] fun σ29 _ _=>?_;refine tT 3 (pt (0) (4*x.k.toNat)) (fun _=>(Hb hk)) ?_;refine tR 2 [8,10] fun σ30 _ _=>?_;refine tV 6 (.bool false) (fun F C=>(CV underlying4 rfl ((tw.below (CgQ.below C)).at hk (j:=2) (by decide) (show G7 x.k=false from(by simpa using h1))))) ?_;refine tR 23 [14,16,18,20,22,24,26,28,30,32,34,36,38,40,42] fun σ31 _ _=>?_;exact tB hJ (3-3) (by omega) [true] ⟨3,rfl,rfl,rfl,rfl,by omega⟩ (fun F=>trivial)
 .refine tI ((decide ((j:Int)<3))) false (decide_eq_false (by omega)) ?_;refine tR 5 [] fun σ32 _ _=>?_;exact tE (.bool true) fun _ B=>⟨rfl,B⟩
theorem XU{x:Lac}{y:S3}{w:World}(h:LacOk x)(hy:y.n=x.d.length)(tw:LWTab w)(tb:LBTab w):Calls prog 21 #[.agg #[iv x.k,iv x.n,iv x.a,iv x.p,S3.v y]] w fun e w'=>e=.returned (.bool true)/\Bw w w':=by
 have hk:=h.k;refine tIn [] func21 trivial ?_;refine tR 8 [0,0] fun σ1 _ _=>?_;refine tC 0 (fun F C=>Oj (b:=(σ1 0))) fun Nz=>?_;rintro _ _ ⟨rfl,b2⟩;refine⟨_,_,rfl,b2,id,?_⟩;refine tR 3 [] fun σ3 _ _=>?_;refine Hj 34 [(1,pt (σ1 0) 0),(5,.agg #[pt (σ1 0) 1,pt (σ1 0) 2,pt (σ1 0) 3]),(6,iv 0)] [true] [⟨(σ1 0),.cells #[iv x.k,iv x.n,iv x.a,iv x.p,S3.v y] 27,.z,false⟩] [] (fun kk ee LL ΦΦ=>∃ (j:Nat),kk=3-j/\ee=[(1,pt (σ1 0) 0),(5,.agg #[pt (σ1 0) 1,pt (σ1 0) 2,pt (σ1 0) 3]),(6,iv (j:Int))]/\LL=[⟨(σ1 0),.cells #[iv x.k,iv x.n,iv x.a,iv x.p,S3.v y] 27,.z,false⟩]/\ΦΦ=[]/\j<=3) (3) ⟨0,rfl,rfl,rfl,rfl,by omega⟩ (fun F=>trivial) ?_;rintro k _ _ _ ⟨j,rfl,rfl,rfl,rfl,hj⟩ _ _ _ J hJ;refine tR 5 [] fun σ4 _ _=>?_;by_cases h0:j<3
 .refine tI ((decide ((j:Int)<3))) true (decide_eq_true (by omega)) ?_;rcases VH (show j<3 by omega)with rfl|rfl|rfl
  .by_cases h1:Fw x.k=true
   .by_cases h2:x.n=0
    .refine tR 15 [0] fun σ5 _ _=>?_;refine tV 3 (.bool false) (fun F C=>(Gs (t:=3) (m:=x.n) (n:=0) (x:=(.tmp 12)) (y:=(.const (iv 0))) (by simpa using h2))) ?_;refine tR 18 [] fun σ6 _ _=>?_;exact tB hJ (3-1) (by omega) [true] ⟨1,rfl,rfl,rfl,rfl,by omega⟩ (fun F=>trivial)
    .refine tR 15 [0] fun σ7 _ _=>?_;refine tV 3 (.bool true) (fun F C=>(Gs (t:=3) (m:=x.n) (n:=0) (x:=(.tmp 12)) (y:=(.const (iv 0))) (by simpa using h2))) ?_;refine tR 4 [0] fun σ8 _ _=>?_;refine tV 8 (pt (0) (4*x.k.toNat)) (fun F C=>(Hb hk)) ?_;refine tR 2 [] fun σ9 _ _=>?_;refine tV 11 (.bool true) (fun F C=>(CV underlying4 rfl ((tw.below (CgQ.below C)).at hk (j:=0) (by decide) (show Fw x.k=true from h1)))) ?_;refine tR 10 [] fun σ10 _ _=>?_;exact tB hJ (3-1) (by omega) [true] ⟨1,rfl,rfl,rfl,rfl,by omega⟩ (fun F=>trivial)
   .have h2:x.n=0:=h.n0 (by simpa using h1);refine tR 15 [0] fun σ11 _ _=>?_;refine tV 3 (.bool false) (fun F C=>(Gs (t:=3) (m:=x.n) (n:=0) (x:=(.tmp 12)) (y:=(.const (iv 0))) (by simpa using h2))) ?_;refine tR 18 [] fun σ12 _ _=>?_;exact tB hJ (3-1) (by omega) [true] ⟨1,rfl,rfl,rfl,rfl,by omega⟩ (fun F=>trivial)
  .by_cases h1:G4 x.k=true
   .by_cases h2:x.a=0
    .refine tR 15 [0] fun σ13 _ _=>?_;refine tV 3 (.bool false) (fun F C=>(Gs (t:=3) (m:=x.a) (n:=0) (x:=(.tmp 12)) (y:=(.const (iv 0))) (by simpa using h2))) ?_;refine tR 18 [] fun σ14 _ _=>?_;exact tB hJ (3-2) (by omega) [true] ⟨2,rfl,rfl,rfl,rfl,by omega⟩ (fun F=>trivial)
    .refine tR 15 [0] fun σ15 _ _=>?_;refine tV 3 (.bool true) (fun F C=>(Gs (t:=3) (m:=x.a) (n:=0) (x:=(.tmp 12)) (y:=(.const (iv 0))) (by simpa using h2))) ?_;refine tR 4 [0] fun σ16 _ _=>?_;refine tV 8 (pt (0) (4*x.k.toNat)) (fun F C=>(Hb hk)) ?_;refine tR 2 [] fun σ17 _ _=>?_;refine tV 11 (.bool true) (fun F C=>(CV underlying4 rfl ((tw.below (CgQ.below C)).at hk (j:=1) (by decide) (show G4 x.k=true from h1)))) ?_;refine tR 10 [] fun σ18 _ _=>?_;exact tB hJ (3-2) (by omega) [true] ⟨2,rfl,rfl,rfl,rfl,by omega⟩ (fun F=>trivial)
   .have h2:x.a=0:=h.a0 (by simpa using h1);refine tR 15 [0] fun σ19 _ _=>?_;refine tV 3 (.bool false) (fun F C=>(Gs (t:=3) (m:=x.a) (n:=0) (x:=(.tmp 12)) (y:=(.const (iv 0))) (by simpa using h2))) ?_;refine tR 18 [] fun σ20 _ _=>?_;exact tB hJ (3-2) (by omega) [true] ⟨2,rfl,rfl,rfl,rfl,by omega⟩ (fun F=>trivial)
  .by_cases h1:G7 x.k=true
   .by_cases h2:x.p=0
    .refine tR 15 [0] fun σ21 _ _=>?_;refine tV 3 (.bool false) (fun F C=>(Gs (t:=3) (m:=x.p) (n:=0) (x:=(.tmp 12)) (y:=(.const (iv 0))) (by simpa using h2))) ?_;refine tR 18 [] fun σ22 _ _=>?_;exact tB hJ (3-3) (by omega) [true] ⟨3,rfl,rfl,rfl,rfl,by omega⟩ (fun F=>trivial)
    .refine tR 15 [0] fun σ23 _ _=>?_;refine tV 3 (.bool true) (fun F C=>(Gs (t:=3) (m:=x.p) (n:=0) (x:=(.tmp 12)) (y:=(.const (iv 0))) (by simpa using h2))) ?_;refine tR 4 [0] fun σ24 _ _=>?_;refine tV 8 (pt (0) (4*x.k.toNat)) (fun F C=>(Hb hk)) ?_;refine tR 2 [] fun σ25 _ _=>?_;refine tV 11 (.bool true) (fun F C=>(CV underlying4 rfl ((tw.below (CgQ.below C)).at hk (j:=2) (by decide) (show G7 x.k=true from h1)))) ?_;refine tR 10 [] fun σ26 _ _=>?_;exact tB hJ (3-3) (by omega) [true] ⟨3,rfl,rfl,rfl,rfl,by omega⟩ (fun F=>trivial)
   .have h2:x.p=0:=h.p0 (by simpa using h1);refine tR 15 [0] fun σ27 _ _=>?_;refine tV 3 (.bool false) (fun F C=>(Gs (t:=3) (m:=x.p) (n:=0) (x:=(.tmp 12)) (y:=(.const (iv 0))) (by simpa using h2))) ?_;refine tR 18 [] fun σ28 _ _=>?_;exact tB hJ (3-3) (by omega) [true] ⟨3,rfl,rfl,rfl,rfl,by omega⟩ (fun F=>trivial)
 .refine tI ((decide ((j:Int)<3))) false (decide_eq_false (by omega)) ?_;refine tR 6 [0] fun σ29 _ _=>?_;by_cases h3:y.n=0
  .refine tV 3 (.bool true) (fun F C=>(Ei (t:=3) (m:=(y.n:Int)) (n:=0) (x:=(.tmp 27)) (y:=(.const (iv 0))) (by simp;omega))) ?_;refine tR 7 [] fun σ30 _ _=>?_;exact tE (.bool true) fun _ B=>⟨rfl,B⟩
  .refine tV 3 (.bool false) (fun F C=>(Ei (t:=3) (m:=(y.n:Int)) (n:=0) (x:=(.tmp 27)) (y:=(.const (iv 0))) (by simp;omega))) ?_;refine tR 3 [0] fun σ31 _ _=>?_;refine tC 7 (fun F C=>VA (k:=x.k)) fun Nz=>?_;rintro _ _ ⟨rfl,b32⟩;refine⟨_,_,rfl,b32,id,?_⟩;refine tR 3 [] fun σ33 _ _=>?_;have hk1:x.k=1:=Decidable.byContradiction fun e=>h3 (by rw[hy,h.d0 e];rfl);exact tE (.bool (x.k==1)) fun _ B=>⟨by rw[hk1];rfl,B⟩
theorem P4{x:Lac}{y:S3}{w:World}(h:LacOk x)(hy:y.n=x.d.length)(tw:LWTab w)(tb:LBTab w):Calls prog 12 #[.agg #[iv x.k,iv x.n,iv x.a,iv x.p,S3.v y]] w fun e w'=>e=.returned (iv 0)/\Bw w w':=by
 have hd:=h.d;refine tIn [] func12 trivial ?_;refine tR 10 [0,0,0] fun σ1 _ _=>?_;refine tC 2 (fun F C=>VG h.k) fun Nz=>?_;rintro _ _ ⟨rfl,b2⟩;refine⟨_,_,rfl,b2,id,?_⟩;refine tR 8 [0] fun σ3 _ _=>?_;refine tC 1 (fun F C=>bg h hy (tw.below (CgQ.below C)) (tb.below (CgQ.below C))) fun Nz=>?_;rintro _ _ ⟨rfl,b4⟩;refine⟨_,_,rfl,b4,id,?_⟩;refine tR 12 [0] fun σ5 _ _=>?_;refine tI ((decide (2000<(y.n:Int)))) false (decide_eq_false (by omega)) ?_;refine tR 5 [0] fun σ6 _ _=>?_;refine tC 1 (fun F C=>XU h hy (tw.below (CgQ.below C)) (tb.below (CgQ.below C))) fun Nz=>?_;rintro _ _ ⟨rfl,b7⟩;refine⟨_,_,rfl,b7,id,?_⟩;refine tR 8 [] fun σ8 _ _=>?_;exact tE (iv 0) fun _ B=>⟨rfl,B⟩
def laV(x:Lac)(y:Value):List Value:=[.int .i64 x.k,.int .i64 x.n,.int .i64 x.a,.int .i64 x.p,y]
def zLa:Value:=.agg #[.int .i64 0,.int .i64 0,.int .i64 0,.int .i64 0,.slice none 0 0]
def fu:Lac:=⟨0,0,0,0,[]⟩
structure Sk(w:World)(x:Value)(F:Nat->Lac)(n:Nat):Prop where
 ex:∃ a cap,x=.slice a n cap/\(n=0\/∃ b off,a=some ⟨b,off,none⟩/\b<w.heap.size/\∀ i,i<n->∃ y,w.rangeAt b (off+5*i) (laV (F i) y)/\Sl w y (F i).d)
 len:n<=2513169434916
theorem Sk.shape{w:World}{x:Value}{F:Nat->Lac}{n:Nat}(h:Sk w x F n):∃ a cap,x=.slice a n cap:=by
 obtain⟨⟨a,cap,e,_⟩,_⟩:=h;exact⟨a,cap,e⟩
theorem Sk.spot{w:World}{a:Option Addr}{n cap:Nat}{F:Nat->Lac}(h:Sk w (.slice a n cap) F n)(i:Nat)(hi:i<n):∃ b off xa xm xp,a=some ⟨b,off,none⟩/\b<w.heap.size/\w.rangeAt b (off+5*i) (laV (F i) (.slice xa xm xp))/\Sl w (.slice xa xm xp) (F i).d:=by
 obtain⟨⟨a',cap',e,h1⟩,_⟩:=h;simp only[Value.slice.injEq]at e;obtain⟨rfl,_,rfl⟩:=e;rcases h1 with rfl|⟨b,off,rfl,hb,hcell⟩
 .omega
 .obtain⟨y,h3,h4⟩:=hcell i hi;obtain⟨xa,xp,rfl⟩:=h4.shapeT;exact⟨b,off,xa,_,xp,rfl,hb,h3,h4⟩
def laF(l:List Lac):Nat->Lac:=fun i=>l.getD i fu
theorem MC{l:List Lac}{i:Nat}(h:i<l.length):laF l i=l[i]:=by simp[laF,List.getD,List.getElem?_eq_getElem h]
def Hw(F:Nat->Lac)(n:Nat):List Lac:=(List.range n).map F
theorem Um(F:Nat->Lac)(n:Nat):(Hw F n).length=n:=by simp[Hw]
theorem X0{F:Nat->Lac}{n j:Nat}(h:j<n):(Hw F n).drop j=F j::(Hw F n).drop (j+1):=by
 have h1:(Hw F n)[j]?=some (F j):=by simp[Hw,h]
 obtain⟨h2,h3⟩:=List.getElem?_eq_some_iff.1 h1;rw[<- h3];exact List.drop_eq_getElem_cons h2
def YA:Array Value:=#[iv 0,.bool false,.bool false,.bool false,.bool false,.bool false,S3.v s30,iv 0,iv 0,iv 0,iv 0,iv 0,S3.v s30]
def TR:List Tg:=.n 70 0::TM
theorem dp:Tg.z∉TR:=by simp[TR,TM,TN]
theorem dk:∀ t∈TM,t∈TR:=fun t h=>List.mem_cons_of_mem _ h
theorem LB{b:Nat}:gS.t b∉TR:=dp
theorem Base.self(w:World):Base w gS w:=⟨Below.refl _ _,fun _ _=>rfl⟩
theorem RN{W:World}{la:Option Addr}{b off n c:Nat}(ha:la=some ⟨b,off,none⟩)(j:Nat)(hj:j<n):(Instr.indexAt 23 (.slice la n c) (iv (j:Int))).run prog W=.ok (pt b (off+5*j)) W:=by
 subst ha;exact OG (P:=prog) (e:=27) (z:=5) underlying23 (by kernel_rfl) (by kernel_rfl) hj _ rfl
theorem bY{W:World}{b k:Nat}{x:Lac}{y:Value}(h:W.rangeAt b k (laV x y)):(Instr.loadAt 27 (pt b k)).run prog W=.ok (.agg #[iv x.k,iv x.n,iv x.a,iv x.p,y]) W:=by
 have h1:=run_loadVar_mid (P:=prog) W b k 27 (laV x y) _ h underlying27 rfl (by kernel_rfl);simp only[Instr.loadAt,Instr.sureAddr,Sem.run_bind,Sem.run_pure,Result.andThen_ok];exact h1
theorem OutN.mono{B C:Nat}{M:Meet}{ly tv:S3}{ys:Nat->S3}(h:OutN B M ly tv ys)(hc:C<=B):OutN C M ly tv ys:=⟨fun a e=>Nat.le_trans hc (h.logs a e),fun j hj hv a e=>Nat.le_trans hc (h.log j hj hv a e),fun hv a e=>Nat.le_trans hc (h.told hv a e)⟩
theorem YU{w:World}{lv:S3}{F:Nat->Lac}{n:Nat}(h:Sk w lv.v F n)(hok:∀ i,i<n->LacOk (F i))(hn1:n<=100000)(hT:Tabs w)(tw:LWTab w)(tb:LBTab w) :
  Calls prog 9 #[lv.v] w fun e w'=>Bw w w'/\∃ (ly tv:S3) (ys:Nat->S3),e=.returned (.tuple #[.agg (Ij (Cx.acts (Hw F n)) ly tv),iv 0])/\OutW w' (Cx.acts (Hw F n)) ly tv ys/\OutN w.heap.size (Cx.acts (Hw F n)) ly tv ys:=by
 obtain⟨la,lq,lc⟩:=lv;have hqn:lq=n:=by obtain⟨a,cap,hh⟩:=h.shape;simp only[S3.v,Value.slice.injEq]at hh;exact hh.2.1
 subst lq;have hnb:=h.len;obtain⟨L0,hL0⟩:∃ L0,Hw F n=L0:=⟨_,rfl⟩;have hLn:L0.length=n:=by rw[<- hL0];exact Um F n
 rw[hL0];refine gI (fn:=f9) TR gS func9 (fun _ _=>⟨rfl,rfl⟩) ?_;refine qR [] 12 [1,0] fun σ1 g1 w1 c1=>?_;refine qI ((decide (100000<(n:Int)))) false (decide_eq_false (by omega)) ?_;refine qR [] 9 [] fun σ3 g3 w3 c3=>?_;refine Br 40 [(0,.slice la n lc),(2,pt (σ1 0) 0),(14,.slice la n lc),(15,iv (n:Int)),(16,iv 0)] [true] [⟨(σ1 0),.cells YA 33,.l,false⟩] (fun k g' w' e L=>∃ j:Nat,k=n-j/\j<=n/\e=[(0,.slice la n lc),(2,pt (σ1 0) 0),(14,.slice la n lc),(15,iv (n:Int)),(16,iv (j:Int))]/\L=[⟨(σ1 0),.cells YA 33,.l,false⟩]/\Cg w.heap.size TR gS w g' w') (by kernel_rfl) (by kernel_rfl) (by kernel_rfl) (by kernel_rfl) n (fun K=>?_) ?_
 .exact⟨0,rfl,Nat.zero_le _,rfl,rfl,((c1.nil TR).n c3)⟩
 .rintro k gr wr _ zr _ ⟨j,rfl,hj,rfl,rfl,hC⟩ J hJ;refine qR [] 5 [] fun σ4 g4 w4 c4=>?_;by_cases h0:j<n
  .refine qI ((decide ((j:Int)<(n:Int)))) true (decide_eq_true (by omega)) ?_;refine qR [] 5 [] fun σ5 g5 w5 c5=>?_;obtain⟨b,off,xa,xm,xp,hla,hbs,hrg,hsl⟩:=h.spot j h0;refine qV 0 (pt b (off+5*j)) (RN hla (n:=n) (c:=lc) j h0) ?_;refine qV 1 (.agg #[iv (F j).k,iv (F j).n,iv (F j).a,iv (F j).p,.slice xa xm xp]) (bY (x:=F j) (y:=.slice xa xm xp) (fun q u hq=>(((Cg.below (((hC).n c4).n c5) (fun _ _=>LB))).cell (p:=⟨b,off+5*j+q,none⟩) hbs).trans (hrg q u hq))) ?_;refine qR [] 6 [0,0,1,0,1] fun σ7 g7 w7 c7=>?_;have bb8:=(Cg.below ((((hC).n c4).n c5).n c7) (fun _ _=>LB));refine qC 1 (P4 (x:=F j) (y:=⟨xa,xm,xp⟩) (hok j h0) (Ir (x:=⟨xa,xm,xp⟩) hsl) (tw.below bb8) (tb.below bb8)) ?_;rintro e' w8 ⟨rfl,b8⟩;refine⟨_,rfl,b8,?_⟩;have c8:=Cg.ofBelow (B:=w.heap.size) (T:=[]) (g:=g7) b8;refine qR [] 7 [] fun σ9 g9 w9 c9=>?_;refine qR [] 4 [] fun σ11 g11 w11 c11=>?_;refine qV 0 (iv ((j:Int)+1)) (AN (x:=(.tmp 16)) (y:=(.const (iv 1))) (j:Int) 1 underlying3 (by omega)) ?_;refine qR [] 2 [] fun σ12 g12 w12 c12=>?_;exact qB [true,false] fun z K0 K=>hJ (n-(j+1)) _ _ _ z _ (by omega) ⟨j+1,rfl,by omega,rfl,rfl,((((((((hC).n c4).n c5).n c7).n c8).n c9).n c11).n c12)⟩ K
  .refine qI ((decide ((j:Int)<(n:Int)))) false (decide_eq_false (by omega)) ?_;obtain rfl:j=n:=by omega
   refine qR [] 3 [] fun σ13 g13 w13 c13=>?_;refine Ae fun K=>?_;refine qG 0 [.n 70 0] [true] (Kj K.new) ?_;rintro e' w14 ⟨mb,tb',ob,nb,g14,rfl,hM0,c14⟩;refine⟨_,g14,rfl,c14,hM0.new,?_⟩;replace c14:=c14.ret (B:=w.heap.size);refine qR [] 10 [] fun σ15 g15 w15 c15=>?_;refine Br 40 [(2,pt (σ1 0) 0),(7,pt mb 0),(28,.slice la j lc),(29,iv (j:Int)),(30,iv 0)] [true] [⟨(σ1 0),.cells YA 33,.l,false⟩] (fun k g' w' e L=>∃ (i:Nat) (A:Meet),k=j-i/\i<=j/\e=[(2,pt (σ1 0) 0),(7,pt mb 0),(28,.slice la j lc),(29,iv (j:Int)),(30,iv (i:Int))]/\L=[⟨(σ1 0),.cells YA 33,.l,false⟩]/\MS mb tb' ob nb g' w' A/\(L0.drop i).foldl Meet.act A=Cx.acts L0/\MOk i A/\Cg w.heap.size TR gS w g' w') (by kernel_rfl) (by kernel_rfl) (by kernel_rfl) (by kernel_rfl) j (fun K=>?_) ?_
   .exact⟨0,Cx,rfl,Nat.zero_le _,rfl,rfl,(hM0.ch0 c15 K.new),rfl,MOk.zero,(((((hC).n c4).n c13).trans (c14.mono (by simp[TR]))).n c15)⟩
   .rintro k gq wq _ zq _ ⟨i,A,rfl,hi,rfl,rfl,hM,hI2,hA,hC2⟩ J2 hJ2;refine qR [] 5 [] fun σ16 g16 w16 c16=>?_;by_cases h3:i<j
    .refine qI ((decide ((i:Int)<(j:Int)))) true (decide_eq_true (by omega)) ?_;rw[<- hL0,X0 h3,hL0,List.foldl_cons]at hI2
     have hlk:LacOk (F i):=hok i h3;refine qR [] 5 [] fun σ17 g17 w17 c17=>?_;obtain⟨b,off,xa,xm,xp,hla,hbs,hrg,hsl⟩:=h.spot i h3;refine qV 0 (pt b (off+5*i)) (RN hla (n:=j) (c:=lc) i h3) ?_;refine qV 1 (.agg #[iv (F i).k,iv (F i).n,iv (F i).a,iv (F i).p,.slice xa xm xp]) (bY (x:=F i) (y:=.slice xa xm xp) (fun q u hq=>(((Cg.below (((hC2).n c16).n c17) (fun _ _=>LB))).cell (p:=⟨b,off+5*i+q,none⟩) hbs).trans (hrg q u hq))) ?_;refine qR [] 6 [0,0,1,0,1] fun σ19 g19 w19 c19=>?_;refine Ae fun K=>?_;have NM:MS mb tb' ob nb g19 w19 A:=(hM.ch0 ((c16.trans c17).trans c19) K.new);have bbl:=(Cg.below ((((hC2).n c16).n c17).n c19) (fun _ _=>LB));refine qG 2 TM [true,true] (aT NM ((Base.self w).ch ((((hC2).n c16).n c17).n c19) dp) hT (F i) ⟨xa,xm,xp⟩ (hsl.below bbl) hlk hA (by omega)) ?_;rintro e' w20 ⟨g20,rfl,M20,c20⟩;refine⟨_,g20,rfl,c20,M20.new,?_⟩;replace c20:=c20.ret (B:=w.heap.size);refine qR [] 3 [] fun σ21 g21 w21 c21=>?_;refine qV 0 (iv ((i:Int)+1)) (AN (x:=(.tmp 30)) (y:=(.const (iv 1))) (i:Int) 1 underlying3 (by omega)) ?_;refine qR [] 2 [] fun σ22 g22 w22 c22=>?_;exact qB [true,false] fun z K0 K=>hJ2 (j-(i+1)) _ _ _ z _ (by omega) ⟨i+1,A.act (F i),rfl,by omega,rfl,rfl,(M20.ch0 (c21.trans c22) K0.new),hI2,hA.act (by omega) hlk,(((((((hC2).n c16).n c17).n c19).trans (c20.mono dk)).n c21).n c22)⟩ K
    .refine qI ((decide ((i:Int)<(j:Int)))) false (decide_eq_false (by omega)) ?_;obtain rfl:i=j:=by omega
     rw[List.drop_eq_nil_of_le (by omega)]at hI2
     replace hI2:A=Cx.acts L0:=hI2;subst hI2;refine qR [] 4 [] fun σ23 g23 w23 c23=>?_;refine Ae fun K=>?_;have NM:MS mb tb' ob nb g23 w23 (Cx.acts L0):=(hM.ch0 (c16.trans c23) K.new);have hwt:=hA.wt;have htl:=hA.told;have hGo:∀ b,w23.heap.size<=b->g23.t b=.z:=fun b hb=>(K.new b hb).1;have bb24:=(Cg.below (((hC2).n c16).n c23) (fun _ _=>LB));refine qC 1 (O6 NM (fun q hq=>⟨(hA.node q hq).dn,(hA.node q hq).ag⟩) (by omega) (by omega)) ?_;rintro e' w24 ⟨ly,tv,ys,rfl,hOW,hON,b24⟩;refine⟨_,rfl,b24,?_⟩;have c24:=Cg.ofBelow (B:=w.heap.size) (T:=[]) (g:=g23) b24;refine qR [] 3 [0,0] fun σ25 g25 w25 c25=>?_;exact qE2 2 3 33 0 (σ1 0) (Ij (Cx.acts L0) ly tv) (iv 0) fun K=>⟨(Cg.below (((((hC2).n c16).n c23).n c24).n c25) (fun _ _=>LB)),ly,tv,ys,rfl,(hOW.ch hON hGo c25),hON.mono bb24.size⟩
theorem tbA{w0 w:World}{g:Gh}(h:Tabs w0)(C:Cg w0.heap.size TQ gS w0 g w):Tabs w:=⟨h.t.below (CgQ.below C),h.n.below (CgQ.below C),h.q.below h.q.pos (CgQ.below C)⟩
def So(w:World):Prop:=Tabs w/\LWTab w/\LBTab w
theorem tb5{w0 w:World}{g:Gh}(h:So w0)(C:Cg w0.heap.size TQ gS w0 g w):So w:=⟨tbA h.1 C,h.2.1.below (CgQ.below C),h.2.2.below (CgQ.below C)⟩
theorem MH{g:Gh}{w:World}{B:Nat}{y:S3}{l:List Int}(h:Sl w y.v l)(n:Nb B y l)(G:∀ b,B<=b->g.t b=.z):FSl g w y l:=⟨h,fun hl a ha=>G _ (n hl a ha)⟩
structure OwN(B:Nat)(w:World)(e:TypeId)(sz:Nat)(x:S3)(xs:List Value):Prop where
 len:xs.length=x.n*sz
 ex:(x.a=none/\x.n=0/\x.c=0)\/∃ b cur,B<=b/\x.a=some ⟨b,0,none⟩/\w.heap[b]?=some (.cells cur e (0,0))/\x.n<=x.c/\x.c<=maxLen/\cur.size=x.c*sz/\cur.toList.take (x.n*sz)=xs
theorem OwnS.own{w0 w:World}{g:Gh}{r:Nat}{kp:Bool}{e:TypeId}{sz:Nat}{x:S3}{xs:List Value}(h:OwnS g w (.n 60 r) kp e sz x xs)(C:Cg w0.heap.size TQ gS w0 g w):OwN w0.heap.size w e sz x xs:=by
 refine⟨h.len,h.ex.imp id fun⟨b,cur,h1,h2,h3,h4,h5,h6,h7,h8⟩=>⟨b,cur,?_,h1,h2,h3,h4,h5,h6⟩⟩;refine Nat.le_of_not_lt fun hb=>?_;have:=C.tag hb (fun _=>hb);rw[h7]at this
 cases this
theorem OwN.rv{B:Nat}{w:World}{e:TypeId}{sz:Nat}{x:S3}{xs:List Value}(h:OwN B w e sz x xs):RdV w x sz xs:=by
 rcases h.ex with⟨h1,h2,h3⟩|⟨b,cur,h0,h1,h2,h3,h4,h5,h6⟩
 .exact⟨h.len,by omega,fun _=>h3,.inl h2⟩
 .refine⟨h.len,h3,fun h=>(by rw[h1]at h;cases h),.inr ⟨b,0,h1,rl h2,fun j u hj=>?_⟩⟩;rw[Nat.zero_add,cell_of_row _ _ _ _ _ _ h2];rw[<- h6,List.getElem?_take]at hj
  split at hj
  .simpa using hj
  .cases hj
theorem OwN.fz{B:Nat}{g:Gh}{w:World}{e:TypeId}{sz:Nat}{x:S3}{xs:List Value}(h:OwN B w e sz x xs)(G:∀ b,B<=b->g.t b=.z):FzV g w x sz xs :=
 ⟨h.rv,fun _ a ha=>by
  rcases h.ex with⟨h1,h2,h3⟩|⟨b,cur,h0,h1,_⟩
  .rw[h1]at ha;cases ha
  .rw[h1]at ha;cases ha;exact G _ h0⟩
theorem RdV.fz{w:World}{x:S3}{sz:Nat}{xs:List Value}(h:RdV w x sz xs):FzV gS w x sz xs:=⟨h,fun _ _ _=>rfl⟩
theorem RdV.spot{w:World}{x:S3}{sz:Nat}{xs:List Value}(h:RdV w x sz xs){i:Nat}(hi:i<x.n):∃ b off,x.a=some ⟨b,off,none⟩/\b<w.heap.size/\∀ j u,xs[sz*i+j]?=some u->w.cell? ⟨b,off+sz*i+j,none⟩=some u:=by
 rcases h.ex with h1|⟨b,off,h1,h2,h3⟩
 .omega
 .exact⟨b,off,h1,h2,fun j u hj=>by rw[Nat.add_assoc];exact h3 _ u hj⟩
theorem Ju{α:Type}{f:α->List Value}{sz:Nat}(hf:∀ a,(f a).length=sz)(l:List α){i j:Nat}{a:α}{u:Value}(ha:l[i]?=some a)(hu:(f a)[j]?=some u):(l.flatMap f)[sz*i+j]?=some u:=by
 have hj:j<sz:=by rw[<- hf a];exact(List.getElem?_eq_some_iff.1 hu).1
 induction l generalizing i with
 | nil=>cases ha
 | cons c l ih =>
  rw[List.flatMap_cons];cases i with
  | zero =>
   simp only[List.getElem?_cons_zero,Option.some.injEq]at ha;subst ha;rw[List.getElem?_append_left (by rw[hf];omega),Nat.mul_zero,Nat.zero_add];exact hu
  | succ i =>
   rw[List.getElem?_append_right (by rw[hf,Nat.mul_succ];omega),hf,show sz*(i+1)+j-sz=sz*i+j by rw[Nat.mul_succ];omega];exact ih (by simpa using ha)
theorem Ed{α:Type}{f:α->List Value}{sz:Nat}(hf:∀ a,(f a).length=sz)(l:List α):(l.flatMap f).length=l.length*sz:=by
 induction l with
 | nil=>simp
 | cons c l ih=>rw[List.flatMap_cons,List.length_append,hf,ih,List.length_cons,Nat.add_mul];omega
theorem dE{w:World}{x:S3}{l:List Cmd}(h:RdV w x 5 (cmL l)):x.n=l.length:=h.rc.len
def grV(g:Gr):List Value:=[iv g.k,iv g.a,iv g.b,iv g.c,iv g.d]
def grL(l:List Gr):List Value:=l.flatMap grV
structure GrOk(g:Gr):Prop where
 k:I64 g.k
 a:I64 g.a
 b:I64 g.b
 c:I64 g.c
 d:I64 g.d
theorem fA{W:World}{b k:Nat}(g:Gr)(h:∀ j u,(grV g)[j]?=some u->W.cell? ⟨b,k+j,none⟩=some u):(Instr.loadAt 42 (pt b k)).run prog W=.ok (.agg #[iv g.k,iv g.a,iv g.b,iv g.c,iv g.d]) W:=by
 have h1:=run_loadVar_mid (P:=prog) W b k 42 (grV g) _ h underlying42 rfl (by kernel_rfl);simp only[Instr.loadAt,Instr.sureAddr,Sem.run_bind,Sem.run_pure,Result.andThen_ok];exact h1
theorem ej{W:World}{x:S3}{b off:Nat}(ha:x.a=some ⟨b,off,none⟩)(j:Nat)(hj:j<x.n):(Instr.indexAt 22 x.v (iv (j:Int))).run prog W=.ok (pt b (off+5*j)) W:=by
 obtain⟨xa,xn,xc⟩:=x;simp only at ha hj;subst ha;exact OG (P:=prog) (e:=42) (z:=5) underlying22 (by kernel_rfl) (by kernel_rfl) hj _ rfl
def acV(l:List (Lac × S3)):List Value:=l.flatMap fun p=>laV p.1 p.2.v
theorem Dm(l:List (Lac × S3))(x:Lac)(y:S3):acV (l++[(x,y)])=acV l++laV x y.v:=by simp[acV]
theorem Rl(l:List (Lac × S3)):(acV l).length=l.length*5:=Ed (f:=fun p:Lac × S3=>laV p.1 p.2.v) (fun _=>rfl) l
theorem Xz(l:List (Lac × S3)):∀ u∈acV l,u.oneCell'=true:=by
 intro u hu;obtain⟨p,_,hp⟩:=List.mem_flatMap.1 hu;simp[laV]at hp
 rcases hp with rfl|rfl|rfl|rfl|rfl<;>rfl
def Dat(g:Gh)(w:World)(l:List (Lac × S3)):Prop:=∀ p∈l,FSl g w p.2 p.1.d
theorem Dat.ch{B:Nat}{T:List Tg}{g g':Gh}{w w':World}{l:List (Lac × S3)}(h:Dat g w l)(c:Cg B T g w g' w')(hz:Tg.z∉T:=by simp):Dat g' w' l:=fun p hp=>(h p hp).ch c hz
theorem Dat.snoc{g:Gh}{w:World}{l:List (Lac × S3)}(h:Dat g w l){x:Lac}{y:S3}(k:FSl g w y x.d):Dat g w (l++[(x,y)]):=fun p hp=>(List.mem_append.1 hp).elim (h p) fun e=>by rw[List.mem_singleton.1 e];exact k
theorem Dat.app{g:Gh}{w:World}{l m:List (Lac × S3)}(h:Dat g w l)(k:Dat g w m):Dat g w (l++m):=fun p hp=>(List.mem_append.1 hp).elim (h p) (k p)
theorem Vh(g:Gh)(w:World):FSl g w s30 []:=⟨⟨⟨none,0,rfl,Nat.le_refl _,fun _=>rfl,.inl rfl⟩,by simp,by simp⟩,fun h=>absurd rfl h⟩
def Fa.ac(x:S3)(l:List (Lac × S3)):Fa:=⟨none,fun g w=>FzV g w x 5 (acV l)/\Dat g w l,fun hz _ c h=>⟨h.1.ch c hz,h.2.ch c hz⟩⟩
def Fa.oa(r:Nat)(x:S3)(l:List (Lac × S3)):Fa:=⟨some r,fun g w=>OwnS g w (.n 60 r) true 27 5 x (acV l)/\Dat g w l,fun hz hr c h=>⟨h.1.ch c (hr r rfl) (by simp),h.2.ch c hz⟩⟩
def Fa.dt(l:List (Lac × S3)):Fa:=⟨none,fun g w=>Dat g w l,fun hz _ c h=>h.ch c hz⟩
structure AcR(w:World)(x:S3)(L:List Lac)(l:List (Lac × S3)):Prop where
 e:l.map (·.1)=L
 r:RdV w x 5 (acV l)
 d:∀ p∈l,Sl w p.2.v p.1.d
theorem AcR.of{g:Gh}{w:World}{x:S3}{l:List (Lac × S3)}(h:(Fa.ac x l).p g w){L:List Lac}(e:l.map (·.1)=L):AcR w x L l:=⟨e,h.1.rd,fun p hp=>(h.2 p hp).s⟩
theorem AcR.oo{g:Gh}{w:World}{r:Nat}{x:S3}{l:List (Lac × S3)}(h:(Fa.oa r x l).p g w){L:List Lac}(e:l.map (·.1)=L):AcR w x L l:=⟨e,h.1.rv,fun p hp=>(h.2 p hp).s⟩
theorem AcR.below{w w':World}{x:S3}{L:List Lac}{l:List (Lac × S3)}(h:AcR w x L l)(b:Bw w w'):AcR w' x L l:=⟨h.e,h.r.below b,fun p hp=>(h.d p hp).below b⟩
theorem AcR.n{w:World}{x:S3}{L:List Lac}{l:List (Lac × S3)}(h:AcR w x L l):x.n=L.length:=by
 have:=h.r.len;rw[Rl]at this
 rw[<- h.e,List.length_map];omega
theorem AcR.sk{w:World}{x:S3}{L:List Lac}{l:List (Lac × S3)}(h:AcR w x L l)(hl:L.length<=1000000):Sk w x.v (laF L) L.length:=by
 have hn:=h.n;refine⟨⟨x.a,x.c,by rw[<- hn],?_⟩,by omega⟩;rcases h.r.ex with h1|⟨b,off,h1,h2,h3⟩
 .exact .inl (by omega)
 .refine .inr ⟨b,off,h1,h2,fun i hi=>?_⟩;have hil:i<l.length:=by rw[<- h.e,List.length_map]at hi;exact hi
  refine⟨l[i].2.v,fun j u hj=>?_,?_⟩
  .rw[Nat.add_assoc];refine h3 _ u (Ju (f:=fun p:Lac × S3=>laV p.1 p.2.v) (fun _=>rfl) l (List.getElem?_eq_getElem hil) ?_);have:laF L i=l[i].1:=by rw[MC hi];simp[<- h.e]
   rw[this]at hj;exact hj
  .have:laF L i=l[i].1:=by rw[MC hi];simp[<- h.e]
   rw[this];exact h.d _ (List.getElem_mem hil)
structure AcN(B:Nat)(w:World)(x:S3)(l:List (Lac × S3)):Prop where
 o:OwN B w 27 5 x (acV l)
 d:∀ p∈l,Sl w p.2.v p.1.d/\Nb B p.2 p.1.d
 ne:∀ p∈l,p.1.d≠[]->∀ a b,p.2.a=some a->x.a=some b->a.block≠b.block
theorem AcN.ac{B:Nat}{g:Gh}{w:World}{x:S3}{l:List (Lac × S3)}(h:AcN B w x l)(G:∀ b,B<=b->g.t b=.z):(Fa.ac x l).p g w:=⟨h.o.fz G,fun p hp=>MH (h.d p hp).1 (h.d p hp).2 G⟩
theorem AcN.of{w0 w:World}{g:Gh}{r:Nat}{x:S3}{l:List (Lac × S3)}(h:(Fa.oa r x l).p g w)(C:Cg w0.heap.size TQ gS w0 g w)(hn:∀ p∈l,Nb w0.heap.size p.2 p.1.d):AcN w0.heap.size w x l :=
 ⟨h.1.own C,fun p hp=>⟨(h.2 p hp).s,hn p hp⟩,fun p hp hd a b ha hb e=>by
  have h1:=(h.2 p hp).z hd a ha;rcases h.1.ex with⟨k1,_⟩|⟨c,cur,k1,_,_,_,_,_,k7,_⟩
  .rw[k1]at hb;cases hb
  .rw[k1]at hb;cases hb
   rw[e,k7]at h1;cases h1⟩
theorem Ul(L:List Lac):Hw (laF L) L.length=L:=by
 apply List.ext_getElem
 .simp[Hw]
 .intro i h1 h2;simp[Hw,MC h2]
def Meet.log(M:Meet)(j:Nat):List Cmd:=(M.node j).agreed.take (M.node j).done
structure OutF(g:Gh)(w:World)(ly tv:S3)(ys:Nat->S3)(M:Meet):Prop where
 logs:FzV g w ly 1 [S3.v (ys 0),S3.v (ys 1),S3.v (ys 2),S3.v (ys 3),S3.v (ys 4)]
 log:∀ j,j<5->FzV g w (ys j) 5 (cmL (M.log j))
 told:FzV g w tv 5 (M.told.flatMap EF)
theorem OutF.ch{B:Nat}{T:List Tg}{g g':Gh}{w w':World}{ly tv:S3}{ys:Nat->S3}{M:Meet}(h:OutF g w ly tv ys M)(c:Cg B T g w g' w')(hz:Tg.z∉T:=by simp):OutF g' w' ly tv ys M:=⟨h.logs.ch c hz,fun j hj=>(h.log j hj).ch c hz,h.told.ch c hz⟩
def Fa.ot(ly tv:S3)(ys:Nat->S3)(M:Meet):Fa:=⟨none,fun g w=>OutF g w ly tv ys M,fun hz _ c h=>h.ch c hz⟩
theorem RI{g:Gh}{w:World}{B:Nat}{ly tv:S3}{M:Meet}{ys:Nat->S3}(h:OutW w M ly tv ys)(n:OutN B M ly tv ys)(G:∀ b,B<=b->g.t b=.z):OutF g w ly tv ys M :=
 ⟨⟨h.logs,fun _ a ha=>G _ (n.logs a ha)⟩,fun j hj=>⟨(h.log j hj).rv,fun hv a ha=>G _ (n.log j hj hv a ha)⟩,⟨h.told,fun hv a ha=>G _ (n.told hv a ha)⟩⟩
theorem OutW.n5{w:World}{M:Meet}{ly tv:S3}{ys:Nat->S3}(h:OutW w M ly tv ys):ly.n=5:=by have:=h.logs.len;simp at this;omega
section
variable{P:Program}{fn:Func}{R:Ending->World->Prop}{w0:World}{Φ:List Fa}{g:Gh}{w:World}
theorem bW{P:Program}{W:World}(t ty e:TypeId)(i:TypeInfo)(ht:P.underlying t=some (.slice e))(hi:P.info? e=some i)(y:S3)(hy:y.n=0):(Builtin.append_ #[t,t] ty #[s30.v,y.v]).run P W=.ok s30.v W:=by
 obtain⟨ya,yn,yc⟩:=y;simp only at hy;subst hy;show(Builtin.append_ #[t,t] ty #[.slice none 0 0,.slice ya 0 yc]).run P W=.ok (.slice none 0 0) W;cases ya with
 | none=>simp[Builtin.append_,run_underlying ht,sizeOf,typeInfo,hi,Builtin.lenOf,run_firstCells_none]
 | some a =>
  have hf:=run_firstCells_some (P:=P) W i.size 0 a 0 yc [] (by simp) (by simp);simp[Builtin.append_,run_underlying ht,sizeOf,typeInfo,hi,Builtin.lenOf,run_firstCells_none,hf]
theorem eM{s:Xs}(i:Nat)(r:Nat)(y:S3)(news:List Value)(t ty e:TypeId)(sz bytes:Nat)(z:Value)(hy:AllF g w Φ->RdV w y sz news)(Ψ:List Fa)(hΨ:AllF g w Φ->AllF g w Ψ)(hro:Ψ.all (fun f=>f.ro != some r)=true)(hrT:Tg.n 60 r∈TQ)
  (h1:∀ u∈news,u.oneCell'=true)(h63:y.n<=maxLen)(hbytes:y.n*bytes<=140737488355328)
  (hk:∀ x' g' w',x'.n=y.n->GT P fn R w0 (Fa.ow r e sz x' news::Ψ) (nxt s i (S3.v x') s.L).s g' w')(hsz:0<sz:=by decide)
  (ht:P.underlying t=some (.slice e):=by kernel_rfl)(hinfo:(P.info? e).map (fun i=>(i.zero,i.size,i.bytes))=some (some z,sz,bytes):=by kernel_rfl)(hzs:Nat.beq z.cells.size sz=true:=by kernel_rfl)
  (hsem:CK s i=some (Builtin.append_ #[t,t] ty #[s30.v,y.v]>>=fun v=>pure (.value v)):=by kernel_rfl)(hob:(nxt s i undef s.L).o.map Ob.l'=(nxt s i undef s.L).o.map Ob.r':=by kernel_rfl)(hT:s.L.all (fun y=>[Tg.n 60 r].all fun t=>y.t.ne t)=true:=by kernel_rfl):GT P fn R w0 Φ s g w:=by
 refine tF fun F C=>?_;have hR:=hy F;by_cases h0:y.n=0
 .obtain⟨inf,hi⟩:∃ inf,P.info? e=some inf:=by cases hh:P.info? e with|none=>rw[hh]at hinfo;cases hinfo|some j=>exact⟨j,rfl⟩
  obtain rfl:news=[]:=List.eq_nil_of_length_eq_zero (by rw[hR.len,h0,Nat.zero_mul]);refine tV i s30.v (fun _ _=>bW t ty e inf ht hi y h0) ?_ hsem hob;exact tCv (Fa.ow r e sz s30 []::Ψ) (fun F=>⟨OwnS.nil _ _ _ _ _ _,hΨ F⟩) (hk s30 g w h0.symm)
 .obtain⟨b,off,ha,_,_⟩:=hR.spot (i:=0) (by omega);obtain⟨ya,m,c⟩:=y;simp only at ha h0 h63 hbytes hk hsem hR;subst ha;refine Na i r (x:=s30) (xs:=[]) t ty e sz bytes z ⟨b,off,none⟩ m c news (fun _=>OwnS.nil _ _ _ _ _ _) Ψ hΨ hro hrT hR.len h1 (fun F _ j u hj=>?_) (by show 0+m<=_;omega) (by show(0+m)*bytes<=_;rw[Nat.zero_add];exact hbytes) (fun x' g' w' hn=>?_) (Nat.pos_of_ne_zero h0) hsz ht hinfo hzs hsem hob hT
  .rcases(hy F).ex with h2|⟨b2,off2,k1,k2,k3⟩
   .exact absurd h2 h0
   .cases k1;have:(⟨b,off,none⟩:Addr).add j=⟨b,off+j,none⟩:=by unfold Addr.add;split<;>simp_all
    rw[this];exact k3 j u hj
  .rw[List.nil_append];exact hk x' g' w' (by rw[hn];show 0+m=m;omega)
end
end Go.Proofs.YtalbmmghmoggcaaGreatDoor
