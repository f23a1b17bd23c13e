/- Part 12 of the walk. -/
import Derived.Test.YtalbmmghmoggcabGreatDoorZ11
import Derived.Test.YtalbmmghmoggcabGreatDoorZ10
set_option maxRecDepth 100000
set_option maxHeartbeats 4000000
open Go.Proofs.Tryz
set_option linter.unusedVariables false
namespace Go.Proofs.YtalbmmghmoggcabGreatDoor
open Go.RowKit
section
variable{b b1 b2 b3 born i k lb n nb ob:Nat}{es:Array MapEntry}{g:Gh}{l:Let}{ls:List Let}{p:Nod}{ts:List Tol}{v:Vt}{w w':World}
theorem LC(h:NS i nb ob g w p ls ts)(slot:Nat)(what:List Cmd)(wh:S3)(hw:Rc g w wh what)(hs:slot<=p.agreed.length)(hb:p.agreed.length<100000000)(hb2:what.length<100000000) :
  Calls prog 82 #[pt nb 0,iv (slot:Int),wh.v] w (NP i nb ob g w (.tuple #[]) (p.learn slot what) ls ts):=by
 obtain⟨x,lt,tl,hN,hO,hg⟩:=h;have hn:=hN.agreed.num;have hm:=hw.len;have hcp:=hw.cap;refine gI (fn:=f82) (TN i) g func82 hg ?_;refine qN hN ?_;refine qO hO ?_;refine qR [] 9 [0] λs1 g1 w1 c1=>?_;refine qV 7 (iv ((x.agreed.n-slot:Nat):Int)) (eb (x:=(.tmp 12)) (y:=(.tmp 13)) x.agreed.n slot underlying3 (by omega) (by omega)) ?_;refine qR [] 9 [] λs2 g2 w2 c2=>?_;by_cases h1:x.agreed.n-slot<wh.n
 .refine qI ((decide (((x.agreed.n-slot:Nat):Int)<(wh.n:Int)))) true (I' (by omega)) ?_;obtain⟨k,hk⟩:∃ k,k=x.agreed.n-slot:=⟨_,rfl⟩;have hkl:k<what.length:=by omega
  obtain⟨bw,ow,hwa⟩:=hw.addr hkl;refine qR [] 9 [13,0,2,4,6,8,10,0,12,14] λs3 g3 w3 c3=>?_;refine qT 8 (.slice (some ⟨bw,ow+5*(x.agreed.n-slot),none⟩) (wh.n-(x.agreed.n-slot)) (wh.c-(x.agreed.n-slot))) (λ_=>(dV hwa (x.agreed.n-slot) (by omega) hcp)) ?_;have C5:=(c1.n c2).n c3;refine IX 9 (x:=x.agreed) 37 37 53 5 40 (.agg #[iv 0,iv 0,iv 0,iv 0,iv 0]) ⟨bw,ow+5*(x.agreed.n-slot),none⟩ (wh.n-(x.agreed.n-slot)) (wh.c-(x.agreed.n-slot)) (cmL (what.drop (x.agreed.n-slot))) (hN.agreed.ch C5) (by kernel_rfl) (by kernel_rfl) (by kernel_rfl) underlying37 (by kernel_rfl) (by kernel_rfl) (by decide) (by omega) (by rw[Bi,fA];omega) (Mn _) (λK=>dC hwa (hw.ch C5) _ (by omega)) (by unfold maxLen;omega) (by omega) ?_;intro y6 g6 w6 a6 n6 cc6 G6;have c6:=cc6 w.heap.size [.n 3 i] (O'.2 rfl);refine qR [.n 0 i] 5 [20,22,24,27,0,1] λs7 g7 w7 c7=>?_;refine qE (.tuple #[]) λK=>?_;have C8:=((((c1.nil ([.n 3 i,.n 0 i]:List Tg)).n c2).n c3).m c6).m c7;have Z8:Tg.z∉([.n 3 i,.n 0 i]:List Tg):=by simp
  exact⟨_,rfl,⟨{ x with agreed:=y6 },lt,tl,K.nd 0 (hN.tape.ch C8 Z8) (hN.votes.ch C8 Z8) (Ba hN.heard C8 Z8) (B0 hN.pend C8 Z8 (by simp)) (hN.queue.ch C8) (by rw[show(p.learn slot what).agreed=p.agreed++what.drop (x.agreed.n-slot)from by unfold Nod.learn;rw[hn],BK];exact a6.ch c7) (hN.wants.ch C8) (hN.asked.ch C8) hN.upm,hO.ch C8 Z8 (by simp<;>omega),K.new⟩,(((((c1.nil (TN i)).n c2).n c3).trans (c6.mono (by simp[TN]))).trans (c7.mono (by simp[TN])))⟩
 .refine qI ((decide (((x.agreed.n-slot:Nat):Int)<(wh.n:Int)))) false (D' (by omega)) ?_;refine qR [] 1 [] λs9 g9 w9 c9=>?_;refine qE (.tuple #[]) λK=>?_;rw[show p.learn slot what=p from by unfold Nod.learn;rw[ga (by omega),fZ]];exact⟨_,rfl,(nsC hN hO ((c1.n c2).n c9) K),(((c1.nil (TN i)).n c2).n c9)⟩
theorem OK(h:NS i nb ob g w p ls ts)(hb:ls.length<90000000){b2 b3:Nat}(h1:Box g w b1 #[pt nb 0] 68) :
  Calls prog 68 #[pt b1 0] w (NP i nb ob g w (.tuple #[]) p (ls++BI i (Ca 6) 5) ts):=by
 obtain⟨x,lt,tl,hN,hO,hg⟩:=h;refine gI (fn:=f68) (TN i) g func68 hg ?_;refine qN hN ?_;refine qO hO ?_;refine BF ⟨b1,.cells #[pt nb 0] 68,.z,false⟩ (λ_=>⟨h1.r,h1.z,λh=>(by cases h),λh=>absurd rfl h⟩) (by kernel_rfl) ?_;refine qR [] 3 [2] λs1 g1 w1 c1=>?_;refine qS 2 [false,false,true] hN hO c1 (λN2=>Dz N2 hb (Ca 6) s30 s30 ⟨Sv.nil _,λh=>absurd rfl h⟩ (Rc.nil _ _)) λg2 w2 x2 lt2 tl2 hN2 hO2 c2=>?_;refine qR [] 1 [] λs4 g4 w4 c4=>?_;exact qF hN2 hO2 c4 (((c1.nil (TN i)).trans (c2)).n c4)
theorem ME{to:Nat}{b:Bal}(h:NS i nb ob g w p ls ts)(hb:ls.length<90000000)(h1:Box g w b1 #[pt nb 0] 68)(h2:Box g w b2 #[iv (to:Int)] 3)(h3:Box g w b3 #[iv b.r,iv b.n] 73)  :
  Calls prog 119 #[pt b1 0,pt b2 0,pt b3 0] w (NP i nb ob g w (.tuple #[]) p (ls++[{ Ca 2 with bal:=b,src:=i,dst:=to }]) ts):=by
 obtain⟨x,lt,tl,hN,hO,hg⟩:=h;refine gI (fn:=f119) (TN i) g func119 hg ?_;refine qN hN ?_;refine qO hO ?_;refine BF ⟨b1,.cells #[pt nb 0] 68,.z,false⟩ (λ_=>⟨h1.r,h1.z,λh=>(by cases h),λh=>absurd rfl h⟩) (by kernel_rfl) ?_;refine BF ⟨b2,.cells #[iv (to:Int)] 3,.z,false⟩ (λ_=>⟨h2.r,h2.z,λh=>(by cases h),λh=>absurd rfl h⟩) (by kernel_rfl) ?_;refine BF ⟨b3,.cells #[iv b.r,iv b.n] 73,.z,false⟩ (λ_=>⟨h3.r,h3.z,λh=>(by cases h),λh=>absurd rfl h⟩) (by kernel_rfl) ?_;refine qR [] 5 [2,3,4] λs1 g1 w1 c1=>?_;refine qS 4 [false,false,true,true,true] hN hO c1 (λN2=>EA N2 (by omega) { Ca 2 with bal:=b } s30 s30 ⟨Sv.nil _,λh=>absurd rfl h⟩ (Rc.nil _ _) to) λg2 w2 x2 lt2 tl2 hN2 hO2 c2=>?_;refine qR [] 1 [] λs4 g4 w4 c4=>?_;exact qF hN2 hO2 c4 (((c1.nil (TN i)).trans (c2)).n c4)
theorem Gw(h:NS i nb ob g w p ls ts)(hb:ls.length<90000000){b3:Nat}(h1:Box g w b1 #[pt nb 0] 68)(h2:Box g w b2 #[pt lb 0] 141)(hl:BW g w lb l) :
  Calls prog 86 #[pt b1 0,pt b2 0] w (NP i nb ob g w (.tuple #[]) p (ls++[{ Ca 4 with vote:=l.vote,src:=i,dst:=l.src }]) ts):=by
 obtain⟨x,lt,tl,hN,hO,hg⟩:=h;refine gI (fn:=f86) (TN i) g func86 hg ?_;refine qN hN ?_;refine qO hO ?_;refine BF ⟨b1,.cells #[pt nb 0] 68,.z,false⟩ (λ_=>⟨h1.r,h1.z,λh=>(by cases h),λh=>absurd rfl h⟩) (by kernel_rfl) ?_;refine BF ⟨b2,.cells #[pt lb 0] 141,.z,false⟩ (λ_=>⟨h2.r,h2.z,λh=>(by cases h),λh=>absurd rfl h⟩) (by kernel_rfl) ?_;obtain⟨vs,wh,hl1,hl2,hl3⟩:=hl;refine BF ⟨lb,.cells (Ev l vs wh) 140,.z,false⟩ (λ_=>⟨hl1.r,hl1.z,λh=>(by cases h),λh=>absurd rfl h⟩) (by kernel_rfl) ?_;refine qR [] 11 [10,0,2,2,3,4,6,8,4,10,3,12,14,16,4,18] λs1 g1 w1 c1=>?_;refine qS 10 [false,false,true,true,true] hN hO c1 (λN2=>EA N2 (by omega) { Ca 4 with vote:=l.vote } s30 s30 ⟨Sv.nil _,λh=>absurd rfl h⟩ (Rc.nil _ _) l.src) λg2 w2 x2 lt2 tl2 hN2 hO2 c2=>?_;refine qR [] 1 [] λs4 g4 w4 c4=>?_;exact qF hN2 hO2 c4 (((c1.nil (TN i)).trans (c2)).n c4)
theorem K9(h:NS i nb ob g w p ls ts)(hb:ls.length<90000000){b3:Nat}(h1:Box g w b1 #[pt nb 0] 68)(h2:Box g w b2 #[pt lb 0] 141)(hl:BW g w lb l) :
  Calls prog 88 #[pt b1 0,pt b2 0] w (NP i nb ob g w (.tuple #[]) p (ls++[{ Ca 6 with slot:=p.agreed.length,src:=i,dst:=l.src }]) ts):=by
 obtain⟨x,lt,tl,hN,hO,hg⟩:=h;refine gI (fn:=f88) (TN i) g func88 hg ?_;refine qN hN ?_;refine qO hO ?_;refine BF ⟨b1,.cells #[pt nb 0] 68,.z,false⟩ (λ_=>⟨h1.r,h1.z,λh=>(by cases h),λh=>absurd rfl h⟩) (by kernel_rfl) ?_;refine BF ⟨b2,.cells #[pt lb 0] 141,.z,false⟩ (λ_=>⟨h2.r,h2.z,λh=>(by cases h),λh=>absurd rfl h⟩) (by kernel_rfl) ?_;obtain⟨vs,wh,hl1,hl2,hl3⟩:=hl;refine BF ⟨lb,.cells (Ev l vs wh) 140,.z,false⟩ (λ_=>⟨hl1.r,hl1.z,λh=>(by cases h),λh=>absurd rfl h⟩) (by kernel_rfl) ?_;have hn:=hN.agreed.num;refine qR [] 13 [12,0,2,2,3,4,6,8,4,10,2,12,14,16,18,0,20,22] λs1 g1 w1 c1=>?_;refine qS 12 [false,false,true,true,true] hN hO c1 (λN2=>(show{ Ca 6 with slot:=x.agreed.n,src:=i,dst:=l.src }=({ Ca 6 with slot:=p.agreed.length,src:=i,dst:=l.src }:Let)from by rw[hn])▸EA N2 (by omega) { Ca 6 with slot:=x.agreed.n } s30 s30 ⟨Sv.nil _,λh=>absurd rfl h⟩ (Rc.nil _ _) l.src) λg2 w2 x2 lt2 tl2 hN2 hO2 c2=>?_;refine qR [] 1 [] λs4 g4 w4 c4=>?_;exact qF hN2 hO2 c4 (((c1.nil (TN i)).trans (c2)).n c4)
theorem Io(h:NS i nb ob g w p ls ts)(hb:ls.length<90000000){b3:Nat}(h1:Box g w b1 #[pt nb 0] 68)(h2:Box g w b2 #[pt lb 0] 141)(hl:BW g w lb l)(hs:l.slot<=p.agreed.length) :
  Calls prog 90 #[pt b1 0,pt b2 0] w (NP i nb ob g w (.tuple #[]) p (ls++[{ Ca 5 with src:=i,dst:=l.src,slot:=l.slot,what:=p.agreed.drop l.slot }]) ts):=by
 obtain⟨x,lt,tl,hN,hO,hg⟩:=h;refine gI (fn:=f90) (TN i) g func90 hg ?_;refine qN hN ?_;refine qO hO ?_;refine BF ⟨b1,.cells #[pt nb 0] 68,.z,false⟩ (λ_=>⟨h1.r,h1.z,λh=>(by cases h),λh=>absurd rfl h⟩) (by kernel_rfl) ?_;refine BF ⟨b2,.cells #[pt lb 0] 141,.z,false⟩ (λ_=>⟨h2.r,h2.z,λh=>(by cases h),λh=>absurd rfl h⟩) (by kernel_rfl) ?_;obtain⟨vs,wh,hl1,hl2,hl3⟩:=hl;refine BF ⟨lb,.cells (Ev l vs wh) 140,.z,false⟩ (λ_=>⟨hl1.r,hl1.z,λh=>(by cases h),λh=>absurd rfl h⟩) (by kernel_rfl) ?_;refine qR [] 10 [9,0,2,2,3,4,6,8,4,10,3,12,14,16,4] λs1 g1 w1 c1=>?_;refine qS 9 [false,false,true,true,true] hN hO c1 (λN2=>Hi N2 (by omega) l.src l.slot hs) λg2 w2 x2 lt2 tl2 hN2 hO2 c2=>?_;refine qR [] 1 [] λs4 g4 w4 c4=>?_;exact qF hN2 hO2 c4 (((c1.nil (TN i)).trans (c2)).n c4)
theorem FK{x3:S3}{vs0:List Vt}(h:NS i nb ob g w p ls ts)(hb:ls.length<90000000)(h1:Box g w b1 #[pt nb 0] 68)(h2:Box g w b2 #[pt lb 0] 141)(h3:Box g w b3 #[S3.v x3] 74)(hl:BW g w lb l)(hv:FSv g w x3 vs0) :
  Calls prog 80 #[pt b1 0,pt b2 0,pt b3 0] w (NP i nb ob g w (.tuple #[]) p (ls++[{ Ca 1 with bal:=l.bal,votes:=vs0,what:=p.agreed,src:=i,dst:=l.src }]) ts):=by
 obtain⟨x,lt,tl,hN,hO,hg⟩:=h;refine gI (fn:=f80) (TN i) g func80 hg ?_;refine qN hN ?_;refine qO hO ?_;refine BF ⟨b1,.cells #[pt nb 0] 68,.z,false⟩ (λ_=>⟨h1.r,h1.z,λh=>(by cases h),λh=>absurd rfl h⟩) (by kernel_rfl) ?_;refine BF ⟨b2,.cells #[pt lb 0] 141,.z,false⟩ (λ_=>⟨h2.r,h2.z,λh=>(by cases h),λh=>absurd rfl h⟩) (by kernel_rfl) ?_;refine BF ⟨b3,.cells #[S3.v x3] 74,.z,false⟩ (λ_=>⟨h3.r,h3.z,λh=>(by cases h),λh=>absurd rfl h⟩) (by kernel_rfl) ?_;obtain⟨vs,wh,hl1,hl2,hl3⟩:=hl;refine BF ⟨lb,.cells (Ev l vs wh) 140,.z,false⟩ (λ_=>⟨hl1.r,hl1.z,λh=>(by cases h),λh=>absurd rfl h⟩) (by kernel_rfl) ?_;refine qR [] 17 [16,0,2,2,3,4,6,8,5,10,3,12,14,16,5,18,4,20,2,22,24,26,28,0,30] λs1 g1 w1 c1=>?_;refine Ae λK=>?_;have C3:=c1;have N2:NS i nb ob g1 w1 p ls ts:=(nsC hN hO C3 K);refine qS0 16 [false,false,true,true,true,true] (EA N2 (by omega) { Ca 1 with bal:=l.bal,votes:=vs0,what:=p.agreed } x3 x.agreed (hv.ch C3) (hN.agreed.rc.ch C3) l.src) λg2 w2 x2 lt2 tl2 hN2 hO2 c2=>?_;refine qR [] 1 [] λs4 g4 w4 c4=>?_;exact qF hN2 hO2 c4 (((c1.nil (TN i)).trans (c2)).n c4)
theorem JV{a:Acc}{l:List Vt}:FQ a (v::l)=FQ (if AX a v=0 then⟨BX a v,Dc a v⟩else a) l:=rfl
theorem Rj{l:List Vt}{j:Nat}(h:l[j]?=some v):l.drop j=v::l.drop (j+1):=by
 obtain⟨h1,h2⟩:=P'.1 h;rw[<- h2];exact gf h1
theorem NQ(h:NS i nb ob g w p ls ts){w0:World}(hB:Base w0 g w)(hT:Tabs w0)(j:Nat)(hj:j<5)(vs:List Vt)(y:S3)(hy:FSv g w y vs)(hb:(p.rnd.heard j).vs.length<100000000) :
  Calls prog 56 #[pt nb 11,iv (j:Int),y.v] w (NP i nb ob g w (.tuple #[]) { p with rnd:=p.rnd.hear j vs } ls ts):=by
 obtain⟨x,lt,tl,hN,hO,hg⟩:=h;refine gI (fn:=f56) (TN i) g func56 hg ?_;refine qN hN ?_;refine qO hO ?_;refine qR [] 18 [0,1,0,2,0] λs1 g1 w1 c1=>?_;refine BG 50 (λg' w' e L=>e=[(0,pt nb 11),(1,iv (j:Int)),(6,pt (s1 0) 0),(23,S3.v (x.hv j)),(24,iv ((x.hv j).n:Int)),(25,iv 0)]/\L=[⟨nb,.cells (Ax i ob p x) 95,.n 0 i,false⟩,⟨ob,.cells #[S3.v lt,S3.v tl] 65,.n 50 0,false⟩,⟨(s1 0),.cells #[iv p.rnd.bal.r,iv p.rnd.bal.n,S3.v y] 76,.l,false⟩]/\True/\Cg w.heap.size ([]:List Tg) g1 w1 g' w') (by kernel_rfl) ?_ ?_
 .intro J hJ;rcases five hj with rfl|rfl|rfl|rfl|rfl <;>
  (refine qR [] 6 [0] λs3 g3 w3 c3=>?_;exact qB [true,true,true] λz K0 K=>hJ _ _ _ z _ ⟨rfl,rfl,trivial,(c3.nil ([]:List Tg))⟩ K)
 rintro g2 w2 _ z2 _ ⟨rfl,rfl,_,c2⟩;have hH:=hN.heard j hj;have hn:(x.hv j).n=(p.rnd.heard j).vs.length:=by obtain⟨a,cap,hh⟩:=hH.s.shape;simp only[Value.slice.injEq]at hh;exact hh.2.1
 obtain⟨l,hl⟩:∃ l,l=(p.rnd.heard j).vs:=⟨_,rfl⟩;rw[<- hl]at hH hn hb
 refine qR [] 1 [] λs4 g4 w4 c4=>?_;refine Br 50 [(0,pt nb 11),(1,iv (j:Int)),(6,pt (s1 0) 0),(23,S3.v (x.hv j)),(24,iv ((x.hv j).n:Int)),(25,iv 0)] [true,true,true] [⟨nb,.cells (Ax i ob p x) 95,.n 0 i,false⟩,⟨ob,.cells #[S3.v lt,S3.v tl] 65,.n 50 0,false⟩,⟨(s1 0),.cells #[iv p.rnd.bal.r,iv p.rnd.bal.n,S3.v y] 76,.l,false⟩] (λk g' w' e L=>∃ (k0:Nat) (a:Acc) (ya:S3),k=l.length-k0/\k0<=l.length/\e=[(0,pt nb 11),(1,iv (j:Int)),(6,pt (s1 0) 0),(23,S3.v (x.hv j)),(24,iv ((x.hv j).n:Int)),(25,iv (k0:Int))]/\L=[⟨nb,.cells (Ax i ob p x) 95,.n 0 i,false⟩,⟨ob,.cells #[S3.v lt,S3.v tl] 65,.n 50 0,false⟩,⟨(s1 0),.cells #[iv a.p.r,iv a.p.n,S3.v ya] 76,.l,false⟩]/\FQ a (l.drop k0)=FQ ⟨p.rnd.bal,vs⟩ l/\FSv g' w' ya a.vs/\Cg w.heap.size [] g w g' w') (by kernel_rfl) (by kernel_rfl) (by kernel_rfl) (by kernel_rfl) l.length (λK=>?_) ?_
 .exact⟨0,⟨p.rnd.bal,vs⟩,y,rfl,by omega,rfl,rfl,rfl,(((hy.ch c1).ch c2).ch c4),((c1.trans c2).trans c4)⟩
 .rintro k gr wr _ zr _ ⟨k0,a,ya,rfl,hk0,rfl,rfl,hI,hya,hC⟩ J hJ;refine qR [] 5 [] λs5 g5 w5 c5=>?_;by_cases h1:k0<l.length
  .refine qI ((decide ((k0:Int)<((x.hv j).n:Int)))) true (I' (by omega)) ?_;obtain⟨v,hv⟩:∃ v,l[k0]?=some v:=⟨_,E' h1⟩;have hHr:=hH.ch hC;obtain⟨bx,ox,hxa,hbx,hcell⟩:=hHr.s.spot k0 v hv;refine qR [] 5 [] λs6 g6 w6 c6=>?_;refine qV 0 (pt bx (ox+8*k0)) (ZD hxa k0 (by omega)) ?_;have hcr:=((hHr.ch c5).ch c6).s.spot k0 v hv;obtain⟨bx2,ox2,hxa2,hbx2,hcell2⟩:=hcr;rw[hxa]at hxa2
   simp only[U',Addr.mk.injEq,and_true]at hxa2;obtain⟨rfl,rfl⟩:=hxa2;refine qV 1 (.agg #[iv v.slot,iv v.b.r,iv v.b.n,iv v.w.k,iv v.w.c,iv v.w.s,iv v.w.n,iv v.w.v]) (dM v hcell2) ?_;refine qR [] 7 [0,0,3,0,2,3] λs8 g8 w8 c8=>?_;refine Ae λKq9=>?_;have hS9:=((((hya.ch c5).ch c6).ch c8)).s;have hB9:=hB.ch (hC.trans ((c5.trans c6).trans c8)) (by simp);have hG9:∀ z,w8.heap.size<=z->g8.t z=.z:=λz hz=>(Kq9.new z hz).1;refine qC 2 (BJ a.p _ a.vs v w8 hS9 (hB9.tn hT)) ?_;rintro e' w10 ⟨y10,rfl,hy10,hl10,b10⟩;refine⟨_,rfl,b10,?_⟩;have c10:=Cg.ofBelow (B:=w.heap.size) (T:=[]) (g:=g8) b10;obtain⟨ys,rfl,hyn,hys⟩:=De hy10 hG9 (by omega);refine qR [] 12 [0,0,4,0] λs11 g11 w11 c11=>?_;by_cases h2:AX a v=0
   .refine qI (((AX a v)==0)) true (by simpa using h2) ?_;refine qR [] 6 [4,2,0] λs12 g12 w12 c12=>?_;refine qV 0 (iv ((k0:Int)+1)) (AK (x:=(.tmp 25)) (y:=(.const (iv 1))) (k0:Int) 1 underlying3 (by omega)) ?_;refine qR [] 2 [] λs13 g13 w13 c13=>?_;refine qB [true,true,true,false,false] λz K0 K=>hJ (l.length-(k0+1)) _ _ _ z _ (by omega) ⟨k0+1,⟨BX a v,Dc a v⟩,ys,rfl,by omega,rfl,rfl,?_,(((hys.ch c11).ch c12).ch c13),hC.trans ((((((c5.trans c6).trans c8).trans c10).trans c11).trans c12).trans c13)⟩ K;rw[<- hI,Rj hv,JV,if_pos h2]
   .refine qI (((AX a v)==0)) false (by simpa using h2) ?_;refine qR [] 3 [] λs14 g14 w14 c14=>?_;refine qV 0 (iv ((k0:Int)+1)) (AK (x:=(.tmp 25)) (y:=(.const (iv 1))) (k0:Int) 1 underlying3 (by omega)) ?_;refine qR [] 2 [] λs15 g15 w15 c15=>?_;refine qB [true,true,true,false,false] λz K0 K=>hJ (l.length-(k0+1)) _ _ _ z _ (by omega) ⟨k0+1,a,ya,rfl,by omega,rfl,rfl,?_,(((((((hya.ch c5).ch c6).ch c8).ch c10).ch c11).ch c14).ch c15),hC.trans ((((((c5.trans c6).trans c8).trans c10).trans c11).trans c14).trans c15)⟩ K;rw[<- hI,Rj hv,JV,if_neg h2]
  .refine qI ((decide ((k0:Int)<((x.hv j).n:Int)))) false (D' (by omega)) ?_;obtain rfl:k0=l.length:=by omega
   rw[gO]at hI
   refine qR [] 8 [8,0,2,4,6,10,12] λs16 g16 w16 c16=>?_;refine BG 50 (λg' w' e L=>e=[(0,pt nb 11)]/\L=[⟨nb,.cells (Ax i ob ({ p with rnd:={ p.rnd with pro:=upN p.rnd.pro j true,heard:=upN p.rnd.heard j a } }) ({ x with hv:=upN x.hv j ya })) 95,.n 0 i,false⟩,⟨ob,.cells #[S3.v lt,S3.v tl] 65,.n 50 0,false⟩,⟨(s1 0),.cells #[iv a.p.r,iv a.p.n,S3.v ya] 76,.l,false⟩]/\True/\Cg w.heap.size ([.n 0 i]:List Tg) g16 w16 g' w') (by kernel_rfl) ?_ ?_
   .intro J hJ;rcases five hj with rfl|rfl|rfl|rfl|rfl <;>
    (refine qR [] 3 [14,18,20] λs18 g18 w18 c18=>?_;exact Cu 4 8 (by kernel_rfl) (by(refine qR [.n 0 i] 5 [2,17,0,1,22,25,0,1] λs19 g19 w19 c19=>?_;exact qB [true,true,true] λz K0 K=>hJ _ _ _ z _ ⟨rfl,rfl,trivial,((c18.nil ([.n 0 i]:List Tg)).trans c19)⟩ K)) (by(refine qR [.n 0 i] 5 [0,1,9,2,22,25,0,1] λs20 g20 w20 c20=>?_;exact qB [true,true,true] λz K0 K=>hJ _ _ _ z _ ⟨rfl,rfl,trivial,((c18.nil ([.n 0 i]:List Tg)).trans c20)⟩ K)))
   rintro g17 w17 _ z17 _ ⟨rfl,rfl,_,c17⟩;refine qE (.tuple #[]) λK=>?_;obtain⟨q1,q2,q3⟩:=K.isN 0 nb (.cells (Ax i ob { p with rnd:={ p.rnd with pro:=upN p.rnd.pro j true,heard:=upN p.rnd.heard j a } } { x with hv:=upN x.hv j ya }) 95) 0 i (by kernel_rfl);obtain⟨q4,q5,q6⟩:=K.isN 1 ob (.cells #[S3.v lt,S3.v tl] 65) 50 0 (by kernel_rfl);have hE:p.rnd.hear j vs={ p.rnd with pro:=upN p.rnd.pro j true,heard:=upN p.rnd.heard j a }:=by unfold Rnd.hear;rw[<- hl,<- hI];rfl
   rw[hE];have CC:Cg w.heap.size [.n 0 i] g w g17 w17:=((((hC.nil [.n 0 i]).n c5).n c16).trans c17);have ZZ:Tg.z∉[Tg.n 0 i]:=by simp
   have hya2:=(((hya.ch c5).ch c16).ch c17);refine⟨_,rfl,⟨{ x with hv:=upN x.hv j ya },lt,tl,⟨q1,q2,q3,hN.tape.ch CC ZZ,hN.votes.ch CC ZZ,?_,B0 hN.pend CC ZZ (by simp),hN.queue.ch CC,hN.agreed.ch CC,hN.wants.ch CC,hN.asked.ch CC,hN.upm⟩,⟨q4,q5,q6,Dd hO.lets CC ZZ (by simp),hO.told.ch CC⟩,K.new⟩,CC.mono (by simp[TN])⟩;intro k hk;show FSv _ _ (upN x.hv j ya k) (upN p.rnd.heard j a k).vs;unfold upN;split
   .exact hya2
   .exact(hN.heard k hk).ch CC ZZ
theorem UR(u v:Vt)(w:World):(Op.equal 138 (.agg (vtA u)) (.agg (vtA v))).run prog w=.ok (decide (u=v)) w:=by
 have h1:=UP u.slot u.b.r u.b.n u.w.k u.w.c u.w.s u.w.n u.w.v v.slot v.b.r v.b.n v.w.k v.w.c v.w.s v.w.n v.w.v w;have h2:decide (u.slot=v.slot/\u.b.r=v.b.r/\u.b.n=v.b.n/\u.w.k=v.w.k/\u.w.c=v.w.c/\u.w.s=v.w.s/\u.w.n=v.w.n/\u.w.v=v.w.v)=decide (u=v):=by
  apply gE.2;constructor
  .rintro⟨a1,a2,a3,a4,a5,a6,a7,a8⟩;exact(Vt.eq_iff u v).1 ⟨a1,(Bal.eq_iff _ _).1 ⟨a2,a3⟩,(Cmd.eq_iff _ _).1 ⟨a4,a5,a6,a7,a8⟩⟩
  .rintro rfl;exact⟨rfl,rfl,rfl,rfl,rfl,rfl,rfl,rfl⟩
 rw[h2]at h1
 rw[run_eql_struct]at h1
 show(Op.equalIn 10000 _ _ _).run _ _=_;simp only[vtA,vtC];cases hr:(Op.equalIn 10000 138 (.agg #[.int .i64 u.slot,.int .i64 u.b.r,.int .i64 u.b.n,.int .i64 u.w.k,.int .i64 u.w.c,.int .i64 u.w.s,.int .i64 u.w.n,.int .i64 u.w.v]) (.agg #[.int .i64 v.slot,.int .i64 v.b.r,.int .i64 v.b.n,.int .i64 v.w.k,.int .i64 v.w.c,.int .i64 v.w.s,.int .i64 v.w.n,.int .i64 v.w.v])).run prog w with
 | ok b w'=>rw[hr]at h1;simp[Result.andThen]at h1;rw[h1.1,h1.2]
 | _=>rw[hr]at h1;simp[Result.andThen]at h1
abbrev Cnt:=Vt × Nat × Nat
def mkE(x:Cnt):MapEntry:={ key:=.agg (vtA x.1),val:=.int .i64 (x.2.1:Int),born:=x.2.2 }
def JM(v:Vt):List Cnt->Nat->Option (Nat × Value)
 | [],_=>none
 | x::c,i=>if v=x.1 then some (i,.int .i64 (x.2.1:Int))else JM v c (i+1)
theorem Lp(v:Vt)(w:World):∀ (c:List Cnt) (i:Nat),(Instr.findAsking 138 (.agg (vtA v)) (c.map mkE) i).run prog w=.ok (JM v c i) w
 | [],i=>by simp[Instr.findAsking,JM]
 | x::c,i=>by
  have h:=UR v x.1 w;rw[fN,Instr.findAsking,Sem.run_bind];show((Op.equal 138 (.agg (vtA v)) (.agg (vtA x.1))).run _ w).andThen _=_;rw[h,Result.andThen_ok,JM];by_cases e:v=x.1
  .rw[I' e,if_pos e];simp[mkE]
  .rw[D' e,if_neg e];simpa using Lp v w c (i+1)
theorem Jr(v:Vt)(w:World)(c:List Cnt):(Instr.findKey 138 (.agg (vtA v)) (c.map mkE)).run prog w=.ok (JM v c 0) w:=by
 rw[Instr.findKey,Sem.run_bind,run_underlying underlying138 w,Result.andThen_ok];cases c with
 | nil=>simp[Instr.findNow,JM]
 | cons x c =>
  show Sem.run _ (match(none:Option (Option (Nat × Value)))with|some r=>pure r|none=>Instr.findAsking 138 (.agg (vtA v)) ((x::c).map mkE)) w=_;exact Lp v w (x::c) 0
theorem G4(em:Bool)(v:Vt)(w:World):(Instr.checkKey em 10000 138 (.agg (vtA v))).run prog w=.ok () w:=by
 obtain⟨s,⟨r,n⟩,⟨k,c,q,m,x⟩⟩:=v;kernel_rfl
def CT(c:List Cnt)(v:Vt):Nat:=match c.find? (λx=>decide (v=x.1))with|some x=>x.2.1|none=>0
theorem JN(v:Vt):∀ (c:List Cnt) (i:Nat),(JM v c i=none/\CT c v=0/\∀ x∈c,v≠x.1)\/∃ a x b,c=a++x::b/\x.1=v/\(∀ y∈a,v≠y.1)/\JM v c i=some (i+a.length,.int .i64 (x.2.1:Int))/\CT c v=x.2.1
 | [],i=>.inl ⟨rfl,rfl,λx hx=>by cases hx⟩
 | x::c,i=>by
  by_cases e:v=x.1
  .refine .inr ⟨[],x,c,rfl,e.symm,λy hy=>(H' hy).elim,?_,?_⟩
   .rw[JM,if_pos e];simp
   .simp[CT,e]
  .rcases JN v c (i+1)with⟨h1,h2,h3⟩|⟨a,y,b,rfl,hy,h3,h4,h5⟩
   .refine .inl ⟨by rw[JM,if_neg e,h1],?_,λy hy=>?_⟩
    .rw[<- h2];simp[CT,e]
    .rcases fD.1 hy with rfl|hy
     .exact e
     .exact h3 y hy
   .refine .inr ⟨x::a,y,b,rfl,hy,λz hz=>?_,?_,?_⟩
    .rcases fD.1 hz with rfl|hz
     .exact e
     .exact h3 z hz
    .rw[JM,if_neg e,h4];simp;omega
    .rw[<- h5];simp[CT,e]
structure CMap(w:World)(b:Nat)(c:List Cnt):Prop where
 ex:∃ clock,w.heap[b]?=some (.map (c.map mkE).toArray clock)/\∀ x∈c,x.2.2<clock
 dis:c.Pairwise λx y=>x.2.2≠y.2.2
variable{a c d:List Cnt}
theorem CMap.lt(h:CMap w b c):b<w.heap.size:=by
 obtain⟨⟨k,hb,_⟩,_⟩:=h;exact(G'.1 hb).1
theorem CMap.keep(h:CMap w b c)(hb:w'.heap[b]?=w.heap[b]?):CMap w' b c:=by
 obtain⟨⟨k,h1,h2⟩,h3⟩:=h;exact⟨⟨k,hb.trans h1,h2⟩,h3⟩
theorem CMap.below(h:CMap w b c)(hb:Bw w w'):CMap w' b c:=h.keep (hb.block b h.lt)
theorem CMap.made(w:World):CMap (w.alloc (.map #[] 0)) w.heap.size []:=⟨⟨0,heap_alloc_new _ _,λx hx=>by cases hx⟩,List.Pairwise.nil⟩
theorem eE(w:World):(zeroValue 3).run prog w=.ok (.int .i64 0) w:=by kernel_rfl
theorem CMap.look(h:CMap w b c)(v:Vt):(Instr.lookup 256 (.map (some b)) (.agg (vtA v)) false).run prog w=.ok (.int .i64 (CT c v:Int)) w:=by
 obtain⟨⟨k,hb,_⟩,_⟩:=h;have hg:(getObj b).run prog w=.ok (.map (c.map mkE).toArray k) w:=by simp[getObj,Sem.run,hb]
 rcases JN v c 0 with⟨h1,h2,_⟩|⟨a,x,d,_,_,_,h1,h2⟩
 .simp[Instr.lookup,run_underlying underlying256,hg,G4,Jr,h1,h2]
 .simp[Instr.lookup,run_underlying underlying256,hg,G4,Jr,h1,h2]
theorem YF(v:Vt)(n:Nat):Instr.sameBits (n+1) (.agg (vtA v)) (.agg (vtA v))=true:=by
 simp[Instr.sameBits,vtA,vtC]
theorem W6(v:Vt)(w:World):(Instr.keyThatStays (.agg (vtA v)) (.agg (vtA v))).run prog w=.ok (.agg (vtA v)) w:=by
 rw[Instr.keyThatStays,if_pos (YF v 9999)];rfl
theorem So{u:Vt}{m:Nat}(ha:∀ y∈a,v≠y.1):CT (a++(v,m,born)::d) u=if u=v then m else CT (a++(v,n,born)::d) u:=by
 unfold CT;rw[gH,gH,ix,ix];by_cases e:u=v
 .subst e;have hn:a.find? (λx=>decide (u=x.1))=none:=by
   rw[gN];intro y hy;simp[ha y hy]
  rw[hn];simp
 .rw[if_neg e];simp[e]
theorem Ii(hb:w.heap[b]?=some (.map es k))(o:Obj):Below b w (ChangeMaps.setBlock w b o) :=
 ⟨rfl,rfl,rfl,by simp[ChangeMaps.setBlock],λi hi=>ChangeMaps.heap_setBlock_other hb o (by omega)⟩
theorem Ij(hb:w.heap[b]?=some (.map es k))(o:Obj)(i:Nat)(h:i≠b):(ChangeMaps.setBlock w b o).heap[i]?=w.heap[i]?:=ChangeMaps.heap_setBlock_other hb o h
theorem CMap.entry(h:CMap w b c)(v:Vt):∃ (a d:List Cnt) (born:Nat) (w':World),(Instr.mapEntry 256 (.map (some b)) (.agg (vtA v))).run prog w=.ok (.tuple #[.int .i64 (CT c v:Int),.int .i64 (born:Int)]) w'/\CMap w' b (a++(v,CT c v,born)::d)/\(∀ y∈a,v≠y.1)/\(∀ u,CT (a++(v,CT c v,born)::d) u=CT c u)/\Below b w w'/\∀ i,i≠b->w'.heap[i]?=w.heap[i]?:=by
 obtain⟨⟨k,hb,hk⟩,hd⟩:=h;have hg:(getObj b).run prog w=.ok (.map (c.map mkE).toArray k) w:=by simp[getObj,Sem.run,hb]
 rcases JN v c 0 with⟨h1,h2,h3⟩|⟨a,x,d,rfl,rfl,h3,h1,h2⟩
 .refine⟨c,[],k,ChangeMaps.setBlock w b (.map ((c++[(v,0,k)]).map mkE).toArray (k+1)),?_,⟨⟨k+1,?_,?_⟩,?_⟩,h3,?_,Ii hb _,Ij hb _⟩
  .have hs:=MapKept.run_setObj_map (P:=prog) (w:=w) (.map ((c++[(v,0,k)]).map mkE).toArray (k+1)) hb;have he:((c.map mkE).toArray.push { key:=.agg (vtA v),val:=.int .i64 0,born:=k })=((c++[(v,0,k)]).map mkE).toArray:=by simp[mkE]
   rw[Instr.mapEntry];simp only[Sem.run_bind,run_underlying underlying256,Result.andThen_ok,hg,G4,Jr,h1,h2,eE,he,hs];rfl
  .rw[h2];exact ChangeMaps.heap_setBlock_same hb _
  .intro y hy;rcases Y'.1 hy with hy|hy
   .have:=hk y hy;omega
   .obtain rfl:y=(v,CT c v,k):=by simpa using hy
    show k<k+1;omega
  .rw[gX];refine⟨hd,iO _ _,λy hy z hz=>?_⟩;obtain rfl:z=(v,CT c v,k):=by simpa using hz
   have:=hk y hy;show y.2.2≠k;omega
  .intro u;rw[h2];unfold CT;rw[gH];cases hf:c.find? (λx=>decide (u=x.1))with
   | some y=>rfl
   | none =>
    by_cases e:u=v
    .subst e;simp
    .simp[e]
 .refine⟨a,d,x.2.2,ChangeMaps.setBlock w b (.map ((a++x::d).map mkE).toArray k),?_,⟨⟨k,?_,?_⟩,?_⟩,h3,?_,Ii hb _,Ij hb _⟩
  .have hs:=MapKept.run_setObj_map (P:=prog) (w:=w) (.map ((a++x::d).map mkE).toArray k) hb;have hx:((a++x::d).map mkE).toArray[a.length]?=some (mkE x):=by simp
   have he:(((a++x::d).map mkE).toArray.modify a.length λe=>{ e with key:=.agg (vtA x.1) })=((a++x::d).map mkE).toArray:=by
    apply ip;intro i;rw[i6];split
    .rename_i hi
     subst hi;rw[hx];rfl
    .rfl
   have hst:=W6 x.1 w;rw[Instr.mapEntry];simp only[Sem.run_bind,run_underlying underlying256,Result.andThen_ok,hg,G4,Jr,h1,fV,hx,gb,jp];rw[show(mkE x).key=.agg (vtA x.1)from rfl,hst,Result.andThen_ok,he,hs];simp[goInt,ChangeMaps.setBlock,h2,mkE]
  .rw[h2];exact ChangeMaps.heap_setBlock_same hb _
  .rw[h2];exact hk
  .rw[h2];exact hd
  .intro u;rw[h2]
theorem CMap.store(h:CMap w b (a++(v,n,born)::d))(m:Nat):∃ w',(Instr.entryStore 256 (.map (some b)) (.int .i64 (born:Int)) (.int .i64 (m:Int))).run prog w=.ok () w'/\CMap w' b (a++(v,m,born)::d)/\Below b w w'/\∀ i,i≠b->w'.heap[i]?=w.heap[i]?:=by
 obtain⟨⟨k,hb,hk⟩,hd⟩:=h;have hg:(getObj b).run prog w=.ok (.map ((a++(v,n,born)::d).map mkE).toArray k) w:=by simp[getObj,Sem.run,hb]
 refine⟨ChangeMaps.setBlock w b (.map ((a++(v,m,born)::d).map mkE).toArray k),?_,⟨⟨k,ChangeMaps.heap_setBlock_same hb _,?_⟩,?_⟩,Ii hb _,Ij hb _⟩
 .have hs:=MapKept.run_setObj_map (P:=prog) (w:=w) (.map ((a++(v,m,born)::d).map mkE).toArray k) hb;have hf:((a++(v,n,born)::d).map mkE).toArray.findIdx? (λe=>(e.born:Int)==(born:Int))=some a.length:=by
   rw[List.findIdx?_toArray,fG,List.findIdx?_append];have h0:(a.map mkE).findIdx? (λe=>(e.born:Int)==(born:Int))=none:=by
    rw[List.findIdx?_eq_none_iff];intro e he;obtain⟨y,hy,rfl⟩:=fS.1 he;have:=(gX.1 hd).2.2 y hy (v,n,born) (by simp);simp[mkE];intro g;exact this (show y.2.2=born by omega)
   rw[h0,fN,List.findIdx?_cons];simp[mkE]
  have he:(((a++(v,n,born)::d).map mkE).toArray.modify a.length λe=>{ e with val:=.int .i64 (m:Int) })=((a++(v,m,born)::d).map mkE).toArray:=by
   apply ip;intro i;rw[i6];split
   .rename_i hi
    subst hi;simp[mkE]
   .rename_i hi
    simp only[gd,fG,fN];rcases gj i a.length with g|g
    .rw[fC (by simpa using g),fC (by simpa using g)]
    .rw[fI (by simpa using g),fI (by simpa using g)];obtain⟨q,hq⟩:∃ q,i-(a.map mkE).length=q+1:=⟨i-a.length-1,by simp;omega⟩;rw[hq];rfl
  rw[Instr.entryStore];simp only[Sem.run_bind,hg,Result.andThen_ok,asInt,asIntOf,Sem.run_pure,hf,he,hs];rfl
 .intro y hy;rcases Y'.1 hy with hy|hy
  .exact hk y (gg _ hy)
  .rcases fD.1 hy with rfl|hy
   .exact hk (v,n,born) (by simp)
   .exact hk y (gm _ (Q' _ hy))
 .rw[gX,List.pairwise_cons]at hd ⊢
  refine⟨hd.1,⟨λy hy=>hd.2.1.1 y hy,hd.2.1.2⟩,λy hy z hz=>?_⟩;rcases fD.1 hz with rfl|hz
  .exact hd.2.2 y hy (v,n,born) (by simp)
  .exact hd.2.2 y hy z (Q' _ hz)
end
section
variable{P:Program}{md:Region.Mode}{ops:Array Oper}{Q:Exit->Act->World->Prop}{S:World->Prop}
section
variable{K:Act->World->Prop}{a:Act}{d i:Nat}{o:Oper}{w w':World}
theorem VE(ho:ops[i]?=some o)(hw:Region.wanted o (yielded ops a.tmps)=true)(hd:o.dst=some d)(t:TypeId)(m x:Operand)(hop:o.op=.lookup t m x false)(mv xv v:Value)(hm:a.eval m=mv)(hx:a.eval x=xv)(hrun:(Instr.lookup t mv xv false).run P w=.ok v w)(h:K (a.put (some d) v) w):wpOp P ops Q i K a w :=
 VF ho hw hd (by unfold execOp;simp only[hop,hm,hx,Sem.run_bind,hrun,Result.andThen_ok,Sem.run_pure]) h
theorem R6(ho:ops[i]?=some o)(hw:Region.wanted o (yielded ops a.tmps)=true)(hd:o.dst=some d)(t:TypeId)(m x:Operand)(hop:o.op=.mapEntry t m x)(mv xv v:Value)(hm:a.eval m=mv)(hx:a.eval x=xv)(hrun:(Instr.mapEntry t mv xv).run P w=.ok v w')(h:K (a.put (some d) v) w'):wpOp P ops Q i K a w :=
 VF ho hw hd (by unfold execOp;simp only[hop,hm,hx,Sem.run_bind,hrun,Result.andThen_ok,Sem.run_pure]) h
theorem Oo(ho:ops[i]?=some o)(hw:Region.wanted o (yielded ops a.tmps)=true)(hd:o.dst=none)(t:TypeId)(m x y:Operand)(hop:o.op=.entryStore t m x y)(mv xv yv:Value)(hm:a.eval m=mv)(hx:a.eval x=xv)(hy:a.eval y=yv)(hrun:(Instr.entryStore t mv xv yv).run P w=.ok () w')(h:K a w'):wpOp P ops Q i K a w :=
 wpOp_step ho λK' hK=>by
  rw[if_pos hw];unfold Oper.wp execOp;simp only[hop,hm,hx,hy,Sem.run_bind,hrun,Result.andThen_ok,Sem.run_pure];exact hK _ _ (by rw[hd];exact h)
end
end
section
variable{W w w0:World}{a:Act}{ac:List Acc}{g:Gh}{i j m nb ob:Nat}{l:List Vt}{ls:List Let}{ops:Array Oper}{p:Nod}{ts:List Tol}{x:NX}
theorem Me{S:World->Prop}{op:Oper}(hw:Region.wanted op (yielded ops a.tmps)=true)(x:Operand)(ho:op.op=.binOp .add 3 x (.const (.int .i64 1)) 3)(n m:Nat)(hx:a.eval x=.int .i64 (n:Int))(hm:m=n+1)(h0:n<=1000) :
  YieldsIf prog ops S op (.int .i64 (m:Int)) a :=
 .inl ⟨hw,λw _=>by
  have hc:a.eval (.const (.int .i64 1))=.int .i64 1:=rfl;unfold execOp;simp only[ho,hx,hc];simp[go_sem];rw[IntKind.wrap_i64];omega⟩
theorem VJ{P:Program}{id:Nat}{K:Act->World->Prop}{Q:Exit->Act->World->Prop}(R:Nat->World->Prop){A:Nat->Act}(hreg:∀ K':Act->World->Prop,Hid (∀ x W2,R x W2->K' (A x) W2)->(Code.region id ops true).wp P (Exit.then K' Q) a w)(hrest:∀ x W2,R x W2->K (A x) W2):(Code.region id ops true).wp P (Exit.then K Q) a w:=hreg K hrest
def GM(l:List Vt)(m:Nat):Cmd:=((G7 l m).map (·.w)).getD ⟨0,0,0,0,0⟩
def GN(l:List Vt)(m:Nat):Int:=if(G7 l m).isSome then 0 else 9
theorem LH{v:Vt}(h:G7 l m=some v):GM l m=v.w/\GN l m=0:=by unfold GM GN;rw[h];exact⟨rfl,rfl⟩
theorem LG(h:G7 l m=none):GM l m=⟨0,0,0,0,0⟩/\GN l m=9:=by unfold GM GN;rw[h];exact⟨rfl,rfl⟩
theorem G8:(prog.info? 53).map (·.size)=some 5:=by kernel_rfl
theorem TX:(prog.info? 76).map (·.size)=some 3:=by kernel_rfl
theorem Ol(l:List Vt)(u v:Vt):Cx (l++[u]) v=if v=u then Cx l v+1 else Cx l v:=by
 unfold Cx;rw[List.countP_append];by_cases e:v=u
 .subst e;simp
 .rw[if_neg e];simp;exact λg=>e g.symm
theorem V6(x:Value)(ac:List Acc)(s:Int)(w:World)(h:Sac w x ac)(hn5:ac.length<=5)(hmay:∀ a∈ac,AC a) :
  Calls prog 152 #[x,.int .i64 s] w λe w'=>e=.returned (.tuple #[.agg (cmC (GM (Ep ac s) ac.length)),.int .i64 (GN (Ep ac s) ac.length)])/\Bw w w':=by
 have HMay:Hid (∀ a∈ac,AC a):=hmay;clear hmay;obtain⟨ax,cp,rfl⟩:=h.shape;obtain⟨N,hN⟩:∃ N,ac.length=N:=⟨_,rfl⟩;have HN:Hid (ac.length=N):=hN;rw[hN]at h hn5 ⊢
 clear hN;have hz5:(zV5:Array Value).all (·.oneCell')=true:=by simp[Value.oneCell']
 have rr:=heap_alloc_new w (.cells zV5 53);have bb:Bw w (w.alloc (.cells zV5 53)):=(Below.refl _ _).alloc (A' _) _;have z0:(w.alloc (.cells zV5 53)).heap.size=w.heap.size+1:=by simp
 generalize hW0:w.alloc (.cells zV5 53)=w1 at rr bb z0;have h0:=h.below bb;clear h;have b0:Below (w.heap.size+1) w1 (w1.alloc (.map #[] 0)):=(Below.refl _ _).alloc (by omega) _;have v0:CMap (w1.alloc (.map #[] 0)) (w.heap.size+1) []:=by rw[<- z0];exact CMap.made _
 generalize hWA:w1.alloc (.map #[] 0)=WA at b0 v0;have hmm:=@run_makeMap prog;go_enter func152,ntmps152
 go_wp2_with fail
 clear hWA hW0 hmm;have hne:w.heap.size<w.heap.size+1:=by omega
 generalize hB:w.heap.size+1=B at b0 v0 z0 hne ⊢;have HB:Hid (B=w1.heap.size):=z0.symm;clear hB z0
 go_loopw [14] (λiv wr=>∃ (j:Nat) (c:List Cnt),j<=N/\iv=.int .i64 (j:Int)/\CMap wr B c/\(∀ v,CT c v=Cx (Al ((ac.take j).map (·.vs)).flatten s) v)/\(∀ v,2*Cx (Al ((ac.take j).map (·.vs)).flatten s) v<=N)/\Below B w1 wr) (λiv _=>((N:Int)-intOf iv).toNat)
 case atStart=>exact⟨0,[],by omega,rfl,v0,λv=>rfl,λv=>by simp[Cx,Al],b0⟩
 case round =>
  clear v0 b0;obtain⟨j,c,hj,rfl,hcm,hcnt,hle,hbel⟩:=hrel;have HC:Hid (∀ v,CT c v=Cx (Al ((ac.take j).map (·.vs)).flatten s) v):=hcnt;have HL:Hid (∀ v,2*Cx (Al ((ac.take j).map (·.vs)).flatten s) v<=N):=hle;clear hcnt hle;by_cases hjN:j<N
  .have hji:(j:Int)<(N:Int):=by omega
   obtain⟨A,hA⟩:∃ A,ac[j]?=some A:=⟨_,E' (by have:=HN.out;omega)⟩;obtain⟨b,off,y,rfl,ltb,hr0,hsy0⟩:=h0.spot j A hA;have hma:AC A:=HMay.out A (ge.2 ⟨j,hA⟩);obtain⟨⟨pr,pn⟩,l⟩:=A;simp only at hr0 hsy0;have hixA:=LT b off N cp j hjN;obtain⟨ay,cy,hy⟩:=hsy0.shape;obtain⟨M,hM⟩:∃ M,l.length=M:=⟨_,rfl⟩;have HM:Hid (l.length=M):=hM;rw[hM]at hy
   subst hy;have HRise:Hid (B2 l):=hma.2.2;have HF:Hid (((ac.take (j+1)).map (·.vs)).flatten=((ac.take j).map (·.vs)).flatten++l):=QP ac j _ hA;clear hA hM hma;have hrw:=Gm hbel (show b<B by rw[HB.out];exact ltb) hr0;have hsy:=hsy0.below (hbel.mono (by rw[HB.out];exact A' _));have bN:Bw wr (wr.alloc (.cells #[.int .i64 0,.int .i64 0,.slice none 0 0] 76)):=(Below.refl _ _).alloc (A' _) _;have rN:=heap_alloc_new wr (.cells #[.int .i64 0,.int .i64 0,.slice none 0 0] 76);have hone:(#[.int .i64 pr,.int .i64 pn,.slice ay M cy]:Array Value).all (·.oneCell')=true:=by simp[Value.oneCell']
   generalize hWN:wr.alloc (.cells #[.int .i64 0,.int .i64 0,.slice none 0 0] 76)=WN at bN rN
   go_upto_region 5 with((with_reducible (refine Ar ?_));first|(refine wpList_load_mid rfl 76 _ rfl b (off+3*j) rfl [.int .i64 pr,.int .i64 pn,.slice ay M cy] _ hrw underlying76 rfl TX ?_)|(refine wpList_store_row rfl 76 (.tmp 8) (.tmp 17) rfl wr.heap.size (#[.int .i64 pr,.int .i64 pn,.slice ay M cy]) rfl rfl 76 _ rN TX rfl hone ?_))
   clear hWN;have q:=setRow_heap WN wr.heap.size _ (#[.int .i64 pr,.int .i64 pn,.slice ay M cy]) 76 _ rN;replace bN:=Ai bN (A' _) (#[.int .i64 pr,.int .i64 pn,.slice ay M cy]);generalize WN.setRow wr.heap.size (#[.int .i64 pr,.int .i64 pn,.slice ay M cy])=W at q bN ⊢;have ltG:wr.heap.size<W.heap.size:=(G'.1 q).1;have hcW:=hcm.below bN;have hszB:=hbel.size;have ltB:B<wr.heap.size:=hcm.lt;have eW:=hbel.trans (bN.mono (by omega));have sW:=hsy.below bN;generalize wr.heap.size=G at q ltG ltB ⊢;have c2:W.cell? ⟨G,2,none⟩=some (.slice ay M cy):=cell_of_row _ _ 2 _ _ _ q;clear rN hrw hixA bN hcm hsy hbel hszB;go_wp2_with fail
   refine(IE _ l s W HRise.out sW).mono ?_;rintro e W2 ⟨p,rfl,hp,b2⟩;have HP:Hid (Plc l s p):=hp;have c2:=(b2.cell (p:=⟨G,2,none⟩) ltG).trans c2;have hc2:=hcW.below b2;have s2:=sW.below b2;have e2:=eW.trans (b2.mono (by omega));have ltG2:G<W2.heap.size:=Z' ltG b2.size;clear hp b2 hcW sW eW q ltG;go_wp2_with fail
   refine(I6 _ l p s W2 s2).mono ?_;rintro e W3 ⟨rfl,rfl⟩;generalize hh:JS l p s=bh;cases bh
   .have HT:Hid (Al ((ac.take (j+1)).map (·.vs)).flatten s=Al ((ac.take j).map (·.vs)).flatten s):=by
     unfold Hid;rw[HF.out,CO,Plc.ofSlot_no HRise.out HP.out (JU hh),fZ]
    clear hh;go_wp2
    go_roundw
    case rel=>exact⟨j+1,c,by omega,by go_num,hc2,by rw[HT.out];exact HC.out,by rw[HT.out];exact HL.out,e2⟩
    case measure=>simp[intOf];omega
   .obtain⟨u,hu,hus⟩:=L3 hh;have HT:Hid (Al ((ac.take (j+1)).map (·.vs)).flatten s=Al ((ac.take j).map (·.vs)).flatten s++[u]):=by
     unfold Hid;rw[HF.out,CO,Plc.ofSlot_has HRise.out hu hus]
    have hpM:p<M:=by have:=(P'.1 hu).1;have:=HM.out;omega
    obtain⟨b4,o4,hay,ltb4,hr4⟩:=s2.spot p u hu;subst hay;have hix:=Dk b4 o4 M cy p hpM;have hi:=Il u;have hcn:CT c u=Cx (Al ((ac.take j).map (·.vs)).flatten s) u:=HC.out u;have hn2:=HL.out u;obtain⟨n,hnn⟩:∃ n,Cx (Al ((ac.take j).map (·.vs)).flatten s) u=n:=⟨_,rfl⟩;rw[hnn]at hcn hn2
    have HN1:Hid (Cx (Al ((ac.take (j+1)).map (·.vs)).flatten s) u=n+1):=by unfold Hid;rw[HT.out,Ol,if_pos rfl,hnn]
    have HNx:Hid (∀ v,Cx (Al ((ac.take (j+1)).map (·.vs)).flatten s) v=if v=u then n+1 else Cx (Al ((ac.take j).map (·.vs)).flatten s) v):=λv=>by
     rw[HT.out,Ol];split
     .rename_i g;rw[g,hnn]
     .rfl
    clear hu hus hh hnn HT;obtain⟨us,⟨ur,un⟩,⟨uk,uc,uq,um,ux⟩⟩:=u;simp only[vtC]at hr4 hi;have bN:Bw W3 (W3.alloc (.cells zV8 138)):=(Below.refl _ _).alloc (A' _) _;have rN:=heap_alloc_new W3 (.cells zV8 138);have hone8:(#[.int .i64 us,.int .i64 ur,.int .i64 un,.int .i64 uk,.int .i64 uc,.int .i64 uq,.int .i64 um,.int .i64 ux]:Array Value).all (·.oneCell')=true:=by simp[Value.oneCell']
    generalize hWN:W3.alloc (.cells zV8 138)=WN at bN rN
    go_upto_region 8 with((with_reducible (refine Ar ?_));first|(refine wpList_load_mid rfl 138 _ rfl b4 (o4+8*p) rfl [.int .i64 us,.int .i64 ur,.int .i64 un,.int .i64 uk,.int .i64 uc,.int .i64 uq,.int .i64 um,.int .i64 ux] _ hr4 underlying138 rfl hi ?_)|(refine wpList_store_row rfl 138 (.tmp 10) (.tmp 32) rfl W3.heap.size (#[.int .i64 us,.int .i64 ur,.int .i64 un,.int .i64 uk,.int .i64 uc,.int .i64 uq,.int .i64 um,.int .i64 ux]) rfl rfl 138 _ rN hi rfl hone8 ?_))
    clear hWN;have q:=setRow_heap WN W3.heap.size _ (#[.int .i64 us,.int .i64 ur,.int .i64 un,.int .i64 uk,.int .i64 uc,.int .i64 uq,.int .i64 um,.int .i64 ux]) 138 _ rN;replace bN:=Ai bN (A' _) (#[.int .i64 us,.int .i64 ur,.int .i64 un,.int .i64 uk,.int .i64 uc,.int .i64 uq,.int .i64 um,.int .i64 ux]);generalize WN.setRow W3.heap.size (#[.int .i64 us,.int .i64 ur,.int .i64 un,.int .i64 uk,.int .i64 uc,.int .i64 uq,.int .i64 um,.int .i64 ux])=W at q bN ⊢;have ltG3:W3.heap.size<W.heap.size:=(G'.1 q).1;have hcW:=hc2.below bN;have ltB3:B<W3.heap.size:=hc2.lt;have eW:=e2.trans (bN.mono (by omega));generalize W3.heap.size=G2 at q ltG3 ltB3 ⊢;clear rN hr4 hix bN hc2 e2 c2 s2 ltb4;apply VJ (λborn W2=>∃ c',CMap W2 B c'/\(∀ u,CT c' u=if u=⟨us,⟨ur,un⟩,⟨uk,uc,uq,um,ux⟩⟩then n+1 else CT c u)/\W2.heap[G2]?=some (.cells (vtA ⟨us,⟨ur,un⟩,⟨uk,uc,uq,um,ux⟩⟩) 138 (0,0))/\Below B W W2)
    .intro K2 HK2;refine wp_region_held (S:=λw':World=>w'.heap[G2]?=some (.cells (vtA ⟨us,⟨ur,un⟩,⟨uk,uc,uq,um,ux⟩⟩) 138 (0,0))) (by kernel_rfl) ?_;have hS0:(λw':World=>w'.heap[G2]?=some (.cells (vtA ⟨us,⟨ur,un⟩,⟨uk,uc,uq,um,ux⟩⟩) 138 (0,0))) W.drew:=q;have hcd:CMap W.drew B c:=hcW.keep rfl;refine Af (i:=0) 33 (v:=.map (some B)) rfl rfl (by kernel_rfl) (by kernel_rfl) (by kernel_rfl) (λ_ _ _ h=>h) (ig ⟨by rfl,λ_ _=>by kernel_rfl⟩) hS0 ?_;simp only[Act.put,M',X',fu];refine Af (i:=1) 34 (v:=.agg (vtA ⟨us,⟨ur,un⟩,⟨uk,uc,uq,um,ux⟩⟩)) rfl rfl (by kernel_rfl) (by kernel_rfl) (by kernel_rfl) (λ_ _ _ h=>h) (Zm (by rfl) (.tmp 10) rfl G2 rfl ⟨us,⟨ur,un⟩,⟨uk,uc,uq,um,ux⟩⟩ (λw' hw'=>hw')) hS0 ?_;simp only[Act.put,M',X',fu];obtain⟨ca,cd,born,w5,hrun5,hc5,ha5,hu5,b5,k5⟩:=hcd.entry ⟨us,⟨ur,un⟩,⟨uk,uc,uq,um,ux⟩⟩;have hn5:CT c ⟨us,⟨ur,un⟩,⟨uk,uc,uq,um,ux⟩⟩=n:=hcn;rw[hn5]at hrun5 hc5 hu5
     have hS5:w5.heap[G2]?=some (.cells (vtA ⟨us,⟨ur,un⟩,⟨uk,uc,uq,um,ux⟩⟩) 138 (0,0)):=(k5 G2 (by omega)).trans hS0;obtain⟨w6,hrun6,hc6,b6,k6⟩:=hc5.store (n+1);have hS6:w6.heap[G2]?=some (.cells (vtA ⟨us,⟨ur,un⟩,⟨uk,uc,uq,um,ux⟩⟩) 138 (0,0)):=(k6 G2 (by omega)).trans hS5;have hlk0:=hcd.look ⟨us,⟨ur,un⟩,⟨uk,uc,uq,um,ux⟩⟩;rw[hn5]at hlk0
     have hlk5:=hc5.look ⟨us,⟨ur,un⟩,⟨uk,uc,uq,um,ux⟩⟩;rw[hu5,hn5]at hlk5
     have RES:Hid (∃ c',CMap w6 B c'/\(∀ u,CT c' u=if u=⟨us,⟨ur,un⟩,⟨uk,uc,uq,um,ux⟩⟩then n+1 else CT c u)/\w6.heap[G2]?=some (.cells (vtA ⟨us,⟨ur,un⟩,⟨uk,uc,uq,um,ux⟩⟩) 138 (0,0))/\Below B W w6):=⟨_,hc6,λu=>by rw[So (n:=n) ha5,hu5],hS6,((Below.refl B W).drew.trans b5).trans b6⟩;refine XQ (i:=2) (i':=4) (by kernel_rfl) (VE (i:=2) (d:=35) rfl (by kernel_rfl) rfl 256 (.tmp 33) (.tmp 34) rfl (.map (some B)) (.agg (vtA ⟨us,⟨ur,un⟩,⟨uk,uc,uq,um,ux⟩⟩)) (.int .i64 (n:Int)) (by kernel_rfl) (by kernel_rfl) hlk0 ⟨hS0,?_⟩) (R6 (i:=4) (d:=37) rfl (by kernel_rfl) rfl 256 (.tmp 33) (.tmp 34) rfl (.map (some B)) (.agg (vtA ⟨us,⟨ur,un⟩,⟨uk,uc,uq,um,ux⟩⟩)) (.tuple #[.int .i64 (n:Int),.int .i64 (born:Int)]) (by kernel_rfl) (by kernel_rfl) hrun5 ⟨hS5,?_⟩)
     .simp only[Act.put,M',X',fu];refine Af (i:=3) 36 (v:=.int .i64 ((n+1:Nat):Int)) rfl rfl (by kernel_rfl) (by kernel_rfl) (by kernel_rfl) (λ_ _ _ h=>h) (Me (by rfl) (.tmp 35) rfl n (n+1) rfl rfl (by omega)) hS0 ?_;simp only[Act.put,M',X',fu];refine Bz (i:=4) (by kernel_rfl) (R6 (i:=4) (d:=37) rfl (by kernel_rfl) rfl 256 (.tmp 33) (.tmp 34) rfl (.map (some B)) (.agg (vtA ⟨us,⟨ur,un⟩,⟨uk,uc,uq,um,ux⟩⟩)) (.tuple #[.int .i64 (n:Int),.int .i64 (born:Int)]) (by kernel_rfl) (by kernel_rfl) hrun5 ⟨hS5,?_⟩);simp only[Act.put,M',X',fu];refine Af (i:=5) 38 (v:=.int .i64 (born:Int)) rfl rfl (by kernel_rfl) (by kernel_rfl) (by kernel_rfl) (λ_ _ _ h=>h) (ig ⟨by rfl,λ_ _=>by kernel_rfl⟩) hS5 ?_;simp only[Act.put,M',X',fu];refine Bz (i:=6) (by kernel_rfl) (Oo (i:=6) rfl (by kernel_rfl) rfl 256 (.tmp 33) (.tmp 38) (.tmp 36) rfl (.map (some B)) (.int .i64 (born:Int)) (.int .i64 ((n+1:Nat):Int)) (by kernel_rfl) (by kernel_rfl) (by kernel_rfl) hrun6 ⟨hS6,?_⟩);exact wpAnyH_done (by kernel_rfl) (HK2.out born _ RES.out) _
     .simp only[Act.put,M',X',fu];refine Af (i:=5) 38 (v:=.int .i64 (born:Int)) rfl rfl (by kernel_rfl) (by kernel_rfl) (by kernel_rfl) (λ_ _ _ h=>h) (ig ⟨by rfl,λ_ _=>by kernel_rfl⟩) hS5 ?_;simp only[Act.put,M',X',fu];refine Bz (i:=2) (by kernel_rfl) (VE (i:=2) (d:=35) rfl (by kernel_rfl) rfl 256 (.tmp 33) (.tmp 34) rfl (.map (some B)) (.agg (vtA ⟨us,⟨ur,un⟩,⟨uk,uc,uq,um,ux⟩⟩)) (.int .i64 (n:Int)) (by kernel_rfl) (by kernel_rfl) hlk5 ⟨hS5,?_⟩);simp only[Act.put,M',X',fu];refine Af (i:=3) 36 (v:=.int .i64 ((n+1:Nat):Int)) rfl rfl (by kernel_rfl) (by kernel_rfl) (by kernel_rfl) (λ_ _ _ h=>h) (Me (by rfl) (.tmp 35) rfl n (n+1) rfl rfl (by omega)) hS5 ?_;simp only[Act.put,M',X',fu];refine Bz (i:=6) (by kernel_rfl) (Oo (i:=6) rfl (by kernel_rfl) rfl 256 (.tmp 33) (.tmp 38) (.tmp 36) rfl (.map (some B)) (.int .i64 (born:Int)) (.int .i64 ((n+1:Nat):Int)) (by kernel_rfl) (by kernel_rfl) (by kernel_rfl) hrun6 ⟨hS6,?_⟩);exact wpAnyH_done (by kernel_rfl) (HK2.out born _ RES.out) _
    intro born W5 hW5;obtain⟨c',hc5,hcc,q5,b5⟩:=hW5;have e5:=eW.trans b5;have hlk:=hc5.look ⟨us,⟨ur,un⟩,⟨uk,uc,uq,um,ux⟩⟩;rw[hcc,if_pos rfl]at hlk
    have HCC:Hid (∀ v,CT c' v=Cx (Al ((ac.take (j+1)).map (·.vs)).flatten s) v):=λv=>by rw[hcc,HNx.out v,HC.out v]
    have HC5:Hid (CMap W5 B c'):=hc5;clear hcc hc5 q eW b5 hcW HC;have hcast:((n+1:Nat):Int)=(n:Int)+1:=by omega
    rw[hcast]at hlk
    by_cases hbig:N<2*(n+1)
    .have HCH:Hid (GM (Ep ac s) N=⟨uk,uc,uq,um,ux⟩/\GN (Ep ac s) N=0):=by
      refine LH (v:=⟨us,⟨ur,un⟩,⟨uk,uc,uq,um,ux⟩⟩) (Pv ?_ ?_)
      .have g:=ao HMay.out s;rw[HN.out]at g
       exact g
      .have g:=Yn (Al ((ac.take (j+1)).map (·.vs)).flatten s) (Al ((ac.drop (j+1)).map (·.vs)).flatten s) ⟨us,⟨ur,un⟩,⟨uk,uc,uq,um,ux⟩⟩;rw[<- CO,<- List.flatten_append,<- fG,gB,HN1.out]at g
       show N<2*Cx (Ep ac s) ⟨us,⟨ur,un⟩,⟨uk,uc,uq,um,ux⟩⟩;unfold Ep;omega
     have hbigi:(N:Int)<2*((n:Int)+1):=by omega
     have x3:W5.cell? ⟨G2,3,none⟩=some (.int .i64 uk):=cell_of_row _ _ 3 _ _ _ q5;have x4:W5.cell? ⟨G2,4,none⟩=some (.int .i64 uc):=cell_of_row _ _ 4 _ _ _ q5;have x5:W5.cell? ⟨G2,5,none⟩=some (.int .i64 uq):=cell_of_row _ _ 5 _ _ _ q5;have x6:W5.cell? ⟨G2,6,none⟩=some (.int .i64 um):=cell_of_row _ _ 6 _ _ _ q5;have x7:W5.cell? ⟨G2,7,none⟩=some (.int .i64 ux):=cell_of_row _ _ 7 _ _ _ q5;have rR:=(e5.block w.heap.size hne).trans rr;have hone5:(#[.int .i64 uk,.int .i64 uc,.int .i64 uq,.int .i64 um,.int .i64 ux]:Array Value).all (·.oneCell')=true:=by simp[Value.oneCell']
     go_wp2_with ((with_reducible (refine Ar ?_));first|(refine wpList_load_row rfl 138 (.tmp 10) rfl G2 rfl 138 _ (0,0) _ q5 underlying138 rfl hi ?_)|(refine wpList_store_row rfl 53 (.tmp 4) (.tmp 47) rfl w.heap.size #[.int .i64 uk,.int .i64 uc,.int .i64 uq,.int .i64 um,.int .i64 ux] rfl rfl 53 _ rR G8 rfl hone5 ?_))
     have q9:=setRow_heap W5 w.heap.size _ (#[.int .i64 uk,.int .i64 uc,.int .i64 uq,.int .i64 um,.int .i64 ux]) 53 _ rR;have d9:=Ai (bb.trans (e5.mono (by omega))) (A' _) (#[.int .i64 uk,.int .i64 uc,.int .i64 uq,.int .i64 um,.int .i64 ux]);refine bodyPost_ret (Fh rfl _ _ w.heap.size 53 _ (0,0) _ rfl q9 underlying53 rfl G8) rfl ?_;rw[HCH.out.1,HCH.out.2];exact⟨rfl,d9⟩
    .have hbigi:¬ (N:Int)<2*((n:Int)+1):=by omega
     have HL2:Hid (∀ v,2*Cx (Al ((ac.take (j+1)).map (·.vs)).flatten s) v<=N):=λv=>by
      rw[HNx.out v];split
      .omega
      .exact HL.out v
     clear HNx HN1 HL;go_wp2_with ((with_reducible (refine Ar ?_));(refine wpList_load_row rfl 138 (.tmp 10) rfl G2 rfl 138 _ (0,0) _ q5 underlying138 rfl hi ?_))
     go_roundw
     case rel=>exact⟨j+1,c',by omega,by go_num,HC5.out,HCC.out,HL2.out,e5⟩
     case measure=>simp[intOf];omega
  .have HCH:Hid (GM (Ep ac s) N=⟨0,0,0,0,0⟩/\GN (Ep ac s) N=9):=by
    refine LG (Uv λv=>?_);have g:=HL.out v;rw[fB (by have:=HN.out;omega)]at g
    exact g
   have rR:=(hbel.block w.heap.size hne).trans rr;go_wp2_with ((with_reducible (refine Ar ?_));(refine wpList_store_row rfl 53 (.tmp 4) (.tmp 49) rfl w.heap.size zV5 rfl rfl 53 _ rR G8 rfl hz5 ?_))
   have q9:=setRow_heap wr w.heap.size _ (zV5) 53 _ rR;have d9:=Ai (bb.trans (hbel.mono (by omega))) (A' _) (zV5);refine bodyPost_ret (Fh rfl _ _ w.heap.size 53 _ (0,0) _ rfl q9 underlying53 rfl G8) rfl ?_;rw[HCH.out.1,HCH.out.2];exact⟨rfl,d9⟩
theorem JB(x:Value)(ac:List Acc)(s:Int)(w:World)(h:Sac w x ac)(ht:NTab w) :
  Calls prog 120 #[x,.int .i64 s] w λe w'=>e=.returned (.tuple #[.agg (cmC (Ct ac s)),.int .i64 (CD ac s)])/\Bw w w':=by
 have hlen:=h.len;obtain⟨ax,cp,rfl⟩:=h.shape;obtain⟨N,hN⟩:∃ N,ac.length=N:=⟨_,rfl⟩;have HN:Hid (ac.length=N):=hN;rw[hN]at h hlen ⊢
 clear hN;have hz5:(zV5:Array Value).all (·.oneCell')=true:=by simp[Value.oneCell']
 have rr:=heap_alloc_new w (.cells zV5 53);have bb:Bw w (w.alloc (.cells zV5 53)):=(Below.refl _ _).alloc (A' _) _;have z0:(w.alloc (.cells zV5 53)).heap.size=w.heap.size+1:=by simp
 generalize hW0:w.alloc (.cells zV5 53)=w1 at rr bb z0;have h0:=h.below bb;have t0:=ht.below bb;clear h ht;go_enter func120,ntmps120
 go_wp2_with fail
 clear hW0;refine(Gf s _).mono ?_;rintro e w1 ⟨rfl,rfl⟩;by_cases h1:0<=s/\s<=39
 .rw[I' h1];by_cases h2:1<=(N:Int)/\(N:Int)<=5
  .have HS:Hid ((0<=s/\s<=39)/\(1<=(ac.length:Int)/\(ac.length:Int)<=5)):=⟨h1,by rw[HN.out];exact h2⟩;obtain⟨h2a,h2b⟩:=h2;have k1:¬ (N:Int)<1:=by omega
   have k2:¬ (5:Int)<(N:Int):=by omega
   clear h1;go_wp2_with fail
   clear k1 k2
   go_loopw [25] (λiv wr=>∃ j:Nat,j<=N/\iv=.int .i64 (j:Int)/\(∀ a∈ac.take j,AC a)/\Bw w1 wr) (λiv _=>((N:Int)-intOf iv).toNat)
   case atStart=>exact⟨0,by omega,rfl,λa ha=>by simp at ha,Below.refl _ _⟩
   case round =>
    obtain⟨j,hj,rfl,hmay,hbel⟩:=hrel;have HMJ:Hid (∀ a∈ac.take j,AC a):=hmay;clear hmay;have tr:=t0.below hbel;have hszr:=hbel.size;by_cases hjN:j<N
    .have hji:(j:Int)<(N:Int):=by omega
     obtain⟨A,hA⟩:∃ A,ac[j]?=some A:=⟨_,E' (by have:=HN.out;omega)⟩;obtain⟨b,off,y,rfl,ltb,hr0,hsy0⟩:=h0.spot j A hA;obtain⟨⟨pr,pn⟩,l⟩:=A;simp only at hr0 hsy0;have hixA:=LT b off N cp j hjN;obtain⟨ay,cy,hy⟩:=hsy0.shape;obtain⟨M,hM⟩:∃ M,l.length=M:=⟨_,rfl⟩;rw[hM]at hy
     subst hy;have HJ:Hid (ac[j]?=some ⟨⟨pr,pn⟩,l⟩):=hA;clear hA hM;have hrw:=Gm hbel ltb hr0;have hsy:=hsy0.below hbel;have bN:Bw wr (wr.alloc (.cells #[.int .i64 0,.int .i64 0,.slice none 0 0] 76)):=(Below.refl _ _).alloc (A' _) _;have rN:=heap_alloc_new wr (.cells #[.int .i64 0,.int .i64 0,.slice none 0 0] 76);have hone:(#[.int .i64 pr,.int .i64 pn,.slice ay M cy]:Array Value).all (·.oneCell')=true:=by simp[Value.oneCell']
     generalize hWN:wr.alloc (.cells #[.int .i64 0,.int .i64 0,.slice none 0 0] 76)=WN at bN rN
     go_upto_region 6 with((with_reducible (refine Ar ?_));first|(refine wpList_load_mid rfl 76 _ rfl b (off+3*j) rfl [.int .i64 pr,.int .i64 pn,.slice ay M cy] _ hrw underlying76 rfl TX ?_)|(refine wpList_store_row rfl 76 (.tmp 7) (.tmp 28) rfl wr.heap.size (#[.int .i64 pr,.int .i64 pn,.slice ay M cy]) rfl rfl 76 _ rN TX rfl hone ?_))
     clear hWN;have q:=setRow_heap WN wr.heap.size _ (#[.int .i64 pr,.int .i64 pn,.slice ay M cy]) 76 _ rN;replace bN:=Ai bN (A' _) (#[.int .i64 pr,.int .i64 pn,.slice ay M cy]);generalize WN.setRow wr.heap.size (#[.int .i64 pr,.int .i64 pn,.slice ay M cy])=W at q bN ⊢;have eW:=hbel.trans (bN.mono hbel.size);have sW:=hsy.below bN;have tW:=tr.below bN;generalize wr.heap.size=G at q ⊢;clear rN hrw hixA bN hsy hbel tr;go_wp2_with ((with_reducible (refine Ar ?_));refine wpList_load_row rfl 76 _ rfl G rfl 76 _ (0,0) _ q underlying76 rfl TX ?_)
     refine(Hy ⟨pr,pn⟩ (.slice ay M cy) l W sW tW).mono ?_;rintro e W2 ⟨rfl,b2⟩;have e2:=eW.trans (b2.mono eW.size);clear b2 eW sW tW q;by_cases hA:AC ⟨⟨pr,pn⟩,l⟩
     .rw[show FF ⟨⟨pr,pn⟩,l⟩=0 from if_pos hA];have HMJ1:Hid (∀ a∈ac.take (j+1),AC a):=TC HJ.out HMJ.out hA;clear hA HMJ;go_wp2
      go_roundw
      case rel=>exact⟨j+1,by omega,by go_num,HMJ1.out,e2⟩
      case measure=>simp[intOf];omega
     .rw[show FF ⟨⟨pr,pn⟩,l⟩=5 from if_neg hA];have HF:Hid (Ct ac s=⟨0,0,0,0,0⟩/\CD ac s=5):=Si HS.out (λg=>hA (g _ (ge.2 ⟨j,HJ.out⟩)));clear hA HMJ;have rR:=(e2.block w.heap.size (by omega)).trans rr;go_wp2_with ((with_reducible (refine Ar ?_));refine wpList_store_row rfl 53 (.tmp 4) (.tmp 33) rfl w.heap.size zV5 rfl rfl 53 _ rR G8 rfl hz5 ?_)
      have q9:=setRow_heap W2 w.heap.size _ (zV5) 53 _ rR;have d9:=Ai (bb.trans (e2.mono (by omega))) (A' _) (zV5);refine bodyPost_ret (Fh rfl _ _ w.heap.size 53 _ (0,0) _ rfl q9 underlying53 rfl G8) rfl ?_;rw[HF.out.1,HF.out.2];exact⟨rfl,d9⟩
    .have HAll:Hid (∀ a∈ac,AC a):=by
      have g:=HMJ.out;rw[fB (by have:=HN.out;omega)]at g
      exact g
     have HF:Hid (Ct ac s=GM (Ep ac s) N/\CD ac s=GN (Ep ac s) N):=by
      have hn:=HN.out;cases ho:G7 (Ep ac s) N with
      | none =>
       obtain⟨g1,g2⟩:=Ux HS.out HAll.out (by rw[hn];exact ho);obtain⟨g3,g4⟩:=LG ho;exact⟨g1.trans g3.symm,g2.trans g4.symm⟩
      | some v =>
       obtain⟨g1,g2⟩:=Uy HS.out HAll.out (x:=v) (by rw[hn];exact ho);obtain⟨g3,g4⟩:=LH ho;exact⟨g1.trans g3.symm,g2.trans g4.symm⟩
     clear HMJ;have dr:=bb.trans (hbel.mono (by omega));have rR:=(hbel.block w.heap.size (by omega)).trans rr;have hsac:=h0.below hbel;go_wp2_with fail
     refine(V6 _ ac s wr hsac (by have:=HN.out;omega) HAll.out).mono ?_;rintro e W2 ⟨rfl,b2⟩;rw[HN.out];have d2:=dr.trans (b2.mono dr.size);replace rR:=(b2.block w.heap.size (by omega)).trans rR;generalize GM (Ep ac s) N=C at HF ⊢;generalize GN (Ep ac s) N=E at HF ⊢;obtain⟨ck,cc,cs,cn,cv⟩:=C;have hone5:(#[.int .i64 ck,.int .i64 cc,.int .i64 cs,.int .i64 cn,.int .i64 cv]:Array Value).all (·.oneCell')=true:=by simp[Value.oneCell']
     simp only[cmC,cmA];go_wp2_with ((with_reducible (refine Ar ?_));refine wpList_store_row rfl 53 (.tmp 4) (.tmp 39) rfl w.heap.size #[.int .i64 ck,.int .i64 cc,.int .i64 cs,.int .i64 cn,.int .i64 cv] rfl rfl 53 _ rR G8 rfl hone5 ?_)
     have q9:=setRow_heap W2 w.heap.size _ (#[.int .i64 ck,.int .i64 cc,.int .i64 cs,.int .i64 cn,.int .i64 cv]) 53 _ rR;have d9:=Ai d2 (A' _) (#[.int .i64 ck,.int .i64 cc,.int .i64 cs,.int .i64 cn,.int .i64 cv]);refine bodyPost_ret (Fh rfl _ _ w.heap.size 53 _ (0,0) _ rfl q9 underlying53 rfl G8) rfl ?_;rw[HF.out.1,HF.out.2];exact⟨rfl,d9⟩
  .have HF:Hid (Ct ac s=⟨0,0,0,0,0⟩/\CD ac s=2):=Hz (λg=>h2 (by have:=g.2;rw[HN.out]at this;exact this));clear h1;by_cases h3:(N:Int)<1
   .clear h2;go_wp2_with ((with_reducible (refine Ar ?_));refine wpList_store_row rfl 53 (.tmp 4) (.tmp 22) rfl w.heap.size zV5 rfl rfl 53 _ rr G8 rfl hz5 ?_)
    have q9:=setRow_heap w1 w.heap.size _ (zV5) 53 _ rr;have d9:=Ai bb (A' _) (zV5);refine bodyPost_ret (Fh rfl _ _ w.heap.size 53 _ (0,0) _ rfl q9 underlying53 rfl G8) rfl ?_;rw[HF.out.1,HF.out.2];exact⟨rfl,d9⟩
   .have h4:(5:Int)<(N:Int):=by omega
    clear h2;go_wp2_with ((with_reducible (refine Ar ?_));refine wpList_store_row rfl 53 (.tmp 4) (.tmp 22) rfl w.heap.size zV5 rfl rfl 53 _ rr G8 rfl hz5 ?_)
    have q9:=setRow_heap w1 w.heap.size _ (zV5) 53 _ rr;have d9:=Ai bb (A' _) (zV5);refine bodyPost_ret (Fh rfl _ _ w.heap.size 53 _ (0,0) _ rfl q9 underlying53 rfl G8) rfl ?_;rw[HF.out.1,HF.out.2];exact⟨rfl,d9⟩
 .rw[D' h1];have HF:Hid (Ct ac s=⟨0,0,0,0,0⟩/\CD ac s=2):=Hz (λg=>h1 g.1);clear h1;go_wp2_with ((with_reducible (refine Ar ?_));refine wpList_store_row rfl 53 (.tmp 4) (.tmp 22) rfl w.heap.size zV5 rfl rfl 53 _ rr G8 rfl hz5 ?_)
  have q9:=setRow_heap w1 w.heap.size _ (zV5) 53 _ rr;have d9:=Ai bb (A' _) (zV5);refine bodyPost_ret (Fh rfl _ _ w.heap.size 53 _ (0,0) _ rfl q9 underlying53 rfl G8) rfl ?_;rw[HF.out.1,HF.out.2];exact⟨rfl,d9⟩
theorem Kg{g:Gh}(hr:w.heap[nb]?=some (.cells (Ax i ob p x) 95))(hj:j<5):w.rangeAt nb (18+3*j) [iv (p.rnd.heard j).p.r,iv (p.rnd.heard j).p.n,S3.v (x.hv j)]:=by
 rcases five hj with rfl|rfl|rfl|rfl|rfl<;>exact O8 hr _ _ rfl
theorem Oi(h:NodeAt g w i nb ob x p):Sac w (.slice (some ⟨nb,18,none⟩) 5 5) p.rnd.accs:=by
 refine⟨⟨some ⟨nb,18,none⟩,5,rfl,.inr ⟨nb,18,rfl,rl h.row,λj A hA=>?_⟩⟩,by show 5<=3518437208780;decide⟩;have hj:j<5:=by have:=(P'.1 hA).1;exact this
 refine⟨S3.v (x.hv j),?_⟩;have h1:=Kg (g:=g) h.row hj;have h2:=(h.heard j hj).s;rcases five hj with rfl|rfl|rfl|rfl|rfl<;>(simp[Rnd.accs]at hA;subst hA;exact⟨h1,h2⟩)
theorem Ut{s:Int}(h:40<=s):CD ac s≠0:=by rw[(Hz (by omega)).2];decide
theorem Uw{n:Nat}(h:CD ac (n:Int)=0):n<=39:=by
 rcases gj 39 n with h2|h2
 .exact absurd h (Ut (by omega))
 .exact h2
theorem dL{b k:Nat}{a:Acc}{y:S3}(h:W.rangeAt b k [iv a.p.r,iv a.p.n,S3.v y]):(Instr.loadAt 76 (pt b k)).run prog W=.ok (.agg #[iv a.p.r,iv a.p.n,S3.v y]) W:=by
 have h1:=run_loadVar_mid (P:=prog) W b k 76 _ _ h underlying76 rfl (by kernel_rfl);simp only[Instr.loadAt,Instr.sureAddr,Sem.run_bind,Sem.run_pure,Result.andThen_ok];exact h1
theorem AJ.at{L:List Sh}(h:AJ L W)(k b:Nat)(o:Obj)(t:Tg)(hx:L[k]?=some ⟨b,o,t,false⟩):W.heap[b]?=some o:=h _ (fQ hx)
theorem EI(h:NS i nb ob g w p ls ts)(hB:Base w0 g w)(hT:Tabs w0)(hb:p.agreed.length<=40) :
  Calls prog 84 #[pt nb 0] w (NP i nb ob g w (.tuple #[]) p.learnC ls ts):=by
 obtain⟨x,lt,tl,hN,hO,hg⟩:=h;refine gI (fn:=f84) (TN i) g func84 hg ?_;refine qN hN ?_;refine qO hO ?_;refine qR [] 1 [] λs1 g1 w1 c1=>?_;refine Br 34 [(0,pt nb 0)] [false,false] [] (λk g' w' e L=>∃ l:List Cmd,e=[(0,pt nb 0)]/\L=[]/\NS i nb ob g' w' { p with agreed:=l } ls ts/\Ja k p.rnd l=Ja 41 p.rnd p.agreed/\41<=l.length+k/\l.length<=41/\Cg w.heap.size (TN i) g w g' w') (by kernel_rfl) (by kernel_rfl) (by kernel_rfl) (by kernel_rfl) 41 (λK=>?_) ?_
 .have C2:=c1;exact⟨p.agreed,rfl,rfl,(nsC hN hO C2 K),rfl,by omega,by omega,(c1.nil (TN i))⟩
 .rintro k gr wr _ zr _ ⟨l,rfl,rfl,hM,hI,hk1,hk2,hC⟩ J hJ;obtain⟨xr,ltr,tlr,hNr,hOr,hgr⟩:=hM;refine qN hNr ?_;refine qO hOr ?_;have hln:xr.agreed.n=l.length:=hNr.agreed.num;refine qR [] 15 [19,0,2,4,6,8,10,12,14,16,18,20,0,22] λs3 g3 w3 c3=>?_;refine BG 34 (λg' w' e L=>∃ (bA:Nat),e=[(0,pt nb 0),(2,pt bA 0),(3,iv (CD p.rnd.accs (xr.agreed.n:Int)))]/\L=[⟨nb,.cells (Ax i ob ({ p with agreed:=l }) xr) 95,.n 0 i,false⟩,⟨ob,.cells #[S3.v ltr,S3.v tlr] 65,.n 50 0,false⟩,⟨bA,.cells #[iv (Ct p.rnd.accs (xr.agreed.n:Int)).k,iv (Ct p.rnd.accs (xr.agreed.n:Int)).c,iv (Ct p.rnd.accs (xr.agreed.n:Int)).s,iv (Ct p.rnd.accs (xr.agreed.n:Int)).n,iv (Ct p.rnd.accs (xr.agreed.n:Int)).v] 53,.l,false⟩]/\Cg w.heap.size [] gr wr g' w') (by kernel_rfl) ?_ ?_
  .intro J hJ;refine Cu 12 16 (by kernel_rfl) ?_ ?_
   .have hS6:=Oi (hNr.ch c3);have hB6:=hB.ch (((hC.n c3))) (AW i);refine qC 12 (JB _ _ (xr.agreed.n:Int) w3 hS6 (hB6.tn hT)) ?_;rintro e' w7 ⟨rfl,b7⟩;refine⟨_,rfl,b7,?_⟩;have c7:=Cg.ofBelow (B:=w.heap.size) (T:=[]) (g:=g3) b7;refine qR [] 7 [26,28,30,33,1,0,35,2,0,36] λs8 g8 w8 c8=>?_;exact qB [true,true,true] λz K0 K=>hJ _ _ _ z _ ⟨(s8 0),rfl,rfl,((c3.trans c7).trans c8)⟩ K
   .refine qR [] 1 [1,0] λs9 g9 w9 c9=>?_;have hS10:=Oi (hNr.ch (c3.trans c9));have hB10:=hB.ch (hC.trans ((c3.trans c9).nil _)) (AW i);refine qC 12 (JB _ _ (xr.agreed.n:Int) w9 hS10 (hB10.tn hT)) ?_;rintro e' w11 ⟨rfl,b11⟩;refine⟨_,rfl,b11,?_⟩;have c11:=Cg.ofBelow (B:=w.heap.size) (T:=[]) (g:=g9) b11;refine qR [] 6 [26,28,30,35,2,0,36] λs12 g12 w12 c12=>?_;exact qB [true,true,true] λz K0 K=>hJ _ _ _ z _ ⟨(s9 0),rfl,rfl,(((c3.trans c9).trans c11).trans c12)⟩ K
  .rintro g4 w4 _ z4 _ ⟨bA,rfl,rfl,hc⟩;refine qR [] 6 [] λs13 g13 w13 c13=>?_;by_cases h1:CD p.rnd.accs (xr.agreed.n:Int)≠0
   .refine qI (((CD p.rnd.accs (xr.agreed.n:Int)) != 0)) true (by simpa using h1) ?_;refine qE (.tuple #[]) λK=>?_;have hE:p.learnC={ p with agreed:=l }:=by unfold Nod.learnC;rw[<- hI];cases k with|zero=>rfl|succ k=>rw[Ja,if_neg (by rw[<- hln];exact h1)]
    rw[hE];exact⟨_,rfl,(nsC hNr hOr (hc.n c13) K),((hC.n hc).n c13)⟩
   .refine qI (((CD p.rnd.accs (xr.agreed.n:Int)) != 0)) false (by simpa using h1) ?_;have h10:CD p.rnd.accs (xr.agreed.n:Int)=0:=by simpa using h1
    have hl39:l.length<=39:=by rw[<- hln];exact Uw h10
    obtain⟨k,rfl⟩:∃ k1,k=k1+1:=⟨k-1,by omega⟩;refine qR [] 10 [12,0,2,4,6,8,10,0,12,2,15,0,0] λs16 g16 w16 c16=>?_;refine IX 8 (x:=xr.agreed) 37 37 53 5 40 (.agg #[iv 0,iv 0,iv 0,iv 0,iv 0]) ⟨(s16 0),0,none⟩ 1 1 [iv (Ct p.rnd.accs (xr.agreed.n:Int)).k,iv (Ct p.rnd.accs (xr.agreed.n:Int)).c,iv (Ct p.rnd.accs (xr.agreed.n:Int)).s,iv (Ct p.rnd.accs (xr.agreed.n:Int)).n,iv (Ct p.rnd.accs (xr.agreed.n:Int)).v] (hNr.agreed.ch ((hc.trans c13).trans c16) (by simp) (by simp)) (by kernel_rfl) (by kernel_rfl) (by kernel_rfl) underlying37 (by kernel_rfl) (by kernel_rfl) (by decide) (by decide) rfl (by simp[Value.oneCell']) (λK=>BL K 3 (s16 0) [iv (Ct p.rnd.accs (xr.agreed.n:Int)).k,iv (Ct p.rnd.accs (xr.agreed.n:Int)).c,iv (Ct p.rnd.accs (xr.agreed.n:Int)).s,iv (Ct p.rnd.accs (xr.agreed.n:Int)).n,iv (Ct p.rnd.accs (xr.agreed.n:Int)).v] 53 .z true (by kernel_rfl)) (by unfold maxLen;omega) (by omega) ?_;intro y17 g17 w17 a17 n17 cc17 G17;have c17:=cc17 w.heap.size [.n 3 i] (O'.2 rfl);refine qR [.n 0 i] 6 [18,20,22,25,0,1] λs18 g18 w18 c18=>?_;refine DA J 34 [(0,pt nb 0)] [false,false,false,false] [] (by kernel_rfl) (by kernel_rfl) (by kernel_rfl) (by kernel_rfl) (by kernel_rfl) (λz K0 K=>?_);have hcc:Ct p.rnd.accs (xr.agreed.n:Int)=Ct p.rnd.accs (l.length:Int):=by rw[hln]
    refine hJ k _ _ _ z _ (by omega) ⟨l++[Ct p.rnd.accs (l.length:Int)],rfl,rfl,?_,?_,by simp;omega,by simp;omega,(((((hC.n hc).n c13).n c16).trans (c17.mono (by simp[TN]))).trans (c18.mono (by simp[TN])))⟩ K
    skip
    have C19:=((((hc.nil ([.n 3 i,.n 0 i]:List Tg)).n c13).n c16).m c17).m c18;have Z19:Tg.z∉([.n 3 i,.n 0 i]:List Tg):=by simp
    .rw[<- hcc];exact⟨{ xr with agreed:=y17 },ltr,tlr,K0.nd 0 (hNr.tape.ch C19 Z19) (hNr.votes.ch C19 Z19) (Ba hNr.heard C19 Z19) (B0 hNr.pend C19 Z19 (by simp)) (hNr.queue.ch C19) (by rw[BK];exact a17.ch c18) (hNr.wants.ch C19) (hNr.asked.ch C19) hNr.upm,hOr.ch C19 Z19 (by simp<;>omega),K0.new⟩
    .rw[<- hI,Ja,if_pos (by rw[<- hln];exact h10)]
theorem Lv(h:NS i nb ob g w p ls ts)(hB:Base w0 g w)(hT:Tabs w0)(j:Nat)(hj:j<5)(v:Vt)(hb:p.agreed.length<=40) :
  Calls prog 87 #[pt nb 0,iv (j:Int),.agg #[iv v.slot,iv v.b.r,iv v.b.n,iv v.w.k,iv v.w.c,iv v.w.s,iv v.w.n,iv v.w.v]] w (NP i nb ob g w (.tuple #[]) (p.count j v) ls ts):=by
 obtain⟨x,lt,tl,hN,hO,hg⟩:=h;refine gI (fn:=f87) (TN i) g func87 hg ?_;refine qN hN ?_;refine qO hO ?_;refine qR [] 15 [0,0,9,0,2,2,4,6,8,10,12,14,0] λs1 g1 w1 c1=>?_;by_cases h1:v.b≠p.rnd.bal
 .refine qT 8 (.bool true) (λ_=>(LR (x:=(.tmp 9)) (y:=(.tmp 15)) v.b p.rnd.bal h1)) ?_;refine qR [] 2 [] λs2 g2 w2 c2=>?_;refine qE (.tuple #[]) λK=>?_;rw[show p.count j v=p from if_pos h1];exact⟨_,rfl,(nsC hN hO (c1.n c2) K),((c1.nil (TN i)).n c2)⟩
 .have h10:v.b=p.rnd.bal:=by simpa using h1
  refine qT 8 (.bool false) (λ_=>(LQ (x:=(.tmp 9)) (y:=(.tmp 15)) v.b p.rnd.bal h10)) ?_;refine qR [] 11 [16,0,2,4,6,8,10] λs4 g4 w4 c4=>?_;refine NJ 6 (pt nb (18+3*j)) false (λW hW=>by rcases five hj with rfl|rfl|rfl|rfl|rfl<;>kernel_rfl) (by kernel_rfl) ?_;refine qU 7 (.agg #[iv (p.rnd.heard j).p.r,iv (p.rnd.heard j).p.n,S3.v (x.hv j)]) (λW hW=>(dL (Kg (g:=g) (AJ.at (hW rfl) 0 nb (.cells (Ax i ob p x) 95) (.n 0 i) (by kernel_rfl)) hj))) ?_;refine qR [] 1 [16,2] λs6 g6 w6 c6=>?_;refine BG 42 (λg' w' e L=>∃ (ys:S3) (bA:Nat),e=[(0,pt nb 0),(1,iv (j:Int)),(6,pt bA 0),(7,iv (AX (p.rnd.heard j) v))]/\L=[⟨nb,.cells (Ax i ob p x) 95,.n 0 i,false⟩,⟨ob,.cells #[S3.v lt,S3.v tl] 65,.n 50 0,false⟩,⟨(s1 0),.cells #[iv v.slot,iv v.b.r,iv v.b.n,iv v.w.k,iv v.w.c,iv v.w.s,iv v.w.n,iv v.w.v] 138,.z,false⟩,⟨bA,.cells #[iv (BX (p.rnd.heard j) v).r,iv (BX (p.rnd.heard j) v).n,S3.v ys] 76,.l,false⟩]/\FSv g' w' ys (Dc (p.rnd.heard j) v)/\Cg w.heap.size [] g w g' w') (by kernel_rfl) ?_ ?_
  .intro J hJ;refine Cu 9 13 (by kernel_rfl) ?_ ?_
   .refine Ae λKq9=>?_;have hS9:=((hN.heard j hj).ch ((c1.trans c4).trans c6) (by simp)).s;have hB9:=hB.ch ((c1.trans c4).trans c6) (by simp);have hG9:∀ z,w6.heap.size<=z->g6.t z=.z:=λz hz=>(Kq9.new z hz).1;refine qC 9 (BJ (p.rnd.heard j).p _ (p.rnd.heard j).vs v w6 hS9 (hB9.tn hT)) ?_;rintro e' w10 ⟨y10,rfl,hy10,hl10,b10⟩;refine⟨_,rfl,b10,?_⟩;have c10:=Cg.ofBelow (B:=w.heap.size) (T:=[]) (g:=g6) b10;obtain⟨ys10,rfl,hyn10,hys10⟩:=De hy10 hG9 (by omega);refine qR [] 7 [20,22,24,27,1,0,29,3,0,30] λs11 g11 w11 c11=>?_;exact qB [true,true,true,true] λz K0 K=>hJ _ _ _ z _ ⟨ys10,(s11 0),rfl,rfl,(hys10.ch c11),((((c1.trans c4).trans c6).trans c10).trans c11)⟩ K
   .refine qR [] 1 [1,0] λs12 g12 w12 c12=>?_;refine Ae λKq13=>?_;have hS13:=((hN.heard j hj).ch (((c1.trans c4).trans c6).trans c12) (by simp)).s;have hB13:=hB.ch (((c1.trans c4).trans c6).trans c12) (by simp);have hG13:∀ z,w12.heap.size<=z->g12.t z=.z:=λz hz=>(Kq13.new z hz).1;refine qC 9 (BJ (p.rnd.heard j).p _ (p.rnd.heard j).vs v w12 hS13 (hB13.tn hT)) ?_;rintro e' w14 ⟨y14,rfl,hy14,hl14,b14⟩;refine⟨_,rfl,b14,?_⟩;have c14:=Cg.ofBelow (B:=w.heap.size) (T:=[]) (g:=g12) b14;obtain⟨ys14,rfl,hyn14,hys14⟩:=De hy14 hG13 (by omega);refine qR [] 6 [20,22,24,29,3,0,30] λs15 g15 w15 c15=>?_;exact qB [true,true,true,true] λz K0 K=>hJ _ _ _ z _ ⟨ys14,(s12 0),rfl,rfl,(hys14.ch c15),(((((c1.trans c4).trans c6).trans c12).trans c14).trans c15)⟩ K
  .rintro g7 w7 _ z7 _ ⟨ys,bA,rfl,rfl,hys,hc⟩;refine qR [] 6 [] λs16 g16 w16 c16=>?_;by_cases h2:AX (p.rnd.heard j) v≠0
   .refine qI (((AX (p.rnd.heard j) v) != 0)) true (by simpa using h2) ?_;refine qE (.tuple #[]) λK=>?_;rw[show p.count j v=p from by unfold Nod.count;rw[if_neg h1,if_pos h2]];exact⟨_,rfl,(nsC hN hO (hc.n c16) K),((hc.nil (TN i)).n c16)⟩
   .refine qI (((AX (p.rnd.heard j) v) != 0)) false (by simpa using h2) ?_;refine qR [] 10 [8,0,2,4,3,6,8,10,12] λs19 g19 w19 c19=>?_;refine BG 42 (λg' w' e L=>e=[(0,pt nb 0)]/\L=[⟨nb,.cells (Ax i ob ({ p with rnd:={ p.rnd with heard:=upN p.rnd.heard j ⟨BX (p.rnd.heard j) v,Dc (p.rnd.heard j) v⟩ } }) ({ x with hv:=upN x.hv j ys })) 95,.n 0 i,false⟩,⟨ob,.cells #[S3.v lt,S3.v tl] 65,.n 50 0,false⟩,⟨(s1 0),.cells #[iv v.slot,iv v.b.r,iv v.b.n,iv v.w.k,iv v.w.c,iv v.w.s,iv v.w.n,iv v.w.v] 138,.z,false⟩,⟨bA,.cells #[iv (BX (p.rnd.heard j) v).r,iv (BX (p.rnd.heard j) v).n,S3.v ys] 76,.l,false⟩]/\True/\Cg w.heap.size ([.n 0 i]:List Tg) g19 w19 g' w') (by kernel_rfl) ?_ ?_
    .intro J hJ;rcases five hj with rfl|rfl|rfl|rfl|rfl <;>
     (refine qR [.n 0 i] 3 [14,17,0,1] λs21 g21 w21 c21=>?_;exact qB [true,true,true,true] λz K0 K=>hJ _ _ _ z _ ⟨rfl,rfl,trivial,c21⟩ K)
    rintro g20 w20 _ z20 _ ⟨rfl,rfl,_,c20⟩;refine qR [] 2 [] λs22 g22 w22 c22=>?_;rw[show p.count j v=Nod.learnC { p with rnd:={ p.rnd with heard:=upN p.rnd.heard j ⟨BX (p.rnd.heard j) v,Dc (p.rnd.heard j) v⟩ } }from by unfold Nod.count;rw[if_neg h1,if_neg h2]];refine Ae λK=>?_;have C24:=((((hc.nil ([.n 0 i]:List Tg)).n c16).n c19).trans (c20)).n c22;have Z24:Tg.z∉([.n 0 i]:List Tg):=by simp
    have N23:NS i nb ob g22 w22 ({ p with rnd:={ p.rnd with heard:=upN p.rnd.heard j ⟨BX (p.rnd.heard j) v,Dc (p.rnd.heard j) v⟩ } }) ls ts:=⟨{ x with hv:=upN x.hv j ys },lt,tl,K.nd 0 (hN.tape.ch C24 Z24) (hN.votes.ch C24 Z24) (λk hk=>(by show FSv _ _ (upN x.hv j ys k) (upN p.rnd.heard j ⟨BX (p.rnd.heard j) v,Dc (p.rnd.heard j) v⟩ k).vs;unfold upN;split;exact((((hys.ch c16).ch c19).ch c20).ch c22);exact(hN.heard k hk).ch C24 Z24)) (B0 hN.pend C24 Z24 (by simp)) (hN.queue.ch C24) (hN.agreed.ch C24) (hN.wants.ch C24) (hN.asked.ch C24) hN.upm,hO.ch C24 Z24 (by simp<;>omega),K.new⟩;refine qS0 1 [false,false,true,true] (EI N23 (hB.ch (((((hc.nil (TN i)).n c16).n c19).trans (c20.mono (by simp[TN]))).n c22) (AW i)) hT hb) λg23 w23 x23 lt23 tl23 hN23 hO23 c23=>?_;refine qR [] 1 [] λs25 g25 w25 c25=>?_;exact qF hN23 hO23 c25 (((((((hc.nil (TN i)).n c16).n c19).trans (c20.mono (by simp[TN]))).n c22).trans (c23)).n c25)
theorem MN(h:NS i nb ob g w p ls ts)(hB:Base w0 g w)(hT:Tabs w0)(lb:Nat)(l:Let)(hl:BW g w lb l)(hs:l.src<5)(hb:p.agreed.length<=40) :
  Calls prog 45 #[pt nb 0,pt lb 0] w (NP i nb ob g w (.tuple #[]) (p.count l.src l.vote) ls ts):=by
 obtain⟨x,lt,tl,hN,hO,hg⟩:=h;refine gI (fn:=f45) (TN i) g func45 hg ?_;refine qN hN ?_;refine qO hO ?_;obtain⟨vs,wh,hl1,hl2,hl3⟩:=hl;refine BF ⟨lb,.cells (Ev l vs wh) 140,.z,false⟩ (λ_=>⟨hl1.r,hl1.z,λh=>(by cases h),λh=>absurd rfl h⟩) (by kernel_rfl) ?_;refine qR [] 10 [9,0,2,4,6,8,2,10,12,14,16,2] λs1 g1 w1 c1=>?_;refine qS 9 [false,false,true] hN hO c1 (λN2=>Lv N2 (hB.ch (c1.nil (TN i)) (AW i)) hT l.src hs l.vote hb) λg2 w2 x2 lt2 tl2 hN2 hO2 c2=>?_;refine qR [] 1 [] λs4 g4 w4 c4=>?_;exact qF hN2 hO2 c4 (((c1.nil (TN i)).trans (c2)).n c4)
theorem F7(q:List Cmd)(c:Cmd)(l:List Cmd):NE q (c::l)=NE (if q.length<40/\c∉q then q++[c]else q) l:=rfl
theorem CV{l:List Cmd}{c:Cmd}(h:l[j]?=some c):l.drop j=c::l.drop (j+1):=by
 obtain⟨h1,h2⟩:=P'.1 h;rw[<- h2];exact gf h1
theorem XB(q l:List Cmd)(h:q.length<=40):(NE q l).length<=40:=by
 induction l generalizing q with
 | nil=>exact h
 | cons c l ih =>
  rw[F7];refine ih _ ?_;split
  .rw[N'];show _+1<=_;omega
  .exact h
theorem I2(h:NS i nb ob g w p ls ts)(what:List Cmd)(wh:S3)(hw:Rc g w wh what)(hb:what.length<100000000)(hq:p.rnd.queue.length<=40) :
  Calls prog 89 #[pt nb 0,wh.v] w (NP i nb ob g w (.tuple #[]) (p.enqueue what) ls ts):=by
 have hNS:=h;obtain⟨x,lt,tl,hN,hO,hg⟩:=h;have hwn:=hw.len;refine gI (fn:=f89) (TN i) g func89 hg ?_;refine qN hN ?_;refine qO hO ?_;refine qR [] 4 [] λs1 g1 w1 c1=>?_;refine Ae λK=>?_;have N3:NS i nb ob g1 w1 p ls ts:=(nsC hN hO c1 K);refine qC 1 (LB N3) ?_;rintro e' w4 ⟨rfl,b4⟩;refine⟨_,rfl,b4,?_⟩;have c4:=Cg.ofBelow (B:=w.heap.size) (T:=[]) (g:=g1) b4;refine qR [] 2 [] λs5 g5 w5 c5=>?_;by_cases h1:p.leads=true
 .refine qI ((!p.leads)) false (by simpa using h1) ?_;rw[show p.enqueue what={ p with rnd:={ p.rnd with queue:=NE p.rnd.queue what } }from if_pos h1];refine qR [] 8 [] λs6 g6 w6 c6=>?_;refine Br 49 [(0,pt nb 0),(9,S3.v wh),(10,iv (wh.n:Int)),(11,iv 0)] [false,false] [] (λk g' w' e L=>∃ (j:Nat) (q:List Cmd),k=what.length-j/\j<=what.length/\e=[(0,pt nb 0),(9,S3.v wh),(10,iv (wh.n:Int)),(11,iv (j:Int))]/\L=[]/\NS i nb ob g' w' { p with rnd:={ p.rnd with queue:=q } } ls ts/\NE q (what.drop j)=NE p.rnd.queue what/\q.length<=40/\Cg w.heap.size (TN i) g w g' w') (by kernel_rfl) (by kernel_rfl) (by kernel_rfl) (by kernel_rfl) what.length (λK=>?_) ?_
  .have C7:=((c1.n c4).n c5).n c6;exact⟨0,p.rnd.queue,rfl,by omega,rfl,rfl,(nsC hN hO C7 K),rfl,hq,((((c1.nil (TN i)).n c4).n c5).n c6)⟩
  .rintro k gr wr _ zr _ ⟨j,q,rfl,hj,rfl,rfl,hM,hI,hq1,hC⟩ J hJ;obtain⟨xr,ltr,tlr,hNr,hOr,hgr⟩:=hM;refine qN hNr ?_;refine qO hOr ?_;have hqn:xr.queue.n=q.length:=hNr.queue.num;refine qR [] 5 [] λs8 g8 w8 c8=>?_;by_cases h2:j<what.length
   .refine qI ((decide ((j:Int)<(wh.n:Int)))) true (I' (by omega)) ?_;obtain⟨c,hcj⟩:∃ c,what[j]?=some c:=⟨_,E' h2⟩;have hwr:=hw.ch hC (AW i);obtain⟨bx,ox,hxa⟩:=hw.addr h2;refine qR [] 5 [] λs9 g9 w9 c9=>?_;refine qV 0 (pt bx (ox+5*j)) (O7 hxa j (by omega)) ?_;have hwz:=hwr.ch (c8.trans c9);refine qV 1 (.agg #[iv c.k,iv c.c,iv c.s,iv c.n,iv c.v]) (Wa c λq_ u hu=>hwz.cellAt hxa hcj hu) ?_;refine qR [] 12 [0,0,2,0,19,0,2,4,6,8,10,0,12] λs11 g11 w11 c11=>?_;by_cases h3:(xr.queue.n:Int)<40
    .refine qT 7 (.bool true) (λ_=>(rLt (t:=3) (x:=(.tmp 21)) (y:=(.const (iv 40))) (I' h3))) ?_;refine qR [] 8 [16,18,20,22,24,26,28,0,30,2] λs12 g12 w12 c12=>?_;refine qC 16 (Er (l:=q) (hNr.queue.ch (((c8.trans c9).trans c11).trans c12) (by simp) (by simp)).rd (by omega) c) ?_;rintro e' w13 ⟨rfl,b13⟩;refine⟨_,rfl,b13,?_⟩;have c13:=Cg.ofBelow (B:=w.heap.size) (T:=[]) (g:=g12) b13;refine qR [] 3 [34,36] λs14 g14 w14 c14=>?_;by_cases h4:c∈q
     .refine qI ((!(decide (c∈q)))) false (by simpa using h4) ?_;refine qR [] 3 [] λs15 g15 w15 c15=>?_;refine qV 0 (iv ((j:Int)+1)) (AK (x:=(.tmp 11)) (y:=(.const (iv 1))) (j:Int) 1 underlying3 (by omega)) ?_;refine qR [] 2 [] λs16 g16 w16 c16=>?_;refine qB [false,false,false] λz K0 K=>hJ (what.length-(j+1)) _ _ _ z _ (by omega) ⟨j+1,q,rfl,by omega,rfl,rfl,?_,?_,by omega,((((((((hC.n c8).n c9).n c11).n c12).n c13).n c14).n c15).n c16)⟩ K
      .exact(nsC hNr hOr (((((((c8.n c9).n c11).n c12).n c13).n c14).n c15).n c16) K0)
      .rw[<- hI,CV hcj,F7,if_neg (λh=>h.2 h4)]
     .refine qI ((!(decide (c∈q)))) true (by simpa using h4) ?_;refine qR [] 10 [14,0,2,4,6,8,10,12,0,14,2,17,0,0] λs18 g18 w18 c18=>?_;refine IX 9 (x:=xr.queue) 37 37 53 5 40 (.agg #[iv 0,iv 0,iv 0,iv 0,iv 0]) ⟨(s18 0),0,none⟩ 1 1 [iv c.k,iv c.c,iv c.s,iv c.n,iv c.v] (hNr.queue.ch ((((((c8.trans c9).trans c11).trans c12).trans c13).trans c14).trans c18) (by simp) (by simp)) (by kernel_rfl) (by kernel_rfl) (by kernel_rfl) underlying37 (by kernel_rfl) (by kernel_rfl) (by decide) (by decide) rfl (by simp[Value.oneCell']) (λK=>BL K 3 (s18 0) [iv c.k,iv c.c,iv c.s,iv c.n,iv c.v] 53 .z true (by kernel_rfl)) (by unfold maxLen;omega) (by omega) ?_;intro y19 g19 w19 a19 n19 cc19 G19;have c19:=cc19 w.heap.size [.n 2 i] (O'.2 rfl);refine qR [.n 0 i] 8 [20,22,24,26,29,0,1] λs20 g20 w20 c20=>?_;refine qV 0 (iv ((j:Int)+1)) (AK (x:=(.tmp 11)) (y:=(.const (iv 1))) (j:Int) 1 underlying3 (by omega)) ?_;refine qR [] 2 [] λs21 g21 w21 c21=>?_;refine qB [false,false,false,false] λz K0 K=>hJ (what.length-(j+1)) _ _ _ z _ (by omega) ⟨j+1,(q++[c]),rfl,by omega,rfl,rfl,?_,?_,by simp;omega,((((((((((hC.n c8).n c9).n c11).n c12).n c13).n c14).n c18).trans (c19.mono (by simp[TN]))).trans (c20.mono (by simp[TN]))).n c21)⟩ K;have C22:=(((((((((c8.nil ([.n 2 i,.n 0 i]:List Tg)).n c9).n c11).n c12).n c13).n c14).n c18).m c19).m c20).n c21;have Z22:Tg.z∉([.n 2 i,.n 0 i]:List Tg):=by simp
      .exact⟨{ xr with queue:=y19 },ltr,tlr,K0.nd 0 (hNr.tape.ch C22 Z22) (hNr.votes.ch C22 Z22) (Ba hNr.heard C22 Z22) (B0 hNr.pend C22 Z22 (by simp)) (by rw[BK];exact((a19.ch c20).ch c21)) (hNr.agreed.ch C22) (hNr.wants.ch C22) (hNr.asked.ch C22) hNr.upm,hOr.ch C22 Z22 (by simp<;>omega),K0.new⟩
      .rw[<- hI,CV hcj,F7,if_pos ⟨by omega,h4⟩]
    .refine qT 7 (.bool false) (λ_=>(rLt (t:=3) (x:=(.tmp 21)) (y:=(.const (iv 40))) (D' h3))) ?_;refine qR [] 16 [16,18,20,22,24,26,28,30,32,34,36] λs23 g23 w23 c23=>?_;refine qV 0 (iv ((j:Int)+1)) (AK (x:=(.tmp 11)) (y:=(.const (iv 1))) (j:Int) 1 underlying3 (by omega)) ?_;refine qR [] 2 [] λs24 g24 w24 c24=>?_;refine qB [false,false,false] λz K0 K=>hJ (what.length-(j+1)) _ _ _ z _ (by omega) ⟨j+1,q,rfl,by omega,rfl,rfl,?_,?_,by omega,(((((hC.n c8).n c9).n c11).n c23).n c24)⟩ K
     .exact(nsC hNr hOr ((((c8.n c9).n c11).n c23).n c24) K0)
     .rw[<- hI,CV hcj,F7,if_neg (by omega)]
   .refine qI ((decide ((j:Int)<(wh.n:Int)))) false (D' (by omega)) ?_;refine qR [] 1 [] λs26 g26 w26 c26=>?_;obtain rfl:j=what.length:=by omega
    rw[gO]at hI
    refine qE (.tuple #[]) λK=>?_;rw[<- hI];exact⟨_,rfl,(nsC hNr hOr (c8.n c26) K),((hC.n c8).n c26)⟩
 .refine qI ((!p.leads)) true (by simpa using h1) ?_;refine qE (.tuple #[]) λK=>?_;rw[show p.enqueue what=p from if_neg h1];exact⟨_,rfl,(nsC hN hO ((c1.n c4).n c5) K),(((c1.nil (TN i)).n c4).n c5)⟩
end
end Go.Proofs.YtalbmmghmoggcabGreatDoor
