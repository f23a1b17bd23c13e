/- Part 42 of the walk: what the functions of the program do, one by one. -/
import Derived.Test.YtakgfdbjgeopdaaGreatDoorZ38
import Derived.Test.YtakgfdbjgeopdaaGreatDoorZ41
set_option maxRecDepth 100000
set_option maxHeartbeats 4000000
open Go.Proofs.Tryz
set_option linter.unusedVariables false
namespace Go.Proofs.YtakgfdbjgeopdaaGreatDoor
open Go.RowKit
theorem Uv{v:Value}{l:List Int}{now:Int}{w:World}{e0:Int}{c:Cmd}(h:Sl w v l)(hT:AI w)(hq:C1 w)(hN:NTab w)(he:opE l now=e0)(hc:Sc l now=c) :
  Calls prog 9 #[v,iv now] w fun e w'=>e=.returned (.tuple #[.agg #[iv c.k,iv c.c,iv c.s,iv c.n,iv c.v],iv e0])∧Below w.heap.size w w':=by
 have h1:=RV v l now w h hT hq hN;rw[YG,he,hc]at h1
 exact h1
theorem S7{g:Gh}{w:World}{i nb ob:Nat}{p:Nod}{ls:List Let}{ts:List Tol}(h:NS i nb ob g w p ls ts){w0:World}(hB:Base w0 g w)(hT:Tabs w0)(dv:S3)(data:List Int)(hd:Sl w dv.v data){n:Nat}(hok:NOk n p)(hbad:p.bad<100000000)(hw:p.wants.length<100000000)(hts:ts.length<100000000){e0:Int}{c:Cmd}(he:opE data (p.done:Int)=e0)(hc:Sc data (p.done:Int)=c) :
  Calls prog 70 #[pt nb 0,dv.v] w (NP i nb ob g w (.tuple #[]) (p.sub0 i e0 c ts).1 ls (p.sub0 i e0 c ts).2):=by
 obtain⟨x,lt,tl,hN,hO,hg⟩:=h;have hdn:=hok.dn;have hag:=hok.ag;refine gIn (fn:=f70) (TN i) g func70 (by kernel_rfl) (by kernel_rfl) hg ?_;refine qN hN ?_;refine qO hO ?_;refine qR [] 9 [0] fun s1 g1 w1 c1=>?_;by_cases h1:p.up=true
 ·refine qI ((!p.up)) false (by simpa using h1) ?_;have hdown:¬ p.up=false:=by simp[h1]
  refine qR [] 9 [0] fun s2 g2 w2 c2=>?_;have hB1:=hB.ch (c1.trans c2) (by simp);have hb1:=Cg.below (c1.trans c2) (fun _ _=>List.not_mem_nil);refine qC 6 (Uv (hd.below hb1) (hB1.tt hT) (hB1.tq hT) (hB1.tn hT) he hc) ?_;rintro e' w3 ⟨rfl,b3⟩;refine⟨_,rfl,b3,?_⟩;have c3:=Cg.ofBelow (B:=w.heap.size) (T:=[]) (g:=g2) b3;refine qR [] 13 [0,0,2,0] fun s4 g4 w4 c4=>?_;by_cases h2:e0≠0
  ·refine qI ((e0 != 0)) true (by simpa using h2) ?_;refine qR [] 6 [0] fun s5 g5 w5 c5=>?_;refine qV 4 (iv ((p.bad+1:Nat):Int)) (B7 (x:=(.tmp 29)) (y:=(.const (iv 1))) (p.bad:Int) 1 underlying3 (by omega)) ?_;refine qR [.n 0 i] 4 [0,1] fun s6 g6 w6 c6=>?_;refine qE (.tuple #[]) fun K=>?_;rw[show p.sub0 i e0 c ts=({ p with bad:=p.bad+1 },ts)from(if_neg hdown).trans (if_pos h2)];have C7:Cg w.heap.size ([.n 0 i]:List Tg) g w g6 w6:=((((((c1.nil ([.n 0 i]:List Tg)).trans (c2.nil ([.n 0 i]:List Tg))).trans (c3.nil ([.n 0 i]:List Tg))).trans (c4.nil ([.n 0 i]:List Tg))).trans (c5.nil ([.n 0 i]:List Tg))).trans (c6));have Z7:Tg.z∉([.n 0 i]:List Tg):=by simp
   exact⟨_,rfl,⟨x,lt,tl,K.ndu 0 hN C7,hO.ch C7 Z7 (by simp<;>omega),K.new⟩,((((((c1.nil (TN i)).trans (c2.nil (TN i))).trans (c3.nil (TN i))).trans (c4.nil (TN i))).trans (c5.nil (TN i))).trans (c6.mono (by simp[TN])))⟩
  ·refine qI ((e0 != 0)) false (by simpa using h2) ?_;refine qR [] 6 [4,0,4,2] fun s8 g8 w8 c8=>?_;refine Ae fun K=>?_;have C9:Cg w.heap.size ([]:List Tg) g w g8 w8:=(((((c1.nil ([]:List Tg)).trans (c2.nil ([]:List Tg))).trans (c3.nil ([]:List Tg))).trans (c4.nil ([]:List Tg))).trans (c8.nil ([]:List Tg)));have Z9:Tg.z∉([]:List Tg):=by simp
   have N10:NS i nb ob g8 w8 p ls ts:=⟨x,lt,tl,hN.ch C9 Z9 (by simp),hO.ch C9 Z9 (by simp),K.new⟩;refine qC 1 (Ft N10 hdn) ?_;rintro e' w11 ⟨y11,rfl,hy11,b11⟩;refine⟨_,rfl,b11,?_⟩;have c11:=Cg.ofBelow (B:=w.heap.size) (T:=[]) (g:=g8) b11;refine qC 3 (Eg (l:=p.agreed.take p.done) hy11 (by rw[List.length_take];omega) c) ?_;rintro e' w13 ⟨rfl,b13⟩;refine⟨_,rfl,b13,?_⟩;have c13:=Cg.ofBelow (B:=w.heap.size) (T:=[]) (g:=g8) b13;refine qR [] 1 [] fun s14 g14 w14 c14=>?_;by_cases h3:c∈p.agreed.take p.done
   ·refine qI ((decide (c∈p.agreed.take p.done))) true (by simpa using h3) ?_;refine qR [] 8 [16,0,2,4,6,8,0,10,2] fun s15 g15 w15 c15=>?_;refine BD 55 (fun g' w' e L=>∃ (b6 b7:Nat),e=[(0,pt nb 0),(4,pt (s4 0) 0),(6,pt b6 0),(7,pt b7 0)]∧L=[⟨nb,.cells (Ao i ob p x) 134,.n 0 i,false⟩,⟨ob,.cells #[S3.v lt,S3.v tl] 104,.n 50 0,false⟩,⟨(s4 0),.cells #[iv c.k,iv c.c,iv c.s,iv c.n,iv c.v] 25,.z,false⟩,⟨b6,.cells (stA (doS p.sto c)) 126,.l,false⟩,⟨b7,.cells #[iv (doC p.sto c),iv (doA p.sto c)] 123,.l,false⟩]∧Cg w.heap.size [] g w g' w') (by kernel_rfl) ?_ ?_
    ·intro J hJ;refine TL 6 11 12 (by kernel_rfl) ?_ ?_ ?_
     ·have hB18:=hB.ch ((((((((c1.trans c2).trans c3).trans c4).trans c8).trans c11).trans c13).trans c14).trans c15) (by simp);refine qC 6 (CJ p.sto c.k c.c c.s c.n c.v w15 (hB18.tn hT)) ?_;rintro e' w19 ⟨rfl,b19⟩;refine⟨_,rfl,b19,?_⟩;have c19:=Cg.ofBelow (B:=w.heap.size) (T:=[]) (g:=g15) b19;refine qR [] 4 [14,16,18,20] fun s20 g20 w20 c20=>?_;refine Cs 11 12 (by kernel_rfl) ?_ ?_
      ·refine qR [] 6 [1,0,25,1,0,27,3,0,29,4,0,30] fun s21 g21 w21 c21=>?_;exact qB [true,true,true,true,true] fun z K0 K=>hJ _ _ _ z _ ⟨(s21 0),(s21 1),rfl,rfl,(((((((((((c1.trans c2).trans c3).trans c4).trans c8).trans c11).trans c13).trans c14).trans c15).trans c19).trans c20).trans c21)⟩ K
      ·refine qR [] 6 [1,0,23,1,0,27,4,0,29,3,0,30] fun s22 g22 w22 c22=>?_;refine La ?_;exact qB [true,true,true,true,true] fun z K0 K=>hJ _ _ _ z _ ⟨(s22 1),(s22 0),rfl,rfl,(((((((((((c1.trans c2).trans c3).trans c4).trans c8).trans c11).trans c13).trans c14).trans c15).trans c19).trans c20).trans c22)⟩ K
     ·refine qR [] 1 [1,0] fun s23 g23 w23 c23=>?_;refine Cs 6 12 (by kernel_rfl) ?_ ?_
      ·have hB25:=hB.ch (((((((((c1.trans c2).trans c3).trans c4).trans c8).trans c11).trans c13).trans c14).trans c15).trans c23) (by simp);refine qC 6 (CJ p.sto c.k c.c c.s c.n c.v w23 (hB25.tn hT)) ?_;rintro e' w26 ⟨rfl,b26⟩;refine⟨_,rfl,b26,?_⟩;have c26:=Cg.ofBelow (B:=w.heap.size) (T:=[]) (g:=g23) b26;refine qR [] 9 [14,16,18,20,25,1,0,27,3,0,29,4,0,30] fun s27 g27 w27 c27=>?_;exact qB [true,true,true,true,true] fun z K0 K=>hJ _ _ _ z _ ⟨(s23 0),(s27 0),rfl,rfl,(((((((((((c1.trans c2).trans c3).trans c4).trans c8).trans c11).trans c13).trans c14).trans c15).trans c23).trans c26).trans c27)⟩ K
      ·refine qR [] 1 [1,0] fun s28 g28 w28 c28=>?_;have hB29:=hB.ch ((((((((((c1.trans c2).trans c3).trans c4).trans c8).trans c11).trans c13).trans c14).trans c15).trans c23).trans c28) (by simp);refine qC 6 (CJ p.sto c.k c.c c.s c.n c.v w28 (hB29.tn hT)) ?_;rintro e' w30 ⟨rfl,b30⟩;refine⟨_,rfl,b30,?_⟩;have c30:=Cg.ofBelow (B:=w.heap.size) (T:=[]) (g:=g28) b30;refine qR [] 8 [14,16,18,20,27,3,0,29,4,0,30] fun s31 g31 w31 c31=>?_;exact qB [true,true,true,true,true] fun z K0 K=>hJ _ _ _ z _ ⟨(s23 0),(s28 0),rfl,rfl,((((((((((((c1.trans c2).trans c3).trans c4).trans c8).trans c11).trans c13).trans c14).trans c15).trans c23).trans c28).trans c30).trans c31)⟩ K
     ·refine qR [] 1 [1,0] fun s32 g32 w32 c32=>?_;refine Cs 6 11 (by kernel_rfl) ?_ ?_
      ·have hB34:=hB.ch (((((((((c1.trans c2).trans c3).trans c4).trans c8).trans c11).trans c13).trans c14).trans c15).trans c32) (by simp);refine qC 6 (CJ p.sto c.k c.c c.s c.n c.v w32 (hB34.tn hT)) ?_;rintro e' w35 ⟨rfl,b35⟩;refine⟨_,rfl,b35,?_⟩;have c35:=Cg.ofBelow (B:=w.heap.size) (T:=[]) (g:=g32) b35;refine qR [] 9 [14,16,18,20,23,1,0,27,4,0,29,3,0,30] fun s36 g36 w36 c36=>?_;refine La ?_;exact qB [true,true,true,true,true] fun z K0 K=>hJ _ _ _ z _ ⟨(s36 0),(s32 0),rfl,rfl,(((((((((((c1.trans c2).trans c3).trans c4).trans c8).trans c11).trans c13).trans c14).trans c15).trans c32).trans c35).trans c36)⟩ K
      ·refine qR [] 1 [1,0] fun s37 g37 w37 c37=>?_;have hB38:=hB.ch ((((((((((c1.trans c2).trans c3).trans c4).trans c8).trans c11).trans c13).trans c14).trans c15).trans c32).trans c37) (by simp);refine qC 6 (CJ p.sto c.k c.c c.s c.n c.v w37 (hB38.tn hT)) ?_;rintro e' w39 ⟨rfl,b39⟩;refine⟨_,rfl,b39,?_⟩;have c39:=Cg.ofBelow (B:=w.heap.size) (T:=[]) (g:=g37) b39;refine qR [] 8 [14,16,18,20,27,4,0,29,3,0,30] fun s40 g40 w40 c40=>?_;refine La ?_;exact qB [true,true,true,true,true] fun z K0 K=>hJ _ _ _ z _ ⟨(s37 0),(s32 0),rfl,rfl,((((((((((((c1.trans c2).trans c3).trans c4).trans c8).trans c11).trans c13).trans c14).trans c15).trans c32).trans c37).trans c39).trans c40)⟩ K
    ·rintro g16 w16 _ z16 _ ⟨b6,b7,rfl,rfl,hcc⟩;refine qR [] 5 [2,4] fun s41 g41 w41 c41=>?_;rw[show p.sub0 i e0 c ts=(p,(ts++[⟨i,c.c,c.s,doC p.sto c,doA p.sto c⟩]))from(if_neg hdown).trans ((if_neg h2).trans (if_pos h3))];refine Ae fun K=>?_;have C43:Cg w.heap.size ([]:List Tg) g w g41 w41:=((hcc.nil ([]:List Tg)).trans (c41.nil ([]:List Tg)));have Z43:Tg.z∉([]:List Tg):=by simp
     have N42:NS i nb ob g41 w41 p ls ts:=⟨x,lt,tl,hN.ch C43 Z43 (by simp),hO.ch C43 Z43 (by simp),K.new⟩;refine qG 3 (TN i) [false,false,true,true,true] (O1 N42 hts c (doC p.sto c) (doA p.sto c)) ?_;rintro e' w42 ⟨g42,rfl,M42,c42⟩;refine⟨_,g42,rfl,c42,M42.new,?_⟩;replace c42:=c42.ret (B:=w.heap.size);obtain⟨x42,lt42,tl42,hN42,hO42,hg42⟩:=M42;refine qN hN42 ?_;refine qO hO42 ?_;refine qR [] 1 [] fun s44 g44 w44 c44=>?_;refine qE (.tuple #[]) fun K=>?_;have C45:Cg w.heap.size ([]:List Tg) g42 w42 g44 w44:=(c44.nil ([]:List Tg));have Z45:Tg.z∉([]:List Tg):=by simp
     exact⟨_,rfl,⟨x42,lt42,tl42,hN42.ch C45 Z45 (by simp),hO42.ch C45 Z45 (by simp),K.new⟩,((((hcc.nil (TN i)).trans (c41.nil (TN i))).trans (c42)).trans (c44.nil (TN i)))⟩
   ·refine qI ((decide (c∈p.agreed.take p.done))) false (by simpa using h3) ?_;refine qR [] 4 [2] fun s46 g46 w46 c46=>?_;rw[show p.sub0 i e0 c ts=(p.want c,ts)from(if_neg hdown).trans ((if_neg h2).trans (if_neg h3))];refine Ae fun K=>?_;have C48:Cg w.heap.size ([]:List Tg) g w g46 w46:=(((((((((c1.nil ([]:List Tg)).trans (c2.nil ([]:List Tg))).trans (c3.nil ([]:List Tg))).trans (c4.nil ([]:List Tg))).trans (c8.nil ([]:List Tg))).trans (c11.nil ([]:List Tg))).trans (c13.nil ([]:List Tg))).trans (c14.nil ([]:List Tg))).trans (c46.nil ([]:List Tg)));have Z48:Tg.z∉([]:List Tg):=by simp
    have N47:NS i nb ob g46 w46 p ls ts:=⟨x,lt,tl,hN.ch C48 Z48 (by simp),hO.ch C48 Z48 (by simp),K.new⟩;refine qG 2 (TN i) [false,false,true] (VD N47 h1 hw c) ?_;rintro e' w47 ⟨g47,rfl,M47,c47⟩;refine⟨_,g47,rfl,c47,M47.new,?_⟩;replace c47:=c47.ret (B:=w.heap.size);obtain⟨x47,lt47,tl47,hN47,hO47,hg47⟩:=M47;refine qN hN47 ?_;refine qO hO47 ?_;refine qR [] 1 [] fun s49 g49 w49 c49=>?_;refine qE (.tuple #[]) fun K=>?_;have C50:Cg w.heap.size ([]:List Tg) g47 w47 g49 w49:=(c49.nil ([]:List Tg));have Z50:Tg.z∉([]:List Tg):=by simp
    exact⟨_,rfl,⟨x47,lt47,tl47,hN47.ch C50 Z50 (by simp),hO47.ch C50 Z50 (by simp),K.new⟩,(((((((((((c1.nil (TN i)).trans (c2.nil (TN i))).trans (c3.nil (TN i))).trans (c4.nil (TN i))).trans (c8.nil (TN i))).trans (c11.nil (TN i))).trans (c13.nil (TN i))).trans (c14.nil (TN i))).trans (c46.nil (TN i))).trans (c47)).trans (c49.nil (TN i)))⟩
 ·refine qI ((!p.up)) true (by simpa using h1) ?_;refine qE (.tuple #[]) fun K=>?_;rw[show p.sub0 i e0 c ts=(p,ts)from if_pos (by simpa using h1)];have C52:Cg w.heap.size ([]:List Tg) g w g1 w1:=(c1.nil ([]:List Tg));have Z52:Tg.z∉([]:List Tg):=by simp
  exact⟨_,rfl,⟨x,lt,tl,hN.ch C52 Z52 (by simp),hO.ch C52 Z52 (by simp),K.new⟩,(c1.nil (TN i))⟩
def MX(Q:Nat→Bool):Nat→Nat
 | 0=>0
 | k+1=>MX Q k+(Q k).toNat
theorem ZE(Q:Nat→Bool):MX Q 5=Yi Q:=by simp only[MX,Yi];omega
theorem VV(Q:Nat→Bool)(k:Nat):MX Q k≤k:=by
 induction k with
 | zero=>exact Nat.le_refl _
 | succ k ih=>simp only[MX];cases Q k<;>simp<;>omega
theorem bH{P:Program}{W:World}{x y:Operand}{t:TypeId}(a b:Int)(hk:P.underlying t=some (.int .i64))(h:-9223372036854775808≤a*b∧a*b≤9223372036854775807):(do Go.eqGuard .mul t x y (iv a) (iv b);Go.binOp .mul t (iv a) (iv b):Sem Value).run P W=.ok (iv (a*b)) W:=by
 have hw:IntKind.i64.wrap (a*b)=a*b:=by rw[IntKind.wrap_i64];omega
 simp[Go.eqGuard,Go.binOp,go_sem,hw]
theorem Pb{g:Gh}{w:World}{i nb ob:Nat}{p:Nod}{ls:List Let}{ts:List Tol}(h:NS i nb ob g w p ls ts) :
  Calls prog 167 #[pt nb 11] w fun e w'=>e=.returned (.bool p.rnd.enough)∧Below w.heap.size w w':=by
 obtain⟨x,lt,tl,hN,hO,hg⟩:=h;refine gIn (fn:=f167) (TN i) g func167 (by kernel_rfl) (by kernel_rfl) hg ?_;refine qN hN ?_;refine qO hO ?_;refine qR [] 18 [0] fun s1 g1 w1 c1=>?_;refine BE 20 [(3,iv 0),(9,.agg #[.bool (p.rnd.pro 0),.bool (p.rnd.pro 1),.bool (p.rnd.pro 2),.bool (p.rnd.pro 3),.bool (p.rnd.pro 4)]),(10,iv 0)] [false,false] [] (fun k g' w' e L=>∃ (k0 c:Nat),c=MX p.rnd.pro k0∧k=5-k0∧k0≤5∧e=[(3,iv (c:Int)),(9,.agg #[.bool (p.rnd.pro 0),.bool (p.rnd.pro 1),.bool (p.rnd.pro 2),.bool (p.rnd.pro 3),.bool (p.rnd.pro 4)]),(10,iv (k0:Int))]∧L=[]∧Cg w.heap.size [] g w g' w') (by kernel_rfl) (by kernel_rfl) (by kernel_rfl) (by kernel_rfl) 5 (fun K=>?_) ?_
 ·exact⟨0,0,rfl,rfl,by omega,rfl,rfl,c1⟩
 ·rintro k gr wr _ zr _ ⟨k0,c,hc,rfl,hk0,rfl,rfl,hC⟩ J hJ;have hcl:=VV p.rnd.pro k0;refine qR [] 5 [] fun s2 g2 w2 c2=>?_;by_cases h1:k0<5
  ·refine qI ((decide ((k0:Int)<5))) true (decide_eq_true (by omega)) ?_;refine qR [] 5 [] fun s3 g3 w3 c3=>?_;refine Wm 0 (.bool (p.rnd.pro k0)) (fun K=>(by rcases five h1 with rfl|rfl|rfl|rfl|rfl<;>kernel_rfl)) (by kernel_rfl) ?_;refine qR [] 6 [] fun s4 g4 w4 c4=>?_;by_cases h2:p.rnd.pro k0=true
   ·refine qI ((p.rnd.pro k0)) true h2 ?_;refine qR [] 2 [] fun s5 g5 w5 c5=>?_;refine qV 1 (iv ((c:Int)+1)) (B7 (x:=(.tmp 14)) (y:=(.const (iv 1))) (c:Int) 1 underlying3 (by omega)) ?_;refine qR [] 4 [] fun s6 g6 w6 c6=>?_;refine qV 0 (iv ((k0:Int)+1)) (B7 (x:=(.tmp 10)) (y:=(.const (iv 1))) (k0:Int) 1 underlying3 (by omega)) ?_;refine qR [] 2 [] fun s7 g7 w7 c7=>?_;exact qB [] fun z K0 K=>hJ (5-(k0+1)) _ _ _ z _ (by omega) ⟨k0+1,(c+1),by simp only[MX];rw[h2,hc];rfl,rfl,by omega,rfl,rfl,hC.trans (((((c2.trans c3).trans c4).trans c5).trans c6).trans c7)⟩ K
   ·refine qI ((p.rnd.pro k0)) false (by simpa using h2) ?_;refine qR [] 3 [] fun s8 g8 w8 c8=>?_;refine qV 0 (iv ((k0:Int)+1)) (B7 (x:=(.tmp 10)) (y:=(.const (iv 1))) (k0:Int) 1 underlying3 (by omega)) ?_;refine qR [] 2 [] fun s9 g9 w9 c9=>?_;exact qB [] fun z K0 K=>hJ (5-(k0+1)) _ _ _ z _ (by omega) ⟨k0+1,c,by simp only[MX];rw[(by simpa using h2:p.rnd.pro k0=false),hc];rfl,rfl,by omega,rfl,rfl,hC.trans ((((c2.trans c3).trans c4).trans c8).trans c9)⟩ K
  ·refine qI ((decide ((k0:Int)<5))) false (decide_eq_false (by omega)) ?_;obtain rfl:k0=5:=by omega
   rw[ZE]at hc hcl
   refine qR [] 4 [] fun s10 g10 w10 c10=>?_;refine qV 1 (iv (2*(c:Int))) (bH (x:=(.const (iv 2))) (y:=(.tmp 17)) 2 (c:Int) underlying3 (by omega)) ?_;refine qR [] 3 [] fun s11 g11 w11 c11=>?_;rw[show p.rnd.enough=decide ((5:Int)<2*(c:Int))from by unfold Rnd.enough;rw[← hc];by_cases hx:5<2*c<;>simp[hx]<;>omega];exact qE (.bool (decide ((5:Int)<2*(c:Int)))) fun K=>⟨rfl,Cg.below (hC.trans ((c2.trans c10).trans c11)) (fun _ _=>List.not_mem_nil)⟩
structure Svv(w:World)(x:Value)(ls:List (List Vt)):Prop where
 ex:∃ a cap,x=.slice a ls.length cap∧(ls=[]∨∃ b off,a=some ⟨b,off,none⟩∧b<w.heap.size∧∀ (i:Nat) (l:List Vt),ls[i]?=some l→∃ y,w.cell? ⟨b,off+i,none⟩=some y∧Sv w y l)
 len:ls.length≤5864062014634
theorem Svv.below{w w':World}{x:Value}{ls:List (List Vt)}(h:Svv w x ls)(hb:Below w.heap.size w w'):Svv w' x ls:=by
 obtain⟨⟨a,cap,rfl,h1⟩,h2⟩:=h;refine⟨⟨a,cap,rfl,?_⟩,h2⟩;rcases h1 with h1|⟨b,off,ha,hbs,hc⟩
 ·exact .inl h1
 ·refine .inr ⟨b,off,ha,Nat.lt_of_lt_of_le hbs hb.size,fun i l hi=>?_⟩;obtain⟨y,h3,h4⟩:=hc i l hi;exact⟨y,(hb.cell (p:=⟨b,off+i,none⟩) hbs).trans h3,h4.below hb⟩
theorem Svv.shape{w:World}{x:Value}{ls:List (List Vt)}(h:Svv w x ls):∃ a cap,x=.slice a ls.length cap:=by
 obtain⟨⟨a,cap,e,_⟩,_⟩:=h;exact⟨a,cap,e⟩
theorem Svv.spot{w:World}{a:Option Addr}{n cap:Nat}{ls:List (List Vt)}(h:Svv w (.slice a n cap) ls)(i:Nat)(l:List Vt)(hi:ls[i]?=some l):∃ b off y,a=some ⟨b,off,none⟩∧b<w.heap.size∧w.cell? ⟨b,off+i,none⟩=some y∧Sv w y l:=by
 obtain⟨⟨a',cap',e,h1⟩,_⟩:=h;simp only[Value.slice.injEq]at e;obtain⟨rfl,rfl,rfl⟩:=e;rcases h1 with rfl|⟨b,off,rfl,hb,hc⟩
 ·simp at hi
 ·obtain⟨y,h3,h4⟩:=hc i l hi;exact⟨b,off,y,rfl,hb,h3,h4⟩
theorem Yr:prog.elem 260=113:=by kernel_rfl
theorem YT(w:World):(Go.sizeOf 113).run prog w=.ok 1 w:=by
 have h:=Zb;cases hi:prog.info? 113 with
 | none=>rw[hi]at h;cases h
 | some i =>
  rw[hi]at h
  simp at h;simp[sizeOf,typeInfo,hi,h]
theorem S1(b o n c:Nat)(i:Nat)(hi:i<n)(w:World):(Instr.indexAt 260 (.slice (some ⟨b,o,none⟩) n c) (.int .i64 (i:Int))).run prog w=.ok (.pointer (some ⟨b,o+i,none⟩)) w:=by
 rw[run_indexAt_slice (P:=prog) w 260 _ n c .i64 _ underlying260,if_pos ⟨by omega,by omega⟩,Yr,YT];simp[Result.andThen,Addr.add_mid]
end Go.Proofs.YtakgfdbjgeopdaaGreatDoor
