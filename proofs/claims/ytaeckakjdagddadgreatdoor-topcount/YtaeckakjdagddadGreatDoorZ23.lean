/- Part 23 of the walk. -/
import Derived.LoopN
import Derived.Test.YtaeckakjdagddadGreatDoorZ22
set_option maxRecDepth 100000
set_option maxHeartbeats 4000000
open Go.Proofs.Tryz
set_option linter.unusedVariables false
namespace Go.Proofs.YtaeckakjdagddadGreatDoor
open Go.RowKit
theorem KE{p:Nod}{b:Bal}(h:(p.promise b).2.2≠0):(p.promise b).1=p:=by
 unfold Nod.promise at h ⊢;split
 ·rfl
 ·rename_i h1
  rw[if_neg h1]at h
  split
  ·rename_i h2;rw[if_pos h2]at h;exact absurd rfl h
  ·rename_i h2
   rw[if_neg h2]at h
   split
   ·rfl
   ·rename_i h3;rw[if_neg h3]at h;exact absurd rfl h
theorem SI{p:Nod}{v:Vt}(h:(p.vote v).2≠0):(p.vote v).1=p:=by
 unfold Nod.vote at h ⊢;split
 ·rfl
 ·rename_i h1
  rw[if_neg h1]at h
  split
  ·rename_i h2;rw[if_pos h2]at h;exact absurd rfl h
  ·rename_i h2
   rw[if_neg h2]at h
   split
   ·rfl
   ·rename_i h3;rw[if_neg h3]at h;exact absurd rfl h
theorem Hg(p:Nod)(b:Bal):(p.promise b).1.pend=p.pend:=by
 unfold Nod.promise
 repeat' split
 all_goals rfl
theorem MG(p:Nod)(v:Vt):(p.vote v).1.pend=p.pend:=by
 unfold Nod.vote
 repeat' split
 all_goals rfl
theorem Hu{g:Gh}{w:World}{i nb ob:Nat}{p:Nod}{ls:List Let}{ts:List Tol}(h:NS i nb ob g w p ls ts){w0:World}(hB:Base w0 g w)(hT:Tabs w0)(lb:Nat)(l:Let)(hl:BZ g w lb l)(hk:l.kind=0)(hb:p.pend.length<100000000) :
  Calls prog 62 #[pt nb 0,pt lb 0] w (NP i nb ob g w (.tuple #[]) (p.take l) ls ts):=by
 obtain⟨x,lt,tl,hN,hO,hg⟩:=h;refine gI (fn:=f62) (TN i) g func62 hg ?_;refine qN hN ?_;refine qO hO ?_;have hLL:=hl;obtain⟨vs,wh,hl1,hl2,hl3⟩:=hl;refine BH ⟨lb,.cells (E6 l vs wh) 164,.z,false⟩ (fun _=>⟨hl1.r,hl1.z,fun h=>(by cases h),fun h=>absurd rfl h⟩) (by kernel_rfl) ?_;refine qR [] 12 [0,0,0,0,5,0,3,2,4,4,6,8,2] fun s1 g1 w1 c1=>?_;refine BI 27 (fun g' w' e L=>∃ (yv:S3) (b4:Nat),e=[(2,pt (s1 0) 0),(3,pt (s1 1) 0),(4,pt b4 0),(5,iv (p.promise l.bal).2.2)]∧L=[⟨lb,.cells (E6 l vs wh) 164,.z,false⟩,⟨(s1 0),.cells #[pt nb 0] 87,.z,false⟩,⟨(s1 1),.cells #[pt lb 0] 165,.z,false⟩,⟨b4,.cells #[S3.v yv] 93,.l,false⟩]∧FSv g' w' yv (p.promise l.bal).2.1∧NS i nb ob g' w' (p.promise l.bal).1 ls ts∧Cg w.heap.size (TN i) g w g' w') (by kernel_rfl) ?_ ?_
 ·intro J hJ;refine C1 5 9 (by kernel_rfl) ?_ ?_
  ·refine Ae fun K=>?_;have N4:NS i nb ob g1 w1 p ls ts:=(nsC hN hO c1 K);refine qG 5 (TN i) [false,false,true,true,true] (E9 N4 (hB.ch (c1.nil (TN i)) (AW i)) hT l.bal) ?_;rintro e' w4 ⟨y4,g4,rfl,hy4,M4,c4⟩;refine⟨_,g4,rfl,c4,M4.new,?_⟩;replace c4:=c4.ret (B:=w.heap.size);refine qR [] 7 [12,14,16,19,1,0,21,3,0,22] fun s6 g6 w6 c6=>?_;exact qB [true,true,true,true] fun z K0 K=>hJ _ _ _ z _ ⟨y4,(s6 0),rfl,rfl,(hy4.ch c6),NS.ch0 M4 c6 K0.new,(((c1.nil (TN i)).trans (c4)).n c6)⟩ K
  ·refine qR [] 1 [1,0] fun s7 g7 w7 c7=>?_;refine Ae fun K=>?_;have N8:NS i nb ob g7 w7 p ls ts:=(nsC hN hO (c1.n c7) K);refine qG 5 (TN i) [false,false,true,true,true,true] (E9 N8 (hB.ch ((c1.nil (TN i)).n c7) (AW i)) hT l.bal) ?_;rintro e' w8 ⟨y8,g8,rfl,hy8,M8,c8⟩;refine⟨_,g8,rfl,c8,M8.new,?_⟩;replace c8:=c8.ret (B:=w.heap.size);refine qR [] 6 [12,14,16,21,3,0,22] fun s10 g10 w10 c10=>?_;exact qB [true,true,true,true] fun z K0 K=>hJ _ _ _ z _ ⟨y8,(s7 0),rfl,rfl,(hy8.ch c10),NS.ch0 M8 c10 K0.new,((((c1.nil (TN i)).n c7).trans (c8)).n c10)⟩ K
 ·rintro g2 w2 _ z2 _ ⟨yv,b4,rfl,rfl,hyv,hM,hc⟩;obtain⟨x1,lt1,tl1,hN1,hO1,hg1⟩:=hM;refine qN hN1 ?_;refine qO hO1 ?_;refine eE 3 b4 (by kernel_rfl) fun g11 c11=>?_;refine qR [] 6 [] fun s12 g12 w12 c12=>?_;by_cases h1:(p.promise l.bal).2.2≠0
  ·refine qI (((p.promise l.bal).2.2 != 0)) true (by simpa using h1) ?_;refine qR [] 8 [6,0,1,2,2,4,6,8,0,10] fun s13 g13 w13 c13=>?_;have hp:=KE h1;rw[show p.take l=p.refuse l.src (p.promise l.bal).2.2 from by unfold Nod.take;rw[hk];exact if_pos h1];refine Ae fun K=>?_;have N14:NS i nb ob g13 w13 ((p.promise l.bal).1) ls ts:=(nsC hN1 hO1 ((c11.n c12).n c13) K);rw[hp]at N14
   refine qS0 6 [true,true,true,true,false,false] (KL N14 hb l.src (p.promise l.bal).2.2) fun g14 w14 x14 lt14 tl14 hN14 hO14 c14=>?_;refine qR [] 1 [] fun s16 g16 w16 c16=>?_;exact qF hN14 hO14 c16 ((((((hc).n c11).n c12).n c13).trans (c14)).n c16)
  ·refine qI (((p.promise l.bal).2.2 != 0)) false (by simpa using h1) ?_;refine qR [] 4 [1] fun s18 g18 w18 c18=>?_;rw[show p.take l=(p.promise l.bal).1.wait (.prom l.src l.bal (p.promise l.bal).2.1)from by unfold Nod.take;rw[hk];exact if_neg h1];refine Ae fun K=>?_;obtain⟨z1,z2⟩:=K.isZ 1 (s1 0) (.cells #[pt nb 0] 87) false (by kernel_rfl);obtain⟨z3,z4⟩:=K.isZ 2 (s1 1) (.cells #[pt lb 0] 165) false (by kernel_rfl);obtain⟨z5,z6⟩:=K.isZ 3 b4 (.cells #[S3.v yv] 93) false (by kernel_rfl);have N19:NS i nb ob g18 w18 ((p.promise l.bal).1) ls ts:=(nsC hN1 hO1 ((c11.n c12).n c18) K);refine qS0 2 [true,true,true,true,false,false] (AH N19 (by rw[Hg];exact hb) _ _ (.prom l.src l.bal (p.promise l.bal).2.1) ⟨(s1 0),(s1 1),b4,yv,lb,l,rfl,⟨z1,z2⟩,⟨z3,z4⟩,⟨z5,z6⟩,(((hyv.ch c11).ch c12).ch c18),hLL.ch ((((hc).n c11).n c12).n c18) (AW i),rfl,rfl⟩) fun g19 w19 x19 lt19 tl19 hN19 hO19 c19=>?_;refine qR [] 1 [] fun s21 g21 w21 c21=>?_;exact qF hN19 hO19 c21 ((((((hc).n c11).n c12).n c18).trans (c19)).n c21)
theorem I3{g:Gh}{w:World}{i nb ob:Nat}{p:Nod}{ls:List Let}{ts:List Tol}(h:NS i nb ob g w p ls ts){w0:World}(hB:Base w0 g w)(hT:Tabs w0)(lb:Nat)(l:Let)(hl:BZ g w lb l)(hk:l.kind=3)(hb:p.pend.length<100000000)(hb2:p.vo.vs.length<100000000) :
  Calls prog 65 #[pt nb 0,pt lb 0] w (NP i nb ob g w (.tuple #[]) (p.take l) ls ts):=by
 obtain⟨x,lt,tl,hN,hO,hg⟩:=h;refine gI (fn:=f65) (TN i) g func65 hg ?_;refine qN hN ?_;refine qO hO ?_;have hLL:=hl;obtain⟨vs,wh,hl1,hl2,hl3⟩:=hl;refine BH ⟨lb,.cells (E6 l vs wh) 164,.z,false⟩ (fun _=>⟨hl1.r,hl1.z,fun h=>(by cases h),fun h=>absurd rfl h⟩) (by kernel_rfl) ?_;refine qR [] 13 [0,0,0,0,5,0,3,2,4,4,6,8,2] fun s1 g1 w1 c1=>?_;refine qS 5 [false,false,true,true,true] hN hO c1 (fun N2=>Mo N2 (hB.ch (c1.nil (TN i)) (AW i)) hT l.vote hb2) fun g2 w2 x2 lt2 tl2 hN2 hO2 c2=>?_;refine qR [] 7 [12] fun s4 g4 w4 c4=>?_;by_cases h1:(p.vote l.vote).2≠0
 ·refine qI (((p.vote l.vote).2 != 0)) true (by simpa using h1) ?_;refine qR [] 8 [6,0,1,2,2,4,6,8,0,10] fun s5 g5 w5 c5=>?_;have hp:=SI h1;rw[show p.take l=p.refuse l.src (p.vote l.vote).2 from by unfold Nod.take;rw[hk];exact if_pos h1];refine Ae fun K=>?_;have N6:NS i nb ob g5 w5 ((p.vote l.vote).1) ls ts:=(nsC hN2 hO2 (c4.n c5) K);rw[hp]at N6
  refine qS0 6 [true,true,true,false,false] (KL N6 hb l.src (p.vote l.vote).2) fun g6 w6 x6 lt6 tl6 hN6 hO6 c6=>?_;refine qR [] 1 [] fun s8 g8 w8 c8=>?_;exact qF hN6 hO6 c8 ((((((c1.nil (TN i)).trans (c2)).n c4).n c5).trans (c6)).n c8)
 ·refine qI (((p.vote l.vote).2 != 0)) false (by simpa using h1) ?_;refine qR [] 4 [1] fun s10 g10 w10 c10=>?_;rw[show p.take l=(p.vote l.vote).1.wait (.voted l.src l.vote)from by unfold Nod.take;rw[hk];exact if_neg h1];refine Ae fun K=>?_;obtain⟨z1,z2⟩:=K.isZ 1 (s1 0) (.cells #[pt nb 0] 87) false (by kernel_rfl);obtain⟨z3,z4⟩:=K.isZ 2 (s1 1) (.cells #[pt lb 0] 165) false (by kernel_rfl);have N11:NS i nb ob g10 w10 ((p.vote l.vote).1) ls ts:=(nsC hN2 hO2 (c4.n c10) K);refine qS0 2 [true,true,true,false,false] (AH N11 (by rw[MG];exact hb) _ _ (.voted l.src l.vote) ⟨(s1 0),(s1 1),lb,l,rfl,⟨z1,z2⟩,⟨z3,z4⟩,hLL.ch ((((c1.nil (TN i)).trans (c2)).n c4).n c10) (AW i),rfl,rfl⟩) fun g11 w11 x11 lt11 tl11 hN11 hO11 c11=>?_;refine qR [] 1 [] fun s13 g13 w13 c13=>?_;exact qF hN11 hO11 c13 ((((((c1.nil (TN i)).trans (c2)).n c4).n c10).trans (c11)).n c13)
theorem ND{g:Gh}{w:World}{i nb ob:Nat}{p:Nod}{ls:List Let}{ts:List Tol}(h:NS i nb ob g w p ls ts)(lb:Nat)(l:Let)(hl:BZ g w lb l)(hk:l.kind=5)(hb:p.pend.length<100000000)(hb2:p.agreed.length<100000000)(hb3:l.what.length<100000000) :
  Calls prog 67 #[pt nb 0,pt lb 0] w (NP i nb ob g w (.tuple #[]) (p.take l) ls ts):=by
 obtain⟨x,lt,tl,hN,hO,hg⟩:=h;refine gI (fn:=f67) (TN i) g func67 hg ?_;refine qN hN ?_;refine qO hO ?_;have hLL:=hl;have hn:=hN.agreed.num;obtain⟨vs,wh,hl1,hl2,hl3⟩:=hl;refine BH ⟨lb,.cells (E6 l vs wh) 164,.z,false⟩ (fun _=>⟨hl1.r,hl1.z,fun h=>(by cases h),fun h=>absurd rfl h⟩) (by kernel_rfl) ?_;refine qR [] 20 [0,0,0,0,11,0,4,2,4,6,2,8,3,10,12,14,16,0,18,20] fun s1 g1 w1 c1=>?_;by_cases h1:p.agreed.length<l.slot
 ·refine qI ((decide ((x.agreed.n:Int)<(l.slot:Int)))) true (decide_eq_true (by omega)) ?_;refine qR [] 4 [3] fun s2 g2 w2 c2=>?_;rw[show p.take l=p.wait (.askNews l.src)from by unfold Nod.take;rw[hk];exact if_pos h1];refine Ae fun K=>?_;obtain⟨z1,z2⟩:=K.isZ 3 (s1 0) (.cells #[pt nb 0] 87) false (by kernel_rfl);obtain⟨z3,z4⟩:=K.isZ 4 (s1 1) (.cells #[pt lb 0] 165) false (by kernel_rfl);have N3:NS i nb ob g2 w2 p ls ts:=(nsC hN hO (c1.n c2) K);refine qS0 2 [false,false,true,true,true] (AH N3 hb _ _ (.askNews l.src) ⟨(s1 0),(s1 1),lb,l,rfl,⟨z1,z2⟩,⟨z3,z4⟩,hLL.ch ((c1.nil (TN i)).n c2) (AW i),rfl⟩) fun g3 w3 x3 lt3 tl3 hN3 hO3 c3=>?_;refine qR [] 1 [] fun s5 g5 w5 c5=>?_;exact qF hN3 hO3 c5 ((((c1.nil (TN i)).n c2).trans (c3)).n c5)
 ·refine qI ((decide ((x.agreed.n:Int)<(l.slot:Int)))) false (decide_eq_false (by omega)) ?_;refine qR [] 11 [9,0,3,2,4,4,6,8,2,10,4,12,14,16,2] fun s7 g7 w7 c7=>?_;rw[show p.take l=p.learn l.slot l.what from by unfold Nod.take;rw[hk];exact if_neg h1];refine qS 9 [false,false,true,true,true] hN hO (c1.n c7) (fun N8=>Mi N8 l.slot l.what wh (hl3.ch ((c1.nil (TN i)).n c7) (AW i)) (by omega) hb2 hb3) fun g8 w8 x8 lt8 tl8 hN8 hO8 c8=>?_;refine qR [] 1 [] fun s10 g10 w10 c10=>?_;exact qF hN8 hO8 c10 ((((c1.nil (TN i)).n c7).trans (c8)).n c10)
section
variable{P:Program}{fn:Func}{R:Ending→World→Prop}{B:Nat}{T:List Tg}{g:Gh}{w:World}
theorem aN{s:Xs}(k n:Nat)(e0:List (Nat × Value))(m:List Bool)(L0:List Sh)(hl:QA s.K=true)(hn:s.f.n=n)(he:e0.map (fun p=>lk s.f.z s.f.e p.1)=e0.map (·.2))(hL:Bj (Ay m s.L)=L0)
  (h:∀ J:Nat→Act→World→Prop,(∀ (m:Nat) (e:List (Nat × Value)) (z:Nat→Value) (L:List Sh) (g:Gh) (w:World),GG P fn R B T (ZC s n (J m) e z L) g w→Kn B g w L→J (m+1) (⟨n,e,z⟩:Fm).act w)→∀ z,GG P fn R B T (ZC s n (J k) e0 z L0) g w):GG P fn R B T s g w:=by
 refine gFm e0 he fun z=>?_;obtain⟨K,f,L⟩:=s;simp only at hn;subst hn;have hL':Bj (Ay m L)=L0:=hL;have hc:GG P fn R B T ⟨K,⟨f.n,e0,z⟩,Bj (Ay m L)⟩ g w→GG P fn R B T ⟨K,⟨f.n,e0,z⟩,L⟩ g w:=fun h=>⟨fun hK=>h.ex (hK.sub (CL m L)).clr⟩;refine hc ?_;rw[hL'];cases K with
 | nil=>cases hl
 | cons t K =>
  cases t with
  | c x =>
   cases x with
   | loop b =>
    refine⟨fun hK=>?_⟩;exact wp_loop_rounds (k+1) ((h (Code.rounds P b (Kq P (bodyPost P fn R) K)) (fun m e z L g w hG hK=>hG.ex hK) z).ex hK)
   | _=>cases hl
  | _=>cases hl
end
theorem L5{v:Vt}{g:Gh}{w:World}{i nb ob:Nat}{p:Nod}{ls:List Let}{ts:List Tol}(h:NS i nb ob g w p ls ts){w0:World}(hB:Base w0 g w)(hT:Tabs w0)(hi:i<5)(hb:ls.length<90000000){b1 b2:Nat}(h1:Box g w b1 #[pt nb 0] 87)(h2:Box g w b2 #[iv v.slot,iv v.b.r,iv v.b.n,iv v.w.k,iv v.w.c,iv v.w.s,iv v.w.n,iv v.w.v] 162)(hba:p.agreed.length≤40) :
  Calls prog 122 #[pt b1 0,pt b2 0] w (NP i nb ob g w (.tuple #[]) (p.count i v) (ls++BK i { Cd 3 with vote:=v } 5) ts):=by
 obtain⟨x,lt,tl,hN,hO,hg⟩:=h;refine gI (fn:=f122) (TN i) g func122 hg ?_;refine qN hN ?_;refine qO hO ?_;refine BH ⟨b1,.cells #[pt nb 0] 87,.z,false⟩ (fun _=>⟨h1.r,h1.z,fun h=>(by cases h),fun h=>absurd rfl h⟩) (by kernel_rfl) ?_;refine BH ⟨b2,.cells #[iv v.slot,iv v.b.r,iv v.b.n,iv v.w.k,iv v.w.c,iv v.w.s,iv v.w.n,iv v.w.v] 162,.z,false⟩ (fun _=>⟨h2.r,h2.z,fun h=>(by cases h),fun h=>absurd rfl h⟩) (by kernel_rfl) ?_;refine qR [] 8 [6,0,2,2,2,4,6,8,0,10,3] fun s1 g1 w1 c1=>?_;refine qS 6 [false,false,true,true] hN hO c1 (fun N2=>LW N2 (hB.ch (c1.nil (TN i)) (AW i)) hT i hi v hba) fun g2 w2 x2 lt2 tl2 hN2 hO2 c2=>?_;refine qR [] 5 [0,1] fun s4 g4 w4 c4=>?_;refine qS 3 [true,true,false,false] hN2 hO2 c4 (fun N5=>D6 N5 hb { Cd 3 with vote:=v } s30 s30 ⟨Sv.nil _,fun h=>absurd rfl h⟩ (Rc.nil _ _)) fun g5 w5 x5 lt5 tl5 hN5 hO5 c5=>?_;refine qR [] 1 [] fun s7 g7 w7 c7=>?_;exact qF hN5 hO5 c7 (((((c1.nil (TN i)).trans (c2)).n c4).trans (c5)).n c7)
theorem QH{b:Bal}{vs:List Vt}{x3:S3}{g:Gh}{w:World}{i nb ob:Nat}{p:Nod}{ls:List Let}{ts:List Tol}(h:NS i nb ob g w p ls ts){w0:World}(hB:Base w0 g w)(hT:Tabs w0)(hi:i<5)(hb:ls.length<90000000){b1 b2 b3:Nat}(h1:Box g w b1 #[pt nb 0] 87)(h2:Box g w b2 #[iv b.r,iv b.n] 92)(h3:Box g w b3 #[S3.v x3] 93)(hv:FSv g w x3 vs)(hb3:(p.rnd.heard i).vs.length<100000000) :
  Calls prog 75 #[pt b1 0,pt b2 0,pt b3 0] w (NP i nb ob g w (.tuple #[]) (if p.vo.p≠b then p else{ p with rnd:=p.rnd.hear i vs }) (if p.vo.p≠b then ls else(ls++BK i { Cd 0 with bal:=b } 5)) ts):=by
 obtain⟨x,lt,tl,hN,hO,hg⟩:=h;refine gI (fn:=f75) (TN i) g func75 hg ?_;refine qN hN ?_;refine qO hO ?_;refine BH ⟨b1,.cells #[pt nb 0] 87,.z,false⟩ (fun _=>⟨h1.r,h1.z,fun h=>(by cases h),fun h=>absurd rfl h⟩) (by kernel_rfl) ?_;refine BH ⟨b2,.cells #[iv b.r,iv b.n] 92,.z,false⟩ (fun _=>⟨h2.r,h2.z,fun h=>(by cases h),fun h=>absurd rfl h⟩) (by kernel_rfl) ?_;refine BH ⟨b3,.cells #[S3.v x3] 93,.z,false⟩ (fun _=>⟨h3.r,h3.z,fun h=>(by cases h),fun h=>absurd rfl h⟩) (by kernel_rfl) ?_;refine qR [] 10 [8,0,2,2,4,6,8,10,0,12,3] fun s1 g1 w1 c1=>?_;by_cases h1:p.vo.p≠b
 ·refine qT 7 (.bool true) (fun _=>(Mw (x:=(.tmp 8)) (y:=(.tmp 9)) p.vo.p b h1)) ?_;refine qR [] 2 [] fun s2 g2 w2 c2=>?_;rw[if_pos h1,if_pos h1];exact qF hN hO (c1.n c2) ((c1.nil (TN i)).n c2)
 ·have h10:p.vo.p=b:=by simpa using h1
  refine qT 7 (.bool false) (fun _=>(Mv (x:=(.tmp 8)) (y:=(.tmp 9)) p.vo.p b h10)) ?_;rw[if_neg h1,if_neg h1];refine qR [] 14 [9,0,2,2,4,6,8,2,10,12,14,0,16,4] fun s4 g4 w4 c4=>?_;refine qS 9 [false,false,true,true,true] hN hO (c1.n c4) (fun N5=>OE N5 (hB.ch ((c1.nil (TN i)).n c4) (AW i)) hT i hi vs x3 (hv.ch ((c1.nil (TN i)).n c4) (AW i)) hb3) fun g5 w5 x5 lt5 tl5 hN5 hO5 c5=>?_;refine qR [] 5 [0,1] fun s7 g7 w7 c7=>?_;refine qS 3 [true,true,true,false,false] hN5 hO5 c7 (fun N8=>D6 N8 hb { Cd 0 with bal:=b } s30 s30 ⟨Sv.nil _,fun h=>absurd rfl h⟩ (Rc.nil _ _)) fun g8 w8 x8 lt8 tl8 hN8 hO8 c8=>?_;refine qR [] 1 [] fun s10 g10 w10 c10=>?_;exact qF hN8 hO8 c10 ((((((c1.nil (TN i)).n c4).trans (c5)).n c7).trans (c8)).n c10)
def Nod.runP(p:Nod)(i:Nat):Pend→Nod
 | .began b vs=>if p.vo.p≠b then p else{ p with rnd:=p.rnd.hear i vs }
 | .prop v=>p.count i v
 | _=>p
def Nod.sentP(p:Nod)(i:Nat):Pend→List Let
 | .began b vs=>if p.vo.p≠b then[]else BK i { Cd 0 with bal:=b } 5
 | .prom to b vs=>[{ Cd 1 with bal:=b,votes:=vs,what:=p.agreed,src:=i,dst:=to }]
 | .voted to v=>[{ Cd 4 with vote:=v,src:=i,dst:=to }]
 | .refuse to b=>[{ Cd 2 with bal:=b,src:=i,dst:=to }]
 | .prop v=>BK i { Cd 3 with vote:=v } 5
 | .askNews to=>[{ Cd 6 with slot:=p.agreed.length,src:=i,dst:=to }]
 | .start=>BK i (Cd 6) 5
 | .tell to slot=>[{ Cd 5 with src:=i,dst:=to,slot:=slot,what:=p.agreed.drop slot }]
def PO(p:Nod)(i:Nat):Pend→Prop
 | .began _ _=>(p.rnd.heard i).vs.length<100000000
 | .prop _=>p.agreed.length≤40
 | .tell _ slot=>slot≤p.agreed.length
 | _=>True
theorem aK{P:Program}{s:Xs}{i:Nat}{W:World}{S:Sem Next}{r:Result Next}(h:CP s i=some S)(hr:S.run P W=r):Cz P s i W=some r:=by
 unfold Cz;unfold CP at h;cases hx:opN s i with
 | none=>rw[hx]at h;cases h
 | some x =>
  rw[hx]at h
  simp only[Option.map_some,Option.some.injEq]at h ⊢;rw[h,hr]
theorem FM{g:Gh}{w:World}{i nb ob:Nat}{p:Nod}{ls:List Let}{ts:List Tol}(h:NS i nb ob g w p ls ts){w0:World}(hB:Base w0 g w)(hT:Tabs w0)(hi:i<5)(hb:ls.length<90000000){v:Value}(q:Pend)(hq:PO p i q)(hv:JI g w nb v q) :
  ∃ (F:FuncId) (cs:Array Value),v=.func (.func F) #[] cs∧(∀ W,(Go.callFunc F (#[]++cs)).run prog W=.ok (.enter F cs) W)∧Calls prog F cs w (NP i nb ob g w (.tuple #[]) (p.runP i q) (ls++p.sentP i q) ts):=by
 cases q with
 | began b vs =>
  obtain⟨b1,b2,b3,x,e,h1,h2,h3,h4⟩:=hv;refine⟨_,_,e,fun W=>by kernel_rfl,?_⟩;have:=QH h hB hT hi hb h1 h2 h3 h4 hq;unfold Nod.runP Nod.sentP;by_cases hx:p.vo.p≠b
  ·rw[if_pos hx,if_pos hx]at this;simp only[if_pos hx,List.append_nil];exact this
  ·rw[if_neg hx,if_neg hx]at this;simp only[if_neg hx];exact this
 | prom to b vs =>
  obtain⟨b1,b2,b3,x,lb,l,e,h1,h2,h3,h4,h5,rfl,rfl⟩:=hv;exact⟨_,_,e,fun W=>(by kernel_rfl),FT h hb h1 h2 h3 h5 h4⟩
 | voted to u =>
  obtain⟨b1,b2,lb,l,e,h1,h2,h3,rfl,rfl⟩:=hv;exact⟨_,_,e,fun W=>(by kernel_rfl),GB (b3:=0) h hb h1 h2 h3⟩
 | refuse to b =>
  obtain⟨b1,b2,b3,e,h1,h2,h3⟩:=hv;exact⟨_,_,e,fun W=>(by kernel_rfl),Nr h hb h1 h2 h3⟩
 | prop u =>
  obtain⟨b1,b2,e,h1,h2⟩:=hv;exact⟨_,_,e,fun W=>(by kernel_rfl),L5 h hB hT hi hb h1 h2 hq⟩
 | askNews to =>
  obtain⟨b1,b2,lb,l,e,h1,h2,h3,rfl⟩:=hv;exact⟨_,_,e,fun W=>(by kernel_rfl),KV (b3:=0) h hb h1 h2 h3⟩
 | start =>
  obtain⟨b1,e,h1⟩:=hv;exact⟨_,_,e,fun W=>(by kernel_rfl),P3 (b2:=0) (b3:=0) h hb h1⟩
 | tell to slot =>
  obtain⟨b1,b2,lb,l,e,h1,h2,h3,rfl,rfl⟩:=hv;exact⟨_,_,e,fun W=>(by kernel_rfl),I2 (b3:=0) h hb h1 h2 h3 hq⟩
end Go.Proofs.YtaeckakjdagddadGreatDoor
