/- Part 17 of the walk. -/
import Derived.Test.YtaeckakjdagddadGreatDoorZ16
import Derived.Test.YtaeckakjdagddadGreatDoorZ15
set_option maxRecDepth 100000
set_option maxHeartbeats 4000000
open Go.Proofs.Tryz
set_option linter.unusedVariables false
namespace Go.Proofs.YtaeckakjdagddadGreatDoor
open Go.RowKit
theorem K6{g:Gh}{w:World}{i nb ob j:Nat}{x:NX}{p:Nod}(hr:w.heap[nb]?=some (.cells (Ax i ob p x) 113))(hj:j<5):w.rangeAt nb (18+3*j) [iv (p.rnd.heard j).p.r,iv (p.rnd.heard j).p.n,S3.v (x.hv j)]:=by
 rcases five hj with rfl|rfl|rfl|rfl|rfl<;>exact Pp hr _ _ rfl
theorem OS{g:Gh}{w:World}{i nb ob:Nat}{x:NX}{p:Nod}(h:NodeAt g w i nb ob x p):Sac w (.slice (some ⟨nb,18,none⟩) 5 5) p.rnd.accs:=by
 refine⟨⟨some ⟨nb,18,none⟩,5,rfl,.inr ⟨nb,18,rfl,rl h.row,fun j A hA=>?_⟩⟩,by show 5≤3518437208780;decide⟩;have hj:j<5:=by have:=(List.getElem?_eq_some_iff.1 hA).1;exact this
 refine⟨S3.v (x.hv j),?_⟩;have h1:=K6 (g:=g) h.row hj;have h2:=(h.heard j hj).s;rcases five hj with rfl|rfl|rfl|rfl|rfl<;>(simp[Rnd.accs]at hA;subst hA;exact⟨h1,h2⟩)
theorem Vk{ac:List Acc}{s:Int}(h:40≤s):Db ac s≠0:=by rw[(Ih (by omega)).2];decide
theorem Vm{ac:List Acc}{n:Nat}(h:Db ac (n:Int)=0):n≤39:=by
 rcases Nat.lt_or_ge 39 n with h2|h2
 ·exact absurd h (Vk (by omega))
 ·exact h2
theorem fb{W:World}{b k:Nat}{a:Acc}{y:S3}(h:W.rangeAt b k [iv a.p.r,iv a.p.n,S3.v y]):(Instr.loadAt 95 (pt b k)).run prog W=.ok (.agg #[iv a.p.r,iv a.p.n,S3.v y]) W:=by
 have h1:=run_loadVar_mid (P:=prog) W b k 95 _ _ h underlying95 rfl (by kernel_rfl);simp only[Instr.loadAt,Instr.sureAddr,Sem.run_bind,Sem.run_pure,Result.andThen_ok];exact h1
theorem AK.at{L:List Sh}{W:World}(h:AK L W)(k b:Nat)(o:Obj)(t:Tg)(hx:L[k]?=some ⟨b,o,t,false⟩):W.heap[b]?=some o:=h _ (List.mem_of_getElem? hx)
theorem EQ{g:Gh}{w:World}{i nb ob:Nat}{p:Nod}{ls:List Let}{ts:List Tol}(h:NS i nb ob g w p ls ts){w0:World}(hB:Base w0 g w)(hT:Tabs w0)(hb:p.agreed.length≤40) :
  Calls prog 105 #[pt nb 0] w (NP i nb ob g w (.tuple #[]) p.learnC ls ts):=by
 obtain⟨x,lt,tl,hN,hO,hg⟩:=h;refine gI (fn:=f105) (TN i) g func105 hg ?_;refine qN hN ?_;refine qO hO ?_;refine qR [] 1 [] fun s1 g1 w1 c1=>?_;refine Bz 34 [(0,pt nb 0)] [false,false] [] (fun k g' w' e L=>∃ l:List Cmd,e=[(0,pt nb 0)]∧L=[]∧NS i nb ob g' w' { p with agreed:=l } ls ts∧Ng k p.rnd l=Ng 41 p.rnd p.agreed∧41≤l.length+k∧l.length≤41∧Cg w.heap.size (TN i) g w g' w') (by kernel_rfl) (by kernel_rfl) (by kernel_rfl) (by kernel_rfl) 41 (fun K=>?_) ?_
 ·have C2:=c1;exact⟨p.agreed,rfl,rfl,(nsC hN hO C2 K),rfl,by omega,by omega,(c1.nil (TN i))⟩
 ·rintro k gr wr _ zr _ ⟨l,rfl,rfl,hM,hI,hk1,hk2,hC⟩ J hJ;obtain⟨xr,ltr,tlr,hNr,hOr,hgr⟩:=hM;refine qN hNr ?_;refine qO hOr ?_;have hln:xr.agreed.n=l.length:=hNr.agreed.num;refine qR [] 15 [19,0,2,4,6,8,10,12,14,16,18,20,0,22] fun s3 g3 w3 c3=>?_;refine BI 34 (fun g' w' e L=>∃ (bA:Nat),e=[(0,pt nb 0),(2,pt bA 0),(3,iv (Db p.rnd.accs (xr.agreed.n:Int)))]∧L=[⟨nb,.cells (Ax i ob ({ p with agreed:=l }) xr) 113,.n 0 i,false⟩,⟨ob,.cells #[S3.v ltr,S3.v tlr] 84,.n 50 0,false⟩,⟨bA,.cells #[iv (Cv p.rnd.accs (xr.agreed.n:Int)).k,iv (Cv p.rnd.accs (xr.agreed.n:Int)).c,iv (Cv p.rnd.accs (xr.agreed.n:Int)).s,iv (Cv p.rnd.accs (xr.agreed.n:Int)).n,iv (Cv p.rnd.accs (xr.agreed.n:Int)).v] 44,.l,false⟩]∧Cg w.heap.size [] gr wr g' w') (by kernel_rfl) ?_ ?_
  ·intro J hJ;refine C1 12 16 (by kernel_rfl) ?_ ?_
   ·have hS6:=OS (hNr.ch c3);have hB6:=hB.ch (((hC.n c3))) (AW i);refine qC 12 (JS _ _ (xr.agreed.n:Int) w3 hS6 (hB6.tn hT)) ?_;rintro e' w7 ⟨rfl,b7⟩;refine⟨_,rfl,b7,?_⟩;have c7:=Cg.ofBelow (B:=w.heap.size) (T:=[]) (g:=g3) b7;refine qR [] 7 [26,28,30,33,1,0,35,2,0,36] fun s8 g8 w8 c8=>?_;exact qB [true,true,true] fun z K0 K=>hJ _ _ _ z _ ⟨(s8 0),rfl,rfl,((c3.trans c7).trans c8)⟩ K
   ·refine qR [] 1 [1,0] fun s9 g9 w9 c9=>?_;have hS10:=OS (hNr.ch (c3.trans c9));have hB10:=hB.ch (hC.trans ((c3.trans c9).nil _)) (AW i);refine qC 12 (JS _ _ (xr.agreed.n:Int) w9 hS10 (hB10.tn hT)) ?_;rintro e' w11 ⟨rfl,b11⟩;refine⟨_,rfl,b11,?_⟩;have c11:=Cg.ofBelow (B:=w.heap.size) (T:=[]) (g:=g9) b11;refine qR [] 6 [26,28,30,35,2,0,36] fun s12 g12 w12 c12=>?_;exact qB [true,true,true] fun z K0 K=>hJ _ _ _ z _ ⟨(s9 0),rfl,rfl,(((c3.trans c9).trans c11).trans c12)⟩ K
  ·rintro g4 w4 _ z4 _ ⟨bA,rfl,rfl,hc⟩;refine qR [] 6 [] fun s13 g13 w13 c13=>?_;by_cases h1:Db p.rnd.accs (xr.agreed.n:Int)≠0
   ·refine qI (((Db p.rnd.accs (xr.agreed.n:Int)) != 0)) true (by simpa using h1) ?_;refine qE (.tuple #[]) fun K=>?_;have hE:p.learnC={ p with agreed:=l }:=by unfold Nod.learnC;rw[← hI];cases k with|zero=>rfl|succ k=>rw[Ng,if_neg (by rw[← hln];exact h1)]
    rw[hE];exact⟨_,rfl,(nsC hNr hOr (hc.n c13) K),((hC.n hc).n c13)⟩
   ·refine qI (((Db p.rnd.accs (xr.agreed.n:Int)) != 0)) false (by simpa using h1) ?_;have h10:Db p.rnd.accs (xr.agreed.n:Int)=0:=by simpa using h1
    have hl39:l.length≤39:=by rw[← hln];exact Vm h10
    obtain⟨k,rfl⟩:∃ k1,k=k1+1:=⟨k-1,by omega⟩;refine qR [] 10 [12,0,2,4,6,8,10,0,12,2,15,0,0] fun s16 g16 w16 c16=>?_;refine Jn 8 (x:=xr.agreed) 98 98 44 5 40 (.agg #[iv 0,iv 0,iv 0,iv 0,iv 0]) ⟨(s16 0),0,none⟩ 1 1 [iv (Cv p.rnd.accs (xr.agreed.n:Int)).k,iv (Cv p.rnd.accs (xr.agreed.n:Int)).c,iv (Cv p.rnd.accs (xr.agreed.n:Int)).s,iv (Cv p.rnd.accs (xr.agreed.n:Int)).n,iv (Cv p.rnd.accs (xr.agreed.n:Int)).v] (hNr.agreed.ch ((hc.trans c13).trans c16) (by simp) (by simp)) (by kernel_rfl) (by kernel_rfl) (by kernel_rfl) underlying98 (by kernel_rfl) (by kernel_rfl) (by decide) (by decide) rfl (by simp[Value.oneCell']) (fun K=>BY K 3 (s16 0) [iv (Cv p.rnd.accs (xr.agreed.n:Int)).k,iv (Cv p.rnd.accs (xr.agreed.n:Int)).c,iv (Cv p.rnd.accs (xr.agreed.n:Int)).s,iv (Cv p.rnd.accs (xr.agreed.n:Int)).n,iv (Cv p.rnd.accs (xr.agreed.n:Int)).v] 44 .z true (by kernel_rfl)) (by unfold maxLen;omega) (by omega) ?_;intro y17 g17 w17 a17 n17 cc17 G17;have c17:=cc17 w.heap.size [.n 3 i] (List.mem_singleton.2 rfl);refine qR [.n 0 i] 6 [18,20,22,25,0,1] fun s18 g18 w18 c18=>?_;refine DH J 34 [(0,pt nb 0)] [false,false,false,false] [] (by kernel_rfl) (by kernel_rfl) (by kernel_rfl) (by kernel_rfl) (by kernel_rfl) (fun z K0 K=>?_);have hcc:Cv p.rnd.accs (xr.agreed.n:Int)=Cv p.rnd.accs (l.length:Int):=by rw[hln]
    refine hJ k _ _ _ z _ (by omega) ⟨l++[Cv p.rnd.accs (l.length:Int)],rfl,rfl,?_,?_,by simp;omega,by simp;omega,(((((hC.n hc).n c13).n c16).trans (c17.mono (by simp[TN]))).trans (c18.mono (by simp[TN])))⟩ K
    skip
    have C19:=((((hc.nil ([.n 3 i,.n 0 i]:List Tg)).n c13).n c16).m c17).m c18;have Z19:Tg.z∉([.n 3 i,.n 0 i]:List Tg):=by simp
    ·rw[← hcc];exact⟨{ xr with agreed:=y17 },ltr,tlr,K0.nd 0 (hNr.tape.ch C19 Z19) (hNr.votes.ch C19 Z19) (Ba hNr.heard C19 Z19) (B2 hNr.pend C19 Z19 (by simp)) (hNr.queue.ch C19) (by rw[BM];exact a17.ch c18) (hNr.wants.ch C19) (hNr.asked.ch C19) hNr.upm,hOr.ch C19 Z19 (by simp<;>omega),K0.new⟩
    ·rw[← hI,Ng,if_pos (by rw[← hln];exact h10)]
theorem LW{g:Gh}{w:World}{i nb ob:Nat}{p:Nod}{ls:List Let}{ts:List Tol}(h:NS i nb ob g w p ls ts){w0:World}(hB:Base w0 g w)(hT:Tabs w0)(j:Nat)(hj:j<5)(v:Vt)(hb:p.agreed.length≤40) :
  Calls prog 108 #[pt nb 0,iv (j:Int),.agg #[iv v.slot,iv v.b.r,iv v.b.n,iv v.w.k,iv v.w.c,iv v.w.s,iv v.w.n,iv v.w.v]] w (NP i nb ob g w (.tuple #[]) (p.count j v) ls ts):=by
 obtain⟨x,lt,tl,hN,hO,hg⟩:=h;refine gI (fn:=f108) (TN i) g func108 hg ?_;refine qN hN ?_;refine qO hO ?_;refine qR [] 15 [0,0,9,0,2,2,4,6,8,10,12,14,0] fun s1 g1 w1 c1=>?_;by_cases h1:v.b≠p.rnd.bal
 ·refine qT 8 (.bool true) (fun _=>(Mw (x:=(.tmp 9)) (y:=(.tmp 15)) v.b p.rnd.bal h1)) ?_;refine qR [] 2 [] fun s2 g2 w2 c2=>?_;refine qE (.tuple #[]) fun K=>?_;rw[show p.count j v=p from if_pos h1];exact⟨_,rfl,(nsC hN hO (c1.n c2) K),((c1.nil (TN i)).n c2)⟩
 ·have h10:v.b=p.rnd.bal:=by simpa using h1
  refine qT 8 (.bool false) (fun _=>(Mv (x:=(.tmp 9)) (y:=(.tmp 15)) v.b p.rnd.bal h10)) ?_;refine qR [] 11 [16,0,2,4,6,8,10] fun s4 g4 w4 c4=>?_;refine O9 6 (pt nb (18+3*j)) false (fun W hW=>by rcases five hj with rfl|rfl|rfl|rfl|rfl<;>kernel_rfl) (by kernel_rfl) ?_;refine qU 7 (.agg #[iv (p.rnd.heard j).p.r,iv (p.rnd.heard j).p.n,S3.v (x.hv j)]) (fun W hW=>(fb (K6 (g:=g) (AK.at (hW rfl) 0 nb (.cells (Ax i ob p x) 113) (.n 0 i) (by kernel_rfl)) hj))) ?_;refine qR [] 1 [16,2] fun s6 g6 w6 c6=>?_;refine BI 42 (fun g' w' e L=>∃ (ys:S3) (bA:Nat),e=[(0,pt nb 0),(1,iv (j:Int)),(6,pt bA 0),(7,iv (AX (p.rnd.heard j) v))]∧L=[⟨nb,.cells (Ax i ob p x) 113,.n 0 i,false⟩,⟨ob,.cells #[S3.v lt,S3.v tl] 84,.n 50 0,false⟩,⟨(s1 0),.cells #[iv v.slot,iv v.b.r,iv v.b.n,iv v.w.k,iv v.w.c,iv v.w.s,iv v.w.n,iv v.w.v] 162,.z,false⟩,⟨bA,.cells #[iv (Ca (p.rnd.heard j) v).r,iv (Ca (p.rnd.heard j) v).n,S3.v ys] 95,.l,false⟩]∧FSv g' w' ys (Dg (p.rnd.heard j) v)∧Cg w.heap.size [] g w g' w') (by kernel_rfl) ?_ ?_
  ·intro J hJ;refine C1 9 13 (by kernel_rfl) ?_ ?_
   ·refine Ae fun Kq9=>?_;have hS9:=((hN.heard j hj).ch ((c1.trans c4).trans c6) (by simp)).s;have hB9:=hB.ch ((c1.trans c4).trans c6) (by simp);have hG9:∀ z,w6.heap.size≤z→g6.t z=.z:=fun z hz=>(Kq9.new z hz).1;refine qC 9 (BL (p.rnd.heard j).p _ (p.rnd.heard j).vs v w6 hS9 (hB9.tn hT)) ?_;rintro e' w10 ⟨y10,rfl,hy10,hl10,b10⟩;refine⟨_,rfl,b10,?_⟩;have c10:=Cg.ofBelow (B:=w.heap.size) (T:=[]) (g:=g6) b10;obtain⟨ys10,rfl,hyn10,hys10⟩:=Di hy10 hG9 (by omega);refine qR [] 7 [20,22,24,27,1,0,29,3,0,30] fun s11 g11 w11 c11=>?_;exact qB [true,true,true,true] fun z K0 K=>hJ _ _ _ z _ ⟨ys10,(s11 0),rfl,rfl,(hys10.ch c11),((((c1.trans c4).trans c6).trans c10).trans c11)⟩ K
   ·refine qR [] 1 [1,0] fun s12 g12 w12 c12=>?_;refine Ae fun Kq13=>?_;have hS13:=((hN.heard j hj).ch (((c1.trans c4).trans c6).trans c12) (by simp)).s;have hB13:=hB.ch (((c1.trans c4).trans c6).trans c12) (by simp);have hG13:∀ z,w12.heap.size≤z→g12.t z=.z:=fun z hz=>(Kq13.new z hz).1;refine qC 9 (BL (p.rnd.heard j).p _ (p.rnd.heard j).vs v w12 hS13 (hB13.tn hT)) ?_;rintro e' w14 ⟨y14,rfl,hy14,hl14,b14⟩;refine⟨_,rfl,b14,?_⟩;have c14:=Cg.ofBelow (B:=w.heap.size) (T:=[]) (g:=g12) b14;obtain⟨ys14,rfl,hyn14,hys14⟩:=Di hy14 hG13 (by omega);refine qR [] 6 [20,22,24,29,3,0,30] fun s15 g15 w15 c15=>?_;exact qB [true,true,true,true] fun z K0 K=>hJ _ _ _ z _ ⟨ys14,(s12 0),rfl,rfl,(hys14.ch c15),(((((c1.trans c4).trans c6).trans c12).trans c14).trans c15)⟩ K
  ·rintro g7 w7 _ z7 _ ⟨ys,bA,rfl,rfl,hys,hc⟩;refine qR [] 6 [] fun s16 g16 w16 c16=>?_;by_cases h2:AX (p.rnd.heard j) v≠0
   ·refine qI (((AX (p.rnd.heard j) v) != 0)) true (by simpa using h2) ?_;refine qE (.tuple #[]) fun K=>?_;rw[show p.count j v=p from by unfold Nod.count;rw[if_neg h1,if_pos h2]];exact⟨_,rfl,(nsC hN hO (hc.n c16) K),((hc.nil (TN i)).n c16)⟩
   ·refine qI (((AX (p.rnd.heard j) v) != 0)) false (by simpa using h2) ?_;refine qR [] 10 [8,0,2,4,3,6,8,10,12] fun s19 g19 w19 c19=>?_;refine BI 42 (fun g' w' e L=>e=[(0,pt nb 0)]∧L=[⟨nb,.cells (Ax i ob ({ p with rnd:={ p.rnd with heard:=upN p.rnd.heard j ⟨Ca (p.rnd.heard j) v,Dg (p.rnd.heard j) v⟩ } }) ({ x with hv:=upN x.hv j ys })) 113,.n 0 i,false⟩,⟨ob,.cells #[S3.v lt,S3.v tl] 84,.n 50 0,false⟩,⟨(s1 0),.cells #[iv v.slot,iv v.b.r,iv v.b.n,iv v.w.k,iv v.w.c,iv v.w.s,iv v.w.n,iv v.w.v] 162,.z,false⟩,⟨bA,.cells #[iv (Ca (p.rnd.heard j) v).r,iv (Ca (p.rnd.heard j) v).n,S3.v ys] 95,.l,false⟩]∧True∧Cg w.heap.size ([.n 0 i]:List Tg) g19 w19 g' w') (by kernel_rfl) ?_ ?_
    ·intro J hJ;rcases five hj with rfl|rfl|rfl|rfl|rfl <;>
     (refine qR [.n 0 i] 3 [14,17,0,1] fun s21 g21 w21 c21=>?_;exact qB [true,true,true,true] fun z K0 K=>hJ _ _ _ z _ ⟨rfl,rfl,trivial,c21⟩ K)
    rintro g20 w20 _ z20 _ ⟨rfl,rfl,_,c20⟩;refine qR [] 2 [] fun s22 g22 w22 c22=>?_;rw[show p.count j v=Nod.learnC { p with rnd:={ p.rnd with heard:=upN p.rnd.heard j ⟨Ca (p.rnd.heard j) v,Dg (p.rnd.heard j) v⟩ } }from by unfold Nod.count;rw[if_neg h1,if_neg h2]];refine Ae fun K=>?_;have C24:=((((hc.nil ([.n 0 i]:List Tg)).n c16).n c19).trans (c20)).n c22;have Z24:Tg.z∉([.n 0 i]:List Tg):=by simp
    have N23:NS i nb ob g22 w22 ({ p with rnd:={ p.rnd with heard:=upN p.rnd.heard j ⟨Ca (p.rnd.heard j) v,Dg (p.rnd.heard j) v⟩ } }) ls ts:=⟨{ x with hv:=upN x.hv j ys },lt,tl,K.nd 0 (hN.tape.ch C24 Z24) (hN.votes.ch C24 Z24) (fun k hk=>(by show FSv _ _ (upN x.hv j ys k) (upN p.rnd.heard j ⟨Ca (p.rnd.heard j) v,Dg (p.rnd.heard j) v⟩ k).vs;unfold upN;split;exact((((hys.ch c16).ch c19).ch c20).ch c22);exact(hN.heard k hk).ch C24 Z24)) (B2 hN.pend C24 Z24 (by simp)) (hN.queue.ch C24) (hN.agreed.ch C24) (hN.wants.ch C24) (hN.asked.ch C24) hN.upm,hO.ch C24 Z24 (by simp<;>omega),K.new⟩;refine qS0 1 [false,false,true,true] (EQ N23 (hB.ch (((((hc.nil (TN i)).n c16).n c19).trans (c20.mono (by simp[TN]))).n c22) (AW i)) hT hb) fun g23 w23 x23 lt23 tl23 hN23 hO23 c23=>?_;refine qR [] 1 [] fun s25 g25 w25 c25=>?_;exact qF hN23 hO23 c25 (((((((hc.nil (TN i)).n c16).n c19).trans (c20.mono (by simp[TN]))).n c22).trans (c23)).n c25)
theorem NE{g:Gh}{w:World}{i nb ob:Nat}{p:Nod}{ls:List Let}{ts:List Tol}(h:NS i nb ob g w p ls ts){w0:World}(hB:Base w0 g w)(hT:Tabs w0)(lb:Nat)(l:Let)(hl:BZ g w lb l)(hs:l.src<5)(hb:p.agreed.length≤40) :
  Calls prog 66 #[pt nb 0,pt lb 0] w (NP i nb ob g w (.tuple #[]) (p.count l.src l.vote) ls ts):=by
 obtain⟨x,lt,tl,hN,hO,hg⟩:=h;refine gI (fn:=f66) (TN i) g func66 hg ?_;refine qN hN ?_;refine qO hO ?_;obtain⟨vs,wh,hl1,hl2,hl3⟩:=hl;refine BH ⟨lb,.cells (E6 l vs wh) 164,.z,false⟩ (fun _=>⟨hl1.r,hl1.z,fun h=>(by cases h),fun h=>absurd rfl h⟩) (by kernel_rfl) ?_;refine qR [] 10 [9,0,2,4,6,8,2,10,12,14,16,2] fun s1 g1 w1 c1=>?_;refine qS 9 [false,false,true] hN hO c1 (fun N2=>LW N2 (hB.ch (c1.nil (TN i)) (AW i)) hT l.src hs l.vote hb) fun g2 w2 x2 lt2 tl2 hN2 hO2 c2=>?_;refine qR [] 1 [] fun s4 g4 w4 c4=>?_;exact qF hN2 hO2 c4 (((c1.nil (TN i)).trans (c2)).n c4)
theorem FG(q:List Cmd)(c:Cmd)(l:List Cmd):O3 q (c::l)=O3 (if q.length<40∧c∉q then q++[c]else q) l:=rfl
theorem CX{l:List Cmd}{j:Nat}{c:Cmd}(h:l[j]?=some c):l.drop j=c::l.drop (j+1):=by
 obtain⟨h1,h2⟩:=List.getElem?_eq_some_iff.1 h;rw[← h2];exact List.drop_eq_getElem_cons h1
theorem Y4(q l:List Cmd)(h:q.length≤40):(O3 q l).length≤40:=by
 induction l generalizing q with
 | nil=>exact h
 | cons c l ih =>
  rw[FG];refine ih _ ?_;split
  ·rw[List.length_append];show _+1≤_;omega
  ·exact h
theorem IF{g:Gh}{w:World}{i nb ob:Nat}{p:Nod}{ls:List Let}{ts:List Tol}(h:NS i nb ob g w p ls ts)(what:List Cmd)(wh:S3)(hw:Rc g w wh what)(hb:what.length<100000000)(hq:p.rnd.queue.length≤40) :
  Calls prog 110 #[pt nb 0,wh.v] w (NP i nb ob g w (.tuple #[]) (p.enqueue what) ls ts):=by
 have hNS:=h;obtain⟨x,lt,tl,hN,hO,hg⟩:=h;have hwn:=hw.len;refine gI (fn:=f110) (TN i) g func110 hg ?_;refine qN hN ?_;refine qO hO ?_;refine qR [] 4 [] fun s1 g1 w1 c1=>?_;refine Ae fun K=>?_;have N3:NS i nb ob g1 w1 p ls ts:=(nsC hN hO c1 K);refine qC 1 (Mh N3) ?_;rintro e' w4 ⟨rfl,b4⟩;refine⟨_,rfl,b4,?_⟩;have c4:=Cg.ofBelow (B:=w.heap.size) (T:=[]) (g:=g1) b4;refine qR [] 2 [] fun s5 g5 w5 c5=>?_;by_cases h1:p.leads=true
 ·refine qI ((!p.leads)) false (by simpa using h1) ?_;rw[show p.enqueue what={ p with rnd:={ p.rnd with queue:=O3 p.rnd.queue what } }from if_pos h1];refine qR [] 8 [] fun s6 g6 w6 c6=>?_;refine Bz 49 [(0,pt nb 0),(9,S3.v wh),(10,iv (wh.n:Int)),(11,iv 0)] [false,false] [] (fun k g' w' e L=>∃ (j:Nat) (q:List Cmd),k=what.length-j∧j≤what.length∧e=[(0,pt nb 0),(9,S3.v wh),(10,iv (wh.n:Int)),(11,iv (j:Int))]∧L=[]∧NS i nb ob g' w' { p with rnd:={ p.rnd with queue:=q } } ls ts∧O3 q (what.drop j)=O3 p.rnd.queue what∧q.length≤40∧Cg w.heap.size (TN i) g w g' w') (by kernel_rfl) (by kernel_rfl) (by kernel_rfl) (by kernel_rfl) what.length (fun K=>?_) ?_
  ·have C7:=((c1.n c4).n c5).n c6;exact⟨0,p.rnd.queue,rfl,by omega,rfl,rfl,(nsC hN hO C7 K),rfl,hq,((((c1.nil (TN i)).n c4).n c5).n c6)⟩
  ·rintro k gr wr _ zr _ ⟨j,q,rfl,hj,rfl,rfl,hM,hI,hq1,hC⟩ J hJ;obtain⟨xr,ltr,tlr,hNr,hOr,hgr⟩:=hM;refine qN hNr ?_;refine qO hOr ?_;have hqn:xr.queue.n=q.length:=hNr.queue.num;refine qR [] 5 [] fun s8 g8 w8 c8=>?_;by_cases h2:j<what.length
   ·refine qI ((decide ((j:Int)<(wh.n:Int)))) true (decide_eq_true (by omega)) ?_;obtain⟨c,hcj⟩:∃ c,what[j]?=some c:=⟨_,List.getElem?_eq_getElem h2⟩;have hwr:=hw.ch hC (AW i);obtain⟨bx,ox,hxa⟩:=hw.addr h2;refine qR [] 5 [] fun s9 g9 w9 c9=>?_;refine qV 0 (pt bx (ox+5*j)) (Po hxa j (by omega)) ?_;have hwz:=hwr.ch (c8.trans c9);refine qV 1 (.agg #[iv c.k,iv c.c,iv c.s,iv c.n,iv c.v]) (Xb c fun q_ u hu=>hwz.cellAt hxa hcj hu) ?_;refine qR [] 12 [0,0,2,0,19,0,2,4,6,8,10,0,12] fun s11 g11 w11 c11=>?_;by_cases h3:(xr.queue.n:Int)<40
    ·refine qT 7 (.bool true) (fun _=>(rLt (t:=3) (x:=(.tmp 21)) (y:=(.const (iv 40))) (decide_eq_true h3))) ?_;refine qR [] 8 [16,18,20,22,24,26,28,0,30,2] fun s12 g12 w12 c12=>?_;refine qC 16 (E2 (l:=q) (hNr.queue.ch (((c8.trans c9).trans c11).trans c12) (by simp) (by simp)).rd (by omega) c) ?_;rintro e' w13 ⟨rfl,b13⟩;refine⟨_,rfl,b13,?_⟩;have c13:=Cg.ofBelow (B:=w.heap.size) (T:=[]) (g:=g12) b13;refine qR [] 3 [34,36] fun s14 g14 w14 c14=>?_;by_cases h4:c∈q
     ·refine qI ((!(decide (c∈q)))) false (by simpa using h4) ?_;refine qR [] 3 [] fun s15 g15 w15 c15=>?_;refine qV 0 (iv ((j:Int)+1)) (AB (x:=(.tmp 11)) (y:=(.const (iv 1))) (j:Int) 1 underlying3 (by omega)) ?_;refine qR [] 2 [] fun s16 g16 w16 c16=>?_;refine qB [false,false,false] fun z K0 K=>hJ (what.length-(j+1)) _ _ _ z _ (by omega) ⟨j+1,q,rfl,by omega,rfl,rfl,?_,?_,by omega,((((((((hC.n c8).n c9).n c11).n c12).n c13).n c14).n c15).n c16)⟩ K
      ·exact(nsC hNr hOr (((((((c8.n c9).n c11).n c12).n c13).n c14).n c15).n c16) K0)
      ·rw[← hI,CX hcj,FG,if_neg (fun h=>h.2 h4)]
     ·refine qI ((!(decide (c∈q)))) true (by simpa using h4) ?_;refine qR [] 10 [14,0,2,4,6,8,10,12,0,14,2,17,0,0] fun s18 g18 w18 c18=>?_;refine Jn 9 (x:=xr.queue) 98 98 44 5 40 (.agg #[iv 0,iv 0,iv 0,iv 0,iv 0]) ⟨(s18 0),0,none⟩ 1 1 [iv c.k,iv c.c,iv c.s,iv c.n,iv c.v] (hNr.queue.ch ((((((c8.trans c9).trans c11).trans c12).trans c13).trans c14).trans c18) (by simp) (by simp)) (by kernel_rfl) (by kernel_rfl) (by kernel_rfl) underlying98 (by kernel_rfl) (by kernel_rfl) (by decide) (by decide) rfl (by simp[Value.oneCell']) (fun K=>BY K 3 (s18 0) [iv c.k,iv c.c,iv c.s,iv c.n,iv c.v] 44 .z true (by kernel_rfl)) (by unfold maxLen;omega) (by omega) ?_;intro y19 g19 w19 a19 n19 cc19 G19;have c19:=cc19 w.heap.size [.n 2 i] (List.mem_singleton.2 rfl);refine qR [.n 0 i] 8 [20,22,24,26,29,0,1] fun s20 g20 w20 c20=>?_;refine qV 0 (iv ((j:Int)+1)) (AB (x:=(.tmp 11)) (y:=(.const (iv 1))) (j:Int) 1 underlying3 (by omega)) ?_;refine qR [] 2 [] fun s21 g21 w21 c21=>?_;refine qB [false,false,false,false] fun z K0 K=>hJ (what.length-(j+1)) _ _ _ z _ (by omega) ⟨j+1,(q++[c]),rfl,by omega,rfl,rfl,?_,?_,by simp;omega,((((((((((hC.n c8).n c9).n c11).n c12).n c13).n c14).n c18).trans (c19.mono (by simp[TN]))).trans (c20.mono (by simp[TN]))).n c21)⟩ K;have C22:=(((((((((c8.nil ([.n 2 i,.n 0 i]:List Tg)).n c9).n c11).n c12).n c13).n c14).n c18).m c19).m c20).n c21;have Z22:Tg.z∉([.n 2 i,.n 0 i]:List Tg):=by simp
      ·exact⟨{ xr with queue:=y19 },ltr,tlr,K0.nd 0 (hNr.tape.ch C22 Z22) (hNr.votes.ch C22 Z22) (Ba hNr.heard C22 Z22) (B2 hNr.pend C22 Z22 (by simp)) (by rw[BM];exact((a19.ch c20).ch c21)) (hNr.agreed.ch C22) (hNr.wants.ch C22) (hNr.asked.ch C22) hNr.upm,hOr.ch C22 Z22 (by simp<;>omega),K0.new⟩
      ·rw[← hI,CX hcj,FG,if_pos ⟨by omega,h4⟩]
    ·refine qT 7 (.bool false) (fun _=>(rLt (t:=3) (x:=(.tmp 21)) (y:=(.const (iv 40))) (decide_eq_false h3))) ?_;refine qR [] 16 [16,18,20,22,24,26,28,30,32,34,36] fun s23 g23 w23 c23=>?_;refine qV 0 (iv ((j:Int)+1)) (AB (x:=(.tmp 11)) (y:=(.const (iv 1))) (j:Int) 1 underlying3 (by omega)) ?_;refine qR [] 2 [] fun s24 g24 w24 c24=>?_;refine qB [false,false,false] fun z K0 K=>hJ (what.length-(j+1)) _ _ _ z _ (by omega) ⟨j+1,q,rfl,by omega,rfl,rfl,?_,?_,by omega,(((((hC.n c8).n c9).n c11).n c23).n c24)⟩ K
     ·exact(nsC hNr hOr ((((c8.n c9).n c11).n c23).n c24) K0)
     ·rw[← hI,CX hcj,FG,if_neg (by omega)]
   ·refine qI ((decide ((j:Int)<(wh.n:Int)))) false (decide_eq_false (by omega)) ?_;refine qR [] 1 [] fun s26 g26 w26 c26=>?_;obtain rfl:j=what.length:=by omega
    rw[List.drop_length]at hI
    refine qE (.tuple #[]) fun K=>?_;rw[← hI];exact⟨_,rfl,(nsC hNr hOr (c8.n c26) K),((hC.n c8).n c26)⟩
 ·refine qI ((!p.leads)) true (by simpa using h1) ?_;refine qE (.tuple #[]) fun K=>?_;rw[show p.enqueue what=p from if_neg h1];exact⟨_,rfl,(nsC hN hO ((c1.n c4).n c5) K),(((c1.nil (TN i)).n c4).n c5)⟩
theorem En{g:Gh}{w:World}{i nb ob:Nat}{p:Nod}{ls:List Let}{ts:List Tol}(h:NS i nb ob g w p ls ts){b:Bool}(hb:p.leads=b) :
  Calls prog 104 #[pt nb 0] w fun e w'=>e=.returned (.bool b)∧Bw w w':=by subst hb;exact Mh h
theorem Cx{W:World}{ty:TypeId}{dd:TypeDesc}{b k:Nat}{v:Value}(hu:prog.underlying ty=some dd)(hr:dd.isRow=false)(hc:W.cell? ⟨b,k,none⟩=some v):(Instr.loadAt ty (pt b k)).run prog W=.ok v W:=by
 have hagg:(isAgg ty).run prog W=.ok false W:=by
  unfold isAgg;rw[Sem.run_bind,run_underlying hu W];cases dd<;>first|rfl|(simp only[TypeDesc.isRow]at hr;cases hr)
 have hl:(loadVar ty ⟨b,k,none⟩).run prog W=.ok v W:=by simp[loadVar,hagg,hc,go_sem]
 simp only[Instr.loadAt,Instr.sureAddr,Sem.run_bind,Sem.run_pure,Result.andThen_ok,hl]
theorem VD(p:Nod)(l:List Cmd):(p.enqueue l).pend=p.pend:=by unfold Nod.enqueue;split<;>rfl
theorem KU{g:Gh}{w:World}{i nb ob:Nat}{p:Nod}{ls:List Let}{ts:List Tol}(h:NS i nb ob g w p ls ts)(lb:Nat)(l:Let)(hl:BZ g w lb l)(hk:l.kind=6)(hb:p.pend.length<100000000)(hb2:l.what.length<100000000)(hq:p.rnd.queue.length≤40) :
  Calls prog 68 #[pt nb 0,pt lb 0] w (NP i nb ob g w (.tuple #[]) (p.take l) ls ts):=by
 obtain⟨x,lt,tl,hN,hO,hg⟩:=h;refine gI (fn:=f68) (TN i) g func68 hg ?_;refine qN hN ?_;refine qO hO ?_;have hLL:=hl;obtain⟨vs,wh,hl1,hl2,hl3⟩:=hl;refine BH ⟨lb,.cells (E6 l vs wh) 164,.z,false⟩ (fun _=>⟨hl1.r,hl1.z,fun h=>(by cases h),fun h=>absurd rfl h⟩) (by kernel_rfl) ?_;refine qR [] 12 [0,0,0,0,5,0,3,2,4,4,6,8,2] fun s1 g1 w1 c1=>?_;refine qS 5 [false,false,true,true,true] hN hO c1 (fun N2=>IF N2 l.what wh (hl3.ch (c1.nil (TN i)) (AW i)) hb2 hq) fun g2 w2 x2 lt2 tl2 hN2 hO2 c2=>?_;have hn:=hN2.agreed.num;refine qR [] 15 [11,0,2,2,4,6,0,8,1,10,12,14,16,3,18,20] fun s4 g4 w4 c4=>?_;by_cases h1:l.slot<(p.enqueue l.what).agreed.length
 ·refine qI ((decide ((l.slot:Int)<(x2.agreed.n:Int)))) true (decide_eq_true (by omega)) ?_;refine qR [] 3 [1] fun s5 g5 w5 c5=>?_;rw[show p.take l=(p.enqueue l.what).wait (.tell l.src l.slot)from by unfold Nod.take;rw[hk];exact if_pos h1];refine Ae fun K=>?_;obtain⟨z1,z2⟩:=K.isZ 1 (s1 0) (.cells #[pt nb 0] 87) false (by kernel_rfl);obtain⟨z3,z4⟩:=K.isZ 2 (s1 1) (.cells #[pt lb 0] 165) false (by kernel_rfl);have N6:NS i nb ob g5 w5 (p.enqueue l.what) ls ts:=(nsC hN2 hO2 (c4.n c5) K);refine qS0 2 [true,true,true,false,false] (AH N6 (by rw[VD];exact hb) _ _ (.tell l.src l.slot) ⟨(s1 0),(s1 1),lb,l,rfl,⟨z1,z2⟩,⟨z3,z4⟩,hLL.ch ((((c1.nil (TN i)).trans (c2)).n c4).n c5) (AW i),rfl,rfl⟩) fun g6 w6 x6 lt6 tl6 hN6 hO6 c6=>?_;refine qR [] 1 [] fun s8 g8 w8 c8=>?_;exact qF hN6 hO6 c8 ((((((c1.nil (TN i)).trans (c2)).n c4).n c5).trans (c6)).n c8)
 ·refine qI ((decide ((l.slot:Int)<(x2.agreed.n:Int)))) false (decide_eq_false (by omega)) ?_;refine qR [] 1 [] fun s10 g10 w10 c10=>?_;refine qE (.tuple #[]) fun K=>?_;rw[show p.take l=(p.enqueue l.what)from by unfold Nod.take;rw[hk];exact if_neg h1];exact⟨_,rfl,(nsC hN2 hO2 (c4.n c10) K),((((c1.nil (TN i)).trans (c2)).n c4).n c10)⟩
theorem Jw{g:Gh}{w:World}{i nb ob:Nat}{p:Nod}{ls:List Let}{ts:List Tol}(h:NS i nb ob g w p ls ts){w0:World}(hB:Base w0 g w)(hT:Tabs w0)(lb:Nat)(l:Let)(hl:BZ g w lb l)(hk:l.kind=1)(hs:l.src<5)(hb:(p.learn 0 l.what).agreed.length≤40)(hb2:l.what.length≤40)(hb3:(p.rnd.heard l.src).vs.length<100000000) :
  Calls prog 63 #[pt nb 0,pt lb 0] w (NP i nb ob g w (.tuple #[]) (p.take l) ls ts):=by
 obtain⟨kd,src,dst,bal,vote,votes,slot,what⟩:=l;simp only at hk hs hb hb2 hb3;obtain⟨x,lt,tl,hN,hO,hg⟩:=h;refine gI (fn:=f63) (TN i) g func63 hg ?_;refine qN hN ?_;refine qO hO ?_;obtain⟨vs,wh,hl1,hl2,hl3⟩:=hl;obtain⟨wa,wn,wc⟩:=wh;obtain rfl:wn=what.length:=hl3.len;have hba:p.agreed.length≤40:=Nat.le_trans (by unfold Nod.learn;rw[List.length_append];omega) hb;refine BH ⟨lb,.cells (E6 (Let.mk kd src dst bal vote votes slot what) vs (S3.mk wa what.length wc)) 164,.z,false⟩ (fun _=>⟨hl1.r,hl1.z,fun h=>(by cases h),fun h=>absurd rfl h⟩) (by kernel_rfl) ?_;refine qR [] 7 [2] fun s1 g1 w1 c1=>?_;refine qS 5 [false,false,true] hN hO c1 (fun N2=>Mi N2 0 what (S3.mk wa what.length wc) (hl3.ch (c1.nil (TN i)) (AW i)) (by omega) (by omega) (by omega)) fun g2 w2 x2 lt2 tl2 hN2 hO2 c2=>?_;by_cases h1:(p.learn 0 what).leads=false
 ·refine qR [] 5 [29,0] fun s4 g4 w4 c4=>?_;refine Ae fun K=>?_;have N6:NS i nb ob g4 w4 (p.learn 0 what) ls ts:=(nsC hN2 hO2 c4 K);refine qC 1 (En N6 h1) ?_;rintro e' w7 ⟨rfl,b7⟩;refine⟨_,rfl,b7,?_⟩;have c7:=Cg.ofBelow (B:=w.heap.size) (T:=[]) (g:=g4) b7;refine qR [] 29 [4,6,8,10,12,14,16,18,20,22,24,26,28,30,32,34,36,38,40,42,44,46,48,50,52,54,56] fun s8 g8 w8 c8=>?_;refine qE (.tuple #[]) fun K=>?_;rw[show p.take (Let.mk kd src dst bal vote votes slot what)=(p.learn 0 what)from by unfold Nod.take;rw[hk];exact if_pos (.inl h1)];exact⟨_,rfl,(nsC hN2 hO2 ((c4.n c7).n c8) K),(((((c1.nil (TN i)).trans (c2)).n c4).n c7).n c8)⟩
 ·have h10:(p.learn 0 what).leads=true:=by simpa using h1
  refine qR [] 5 [29,0] fun s10 g10 w10 c10=>?_;refine Ae fun K=>?_;have N12:NS i nb ob g10 w10 (p.learn 0 what) ls ts:=(nsC hN2 hO2 c10 K);refine qC 1 (En N12 h10) ?_;rintro e' w13 ⟨rfl,b13⟩;refine⟨_,rfl,b13,?_⟩;have c13:=Cg.ofBelow (B:=w.heap.size) (T:=[]) (g:=g10) b13;refine qR [] 12 [4,6,8,10,12,14,0,16,18,20,22,24,26,1] fun s14 g14 w14 c14=>?_;by_cases h2:bal≠(p.learn 0 what).rnd.bal
  ·refine qT 14 (.bool true) (fun _=>(Mw (x:=(.tmp 17)) (y:=(.tmp 23)) bal (p.learn 0 what).rnd.bal h2)) ?_;refine qR [] 16 [30,32,34,36,38,40,42,44,46,48,50,52,54,56] fun s15 g15 w15 c15=>?_;refine qE (.tuple #[]) fun K=>?_;rw[show p.take (Let.mk kd src dst bal vote votes slot what)=(p.learn 0 what)from by unfold Nod.take;rw[hk];exact if_pos (.inr (.inl h2))];exact⟨_,rfl,(nsC hN2 hO2 (((c10.n c13).n c14).n c15) K),((((((c1.nil (TN i)).trans (c2)).n c10).n c13).n c14).n c15)⟩
  ·have h20:bal=(p.learn 0 what).rnd.bal:=by simpa using h2
   refine qT 14 (.bool false) (fun _=>(Mv (x:=(.tmp 17)) (y:=(.tmp 23)) bal (p.learn 0 what).rnd.bal h20)) ?_;refine qR [] 11 [30,32,34,36,38,40,42,0,44,46,48,50] fun s17 g17 w17 c17=>?_;refine BI 69 (fun g' w' e L=>e=[(0,pt nb 0),(1,pt lb 0),(38,.bool ((p.learn 0 what).rnd.pro src))]∧L=[⟨lb,.cells (E6 (Let.mk kd src dst bal vote votes slot what) vs (S3.mk wa what.length wc)) 164,.z,false⟩,⟨nb,.cells (Ax i ob (p.learn 0 what) x2) 113,.n 0 i,false⟩,⟨ob,.cells #[S3.v lt2,S3.v tl2] 84,.n 50 0,false⟩]∧True∧Cg w.heap.size ([]:List Tg) g17 w17 g' w') (by kernel_rfl) ?_ ?_
   ·intro J hJ;rcases five hs with rfl|rfl|rfl|rfl|rfl <;>
    (refine qR [] 4 [52,54,1,56] fun s19 g19 w19 c19=>?_;exact qB [true,true,true] fun z K0 K=>hJ _ _ _ z _ ⟨rfl,rfl,trivial,(c19.nil ([]:List Tg))⟩ K)
   rintro g18 w18 _ z18 _ ⟨rfl,rfl,_,c18⟩;by_cases h3:(p.learn 0 what).rnd.pro src=true
   ·refine qI (((p.learn 0 what).rnd.pro src)) true h3 ?_;refine qE (.tuple #[]) fun K=>?_;rw[show p.take (Let.mk kd src dst bal vote votes slot what)=(p.learn 0 what)from by unfold Nod.take;rw[hk];exact if_pos (.inr (.inr h3))];exact⟨_,rfl,(nsC hN2 hO2 ((((c10.n c13).n c14).n c17).n c18) K),(((((((c1.nil (TN i)).trans (c2)).n c10).n c13).n c14).n c17).n c18)⟩
   ·refine qI (((p.learn 0 what).rnd.pro src)) false (by simpa using h3) ?_;refine qR [] 15 [12,0,2,4,6,8,10,12,14,0,16,18,20,22,0] fun s23 g23 w23 c23=>?_;refine qS 12 [true,false,false] hN2 hO2 (((((c10.n c13).n c14).n c17).n c18).n c23) (fun N24=>OE N24 (hB.ch ((((((((c1.nil (TN i)).trans (c2)).n c10).n c13).n c14).n c17).n c18).n c23) (AW i)) hT src hs votes vs (hl2.ch ((((((((c1.nil (TN i)).trans (c2)).n c10).n c13).n c14).n c17).n c18).n c23) (AW i)) hb3) fun g24 w24 x24 lt24 tl24 hN24 hO24 c24=>?_;refine qR [] 17 [15,0,2,4,6,8,0,10,12,14,16,0,18,20,22,24,26] fun s26 g26 w26 c26=>?_;refine BI 69 (fun g' w' e L=>e=[(0,pt nb 0)]∧L=[⟨lb,.cells (E6 (Let.mk kd src dst bal vote votes slot what) vs (S3.mk wa what.length wc)) 164,.z,false⟩,⟨nb,.cells (Ax i ob ({ (p.learn 0 what)with rnd:={ (p.learn 0 what).rnd.hear src votes with taught:=upN (p.learn 0 what).rnd.taught src what.length } }) x24) 113,.n 0 i,false⟩,⟨ob,.cells #[S3.v lt24,S3.v tl24] 84,.n 50 0,false⟩]∧True∧Cg w.heap.size ([.n 0 i]:List Tg) g26 w26 g' w') (by kernel_rfl) ?_ ?_
    ·intro J hJ;rcases five hs with rfl|rfl|rfl|rfl|rfl <;>
     (refine qR [.n 0 i] 3 [28,31,1,1] fun s28 g28 w28 c28=>?_;exact qB [true,true,true] fun z K0 K=>hJ _ _ _ z _ ⟨rfl,rfl,trivial,c28⟩ K)
    rintro g27 w27 _ z27 _ ⟨rfl,rfl,_,c27⟩;refine qR [] 2 [] fun s29 g29 w29 c29=>?_;rw[show p.take (Let.mk kd src dst bal vote votes slot what)=Nod.learnC { (p.learn 0 what)with rnd:={ (p.learn 0 what).rnd.hear src votes with taught:=upN (p.learn 0 what).rnd.taught src what.length } }from by unfold Nod.take;rw[hk];exact if_neg (by rintro(h|h|h);exact h1 h;exact h2 h;exact h3 h)];refine Ae fun K=>?_;have C31:=((c26.nil ([.n 0 i]:List Tg)).trans (c27)).n c29;have N30:NS i nb ob g29 w29 ({ (p.learn 0 what)with rnd:={ (p.learn 0 what).rnd.hear src votes with taught:=upN (p.learn 0 what).rnd.taught src what.length } }) ls ts:=⟨x24,lt24,tl24,K.ndu 1 hN24 C31,hO24.ch C31 (hn:=by simp<;>omega),K.new⟩;refine qS0 1 [true,false,false] (EQ N30 (hB.ch ((((((((((((c1.nil (TN i)).trans (c2)).n c10).n c13).n c14).n c17).n c18).n c23).trans (c24)).n c26).trans (c27.mono (by simp[TN]))).n c29) (AW i)) hT hb) fun g30 w30 x30 lt30 tl30 hN30 hO30 c30=>?_;refine qR [] 1 [] fun s32 g32 w32 c32=>?_;exact qF hN30 hO30 c32 ((((((((((((((c1.nil (TN i)).trans (c2)).n c10).n c13).n c14).n c17).n c18).n c23).trans (c24)).n c26).trans (c27.mono (by simp[TN]))).n c29).trans (c30)).n c32)
def tkG:Nat→FuncId
 | 0=>62
 | 1=>63
 | 2=>64
 | 3=>65
 | 4=>66
 | 5=>67
 | _=>68
def tkV(k:Nat):Value:=.func (.func (tkG k)) #[] #[]
def tkL(j:Nat):List MapEntry:=(List.range j).map fun(k:Nat)=>{ key:=iv (k:Int),val:=tkV k,born:=k }
structure TkAt(g:Gh)(w:World)(b j:Nat):Prop where
 t:g.t b=.n 70 0
 k:g.k b=0
 row:w.heap[b]?=some (.map (tkL j).toArray j)
theorem TkAt.ch{B:Nat}{T:List Tg}{g g':Gh}{w w':World}{b j:Nat}(h:TkAt g w b j)(c:Cg B T g w g' w')(hn:Tg.n 70 0∉T:=by simp):TkAt g' w' b j :=
 have h1:=c.rc h.row h.t hn
 ⟨h1.2.1,h1.2.2.trans h.k,h1.1⟩
theorem Xy{k:Nat}(h:k<7):k=0∨k=1∨k=2∨k=3∨k=4∨k=5∨k=6:=by omega
theorem PG(em:Bool)(k:Nat)(w:World):(Instr.checkKey em 10000 148 (iv (k:Int))).run prog w=.ok () w:=by kernel_rfl
theorem ZV{j:Nat}(h:j<7)(w:World):(Instr.findKey 148 (iv (j:Int)) (tkL j)).run prog w=.ok none w:=by
 rcases Xy h with rfl|rfl|rfl|rfl|rfl|rfl|rfl<;>kernel_rfl
theorem ZU{j:Nat}(h:j<7)(w:World):(Instr.findKey 148 (iv (j:Int)) (tkL 7)).run prog w=.ok (some (j,tkV j)) w:=by
 rcases Xy h with rfl|rfl|rfl|rfl|rfl|rfl|rfl<;>kernel_rfl
theorem dL{g:Gh}{w:World}{b j:Nat}(h:TkAt g w b j)(hj:j<7):∃ w',(Instr.mapUpdate 85 (.map (some b)) (iv (j:Int)) (tkV j)).run prog w=.ok () w'∧TkAt g w' b (j+1)∧(∀ B T,Tg.n 70 0∈T→Cg B T g w g w')∧w'.heap.size=w.heap.size:=by
 have hg:(getObj b).run prog w=.ok (.map (tkL j).toArray j) w:=by simp[getObj,Sem.run,h.row]
 have hs:=MapKept.run_setObj_map (P:=prog) (w:=w) (.map (tkL (j+1)).toArray (j+1)) h.row;have he:((tkL j).toArray.push { key:=iv (j:Int),val:=tkV j,born:=j })=(tkL (j+1)).toArray:=by simp[tkL,List.range_succ]
 refine⟨_,?_,⟨h.t,h.k,ChangeMaps.heap_setBlock_same h.row (.map (tkL (j+1)).toArray (j+1))⟩,fun B T hT=>Cg.block h.row h.t h.k hT _,by simp[ChangeMaps.setBlock]⟩;rw[Instr.mapUpdate];simp only[Sem.run_bind,run_underlying underlying85,Result.andThen_ok,hg,PG,ZV hj,he,hs];rfl
theorem rTk{w:World}{b k:Nat}(hb:w.heap[b]?=some (.map (tkL 7).toArray 7))(hk:k<7):(Instr.lookup 85 (.map (some b)) (iv (k:Int)) false).run prog w=.ok (tkV k) w:=by
 have hg:(getObj b).run prog w=.ok (.map (tkL 7).toArray 7) w:=by simp[getObj,Sem.run,hb]
 simp[Instr.lookup,run_underlying underlying85,hg,PG,ZU hk]
section
variable{fn:Func}{R:Ending→World→Prop}{B:Nat}{T:List Tg}{g:Gh}{w:World}
theorem eF{s:Xs}(i':Nat)(hsem:CP s i'=some (Instr.makeMap 85 none>>=fun v=>pure (.value v)))
  (hob:(nxt s i' undef s.L).o.map Ob.l'=(nxt s i' undef s.L).o.map Ob.r')
  (hk:∀ b g' w',w.heap.size≤b→TkAt g' w' b 0→(∀ B T,Cg B T g w g' w')→(∀ b,w'.heap.size≤b→g'.t b=.z∧g'.k b=0)→GG prog fn R B T (nxt s i' (.map (some b)) s.L).s g' w'):GG prog fn R B T s g w:=by
 refine Kk i' s.L hob (BE hsem) fun hK ops j o hop=>?_;have hr:(Instr.makeMap 85 none).run prog w=.ok (.map (some w.heap.size)) (w.alloc (.map #[] 0)):=by
  simp[Instr.makeMap,go_sem]
 have hC:∀ B T,Cg B T g w (MY g w (.n 70 0) 0) (w.alloc (.map #[] 0)):=fun B T =>
  ⟨rfl,rfl,rfl,by simp,fun b hb=>.inl (if_neg (by omega)),fun b hb=>by show _≤(if b=w.heap.size then _ else g.k b);rw[if_neg (by omega)];exact Nat.le_refl _,fun b hb _ _=>if_neg (by omega),fun b hb _ _=>heap_alloc_old w _ hb,fun b hb j hj=>World.cell?_of_block (w:=w) (heap_alloc_old w _ hb)⟩
 have hG:∀ b,(w.alloc (.map #[] 0)).heap.size≤b→(MY g w (.n 70 0) 0).t b=.z∧(MY g w (.n 70 0) 0).k b=0:=fun b hb=>by
  have hb':w.heap.size+1≤b:=by simpa using hb
  show(if b=w.heap.size then _ else g.t b)=.z∧(if b=w.heap.size then _ else g.k b)=0;rw[if_neg (by omega),if_neg (by omega)];exact hK.new b (by omega)
 refine⟨.map (some w.heap.size),_,MY g w (.n 70 0) 0,.inl ?_,hK.ch (hC _ []) hG (by simp),hk _ _ _ (Nat.le_refl _) ⟨if_pos rfl,if_pos rfl,heap_alloc_new _ _⟩ hC hG⟩;rw[CT hsem hop,Sem.run_bind,hr,Result.andThen_ok];rfl
theorem Gq{s:Xs}(i':Nat){b j:Nat}(h:TkAt g w b j)(hj:j<7)(hsem:CP s i'=some (Instr.mapUpdate 85 (.map (some b)) (iv (j:Int)) (tkV j)>>=fun _=>pure .skip))
  (hob:(nxt s i' undef s.L).o.map Ob.l'=(nxt s i' undef s.L).o.map Ob.r')(hT:s.L.all (fun y=>[Tg.n 70 0].all fun t=>y.t.ne t)=true)
  (hk:∀ w',TkAt g w' b (j+1)→(∀ B T,Tg.n 70 0∈T→Cg B T g w g w')→GG prog fn R B T (nxt s i' undef s.L).s g w'):GG prog fn R B T s g w:=by
 refine Kk i' s.L hob (BE hsem) fun hK ops i o hop=>?_;obtain⟨w',hr,h2,h3,h4⟩:=dL h hj;refine⟨undef,w',g,.inr ⟨?_,rfl⟩,hK.ch (h3 _ [Tg.n 70 0] (List.mem_singleton.2 rfl)) (fun b hb=>hK.new b (by rw[h4]at hb;exact hb)) hT,hk w' h2 h3⟩;rw[CT hsem hop,Sem.run_bind,hr,Result.andThen_ok];rfl
end
def TM:List Tg:=[0,1,2,3,4].flatMap TN
theorem Ex:Tg.z∉TM:=by simp[TM,TN]
theorem eb{i:Nat}(hi:i<5):∀ t∈TN i,t∈TM:=fun t ht=>List.mem_flatMap.2 ⟨i,by rcases five hi with rfl|rfl|rfl|rfl|rfl<;>simp,ht⟩
theorem ec{i j r:Nat}(h:j≠i)(hr:r<6):Tg.n r j∉TN i:=by simp[TN];omega
def mtA(nb:Nat→Nat)(ob tb:Nat):Array Value:=#[pt (nb 0) 0,pt (nb 1) 0,pt (nb 2) 0,pt (nb 3) 0,pt (nb 4) 0,pt ob 0,.map (some tb)]
structure MS(mb tb ob:Nat)(nb:Nat→Nat)(g:Gh)(w:World)(M:Meet):Prop where
 box:Box g w mb (mtA nb ob tb) 90
 tk:TkAt g w tb 7
 node:∀ i,i<5→∃ x,NodeAt g w i (nb i) ob x (M.node i)
 out:∃ lt tl,OutAt g w ob lt tl M.lets M.told
 new:H8 g w
def MP(mb tb ob:Nat)(nb:Nat→Nat)(g:Gh)(w:World)(v:Value)(M:Meet):Ending→World→Prop:=fun e w'=>∃ g',e=.returned v∧MS mb tb ob nb g' w' M∧Cg w.heap.size TM g w g' w'
section
variable{mb tb ob i:Nat}{nb:Nat→Nat}{g g':Gh}{w w':World}{M:Meet}
theorem MS.ns(h:MS mb tb ob nb g w M)(hi:i<5):NS i (nb i) ob g w (M.node i) M.lets M.told :=
 let ⟨x,hx⟩:=h.node i hi
 let ⟨lt,tl,ho⟩:=h.out
 ⟨x,lt,tl,hx,ho,h.new⟩
theorem MS.ch0{B:Nat}(h:MS mb tb ob nb g w M)(c:Cg B [] g w g' w')(hn:H8 g' w'):MS mb tb ob nb g' w' M :=
 ⟨h.box.ch c,h.tk.ch c,fun i hi=>let ⟨x,hx⟩:=h.node i hi;⟨x,hx.ch c⟩,let ⟨lt,tl,ho⟩:=h.out;⟨lt,tl,ho.ch c⟩,hn⟩
theorem MS.of{B:Nat}(h:MS mb tb ob nb g w M)(hi:i<5){p:Nod}{ls:List Let}{ts:List Tol}(hn:NS i (nb i) ob g' w' p ls ts)(c:Cg B (TN i) g w g' w'):MS mb tb ob nb g' w' ⟨upN M.node i p,ls,ts⟩:=by
 obtain⟨x,lt,tl,h1,h2,h3⟩:=hn;refine⟨h.box.ch c (AW i),h.tk.ch c (by simp[TN]),fun j hj=>?_,⟨lt,tl,h2⟩,h3⟩;by_cases e:j=i
 ·subst e;exact⟨x,by show NodeAt g' w' j (nb j) ob x (upN M.node j p j);rw[dM];exact h1⟩
 ·obtain⟨y,hy⟩:=h.node j hj;exact⟨y,by show NodeAt g' w' j (nb j) ob y (upN M.node i p j);rw[dN _ _ e];exact hy.ch c (AW i) fun r hr=>ec e hr⟩
theorem MS.call(h:MS mb tb ob nb g w M)(hi:i<5){f:FuncId}{av:Array Value}{v:Value}{p:Nod}{ls:List Let}{ts:List Tol}(hc:Calls prog f av w (NP i (nb i) ob g w v p ls ts)):Calls prog f av w (MP mb tb ob nb g w v ⟨upN M.node i p,ls,ts⟩) :=
 hc.mono fun e w' ⟨g',he,hn,c⟩=>⟨g',he,h.of hi hn c,c.mono (eb hi)⟩
theorem Sp{W:World}(hr:W.heap[mb]?=some (.cells (mtA nb ob tb) 90)){j:Nat}(hj:j<5):W.cell? ⟨mb,j,none⟩=some (pt (nb j) 0):=by
 rcases five hj with rfl|rfl|rfl|rfl|rfl<;>(rw[cell_of_row _ _ _ _ _ _ hr];rfl)
end
end Go.Proofs.YtaeckakjdagddadGreatDoor
