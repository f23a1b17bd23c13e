/- Part 37 of the walk: what the functions of the program do, one by one. -/
import Derived.Test.YtakgfdbjgeopdaaGreatDoorZ36
set_option maxRecDepth 100000
set_option maxHeartbeats 4000000
open Go.Proofs.Tryz
set_option linter.unusedVariables false
namespace Go.Proofs.YtakgfdbjgeopdaaGreatDoor
open Go.RowKit
theorem bI{P:Program}{W:World}{x y:Operand}(a b:Nat)(hk:P.underlying 3=some (.int .i64))(ha:a<9223372036854775808)(hb:0<b)(hb2:b<9223372036854775808):(do Go.eqGuard .rem 3 x y (iv (a:Int)) (iv (b:Int));Go.binOp .rem 3 (iv (a:Int)) (iv (b:Int)):Sem Value).run P W=.ok (iv ((a%b:Nat):Int)) W:=by
 have h1:Int.tmod (a:Int) (b:Int)=((a%b:Nat):Int):=rfl;have h0:¬ b=0:=by omega
 simp only[Go.eqGuard,go_sem,Op.intDiv];simp[h0,h1]
theorem XJ{W:World}{b n c:Nat}(j:Nat)(hj:j<n):(Instr.indexAt 102 (.slice (some ⟨b,0,none⟩) n c) (iv (j:Int))).run prog W=.ok (pt b j) W :=
 Sq (P:=prog) (e:=178) (z:=1) underlying102 (by kernel_rfl) (by kernel_rfl) hj _ (by omega)
theorem YJ{W:World}{x:S3}{b:Nat}(hx:x.a=some ⟨b,0,none⟩)(j:Nat)(hj:j<x.n):(Instr.indexAt 102 x.v (iv (j:Int))).run prog W=.ok (pt b j) W:=by
 unfold S3.v;rw[hx];exact XJ j hj
theorem FzL.cell{g:Gh}{w:World}{x:S3}{vs:List Value}(h:FzL g w x vs){b j:Nat}(hb:x.a=some ⟨b,0,none⟩){u:Value}(hj:vs[j]?=some u):w.cell? ⟨b,j,none⟩=some u:=by
 obtain⟨c,h1,_,_,h4⟩:=h.at_ j u hj;rw[hb]at h1
 simp only[Option.some.injEq,Addr.mk.injEq,and_true]at h1;subst h1;exact h4
theorem MS.outs{mb tb ob:Nat}{nb:Nat→Nat}{g g':Gh}{w w':World}{M:Meet}{B:Nat}(h:MS mb tb ob nb g w M)(c:Cg B [.n 50 0,.n 51 0] g w g' w'){lt tl:S3}{ls:List Let}(ho:OutAt g' w' ob lt tl ls M.told)(hn:Hc g' w'):MS mb tb ob nb g' w' { M with lets:=ls } :=
 ⟨h.box.ch c (by simp),h.tk.ch c (by simp),fun i hi=>let ⟨x,hx⟩:=h.node i hi;⟨x,hx.ch c (by simp) (fun r hr=>by simp;omega)⟩,⟨lt,tl,ho⟩,hn⟩
theorem Lets.erase{g:Gh}{w:World}{bs:List Nat}{l:List Let}(h:Lets g w bs l)(j:Nat):Lets g w (bs.eraseIdx j) (l.eraseIdx j):=by
 refine⟨by rw[List.length_eraseIdx,List.length_eraseIdx,h.len],fun k b m h1 h2=>?_⟩;rw[List.getElem?_eraseIdx]at h1 h2
 split at h1
 ·rename_i hk;rw[if_pos hk]at h2;exact h.at_ _ _ _ h1 h2
 ·rename_i hk;rw[if_neg hk]at h2;exact h.at_ _ _ _ h1 h2
theorem TA{l:List Let}{j:Nat}{c:Let}(h:l[j]?=some c):l.drop j=c::l.drop (j+1):=by
 obtain⟨h1,h2⟩:=List.getElem?_eq_some_iff.1 h;rw[← h2];exact List.drop_eq_getElem_cons h1
theorem Ux{M:Meet}(k:Int)(a:Nat)(h:M.lets.length=0):M.move k a=M:=by
 unfold Meet.move;rw[List.eq_nil_of_length_eq_zero h];rfl
theorem WG{M:Meet}{k:Int}{a:Nat}{l:Let}(h:M.lets[a%M.lets.length]?=some l):M.move k a=(if k≠5 then(if k≠6 then{ M with lets:=M.lets.eraseIdx (a%M.lets.length) }else M).come l else if k≠6 then{ M with lets:=M.lets.eraseIdx (a%M.lets.length) }else M):=by
 unfold Meet.move;rw[h]
theorem J9{g:Gh}{w:World}{mb tb ob:Nat}{nb:Nat→Nat}{M:Meet}(h:MS mb tb ob nb g w M){w0:World}(hB:Base w0 g w)(hT:Tabs w0)(k:Int)(a:Nat)(ha:a≤1048576){n:Nat}(hm:MOk n M)(hn:n≤1000000) :
  Calls prog 73 #[pt mb 0,iv k,iv (a:Int)] w (MP mb tb ob nb g w (.tuple #[]) (M.move k a)):=by
 obtain⟨lt,tl,hO⟩:=h.out;obtain⟨bs,hL,hLs⟩:=hO.lets;have hln:lt.n=M.lets.length:=by have:=hL.len;have:=hLs.len;simp at *;omega
 have hwt:=hm.wt;refine gIn (fn:=f73) TM g func73 (by kernel_rfl) (by kernel_rfl) h.new ?_;refine Bj ⟨mb,_,.z,false⟩ (fun _=>⟨h.box.r,h.box.z,fun h=>(by cases h),fun h=>absurd rfl h⟩) (by kernel_rfl) ?_;refine qO hO ?_;refine qR [] 18 [0,1] fun s1 g1 w1 c1=>?_;by_cases h1:lt.n=0
 ·refine qI (((lt.n:Int)==0)) true (by simp;omega) ?_;refine qE (.tuple #[]) fun K=>?_;rw[Ux k a (by omega)];exact⟨_,rfl,(h.ch0 c1 K.new),(c1.nil TM)⟩
 ·refine qI (((lt.n:Int)==0)) false (by simp;omega) ?_;obtain⟨j,hj⟩:∃ j,j=a%M.lets.length:=⟨_,rfl⟩;have hjl:j<M.lets.length:=by rw[hj];exact Nat.mod_lt _ (by omega)
  obtain⟨l,hl⟩:∃ l,M.lets[j]?=some l:=⟨_,List.getElem?_eq_getElem hjl⟩;obtain⟨lb,hlb⟩:∃ lb,bs[j]?=some lb:=⟨_,List.getElem?_eq_getElem (by rw[hLs.len];exact hjl)⟩;have hlo:=hm.lets l (List.mem_of_getElem? hl);have hLA:=hLs.at_ j lb l hlb hl;obtain⟨b,hb,hbs,hbc⟩:=hL.cell (j:=j) (u:=pt lb 0) (by rw[List.getElem?_map,hlb];rfl);rw[WG (hj▸hl)];rw[← hj];obtain⟨la,lq,lc⟩:=lt;simp only at hb hln;subst hb;refine qR [] 5 [] fun s3 g3 w3 c3=>?_;have hjr {x y:Operand}:∀ {W:World},(do Go.eqGuard .rem 3 x y (iv (a:Int)) (iv (lq:Int));Go.binOp .rem 3 (iv (a:Int)) (iv (lq:Int)):Sem Value).run prog W=.ok (iv (j:Int)) W:=fun{W}=>by rw[hj,← hln];exact bI a lq underlying3 (by omega) (by omega) (by omega)
  refine qV 2 (iv (j:Int)) (hjr (x:=(.tmp 19)) (y:=(.tmp 20))) ?_;refine qR [] 12 [0,1] fun s4 g4 w4 c4=>?_;refine qV 8 (pt b j) (XJ (b:=b) (n:=lq) (c:=lc) j (by omega)) ?_;refine qV 9 (pt lb 0) (JK underlying178 rfl ((Below.cell (Cg.below ((c1.trans c3).trans c4) (fun _ _=>List.not_mem_nil)) (p:=⟨b,j,none⟩) hbs).trans hbc)) ?_;refine qR [] 8 [] fun s6 g6 w6 c6=>?_;by_cases h2:k≠6
  ·refine qI ((k != 6)) true (by simpa using h2) ?_;have h20:k≠6:=by simpa using h2
   rw[if_pos h20];refine qR [] 14 [17,0,2,4,6,0,8,10,12,14,0,16,18,20,1,22,24] fun s7 g7 w7 c7=>?_;refine qT 13 (iv ((j+1:Nat):Int)) (fun _=>(B7 (x:=(.tmp 46)) (y:=(.const (iv 1))) (j:Int) 1 underlying3 (by omega))) ?_;refine Ae fun K=>?_;refine qG 14 [.n 51 0] [true,true] (Na (hL.ch ((((c1.trans c3).trans c4).trans c6).trans c7) (by simp) (by simp)) K.new j (by rw[hLs.len];exact hjl) (by rw[hLs.len];omega)) ?_;rintro e' w9 ⟨y9,g9,rfl,a9,n9,c9⟩;refine⟨_,g9,rfl,c9,n9,?_⟩;replace c9:=c9.ret (B:=w.heap.size);refine qR [.n 50 0] 9 [30,32,35,1,1] fun s10 g10 w10 c10=>?_;refine Ae fun K=>?_;have C9:Cg w.heap.size [.n 50 0,.n 51 0] g w g10 w10:=(((((((c1.nil [.n 50 0,.n 51 0]).trans (c3.nil [.n 50 0,.n 51 0])).trans (c4.nil [.n 50 0,.n 51 0])).trans (c6.nil [.n 50 0,.n 51 0])).trans (c7.nil [.n 50 0,.n 51 0])).trans (c9.mono (by simp))).trans (c10.mono (by simp)));obtain⟨o1,o2,o3⟩:=K.isN 1 ob (.cells #[S3.v y9,S3.v tl] 104) 50 0 (by kernel_rfl);have MS9:MS mb tb ob nb g10 w10 { M with lets:=M.lets.eraseIdx j }:=h.outs C9 ⟨o1,o2,o3,⟨bs.eraseIdx j,(a9.ch c10 (by simp) (by simp)),(hLs.erase j).ch C9 (by simp)⟩,hO.told.ch C9 (by simp) (by simp)⟩ K.new;by_cases h3:k≠5
   ·refine qI ((k != 5)) true (by simpa using h3) ?_;rw[if_pos (show k≠5 from by simpa using h3)];refine qR [] 3 [] fun s11 g11 w11 c11=>?_;refine Ae fun K=>?_;have N12:MS mb tb ob nb g11 w11 ({ M with lets:=M.lets.eraseIdx j }):=(MS9.ch0 c11 K.new);refine qG 2 TM [true,false] (Jn N12 (hB.ch ((((((((c1.nil TM).trans (c3.nil TM)).trans (c4.nil TM)).trans (c6.nil TM)).trans (c7.nil TM)).trans (c9.mono (by simp[TM,TN]))).trans (c10.mono (by simp[TM,TN]))).trans (c11.nil TM)) Eb) hT lb l (hLA.ch ((((((((c1.nil TM).trans (c3.nil TM)).trans (c4.nil TM)).trans (c6.nil TM)).trans (c7.nil TM)).trans (c9.mono (by simp[TM,TN]))).trans (c10.mono (by simp[TM,TN]))).trans (c11.nil TM)) Eb) hlo (hm.node l.dst hlo.dst) (by have:=Dc (M.node l.dst).pend;have:=Oc M hlo.dst;show(M.node l.dst).pend.length<_;omega)) ?_;rintro e' w12 ⟨g12,rfl,M12,c12⟩;refine⟨_,g12,rfl,c12,M12.new,?_⟩;replace c12:=c12.ret (B:=w.heap.size);refine qR [] 1 [] fun s13 g13 w13 c13=>?_;refine qE (.tuple #[]) fun K=>?_;exact⟨_,rfl,(M12.ch0 c13 K.new),((((((((((c1.nil TM).trans (c3.nil TM)).trans (c4.nil TM)).trans (c6.nil TM)).trans (c7.nil TM)).trans (c9.mono (by simp[TM,TN]))).trans (c10.mono (by simp[TM,TN]))).trans (c11.nil TM)).trans (c12)).trans (c13.nil TM))⟩
   ·refine qI ((k != 5)) false (by simpa using h3) ?_;refine qR [] 1 [] fun s14 g14 w14 c14=>?_;rw[if_neg (show ¬ k≠5 from by simpa using h3)];refine qE (.tuple #[]) fun K=>?_;exact⟨_,rfl,(MS9.ch0 c14 K.new),((((((((c1.nil TM).trans (c3.nil TM)).trans (c4.nil TM)).trans (c6.nil TM)).trans (c7.nil TM)).trans (c9.mono (by simp[TM,TN]))).trans (c10.mono (by simp[TM,TN]))).trans (c14.nil TM))⟩
  ·refine qI ((k != 6)) false (by simpa using h2) ?_;have h20:¬ k≠6:=by simpa using h2
   rw[if_neg h20];refine qR [] 6 [] fun s15 g15 w15 c15=>?_;by_cases h3:k≠5
   ·refine qI ((k != 5)) true (by simpa using h3) ?_;rw[if_pos (show k≠5 from by simpa using h3)];refine qR [] 3 [] fun s16 g16 w16 c16=>?_;refine Ae fun K=>?_;have N17:MS mb tb ob nb g16 w16 M:=(h.ch0 (((((c1.trans c3).trans c4).trans c6).trans c15).trans c16) K.new);refine qG 2 TM [true,false] (Jn N17 (hB.ch ((((((c1.nil TM).trans (c3.nil TM)).trans (c4.nil TM)).trans (c6.nil TM)).trans (c15.nil TM)).trans (c16.nil TM)) Eb) hT lb l (hLA.ch ((((((c1.nil TM).trans (c3.nil TM)).trans (c4.nil TM)).trans (c6.nil TM)).trans (c15.nil TM)).trans (c16.nil TM)) Eb) hlo (hm.node l.dst hlo.dst) (by have:=Dc (M.node l.dst).pend;have:=Oc M hlo.dst;show(M.node l.dst).pend.length<_;omega)) ?_;rintro e' w17 ⟨g17,rfl,M17,c17⟩;refine⟨_,g17,rfl,c17,M17.new,?_⟩;replace c17:=c17.ret (B:=w.heap.size);refine qR [] 1 [] fun s18 g18 w18 c18=>?_;refine qE (.tuple #[]) fun K=>?_;exact⟨_,rfl,(M17.ch0 c18 K.new),((((((((c1.nil TM).trans (c3.nil TM)).trans (c4.nil TM)).trans (c6.nil TM)).trans (c15.nil TM)).trans (c16.nil TM)).trans (c17)).trans (c18.nil TM))⟩
   ·refine qI ((k != 5)) false (by simpa using h3) ?_;refine qR [] 1 [] fun s19 g19 w19 c19=>?_;rw[if_neg (show ¬ k≠5 from by simpa using h3)];refine qE (.tuple #[]) fun K=>?_;exact⟨_,rfl,(h.ch0 (((((c1.trans c3).trans c4).trans c6).trans c15).trans c19) K.new),((((((c1.nil TM).trans (c3.nil TM)).trans (c4.nil TM)).trans (c6.nil TM)).trans (c15.nil TM)).trans (c19.nil TM))⟩
theorem MY{g:Gh}{w:World}{mb tb ob:Nat}{nb:Nat→Nat}{M:Meet}(h:MS mb tb ob nb g w M){w0:World}(hB:Base w0 g w)(hT:Tabs w0){n:Nat}(hm:MOk n M)(hn:n≤1000000) :
  Calls prog 74 #[pt mb 0] w (MP mb tb ob nb g w (.tuple #[]) M.comeAll):=by
 obtain⟨lt,tl,hO⟩:=h.out;obtain⟨bs,hL,hLs⟩:=hO.lets;have hln:lt.n=M.lets.length:=by have:=hL.len;have:=hLs.len;simp at *;omega
 have hwt:=hm.wt;refine gIn (fn:=f74) TM g func74 (by kernel_rfl) (by kernel_rfl) h.new ?_;refine Bj ⟨mb,_,.z,false⟩ (fun _=>⟨h.box.r,h.box.z,fun h=>(by cases h),fun h=>absurd rfl h⟩) (by kernel_rfl) ?_;refine qO hO ?_;refine bD hL (by kernel_rfl) fun gF cF hF=>?_;refine qR [.n 50 0] 28 [0,1,0,1,1] fun s1 g1 w1 c1=>?_;refine Ae fun K0=>?_;refine BE 28 [(0,pt mb 0),(18,S3.v lt),(19,iv (lt.n:Int)),(20,iv 0)] [true,false] [⟨mb,.cells (mtA nb ob tb) 110,.z,false⟩] (fun k g' w' e L=>∃ (j:Nat) (A:Meet),k=M.lets.length-j∧j≤M.lets.length∧e=[(0,pt mb 0),(18,S3.v lt),(19,iv (lt.n:Int)),(20,iv (j:Int))]∧L=[⟨mb,.cells (mtA nb ob tb) 110,.z,false⟩]∧MS mb tb ob nb g' w' A∧(M.lets.drop j).foldl (fun M l=>M.come l) A=M.comeAll∧COk n (M.lets.length-j) A∧FzL g' w' lt (bs.map (pt · 0))∧Lets g' w' bs M.lets∧Cg w.heap.size TM g w g' w') (by kernel_rfl) (by kernel_rfl) (by kernel_rfl) (by kernel_rfl) M.lets.length (fun K=>?_) ?_
 ·have C9:Cg w.heap.size [.n 50 0,.n 51 0] g w g1 w1:=((cF.mono (by simp)).trans (c1.mono (by simp)));obtain⟨o1,o2,o3⟩:=K0.isN 1 ob (.cells #[S3.v s30,S3.v tl] 104) 50 0 (by kernel_rfl);exact⟨0,{ M with lets:=[] },rfl,Nat.zero_le _,rfl,rfl,h.outs C9 ⟨o1,o2,o3,⟨[],OwnS.nil _ _ _ _ _ _,⟨rfl,fun k b m h=>(by cases h)⟩⟩,hO.told.ch C9 (by simp) (by simp)⟩ K.new,rfl,⟨hm.node,by show M.lets.length+0+pw M≤_;exact hwt,hm.told,hm.bad,fun l hl=>(by cases hl)⟩,(hF.fz.ch c1),hLs.ch C9 (by simp),C9.mono (by simp[TM,TN])⟩
 ·rintro k gr wr _ zr _ ⟨j,A,rfl,hj,rfl,rfl,hM,hI,hA,hFz,hLt,hC⟩ J hJ;have hfn:=hFz.n;refine qR [] 5 [] fun s2 g2 w2 c2=>?_;by_cases h0:j<M.lets.length
  ·refine qI ((decide ((j:Int)<(lt.n:Int)))) true (decide_eq_true (by omega)) ?_;obtain⟨l,hl⟩:∃ l,M.lets[j]?=some l:=⟨_,List.getElem?_eq_getElem h0⟩;obtain⟨lb,hlb⟩:∃ lb,bs[j]?=some lb:=⟨_,List.getElem?_eq_getElem (by rw[hLs.len];exact h0)⟩;have hlo:=hm.lets l (List.mem_of_getElem? hl);have hLA:=hLt.at_ j lb l hlb hl;have hvj:(bs.map (pt · 0))[j]?=some (pt lb 0):=by rw[List.getElem?_map,hlb];rfl
   obtain⟨b,hb,_⟩:=hFz.at_ j (pt lb 0) hvj;obtain⟨kk,hkk⟩:∃ kk,M.lets.length-j=kk+1:=⟨M.lets.length-j-1,by omega⟩;rw[hkk]at hA
   have hcm:=hA.come hlo;rw[TA hl,List.foldl_cons]at hI
   refine qR [] 5 [] fun s3 g3 w3 c3=>?_;refine qV 0 (pt b j) (YJ hb j (by omega)) ?_;refine qV 1 (pt lb 0) (JK underlying178 rfl (((hFz.ch c2).ch c3).cell hb hvj)) ?_;refine qR [] 5 [] fun s5 g5 w5 c5=>?_;refine Ae fun K=>?_;have N6:MS mb tb ob nb g5 w5 A:=(hM.ch0 ((c2.trans c3).trans c5) K.new);refine qG 2 TM [true] (Jn N6 (hB.ch (hC.trans (((c2.nil TM).trans (c3.nil TM)).trans (c5.nil TM))) Eb) hT lb l (hLA.ch (((c2.nil TM).trans (c3.nil TM)).trans (c5.nil TM)) Eb) hlo (hA.node l.dst hlo.dst) (by have:=hA.wt;have:=Dc (A.node l.dst).pend;have:=Oc A hlo.dst;omega)) ?_;rintro e' w6 ⟨g6,rfl,M6,c6⟩;refine⟨_,g6,rfl,c6,M6.new,?_⟩;replace c6:=c6.ret (B:=w.heap.size);refine qR [] 3 [] fun s7 g7 w7 c7=>?_;refine qV 0 (iv ((j:Int)+1)) (B7 (x:=(.tmp 20)) (y:=(.const (iv 1))) (j:Int) 1 underlying3 (by omega)) ?_;refine qR [] 2 [] fun s8 g8 w8 c8=>?_;exact qB [true] fun z K0 K=>hJ (M.lets.length-(j+1)) _ _ _ z _ (by omega) ⟨j+1,A.come l,rfl,by omega,rfl,rfl,(M6.ch0 (c7.trans c8) K0.new),hI,(by rw[show M.lets.length-(j+1)=kk by omega];exact hcm.1),((((((hFz.ch c2).ch c3).ch c5).ch c6).ch c7).ch c8),hLt.ch ((((((c2.nil TM).trans (c3.nil TM)).trans (c5.nil TM)).trans (c6)).trans (c7.nil TM)).trans (c8.nil TM)) Eb,hC.trans ((((((c2.nil TM).trans (c3.nil TM)).trans (c5.nil TM)).trans (c6)).trans (c7.nil TM)).trans (c8.nil TM))⟩ K
  ·refine qI ((decide ((j:Int)<(lt.n:Int)))) false (decide_eq_false (by omega)) ?_;refine qR [] 1 [] fun s9 g9 w9 c9=>?_;obtain rfl:j=M.lets.length:=by omega
   rw[List.drop_length]at hI
   rw[← hI];refine qE (.tuple #[]) fun K=>?_;exact⟨_,rfl,(hM.ch0 (c2.trans c9) K.new),hC.trans ((c2.nil TM).trans (c9.nil TM))⟩
theorem VD{g:Gh}{w:World}{i nb ob:Nat}{p:Nod}{ls:List Let}{ts:List Tol}(h:NS i nb ob g w p ls ts)(hup:p.up=true)(hw:p.wants.length<100000000)(c:Cmd) :
  Calls prog 112 #[pt nb 0,.agg #[iv c.k,iv c.c,iv c.s,iv c.n,iv c.v]] w (NP i nb ob g w (.tuple #[]) (p.want c) ls ts):=by
 obtain⟨x,lt,tl,hN,hO,hg⟩:=h;obtain⟨mb,hmb⟩:=hN.upm hup;obtain⟨x0,rfl⟩:∃ x0:NX,x={ x0 with asked:=some mb }:=⟨x,by cases x;simp only at hmb;subst hmb;rfl⟩;clear hmb;have hA:AskAt g w (.n 5 i) mb p.asked:=hN.askSome rfl;refine gIn (fn:=f112) (TN i) g func112 (by kernel_rfl) (by kernel_rfl) hg ?_;refine qN hN ?_;refine qO hO ?_;obtain⟨ht5,hk5,es,ck,hr5,hes⟩:=id hA;refine Gv mb _ 5 i hr5 ht5 hk5 (by kernel_rfl) ?_;refine qR [] 13 [0,0,13,0,2,4,6,8,0,10,3] fun s1 g1 w1 c1=>?_;refine qU 6 (.tuple #[.agg #[iv ((p.asked c).getD Co).r,iv ((p.asked c).getD Co).n],.bool (p.asked c).isSome]) (fun W hW=>(US (g:=g) (τ:=.n 5 i) (b:=mb) (f:=p.asked) ⟨ht5,hk5,es,ck,AL.at (hW rfl) 2 mb (.map (es.map mkA).toArray ck) (.n 5 i) (by kernel_rfl),hes⟩ c)) ?_;refine qR [] 11 [14,16,18,21,0,0,23,4,0,24] fun s2 g2 w2 c2=>?_;by_cases h1:(p.asked c).isSome=true
 ·refine qI ((p.asked c).isSome) true h1 ?_;refine qE (.tuple #[]) fun K=>?_;rw[show p.want c=p from if_pos h1];have C4:Cg w.heap.size ([]:List Tg) g w g2 w2:=((c1.nil ([]:List Tg)).trans (c2.nil ([]:List Tg)));have Z4:Tg.z∉([]:List Tg):=by simp
  exact⟨_,rfl,⟨({ x0 with asked:=some mb }:NX),lt,tl,hN.ch C4 Z4 (by simp),hO.ch C4 Z4 (by simp),K.new⟩,((c1.nil (TN i)).trans (c2.nil (TN i)))⟩
 ·refine qI ((p.asked c).isSome) false (by simpa using h1) ?_;refine Gw [true,true,false,true,true] ?_;have hwn:x0.wants.n=p.wants.length:=hN.wants.num;refine qR [] 11 [12,0,2,4,6,8,10,0,12,2,15,0,0] fun s5 g5 w5 c5=>?_;refine F4 8 (x:=({ x0 with asked:=some mb }:NX).wants) 118 118 25 5 40 (.agg #[iv 0,iv 0,iv 0,iv 0,iv 0]) ⟨(s5 0),0,none⟩ 1 1 [iv c.k,iv c.c,iv c.s,iv c.n,iv c.v] (hN.wants.ch ((c1.trans c2).trans c5) (by simp) (by simp)) (by kernel_rfl) (by kernel_rfl) (by kernel_rfl) underlying118 (by kernel_rfl) (by kernel_rfl) (by decide) (by decide) rfl (by simp[Value.oneCell']) (fun K=>CB K 4 (s5 0) [iv c.k,iv c.c,iv c.s,iv c.n,iv c.v] 25 .z true (by kernel_rfl)) (by show x0.wants.n+1≤_;unfold maxLen;omega) (by show(x0.wants.n+1)*40≤_;omega) ?_;intro y6 g6 w6 a6 n6 cc6 G6;have c6:=cc6 w.heap.size [.n 4 i] (List.mem_singleton.2 rfl);refine qR [.n 0 i] 13 [18,20,22,25,0,1,8,0,2,4,6,8,0,10,2,12] fun s7 g7 w7 c7=>?_;refine Q6 7 (τ:=.n 5 i) (b:=mb) c Co (((((hA.ch c1 (by simp)).ch c2 (by simp)).ch c5 (by simp)).ch c6 (by simp)).ch c7 (by simp)) (by kernel_rfl) (by kernel_rfl) (by kernel_rfl) ?_;intro w8 A8 cc8;have c8:=cc8 w.heap.size [.n 5 i] (List.mem_singleton.2 rfl);refine qR [] 1 [] fun s9 g9 w9 c9=>?_;refine qE (.tuple #[]) fun K=>?_;rw[show p.want c={ p with wants:=p.wants++[c],asked:=DK p.asked c (some Co) }from if_neg h1];have C10:Cg w.heap.size ([.n 4 i,.n 0 i,.n 5 i]:List Tg) g w g9 w9:=(((((((c1.nil ([.n 4 i,.n 0 i,.n 5 i]:List Tg)).trans (c2.nil ([.n 4 i,.n 0 i,.n 5 i]:List Tg))).trans (c5.nil ([.n 4 i,.n 0 i,.n 5 i]:List Tg))).trans (c6.mono (by simp))).trans (c7.mono (by simp))).trans (c8.mono (by simp))).trans (c9.nil ([.n 4 i,.n 0 i,.n 5 i]:List Tg)));have Z10:Tg.z∉([.n 4 i,.n 0 i,.n 5 i]:List Tg):=by simp
  exact⟨_,rfl,⟨({ x0 with asked:=some mb,wants:=y6 }:NX),lt,tl,K.nd 0 (hN.tape.ch C10 Z10) (hN.votes.ch C10 Z10) (AZ hN.heard C10 Z10) (B2 hN.pend C10 Z10 (by simp)) (hN.queue.ch C10 (by simp) (by simp)) (hN.agreed.ch C10 (by simp) (by simp)) (by rw[BJ];exact(((a6.ch c7 (by simp) (by simp)).ch c8 (by simp) (by simp)).ch c9 (by simp) (by simp))) (A8.ch c9 (by simp)) (fun _=>⟨mb,rfl⟩),hO.ch C10 Z10 (by simp<;>omega),K.new⟩,(((((((c1.nil (TN i)).trans (c2.nil (TN i))).trans (c5.nil (TN i))).trans (c6.mono (by simp[TN]))).trans (c7.mono (by simp[TN]))).trans (c8.mono (by simp[TN]))).trans (c9.nil (TN i)))⟩
theorem LG(n g:Int)(w:World) :
  Calls prog 204 #[.int .i64 n,.int .i64 g] w fun e w'=>e=.returned (.bool (decide (0≤n∧n≤g)))∧w'=w:=by
 by_cases h0:0≤n
 ·by_cases h1:n≤g
  ·rw[decide_eq_true (show 0≤n∧n≤g from⟨h0,h1⟩)];go_enter func204,ntmps204
   go_wp2
   go_ret;exact⟨rfl,rfl⟩
  ·rw[decide_eq_false (show ¬ (0≤n∧n≤g)from fun h=>h1 h.2)];go_enter func204,ntmps204
   go_wp2
   go_ret;exact⟨rfl,rfl⟩
 ·rw[decide_eq_false (show ¬ (0≤n∧n≤g)from fun h=>h0 h.1)];go_enter func204,ntmps204
  go_wp2
  go_ret;exact⟨rfl,rfl⟩
theorem Qm(s:Sto)(w:World) :
  Calls prog 161 #[.agg (stA s)] w fun e w'=>e=.returned (.int .i64 (KH s))∧Below w.heap.size w w':=by
 have bb:Below w.heap.size w (w.alloc (.cells (stA s) 126)):=(Below.refl _ _).alloc (Nat.le_refl _) _;have hS:Bs (w.alloc (.cells (stA s) 126)) w.heap.size s:=heap_alloc_new _ _;generalize hW:w.alloc (.cells (stA s) 126)=W at bb hS;go_enter func161,ntmps161
 go_wp2_with ((with_reducible (refine Az ?_));(refine Fj rfl _ rfl w.heap.size 0 rfl s.V hS.rangeV ?_))
 clear hW
 go_loopw [9] (fun iv wr=>∃ i:Nat,i≤8∧iv=.int .i64 (i:Int)∧Hid (∀ j,j<i→VaB (s.V j))∧W=wr) (fun iv _=>(8-intOf iv).toNat)
 case atStart=>exact⟨0,by omega,rfl,fun j hj=>by omega,rfl⟩
 case round =>
  obtain⟨i,hi,rfl,hb,rfl⟩:=hrel;by_cases hlt:i<8
  ·have hlt':(i:Int)<8:=by omega
   have hix:=QX s.V i hlt;go_wp2_with fail
   refine(LG (s.V i) 1073741824 _).mono ?_;rintro e w1 ⟨rfl,rfl⟩;by_cases hv:0≤s.V i∧s.V i≤1073741824
   ·rw[decide_eq_true hv];have hB:Hid (∀ j,j<i+1→VaB (s.V j)):=fun j hj=>by
     by_cases h:j=i
     ·subst h;exact hv
     ·exact hb.out j (by omega)
    clear hv hix hb;go_wp2
    go_roundw
    case rel=>exact⟨i+1,by omega,by go_num,hB,by simp⟩
    case measure=>simp[intOf];omega
   ·rw[decide_eq_false hv];have hE:Hid (KH s=5):=IV (fun h=>hv (h.1 i hlt));clear hv hix hb;go_wp2
    go_ret;rw[hE.out];exact⟨rfl,bb⟩
  ·obtain rfl:i=8:=by omega
   clear hlt hi;go_wp2_with ((with_reducible (refine Az ?_));(refine Fj rfl _ rfl w.heap.size 8 rfl s.L hS.rangeL ?_))
   go_loopw [18] (fun iv wr=>∃ i:Nat,i≤8∧iv=.int .i64 (i:Int)∧Hid (∀ j,j<i→ClB (s.L j) (s.C j) (s.A j))∧W=wr) (fun iv _=>(8-intOf iv).toNat)
   case atStart=>exact⟨0,by omega,rfl,fun j hj=>by omega,rfl⟩
   case round =>
    obtain⟨i,hi,rfl,hc,rfl⟩:=hrel;by_cases hlt:i<8
    ·have hlt':(i:Int)<8:=by omega
     have hix:=QX s.L i hlt;go_wp2_with fail
     refine(LG (s.L i) 1048577 _).mono ?_;rintro e w1 ⟨rfl,rfl⟩;by_cases hv:0≤s.L i∧s.L i≤1048577
     ·rw[decide_eq_true hv];have c0:=hS.cellC i hlt;have c1:=hS.cellA i hlt;have i0:(0:Int)≤(i:Int):=by omega
      by_cases h0:s.L i=0
      ·rw[h0];by_cases hca:s.C i=0∧s.A i=0
       ·rw[hca.1]at c0
        rw[hca.2]at c1
        have hB:Hid (∀ j,j<i+1→ClB (s.L j) (s.C j) (s.A j)):=fun j hj=>by
         by_cases h:j=i
         ·subst h;exact⟨hv,fun _=>hca⟩
         ·exact hc.out j (by omega)
        clear hv hix hca h0 hc;go_wp2
        go_roundw
        case rel=>exact⟨i+1,by omega,by go_num,hB,by simp⟩
        case measure=>simp[intOf];omega
       ·have hE:Hid (KH s=5):=IV (fun h=>hca ((h.2 i hlt).2 h0));have hne:=WI (s.C i) (s.A i);rw[decide_eq_false hca]at hne
        clear hv hix hca h0 hc hb;go_wp2
        go_ret;rw[hE.out];exact⟨rfl,bb⟩
      ·have hB:Hid (∀ j,j<i+1→ClB (s.L j) (s.C j) (s.A j)):=fun j hj=>by
        by_cases h:j=i
        ·subst h;exact⟨hv,fun g=>absurd g h0⟩
        ·exact hc.out j (by omega)
       have hne:(s.L i==0)=false:=by simpa using h0
       clear hv hix hc;go_wp2
       go_roundw
       case rel=>exact⟨i+1,by omega,by go_num,hB,by simp⟩
       case measure=>simp[intOf];omega
     ·rw[decide_eq_false hv];have hE:Hid (KH s=5):=IV (fun h=>hv (h.2 i hlt).1);clear hv hix hb hc;go_wp2
      go_ret;rw[hE.out];exact⟨rfl,bb⟩
    ·obtain rfl:i=8:=by omega
     have hE:Hid (KH s=0):=Xj ⟨hb.out,hc.out⟩;clear hlt hi hc hb;go_wp2
     go_ret;rw[hE.out];exact⟨rfl,bb⟩
end Go.Proofs.YtakgfdbjgeopdaaGreatDoor
