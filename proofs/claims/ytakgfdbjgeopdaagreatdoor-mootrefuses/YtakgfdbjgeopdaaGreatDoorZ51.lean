/- Part 51 of the walk: what the functions of the program do, one by one. -/
import Derived.Test.YtakgfdbjgeopdaaGreatDoorZ50
set_option maxRecDepth 100000
set_option maxHeartbeats 4000000
open Go.Proofs.Tryz
set_option linter.unusedVariables false
namespace Go.Proofs.YtakgfdbjgeopdaaGreatDoor
open Go.RowKit
def scE:List Lac→Int
 | []=>0
 | x::l=>if AQ x≠0 then AQ x else scE l
def KF(l:List Lac):Int:=if 100000<l.length then 1 else scE l
def F1(F:Nat→Lac)(n:Nat):List Lac:=(List.range n).map F
theorem MJ(F:Nat→Lac)(n:Nat):(F1 F n).length=n:=by simp[F1]
theorem LR{F:Nat→Lac}{n j:Nat}(h:j<n):(F1 F n).drop j=F j::(F1 F n).drop (j+1):=by
 have h1:(F1 F n)[j]?=some (F j):=by simp[F1,h]
 obtain⟨h2,h3⟩:=List.getElem?_eq_some_iff.1 h1;rw[← h3];exact List.drop_eq_getElem_cons h2
def PJ:Array Value:=#[iv 0,.bool false,.bool false,.bool false,.bool false,.bool false,S3.v s30,iv 0,iv 0,iv 0,iv 0,iv 0,S3.v s30]
def TR:List Tg:=.n 70 0::TM
theorem Zt:Tg.z∉TR:=by simp[TR,TM,TN]
theorem Zq:∀ t∈TM,t∈TR:=fun t h=>List.mem_cons_of_mem _ h
theorem Io{b:Nat}:gS.t b∉TR:=Zt
theorem Base.self(w:World):Base w gS w:=⟨Below.refl _ _,fun _ _=>rfl⟩
theorem XH{W:World}{la:Option Addr}{b off n c:Nat}(ha:la=some ⟨b,off,none⟩)(j:Nat)(hj:j<n):(Instr.indexAt 36 (.slice la n c) (iv (j:Int))).run prog W=.ok (pt b (off+5*j)) W:=by
 subst ha;exact Sq (P:=prog) (e:=68) (z:=5) underlying36 (by kernel_rfl) (by kernel_rfl) hj _ rfl
theorem al{W:World}{b k:Nat}{x:Lac}{y:Value}(h:W.rangeAt b k (laV x y)):(Instr.loadAt 68 (pt b k)).run prog W=.ok (.agg #[iv x.k,iv x.n,iv x.a,iv x.p,y]) W:=by
 have h1:=run_loadVar_mid (P:=prog) W b k 68 (laV x y) _ h underlying68 rfl (by kernel_rfl);simp only[Instr.loadAt,Instr.sureAddr,Sem.run_bind,Sem.run_pure,Result.andThen_ok];exact h1
theorem Tp{x:Lac}{xa:Option Addr}{xm xp:Nat}{w:World}(hs:Sl w (.slice xa xm xp) x.d)(tw:LWTab w)(tb:LBTab w){E:Int}(hE:AQ x=E) :
  Calls prog 35 #[.agg #[iv x.k,iv x.n,iv x.a,iv x.p,.slice xa xm xp]] w fun e w'=>e=.returned (iv E)∧Below w.heap.size w w':=by
 subst hE;have hm:xm=x.d.length:=by obtain⟨a,cap,hh⟩:=hs.shapeT;simp only[Value.slice.injEq]at hh;exact hh.2.1
 subst hm;exact Rk x.k x.n x.a x.p x.d hs.len xa xp w tw tb
theorem Xf{w:World}{lv:S3}{F:Nat→Lac}{n:Nat}(h:Sk w lv.v F n)(hT:Tabs w)(tw:LWTab w)(tb:LBTab w) :
  Calls prog 13 #[lv.v] w fun e w'=>Below w.heap.size w w'∧((KF (F1 F n)≠0∧e=.returned (.tuple #[.agg PJ,iv (KF (F1 F n))]))∨(KF (F1 F n)=0∧∃ (ly tv:S3) (ys:Nat→S3),e=.returned (.tuple #[.agg (WS (G7.acts (F1 F n)) ly tv),iv 0])∧OutW w' (G7.acts (F1 F n)) ly tv ys)):=by
 obtain⟨la,lq,lc⟩:=lv;have hqn:lq=n:=by obtain⟨a,cap,hh⟩:=h.shape;simp only[S3.v,Value.slice.injEq]at hh;exact hh.2.1
 subst lq;have hnb:=h.len;obtain⟨L0,hL0⟩:∃ L0,F1 F n=L0:=⟨_,rfl⟩;have hLn:L0.length=n:=by rw[← hL0];exact MJ F n
 rw[hL0];refine gIn (fn:=f13) TR gS func13 (by kernel_rfl) (by kernel_rfl) (fun _ _=>⟨rfl,rfl⟩) ?_;refine qR [] 12 [1,0] fun σ1 g1 w1 c1=>?_;by_cases h1:100000<n
 ·refine qI ((decide (100000<(n:Int)))) true (decide_eq_true (by omega)) ?_;refine qR [] 6 [0,0] fun σ2 g2 w2 c2=>?_;have hR:KF L0=1:=if_pos (by omega);exact qE2 2 3 43 0 (σ1 0) PJ (iv 1) fun K=>⟨(Cg.below ((c1.nil TR).trans (c2.nil TR)) (fun _ _=>Io)),.inl ⟨by rw[hR];decide,by rw[hR]⟩⟩
 ·refine qI ((decide (100000<(n:Int)))) false (decide_eq_false (by omega)) ?_;have hR:KF L0=scE L0:=if_neg (by omega);rw[hR];have hn1:n≤100000:=by omega
  refine qR [] 9 [] fun σ3 g3 w3 c3=>?_;refine BE 40 [(0,.slice la n lc),(2,pt (σ1 0) 0),(14,.slice la n lc),(15,iv (n:Int)),(16,iv 0)] [true] [⟨(σ1 0),.cells PJ 43,.l,false⟩] (fun k g' w' e L=>∃ j:Nat,k=n-j∧j≤n∧e=[(0,.slice la n lc),(2,pt (σ1 0) 0),(14,.slice la n lc),(15,iv (n:Int)),(16,iv (j:Int))]∧L=[⟨(σ1 0),.cells PJ 43,.l,false⟩]∧scE (L0.drop j)=scE L0∧(∀ i,i<j→AQ (F i)=0)∧Cg w.heap.size TR gS w g' w') (by kernel_rfl) (by kernel_rfl) (by kernel_rfl) (by kernel_rfl) n (fun K=>?_) ?_
  ·exact⟨0,rfl,Nat.zero_le _,rfl,rfl,rfl,fun i hi=>absurd hi (Nat.not_lt_zero _),((c1.nil TR).trans (c3.nil TR))⟩
  ·rintro k gr wr _ zr _ ⟨j,rfl,hj,rfl,rfl,hI,hok,hC⟩ J hJ;refine qR [] 5 [] fun σ4 g4 w4 c4=>?_;by_cases h0:j<n
   ·refine qI ((decide ((j:Int)<(n:Int)))) true (decide_eq_true (by omega)) ?_;have hIj:=hI;rw[← hL0,LR h0,hL0,scE]at hI
    refine qR [] 5 [] fun σ5 g5 w5 c5=>?_;obtain⟨b,off,xa,xm,xp,hla,hbs,hrg,hsl⟩:=h.spot j h0;refine qV 0 (pt b (off+5*j)) (XH hla (n:=n) (c:=lc) j h0) ?_;refine qV 1 (.agg #[iv (F j).k,iv (F j).n,iv (F j).a,iv (F j).p,.slice xa xm xp]) (al (x:=F j) (y:=.slice xa xm xp) (fun q u hq=>(((Cg.below (((hC).trans (c4.nil TR)).trans (c5.nil TR)) (fun _ _=>Io))).cell (p:=⟨b,off+5*j+q,none⟩) hbs).trans (hrg q u hq))) ?_;obtain⟨E,hE⟩:∃ E,AQ (F j)=E:=⟨_,rfl⟩;refine qR [] 6 [0,0,1,0,1] fun σ7 g7 w7 c7=>?_;have bb8:=(Cg.below ((((hC).trans (c4.nil TR)).trans (c5.nil TR)).trans (c7.nil TR)) (fun _ _=>Io));refine qC 1 (Tp (x:=F j) (hsl.below bb8) (tw.below bb8) (tb.below bb8) hE) ?_;rintro e' w8 ⟨rfl,b8⟩;refine⟨_,rfl,b8,?_⟩;have c8:=Cg.ofBelow (B:=w.heap.size) (T:=[]) (g:=g7) b8;refine qR [] 7 [] fun σ9 g9 w9 c9=>?_;by_cases h2:E≠0
    ·refine qI ((E != 0)) true (by simpa using h2) ?_;refine qR [] 7 [0,0] fun σ10 g10 w10 c10=>?_;rw[if_pos (by rw[hE];exact h2),hE]at hI
     exact qE2 2 3 43 0 (σ1 0) PJ (iv E) fun K=>⟨(Cg.below (((((((hC).trans (c4.nil TR)).trans (c5.nil TR)).trans (c7.nil TR)).trans (c8.nil TR)).trans (c9.nil TR)).trans (c10.nil TR)) (fun _ _=>Io)),.inl ⟨by rw[← hI];exact h2,by rw[← hI]⟩⟩
    ·refine qI ((E != 0)) false (by simpa using h2) ?_;have h20:AQ (F j)=0:=by rw[hE];simpa using h2
     rw[if_neg (by rw[h20];simp)]at hI
     refine qR [] 3 [] fun σ11 g11 w11 c11=>?_;refine qV 0 (iv ((j:Int)+1)) (B7 (x:=(.tmp 16)) (y:=(.const (iv 1))) (j:Int) 1 underlying3 (by omega)) ?_;refine qR [] 2 [] fun σ12 g12 w12 c12=>?_;exact qB [true,false] fun z K0 K=>hJ (n-(j+1)) _ _ _ z _ (by omega) ⟨j+1,rfl,by omega,rfl,rfl,hI,fun i hi=>(by rcases Nat.lt_or_ge i j with h|h;exact hok i h;rw[show i=j by omega];exact h20),((((((((hC).trans (c4.nil TR)).trans (c5.nil TR)).trans (c7.nil TR)).trans (c8.nil TR)).trans (c9.nil TR)).trans (c11.nil TR)).trans (c12.nil TR))⟩ K
   ·refine qI ((decide ((j:Int)<(n:Int)))) false (decide_eq_false (by omega)) ?_;obtain rfl:j=n:=by omega
    have hI0:scE L0=0:=by rw[← hI,List.drop_eq_nil_of_le (by omega)];rfl
    rw[hI0];refine qR [] 3 [] fun σ13 g13 w13 c13=>?_;refine Ae fun K=>?_;refine qG 0 [.n 70 0] [true] (JA K.new) ?_;rintro e' w14 ⟨mb,tb',ob,nb,g14,rfl,hM0,c14⟩;refine⟨_,g14,rfl,c14,hM0.new,?_⟩;replace c14:=c14.ret (B:=w.heap.size);refine qR [] 10 [] fun σ15 g15 w15 c15=>?_;refine BE 40 [(2,pt (σ1 0) 0),(7,pt mb 0),(28,.slice la j lc),(29,iv (j:Int)),(30,iv 0)] [true] [⟨(σ1 0),.cells PJ 43,.l,false⟩] (fun k g' w' e L=>∃ (i:Nat) (A:Meet),k=j-i∧i≤j∧e=[(2,pt (σ1 0) 0),(7,pt mb 0),(28,.slice la j lc),(29,iv (j:Int)),(30,iv (i:Int))]∧L=[⟨(σ1 0),.cells PJ 43,.l,false⟩]∧MS mb tb' ob nb g' w' A∧(L0.drop i).foldl Meet.act A=G7.acts L0∧MOk i A∧Cg w.heap.size TR gS w g' w') (by kernel_rfl) (by kernel_rfl) (by kernel_rfl) (by kernel_rfl) j (fun K=>?_) ?_
    ·exact⟨0,G7,rfl,Nat.zero_le _,rfl,rfl,(hM0.ch0 c15 K.new),rfl,MOk.zero,(((((hC).trans (c4.nil TR)).trans (c13.nil TR)).trans (c14.mono (by simp[TR]))).trans (c15.nil TR))⟩
    ·rintro k gq wq _ zq _ ⟨i,A,rfl,hi,rfl,rfl,hM,hI2,hA,hC2⟩ J2 hJ2;refine qR [] 5 [] fun σ16 g16 w16 c16=>?_;by_cases h3:i<j
     ·refine qI ((decide ((i:Int)<(j:Int)))) true (decide_eq_true (by omega)) ?_;rw[← hL0,LR h3,hL0,List.foldl_cons]at hI2
      have hlk:LacOk (F i):=WB.1 (hok i h3);refine qR [] 5 [] fun σ17 g17 w17 c17=>?_;obtain⟨b,off,xa,xm,xp,hla,hbs,hrg,hsl⟩:=h.spot i h3;refine qV 0 (pt b (off+5*i)) (XH hla (n:=j) (c:=lc) i h3) ?_;refine qV 1 (.agg #[iv (F i).k,iv (F i).n,iv (F i).a,iv (F i).p,.slice xa xm xp]) (al (x:=F i) (y:=.slice xa xm xp) (fun q u hq=>(((Cg.below (((hC2).trans (c16.nil TR)).trans (c17.nil TR)) (fun _ _=>Io))).cell (p:=⟨b,off+5*i+q,none⟩) hbs).trans (hrg q u hq))) ?_;refine qR [] 6 [0,0,1,0,1] fun σ19 g19 w19 c19=>?_;refine Ae fun K=>?_;have NM:MS mb tb' ob nb g19 w19 A:=(hM.ch0 ((c16.trans c17).trans c19) K.new);have bbl:=(Cg.below ((((hC2).trans (c16.nil TR)).trans (c17.nil TR)).trans (c19.nil TR)) (fun _ _=>Io));refine qG 2 TM [true,true] (Yo NM ((Base.self w).ch ((((hC2).trans (c16.nil TR)).trans (c17.nil TR)).trans (c19.nil TR)) Zt) hT (F i) ⟨xa,xm,xp⟩ (hsl.below bbl) hlk hA (by omega)) ?_;rintro e' w20 ⟨g20,rfl,M20,c20⟩;refine⟨_,g20,rfl,c20,M20.new,?_⟩;replace c20:=c20.ret (B:=w.heap.size);refine qR [] 3 [] fun σ21 g21 w21 c21=>?_;refine qV 0 (iv ((i:Int)+1)) (B7 (x:=(.tmp 30)) (y:=(.const (iv 1))) (i:Int) 1 underlying3 (by omega)) ?_;refine qR [] 2 [] fun σ22 g22 w22 c22=>?_;exact qB [true,false] fun z K0 K=>hJ2 (j-(i+1)) _ _ _ z _ (by omega) ⟨i+1,A.act (F i),rfl,by omega,rfl,rfl,(M20.ch0 (c21.trans c22) K0.new),hI2,hA.act (by omega) hlk,(((((((hC2).trans (c16.nil TR)).trans (c17.nil TR)).trans (c19.nil TR)).trans (c20.mono Zq)).trans (c21.nil TR)).trans (c22.nil TR))⟩ K
     ·refine qI ((decide ((i:Int)<(j:Int)))) false (decide_eq_false (by omega)) ?_;obtain rfl:i=j:=by omega
      rw[List.drop_eq_nil_of_le (by omega)]at hI2
      replace hI2:A=G7.acts L0:=hI2;subst hI2;refine qR [] 4 [] fun σ23 g23 w23 c23=>?_;refine Ae fun K=>?_;have NM:MS mb tb' ob nb g23 w23 (G7.acts L0):=(hM.ch0 (c16.trans c23) K.new);have hwt:=hA.wt;have htl:=hA.told;have hGo:∀ b,w23.heap.size≤b→g23.t b=.z:=fun b hb=>(K.new b hb).1;have bb24:=(Cg.below (((hC2).trans (c16.nil TR)).trans (c23.nil TR)) (fun _ _=>Io));refine qC 1 (NQ NM (fun q hq=>⟨(hA.node q hq).dn,(hA.node q hq).ag⟩) (by omega) (by omega)) ?_;rintro e' w24 ⟨ly,tv,ys,rfl,hOW,hON,b24⟩;refine⟨_,rfl,b24,?_⟩;have c24:=Cg.ofBelow (B:=w.heap.size) (T:=[]) (g:=g23) b24;refine qR [] 3 [0,0] fun σ25 g25 w25 c25=>?_;exact qE2 2 3 43 0 (σ1 0) (WS (G7.acts L0) ly tv) (iv 0) fun K=>⟨(Cg.below (((((hC2).trans (c16.nil TR)).trans (c23.nil TR)).trans (c24.nil TR)).trans (c25.nil TR)) (fun _ _=>Io)),.inr ⟨rfl,ly,tv,ys,rfl,(hOW.ch hON hGo c25)⟩⟩
theorem D9(n lo hi:Int)(w:World) :
  Calls prog 22 #[.int .i64 n,.int .i64 lo,.int .i64 hi] w fun e w'=>e=.returned (.bool (decide (lo≤n∧n≤hi)))∧w'=w:=by
 by_cases h0:lo≤n
 ·by_cases h1:n≤hi
  ·rw[decide_eq_true ⟨h0,h1⟩];go_enter func22,ntmps22
   go_wp2
   go_ret;exact⟨Ab (by simp),rfl⟩
  ·rw[decide_eq_false (by omega)];go_enter func22,ntmps22
   go_wp2
   go_ret;exact⟨Ab (by simp),rfl⟩
 ·rw[decide_eq_false (by omega)];go_enter func22,ntmps22
  go_wp2
  go_ret;exact⟨Ab (by simp),rfl⟩
theorem V5(k:Int)(w:World) :
  Calls prog 80 #[.int .i64 k] w fun e w'=>e=.returned (.tuple #[.bool (D3 k),.bool (D0 k),.bool (DL k)])∧w'=w:=by
 have HA:Hid (decide (4≤k∧k≤6)=D0 k):=rfl;by_cases h:k=1∨k=2∨k=3∨k=9∨k=8
 ·rcases h with rfl|rfl|rfl|rfl|rfl;all_goals
   clear HA;go_enter func80,ntmps80
   go_wp2_with fail
   refine(D9 _ 4 6 w).mono ?_;rintro e w' ⟨rfl,rfl⟩;go_wp2
   go_ret3
   exact⟨rfl,rfl⟩
 ·have HN:Hid (D3 k=false):=decide_eq_false h;have HK:Hid (DL k=false):=decide_eq_false (by omega);have HN2:Hid ((k==1||k==2||k==3||k==9||k==8)=false):=by unfold Hid;simp;omega
  have HK2:Hid ((k==8)=false):=by unfold Hid;simp;omega
  simp only[not_or]at h;obtain⟨n1,n2,n3,n9,n8⟩:=h;go_enter func80,ntmps80
  go_wp2_with fail
  refine(D9 _ 4 6 w).mono ?_;rintro e w' ⟨rfl,rfl⟩;obtain⟨bA,hA⟩:∃ b,D0 k=b:=⟨_,rfl⟩;rw[HA.out,hA];have HB:Hid (D0 k=bA):=hA;clear HA hA;go_wp2
  go_ret3
  refine⟨?_,rfl⟩;rw[HN.out,HK.out,HB.out];show Ending.returned (.tuple #[.bool (k==1||k==2||k==3||k==9||k==8),.bool bA,.bool (k==8)])=_;rw[HN2.out,HK2.out]
theorem LQ(k n a p:Int)(v:Value)(d:List Int)(w:World)(hd:Sl w v d) :
  Calls prog 39 #[.agg (laA k n a p v)] w fun e w'=>e=.returned (.int .i64 (AQ ⟨k,n,a,p,d⟩))∧Below w.heap.size w w':=by
 obtain⟨a0,cp,rfl⟩:=hd.shapeT;have hlen:=hd.len;have bW:Below w.heap.size w (w.alloc (.cells (laA k n a p (.slice a0 d.length cp)) 68)):=(Below.refl _ _).alloc (Nat.le_refl _) _;obtain⟨W0,hW0⟩:∃ W0,w.alloc (.cells (laA k n a p (.slice a0 d.length cp)) 68)=W0:=⟨_,rfl⟩;have r0:W0.heap[w.heap.size]?=some (.cells (laA k n a p (.slice a0 d.length cp)) 68):=by rw[← hW0];exact heap_alloc_new _ _
 rw[hW0]at bW
 unfold laA at hW0 r0 ⊢;have k0:W0.cell? ⟨w.heap.size,0,none⟩=some (.int .i64 k):=by rw[cell_of_row _ _ 0 _ _ _ r0];rfl
 have k1:W0.cell? ⟨w.heap.size,1,none⟩=some (.int .i64 n):=by rw[cell_of_row _ _ 1 _ _ _ r0];rfl
 have k2:W0.cell? ⟨w.heap.size,2,none⟩=some (.int .i64 a):=by rw[cell_of_row _ _ 2 _ _ _ r0];rfl
 have k3:W0.cell? ⟨w.heap.size,3,none⟩=some (.int .i64 p):=by rw[cell_of_row _ _ 3 _ _ _ r0];rfl
 have k4:W0.cell? ⟨w.heap.size,4,none⟩=some (.slice a0 d.length cp):=by rw[cell_of_row _ _ 4 _ _ _ r0];rfl
 clear r0 hd;by_cases h1:1≤k∧k≤9
 ·have HD1:Hid (decide (1≤k∧k≤9)=true):=decide_eq_true h1;have H1:Hid (1≤k∧k≤9):=h1;clear h1;obtain⟨bN,hbN⟩:∃ b,D3 k=b:=⟨_,rfl⟩;obtain⟨bA,hbA⟩:∃ b,D0 k=b:=⟨_,rfl⟩;obtain⟨bK,hbK⟩:∃ b,DL k=b:=⟨_,rfl⟩;have HU:Hid (D3 k=bN∧D0 k=bA∧DL k=bK):=⟨hbN,hbA,hbK⟩;clear hbN hbA hbK;have E2:Hid (((bN=true∧¬ (0≤n∧n≤4))∨(bA=true∧¬ (0≤a∧a≤1048576))∨(bK=true∧¬ (0≤p∧p≤100000)))→AQ ⟨k,n,a,p,d⟩=2):=fun h=>by
   unfold AQ;rw[if_neg (fun e=>e H1.out),if_pos];rw[HU.out.1,HU.out.2.1,HU.out.2.2];exact h
  have E1:Hid (¬ ((bN=true∧¬ (0≤n∧n≤4))∨(bA=true∧¬ (0≤a∧a≤1048576))∨(bK=true∧¬ (0≤p∧p≤100000)))→2000<d.length→AQ ⟨k,n,a,p,d⟩=1):=fun h h2=>by
   unfold AQ;rw[if_neg (fun e=>e H1.out),if_neg,if_pos h2];rw[HU.out.1,HU.out.2.1,HU.out.2.2];exact h
  have E3:Hid (¬ ((bN=true∧¬ (0≤n∧n≤4))∨(bA=true∧¬ (0≤a∧a≤1048576))∨(bK=true∧¬ (0≤p∧p≤100000)))→¬ 2000<d.length→((bN=false∧n≠0)∨(bA=false∧a≠0)∨(bK=false∧p≠0)∨(k≠1∧d≠[]))→AQ ⟨k,n,a,p,d⟩=3):=fun h h2 h3=>by
   unfold AQ;rw[if_neg (fun e=>e H1.out),if_neg,if_neg h2,if_pos]
   ·rw[HU.out.1,HU.out.2.1,HU.out.2.2];exact h3
   ·rw[HU.out.1,HU.out.2.1,HU.out.2.2];exact h
  have E0:Hid (¬ ((bN=true∧¬ (0≤n∧n≤4))∨(bA=true∧¬ (0≤a∧a≤1048576))∨(bK=true∧¬ (0≤p∧p≤100000)))→¬ 2000<d.length→¬ ((bN=false∧n≠0)∨(bA=false∧a≠0)∨(bK=false∧p≠0)∨(k≠1∧d≠[]))→AQ ⟨k,n,a,p,d⟩=0):=fun h h2 h3=>by
   unfold AQ;rw[if_neg (fun e=>e H1.out),if_neg,if_neg h2,if_neg]
   ·rw[HU.out.1,HU.out.2.1,HU.out.2.2];exact h3
   ·rw[HU.out.1,HU.out.2.1,HU.out.2.2];exact h
  have HX:Hid (¬ (bA=true∧bN=true)∧¬ (bA=true∧bK=true)∧¬ (bK=true∧bN=false)):=by
   rw[← HU.out.1,← HU.out.2.1,← HU.out.2.2];unfold Hid D3 D0 DL;simp only[decide_eq_true_eq,decide_eq_false_iff_not];omega
  go_enter func39,ntmps39
  go_wp2_with fail
  refine(D9 _ 1 9 _).mono ?_;rintro e w1 ⟨rfl,hw1⟩;subst hw1;rw[HD1.out];go_wp2_with fail
  refine(V5 _ _).mono ?_;rintro e w1 ⟨rfl,hw1⟩;subst hw1;rw[HU.out.1,HU.out.2.1,HU.out.2.2];clear HD1;cases bN with
  | false =>
   cases bA with
   | false =>
    cases bK with
    | false =>
     by_cases hL:2000<d.length
     ·have HE:Hid (AQ ⟨k,n,a,p,d⟩=1):=E1.out (by simp) hL;clear E0 E1 E2 E3;have hLI:(2000:Int)<(d.length:Int):=by omega
      go_wp2
      go_ret;rw[HE.out];exact⟨rfl,bW⟩
     ·have hLI:¬ (2000:Int)<(d.length:Int):=by omega
      by_cases z_n:n=0
      ·have d_n:(n != 0)=false:=by simpa using z_n
       by_cases z_a:a=0
       ·have d_a:(a != 0)=false:=by simpa using z_a
        by_cases z_p:p=0
        ·have d_p:(p != 0)=false:=by simpa using z_p
         by_cases hk1:k=1
         ·have HE:Hid (AQ ⟨k,n,a,p,d⟩=0):=E0.out (by simp) hL (by simp[hk1,z_n,z_a,z_p]);clear E0 E1 E2 E3;have hk2:(k != 1)=false:=by simpa using hk1
          go_wp2
          go_ret;rw[HE.out];exact⟨rfl,bW⟩
         ·have hk2:(k != 1)=true:=by simpa using hk1
          by_cases hd0:d=[]
          ·have HE:Hid (AQ ⟨k,n,a,p,d⟩=0):=E0.out (by simp) hL (by simp[hd0,z_n,z_a,z_p]);clear E0 E1 E2 E3;have hl0:¬ (0:Int)<(d.length:Int):=by rw[hd0];simp
           clear hd0;go_wp2
           go_ret;rw[HE.out];exact⟨rfl,bW⟩
          ·have HE:Hid (AQ ⟨k,n,a,p,d⟩=3):=E3.out (by simp) hL (by simp[hd0,hk1]);clear E0 E1 E2 E3;have hl0:(0:Int)<(d.length:Int):=by have:=List.length_pos_iff.2 hd0;omega
           clear hd0;go_wp2
           go_ret;rw[HE.out];exact⟨rfl,bW⟩
        ·have HE:Hid (AQ ⟨k,n,a,p,d⟩=3):=E3.out (by simp) hL (by simp[z_p]);clear E0 E1 E2 E3;have d_p:(p != 0)=true:=by simpa using z_p
         go_wp2
         go_ret;rw[HE.out];exact⟨rfl,bW⟩
       ·have HE:Hid (AQ ⟨k,n,a,p,d⟩=3):=E3.out (by simp) hL (by simp[z_a]);clear E0 E1 E2 E3;have d_a:(a != 0)=true:=by simpa using z_a
        go_wp2
        go_ret;rw[HE.out];exact⟨rfl,bW⟩
      ·have HE:Hid (AQ ⟨k,n,a,p,d⟩=3):=E3.out (by simp) hL (by simp[z_n]);clear E0 E1 E2 E3;have d_n:(n != 0)=true:=by simpa using z_n
       go_wp2
       go_ret;rw[HE.out];exact⟨rfl,bW⟩
    | true =>
     exact absurd ⟨rfl,rfl⟩ HX.out.2.2
   | true =>
    cases bK with
    | false =>
     go_wp2_with fail
     refine(D9 _ 0 1048576 _).mono ?_;rintro e w1 ⟨rfl,hw1⟩;subst hw1;by_cases r_a:0≤a∧a≤1048576
     ·rw[decide_eq_true r_a];by_cases hL:2000<d.length
      ·have HE:Hid (AQ ⟨k,n,a,p,d⟩=1):=E1.out (by simp only[true_and,false_and,Bool.false_eq_true,or_false,false_or,Decidable.not_not,and_true,r_a]) hL;clear E0 E1 E2 E3;have hLI:(2000:Int)<(d.length:Int):=by omega
       go_wp2
       go_ret;rw[HE.out];exact⟨rfl,bW⟩
      ·have hLI:¬ (2000:Int)<(d.length:Int):=by omega
       by_cases z_n:n=0
       ·have d_n:(n != 0)=false:=by simpa using z_n
        by_cases z_p:p=0
        ·have d_p:(p != 0)=false:=by simpa using z_p
         by_cases hk1:k=1
         ·have HE:Hid (AQ ⟨k,n,a,p,d⟩=0):=E0.out (by simp only[true_and,false_and,Bool.false_eq_true,or_false,false_or,Decidable.not_not,and_true,r_a]) hL (by simp[hk1,z_n,z_p]);clear E0 E1 E2 E3;have hk2:(k != 1)=false:=by simpa using hk1
          go_wp2
          go_ret;rw[HE.out];exact⟨rfl,bW⟩
         ·have hk2:(k != 1)=true:=by simpa using hk1
          by_cases hd0:d=[]
          ·have HE:Hid (AQ ⟨k,n,a,p,d⟩=0):=E0.out (by simp only[true_and,false_and,Bool.false_eq_true,or_false,false_or,Decidable.not_not,and_true,r_a]) hL (by simp[hd0,z_n,z_p]);clear E0 E1 E2 E3;have hl0:¬ (0:Int)<(d.length:Int):=by rw[hd0];simp
           clear hd0;go_wp2
           go_ret;rw[HE.out];exact⟨rfl,bW⟩
          ·have HE:Hid (AQ ⟨k,n,a,p,d⟩=3):=E3.out (by simp only[true_and,false_and,Bool.false_eq_true,or_false,false_or,Decidable.not_not,and_true,r_a]) hL (by simp[hd0,hk1]);clear E0 E1 E2 E3;have hl0:(0:Int)<(d.length:Int):=by have:=List.length_pos_iff.2 hd0;omega
           clear hd0;go_wp2
           go_ret;rw[HE.out];exact⟨rfl,bW⟩
        ·have HE:Hid (AQ ⟨k,n,a,p,d⟩=3):=E3.out (by simp only[true_and,false_and,Bool.false_eq_true,or_false,false_or,Decidable.not_not,and_true,r_a]) hL (by simp[z_p]);clear E0 E1 E2 E3;have d_p:(p != 0)=true:=by simpa using z_p
         go_wp2
         go_ret;rw[HE.out];exact⟨rfl,bW⟩
       ·have HE:Hid (AQ ⟨k,n,a,p,d⟩=3):=E3.out (by simp only[true_and,false_and,Bool.false_eq_true,or_false,false_or,Decidable.not_not,and_true,r_a]) hL (by simp[z_n]);clear E0 E1 E2 E3;have d_n:(n != 0)=true:=by simpa using z_n
        go_wp2
        go_ret;rw[HE.out];exact⟨rfl,bW⟩
     ·rw[decide_eq_false r_a];have HE:Hid (AQ ⟨k,n,a,p,d⟩=2):=E2.out (by simp[r_a]);clear E0 E1 E2 E3;go_wp2
      go_ret;rw[HE.out];exact⟨rfl,bW⟩
    | true =>
     exact absurd ⟨rfl,rfl⟩ HX.out.2.1
  | true =>
   cases bA with
   | false =>
    cases bK with
    | false =>
     go_wp2_with fail
     refine(D9 _ 0 4 _).mono ?_;rintro e w1 ⟨rfl,hw1⟩;subst hw1;by_cases r_n:0≤n∧n≤4
     ·rw[decide_eq_true r_n];by_cases hL:2000<d.length
      ·have HE:Hid (AQ ⟨k,n,a,p,d⟩=1):=E1.out (by simp only[true_and,false_and,Bool.false_eq_true,or_false,Decidable.not_not,and_true,r_n]) hL;clear E0 E1 E2 E3;have hLI:(2000:Int)<(d.length:Int):=by omega
       go_wp2
       go_ret;rw[HE.out];exact⟨rfl,bW⟩
      ·have hLI:¬ (2000:Int)<(d.length:Int):=by omega
       by_cases z_a:a=0
       ·have d_a:(a != 0)=false:=by simpa using z_a
        by_cases z_p:p=0
        ·have d_p:(p != 0)=false:=by simpa using z_p
         by_cases hk1:k=1
         ·have HE:Hid (AQ ⟨k,n,a,p,d⟩=0):=E0.out (by simp only[true_and,false_and,Bool.false_eq_true,or_false,Decidable.not_not,and_true,r_n]) hL (by simp[hk1,z_a,z_p]);clear E0 E1 E2 E3;have hk2:(k != 1)=false:=by simpa using hk1
          go_wp2
          go_ret;rw[HE.out];exact⟨rfl,bW⟩
         ·have hk2:(k != 1)=true:=by simpa using hk1
          by_cases hd0:d=[]
          ·have HE:Hid (AQ ⟨k,n,a,p,d⟩=0):=E0.out (by simp only[true_and,false_and,Bool.false_eq_true,or_false,Decidable.not_not,and_true,r_n]) hL (by simp[hd0,z_a,z_p]);clear E0 E1 E2 E3;have hl0:¬ (0:Int)<(d.length:Int):=by rw[hd0];simp
           clear hd0;go_wp2
           go_ret;rw[HE.out];exact⟨rfl,bW⟩
          ·have HE:Hid (AQ ⟨k,n,a,p,d⟩=3):=E3.out (by simp only[true_and,false_and,Bool.false_eq_true,or_false,Decidable.not_not,and_true,r_n]) hL (by simp[hd0,hk1]);clear E0 E1 E2 E3;have hl0:(0:Int)<(d.length:Int):=by have:=List.length_pos_iff.2 hd0;omega
           clear hd0;go_wp2
           go_ret;rw[HE.out];exact⟨rfl,bW⟩
        ·have HE:Hid (AQ ⟨k,n,a,p,d⟩=3):=E3.out (by simp only[true_and,false_and,Bool.false_eq_true,or_false,Decidable.not_not,and_true,r_n]) hL (by simp[z_p]);clear E0 E1 E2 E3;have d_p:(p != 0)=true:=by simpa using z_p
         go_wp2
         go_ret;rw[HE.out];exact⟨rfl,bW⟩
       ·have HE:Hid (AQ ⟨k,n,a,p,d⟩=3):=E3.out (by simp only[true_and,false_and,Bool.false_eq_true,or_false,Decidable.not_not,and_true,r_n]) hL (by simp[z_a]);clear E0 E1 E2 E3;have d_a:(a != 0)=true:=by simpa using z_a
        go_wp2
        go_ret;rw[HE.out];exact⟨rfl,bW⟩
     ·rw[decide_eq_false r_n];have HE:Hid (AQ ⟨k,n,a,p,d⟩=2):=E2.out (by simp[r_n]);clear E0 E1 E2 E3;go_wp2
      go_ret;rw[HE.out];exact⟨rfl,bW⟩
    | true =>
     go_wp2_with fail
     refine(D9 _ 0 4 _).mono ?_;rintro e w1 ⟨rfl,hw1⟩;subst hw1;by_cases r_n:0≤n∧n≤4
     ·rw[decide_eq_true r_n];go_wp2_with fail
      refine(D9 _ 0 100000 _).mono ?_;rintro e w1 ⟨rfl,hw1⟩;subst hw1;by_cases r_p:0≤p∧p≤100000
      ·rw[decide_eq_true r_p];by_cases hL:2000<d.length
       ·have HE:Hid (AQ ⟨k,n,a,p,d⟩=1):=E1.out (by simp only[true_and,false_and,Bool.false_eq_true,false_or,not_or,Decidable.not_not,and_true,r_n,r_p]) hL;clear E0 E1 E2 E3;have hLI:(2000:Int)<(d.length:Int):=by omega
        go_wp2
        go_ret;rw[HE.out];exact⟨rfl,bW⟩
       ·have hLI:¬ (2000:Int)<(d.length:Int):=by omega
        by_cases z_a:a=0
        ·have d_a:(a != 0)=false:=by simpa using z_a
         by_cases hk1:k=1
         ·have HE:Hid (AQ ⟨k,n,a,p,d⟩=0):=E0.out (by simp only[true_and,false_and,Bool.false_eq_true,false_or,not_or,Decidable.not_not,and_true,r_n,r_p]) hL (by simp[hk1,z_a]);clear E0 E1 E2 E3;have hk2:(k != 1)=false:=by simpa using hk1
          go_wp2
          go_ret;rw[HE.out];exact⟨rfl,bW⟩
         ·have hk2:(k != 1)=true:=by simpa using hk1
          by_cases hd0:d=[]
          ·have HE:Hid (AQ ⟨k,n,a,p,d⟩=0):=E0.out (by simp only[true_and,false_and,Bool.false_eq_true,false_or,not_or,Decidable.not_not,and_true,r_n,r_p]) hL (by simp[hd0,z_a]);clear E0 E1 E2 E3;have hl0:¬ (0:Int)<(d.length:Int):=by rw[hd0];simp
           clear hd0;go_wp2
           go_ret;rw[HE.out];exact⟨rfl,bW⟩
          ·have HE:Hid (AQ ⟨k,n,a,p,d⟩=3):=E3.out (by simp only[true_and,false_and,Bool.false_eq_true,false_or,not_or,Decidable.not_not,and_true,r_n,r_p]) hL (by simp[hd0,hk1]);clear E0 E1 E2 E3;have hl0:(0:Int)<(d.length:Int):=by have:=List.length_pos_iff.2 hd0;omega
           clear hd0;go_wp2
           go_ret;rw[HE.out];exact⟨rfl,bW⟩
        ·have HE:Hid (AQ ⟨k,n,a,p,d⟩=3):=E3.out (by simp only[true_and,false_and,Bool.false_eq_true,false_or,not_or,Decidable.not_not,and_true,r_n,r_p]) hL (by simp[z_a]);clear E0 E1 E2 E3;have d_a:(a != 0)=true:=by simpa using z_a
         go_wp2
         go_ret;rw[HE.out];exact⟨rfl,bW⟩
      ·rw[decide_eq_false r_p];have HE:Hid (AQ ⟨k,n,a,p,d⟩=2):=E2.out (by simp[r_p]);clear E0 E1 E2 E3;go_wp2
       go_ret;rw[HE.out];exact⟨rfl,bW⟩
     ·rw[decide_eq_false r_n];have HE:Hid (AQ ⟨k,n,a,p,d⟩=2):=E2.out (by simp[r_n]);clear E0 E1 E2 E3;go_wp2
      go_ret;rw[HE.out];exact⟨rfl,bW⟩
   | true =>
    cases bK with
    | false =>
     exact absurd ⟨rfl,rfl⟩ HX.out.1
    | true =>
     exact absurd ⟨rfl,rfl⟩ HX.out.1
 ·have HD1:Hid (decide (1≤k∧k≤9)=false):=decide_eq_false h1;have HE:Hid (AQ ⟨k,n,a,p,d⟩=4):=if_pos h1;clear h1;go_enter func39,ntmps39
  go_wp2_with fail
  refine(D9 _ 1 9 _).mono ?_;rintro e w' ⟨rfl,rfl⟩;rw[HD1.out];go_wp2
  go_ret;rw[HE.out];exact⟨rfl,bW⟩
theorem IK(x:Value)(F:Nat→Lac)(n:Nat)(w:World)(h:Sk w x F n) :
  Calls prog 14 #[x] w fun e w'=>e=.returned (.int .i64 (KF (F1 F n)))∧Below w.heap.size w w':=by
 obtain⟨a0,cp,rfl⟩:=h.shape;have hlen:=h.len;have HSE:Hid (Sk w (.slice a0 n cp) F n):=h;obtain⟨L0,hL0⟩:∃ L0,F1 F n=L0:=⟨_,rfl⟩;have hLn:L0.length=n:=by rw[← hL0];exact MJ F n
 rw[hL0];clear h;go_enter func14,ntmps14
 by_cases hbig:100000<n
 ·have h1:(100000:Int)<(n:Int):=by omega
  have hR:KF L0=1:=if_pos (by omega);go_wp2
  go_ret;rw[hR];exact⟨rfl,Below.refl _ _⟩
 ·have h1:¬ (100000:Int)<(n:Int):=by omega
  have hR:KF L0=scE L0:=if_neg (by omega);go_wp2_with fail
  go_loopw [3] (fun iv wr=>∃ i:Nat,i≤n∧iv=.int .i64 (i:Int)∧Hid (scE L0=scE (L0.drop i)∧Below w.heap.size w wr)) (fun iv _=>((n:Int)-intOf iv).toNat)
  case atStart=>exact⟨0,by omega,rfl,rfl,Below.refl _ _⟩
  case round =>
   obtain⟨i,hin,rfl,HB⟩:=hrel;by_cases hlt:i<n
   ·have hlI:(i:Int)<(n:Int):=by omega
    have i0:(0:Int)≤(i:Int):=by omega
    obtain⟨b0,o0,xa,xm,xp,rfl,hb0,hr0,hs0⟩:=HSE.out.spot i hlt;have hr1:=Fd HB.out.2 hb0 hr0;have hs1:=hs0.below HB.out.2;have hdr:Hid (L0.drop i=F i::L0.drop (i+1)):=by rw[← hL0];exact LR hlt
    obtain⟨⟨k,m,a,p,d⟩,hp⟩:∃ c,F i=c:=⟨_,rfl⟩;rw[hp]at hr1 hs1 hdr
    simp only[laV]at hr1 hs1;have ixl:=Fx b0 o0 n cp i hlt;have HSL:Hid (Sl wr (.slice xa xm xp) d):=hs1;clear hr0 hb0 hs0 hp hs1;go_wp2_with (refine wpList_load_mid rfl 68 _ rfl b0 (o0+5*i) rfl [.int .i64 k,.int .i64 m,.int .i64 a,.int .i64 p,.slice xa xm xp] _ hr1 underlying68 rfl Hp ?_)
    refine(LQ k m a p (.slice xa xm xp) d wr HSL.out).mono ?_;rintro e w5 ⟨rfl,b5⟩;have HB5:Hid (Below w.heap.size w w5):=HB.out.2.trans (b5.mono HB.out.2.size);obtain⟨E,hE⟩:∃ E,AQ ⟨k,m,a,p,d⟩=E:=⟨_,rfl⟩;rw[hE];clear hr1 b5 HSL;by_cases hz:E=0
    ·have ez:(E != 0)=false:=by simpa using hz
     have hN:scE L0=scE (L0.drop (i+1)):=by rw[HB.out.1,hdr.out];exact if_neg (by rw[hE];simpa using hz)
     go_wp2
     go_roundw
     case rel=>exact⟨i+1,by omega,by go_num,hN,HB5.out⟩
     case measure=>simp[intOf];omega
    ·have ez:(E != 0)=true:=by simpa using hz
     have hN:scE L0=E:=by rw[HB.out.1,hdr.out];exact(if_pos (by rw[hE];exact hz)).trans hE
     go_wp2
     go_ret;rw[hR,hN];exact⟨rfl,HB5.out⟩
   ·obtain rfl:i=n:=by omega
    have hlI:¬ (i:Int)<(i:Int):=by omega
    have hN:scE L0=0:=by rw[HB.out.1,List.drop_eq_nil_of_le (by omega)];rfl
    clear hlt hin;go_wp2
    go_ret;exact⟨rfl,HB.out.2⟩
theorem Ui(va vb:Value)(la lb:List Int)(w:World)(ha:Sl w va la)(hb:Sl w vb lb) :
  Calls prog 8 #[va,vb] w fun e w'=>e=.returned (.bool (decide (la=lb)))∧w'=w:=by
 have c1:=Fa (P:=prog) w 26 9 5 underlying26 underlying5 underlying9 va la ha;have c2:=Fa (P:=prog) w 26 9 5 underlying26 underlying5 underlying9 vb lb hb;have e:=KI ha.byte hb.byte;have H:Hid (strOfNums la=strOfNums lb↔la=lb):=e;clear e;go_enter func8,ntmps8
 go_wp2
 go_ret;refine⟨Ab ?_,rfl⟩;have h:=H.out;rw[Bool.eq_iff_iff,decide_eq_true_iff,← h,beq_iff_eq];exact⟨fun e=>ByteArray.ext (Array.ext' (by rw[← KO,← KO,e])),fun e=>by rw[e]⟩
theorem PB(v:Value)(l:List Int)(w:World)(h:Sl w v l) :
  Calls prog 10 #[v] w fun e w'=>∃ v',e=.returned v'∧w'.ownsRow w.heap.size 5 1 v' l.length (l.map (Value.int .u8))∧Below w.heap.size w w':=by
 have hl:=h.len;go_enter func10,ntmps10
 go_wp2_with (at_builtin;refine Aa _ rfl _ _ 26 rfl w.heap.size 5 underlying26 AB _ _ rfl rfl [] l (World.ownsRow_nil _ _ _ _) h (by simp;omega) (Nat.le_refl _) ?_)
 intro v' w' ho hg;go_wp2
 go_ret;exact⟨v',rfl,by simpa using ho,(Below.refl _ _).grown hg (Nat.le_refl _) (by simp[Value.ownBlock])⟩
end Go.Proofs.YtakgfdbjgeopdaaGreatDoor
