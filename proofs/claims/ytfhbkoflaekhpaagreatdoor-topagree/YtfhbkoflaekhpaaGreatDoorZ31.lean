/- Part 31 of the walk. -/
import Derived.Test.YtfhbkoflaekhpaaGreatDoorZ30
set_option maxRecDepth 100000
set_option maxHeartbeats 4000000
open Go.Proofs.Tryz
set_option linter.unusedVariables false
namespace Go.Proofs.YtfhbkoflaekhpaaGreatDoor
section
open Go.RowKit
def laV(x:Lac)(y:Value):List Value:=[.int .i64 x.k,.int .i64 x.n,.int .i64 x.a,.int .i64 x.p,y]
def zLa:Value:=.agg #[.int .i64 0,.int .i64 0,.int .i64 0,.int .i64 0,.slice none 0 0]
def fW:Lac:=⟨0,0,0,0,[]⟩
structure Sk(w:World)(x:Value)(F:Nat→Lac)(n:Nat):Prop where
 ex:∃ a cap,x=.slice a n cap∧(n=0∨∃ b off,a=some ⟨b,off,none⟩∧b<w.heap.size∧∀ i,i<n→∃ y,w.rangeAt b (off+5*i) (laV (F i) y)∧Sl w y (F i).d)
 len:n≤2513169434916
theorem Sk.shape{w:World}{x:Value}{F:Nat→Lac}{n:Nat}(h:Sk w x F n):∃ a cap,x=.slice a n cap:=by
 obtain⟨⟨a,cap,e,_⟩,_⟩:=h;exact⟨a,cap,e⟩
theorem Sk.spot{w:World}{a:Option Addr}{n cap:Nat}{F:Nat→Lac}(h:Sk w (.slice a n cap) F n)(i:Nat)(hi:i<n):∃ b off xa xm xp,a=some ⟨b,off,none⟩∧b<w.heap.size∧w.rangeAt b (off+5*i) (laV (F i) (.slice xa xm xp))∧Sl w (.slice xa xm xp) (F i).d:=by
 obtain⟨⟨a',cap',e,h1⟩,_⟩:=h;simp only[Value.slice.injEq]at e;obtain⟨rfl,_,rfl⟩:=e;rcases h1 with rfl|⟨b,off,rfl,hb,hcell⟩
 ·omega
 ·obtain⟨y,h3,h4⟩:=hcell i hi;obtain⟨xa,xp,rfl⟩:=h4.shapeT;exact⟨b,off,xa,_,xp,rfl,hb,h3,h4⟩
def laF(l:List Lac):Nat→Lac:=fun i=>l.getD i fW
theorem Np{l:List Lac}{i:Nat}(h:i<l.length):laF l i=l[i]:=by simp[laF,List.getD,List.getElem?_eq_getElem h]
def Im(F:Nat→Lac)(n:Nat):List Lac:=(List.range n).map F
theorem UU(F:Nat→Lac)(n:Nat):(Im F n).length=n:=by simp[Im]
theorem Yj{F:Nat→Lac}{n j:Nat}(h:j<n):(Im F n).drop j=F j::(Im F n).drop (j+1):=by
 have h1:(Im F n)[j]?=some (F j):=by simp[Im,h]
 obtain⟨h2,h3⟩:=List.getElem?_eq_some_iff.1 h1;rw[← h3];exact List.drop_eq_getElem_cons h2
def WQ:Array Value:=#[iv 0,.bool false,.bool false,.bool false,.bool false,.bool false,S3.v s30,iv 0,iv 0,iv 0,iv 0,iv 0,S3.v s30]
def TR:List Tg:=.n 70 0::TM
theorem dS:Tg.z∉TR:=by simp[TR,TM,TN]
theorem dO:∀ t∈TM,t∈TR:=fun t h=>List.mem_cons_of_mem _ h
theorem Mm{b:Nat}:gS.t b∉TR:=dS
theorem Base.self(w:World):Base w gS w:=⟨Below.refl _ _,fun _ _=>rfl⟩
theorem aS{W:World}{la:Option Addr}{b off n c:Nat}(ha:la=some ⟨b,off,none⟩)(j:Nat)(hj:j<n):(Instr.indexAt 26 (.slice la n c) (iv (j:Int))).run prog W=.ok (pt b (off+5*j)) W:=by
 subst ha;exact ND (P:=prog) (e:=41) (z:=5) underlying26 (by kernel_rfl) (by kernel_rfl) hj _ rfl
theorem eO{W:World}{b k:Nat}{x:Lac}{y:Value}(h:W.rangeAt b k (laV x y)):(Instr.loadAt 41 (pt b k)).run prog W=.ok (.agg #[iv x.k,iv x.n,iv x.a,iv x.p,y]) W:=by
 have h1:=run_loadVar_mid (P:=prog) W b k 41 (laV x y) _ h underlying41 rfl (by kernel_rfl);simp only[Instr.loadAt,Instr.sureAddr,Sem.run_bind,Sem.run_pure,Result.andThen_ok];exact h1
theorem OutN.mono{B C:Nat}{M:Meet}{ly tv:S3}{ys:Nat→S3}(h:OutN B M ly tv ys)(hc:C≤B):OutN C M ly tv ys:=⟨fun a e=>Nat.le_trans hc (h.logs a e),fun j hj hv a e=>Nat.le_trans hc (h.log j hj hv a e),fun hv a e=>Nat.le_trans hc (h.told hv a e)⟩
theorem ZD{w:World}{lv:S3}{F:Nat→Lac}{n:Nat}(h:Sk w lv.v F n)(hok:∀ i,i<n→LacOk (F i))(hn1:n≤100000)(hT:Tabs w)(tw:LWTab w)(tb:LBTab w) :
  Calls prog 9 #[lv.v] w fun e w'=>Bw w w'∧∃ (ly tv:S3) (ys:Nat→S3),e=.returned (.tuple #[.agg (KI (Bb.acts (Im F n)) ly tv),iv 0])∧OutW w' (Bb.acts (Im F n)) ly tv ys∧OutN w.heap.size (Bb.acts (Im F n)) ly tv ys:=by
 obtain⟨la,lq,lc⟩:=lv;have hqn:lq=n:=by obtain⟨a,cap,hh⟩:=h.shape;simp only[S3.v,Value.slice.injEq]at hh;exact hh.2.1
 subst lq;have hnb:=h.len;obtain⟨L0,hL0⟩:∃ L0,Im F n=L0:=⟨_,rfl⟩;have hLn:L0.length=n:=by rw[← hL0];exact UU F n
 rw[hL0];refine gI (fn:=f9) TR gS func9 (fun _ _=>⟨rfl,rfl⟩) ?_;refine qR [] 12 [1,0] fun σ1 g1 w1 c1=>?_;refine qI ((decide (100000<(n:Int)))) false (decide_eq_false (by omega)) ?_;refine qR [] 9 [] fun σ3 g3 w3 c3=>?_;refine BG 40 [(0,.slice la n lc),(2,pt (σ1 0) 0),(14,.slice la n lc),(15,iv (n:Int)),(16,iv 0)] [true] [⟨(σ1 0),.cells WQ 34,.l,false⟩] (fun k g' w' e L=>∃ j:Nat,k=n-j∧j≤n∧e=[(0,.slice la n lc),(2,pt (σ1 0) 0),(14,.slice la n lc),(15,iv (n:Int)),(16,iv (j:Int))]∧L=[⟨(σ1 0),.cells WQ 34,.l,false⟩]∧Cg w.heap.size TR gS w g' w') (by kernel_rfl) (by kernel_rfl) (by kernel_rfl) (by kernel_rfl) n (fun K=>?_) ?_
 ·exact⟨0,rfl,Nat.zero_le _,rfl,rfl,((c1.nil TR).n c3)⟩
 ·rintro k gr wr _ zr _ ⟨j,rfl,hj,rfl,rfl,hC⟩ J hJ;refine qR [] 5 [] fun σ4 g4 w4 c4=>?_;by_cases h0:j<n
  ·refine qI ((decide ((j:Int)<(n:Int)))) true (decide_eq_true (by omega)) ?_;refine qR [] 5 [] fun σ5 g5 w5 c5=>?_;obtain⟨b,off,xa,xm,xp,hla,hbs,hrg,hsl⟩:=h.spot j h0;refine qV 0 (pt b (off+5*j)) (aS hla (n:=n) (c:=lc) j h0) ?_;refine qV 1 (.agg #[iv (F j).k,iv (F j).n,iv (F j).a,iv (F j).p,.slice xa xm xp]) (eO (x:=F j) (y:=.slice xa xm xp) (fun q u hq=>(((Cg.below (((hC).n c4).n c5) (fun _ _=>Mm))).cell (p:=⟨b,off+5*j+q,none⟩) hbs).trans (hrg q u hq))) ?_;refine qR [] 6 [0,0,1,0,1] fun σ7 g7 w7 c7=>?_;have bb8:=(Cg.below ((((hC).n c4).n c5).n c7) (fun _ _=>Mm));refine qC 1 (Qj (x:=F j) (y:=⟨xa,xm,xp⟩) (hok j h0) (IA (x:=⟨xa,xm,xp⟩) hsl) (tw.below bb8) (tb.below bb8)) ?_;rintro e' w8 ⟨rfl,b8⟩;refine⟨_,rfl,b8,?_⟩;have c8:=Cg.ofBelow (B:=w.heap.size) (T:=[]) (g:=g7) b8;refine qR [] 7 [] fun σ9 g9 w9 c9=>?_;refine qR [] 4 [] fun σ11 g11 w11 c11=>?_;refine qV 0 (iv ((j:Int)+1)) (AV (x:=(.tmp 16)) (y:=(.const (iv 1))) (j:Int) 1 underlying3 (by omega)) ?_;refine qR [] 2 [] fun σ12 g12 w12 c12=>?_;exact qB [true,false] fun z K0 K=>hJ (n-(j+1)) _ _ _ z _ (by omega) ⟨j+1,rfl,by omega,rfl,rfl,((((((((hC).n c4).n c5).n c7).n c8).n c9).n c11).n c12)⟩ K
  ·refine qI ((decide ((j:Int)<(n:Int)))) false (decide_eq_false (by omega)) ?_;obtain rfl:j=n:=by omega
   refine qR [] 3 [] fun σ13 g13 w13 c13=>?_;refine Ag fun K=>?_;refine qG 0 [.n 70 0] [true] (KE K.new) ?_;rintro e' w14 ⟨mb,tb',ob,nb,g14,rfl,hM0,c14⟩;refine⟨_,g14,rfl,c14,hM0.new,?_⟩;replace c14:=c14.ret (B:=w.heap.size);refine qR [] 10 [] fun σ15 g15 w15 c15=>?_;refine BG 40 [(2,pt (σ1 0) 0),(7,pt mb 0),(28,.slice la j lc),(29,iv (j:Int)),(30,iv 0)] [true] [⟨(σ1 0),.cells WQ 34,.l,false⟩] (fun k g' w' e L=>∃ (i:Nat) (A:Meet),k=j-i∧i≤j∧e=[(2,pt (σ1 0) 0),(7,pt mb 0),(28,.slice la j lc),(29,iv (j:Int)),(30,iv (i:Int))]∧L=[⟨(σ1 0),.cells WQ 34,.l,false⟩]∧MS mb tb' ob nb g' w' A∧(L0.drop i).foldl Meet.act A=Bb.acts L0∧MOk i A∧Cg w.heap.size TR gS w g' w') (by kernel_rfl) (by kernel_rfl) (by kernel_rfl) (by kernel_rfl) j (fun K=>?_) ?_
   ·exact⟨0,Bb,rfl,Nat.zero_le _,rfl,rfl,(hM0.ch0 c15 K.new),rfl,MOk.zero,(((((hC).n c4).n c13).trans (c14.mono (by simp[TR]))).n c15)⟩
   ·rintro k gq wq _ zq _ ⟨i,A,rfl,hi,rfl,rfl,hM,hI2,hA,hC2⟩ J2 hJ2;refine qR [] 5 [] fun σ16 g16 w16 c16=>?_;by_cases h3:i<j
    ·refine qI ((decide ((i:Int)<(j:Int)))) true (decide_eq_true (by omega)) ?_;rw[← hL0,Yj h3,hL0,List.foldl_cons]at hI2
     have hlk:LacOk (F i):=hok i h3;refine qR [] 5 [] fun σ17 g17 w17 c17=>?_;obtain⟨b,off,xa,xm,xp,hla,hbs,hrg,hsl⟩:=h.spot i h3;refine qV 0 (pt b (off+5*i)) (aS hla (n:=j) (c:=lc) i h3) ?_;refine qV 1 (.agg #[iv (F i).k,iv (F i).n,iv (F i).a,iv (F i).p,.slice xa xm xp]) (eO (x:=F i) (y:=.slice xa xm xp) (fun q u hq=>(((Cg.below (((hC2).n c16).n c17) (fun _ _=>Mm))).cell (p:=⟨b,off+5*i+q,none⟩) hbs).trans (hrg q u hq))) ?_;refine qR [] 6 [0,0,1,0,1] fun σ19 g19 w19 c19=>?_;refine Ag fun K=>?_;have NM:MS mb tb' ob nb g19 w19 A:=(hM.ch0 ((c16.trans c17).trans c19) K.new);have bbl:=(Cg.below ((((hC2).n c16).n c17).n c19) (fun _ _=>Mm));refine qG 2 TM [true,true] (bZ NM ((Base.self w).ch ((((hC2).n c16).n c17).n c19) dS) hT (F i) ⟨xa,xm,xp⟩ (hsl.below bbl) hlk hA (by omega)) ?_;rintro e' w20 ⟨g20,rfl,M20,c20⟩;refine⟨_,g20,rfl,c20,M20.new,?_⟩;replace c20:=c20.ret (B:=w.heap.size);refine qR [] 3 [] fun σ21 g21 w21 c21=>?_;refine qV 0 (iv ((i:Int)+1)) (AV (x:=(.tmp 30)) (y:=(.const (iv 1))) (i:Int) 1 underlying3 (by omega)) ?_;refine qR [] 2 [] fun σ22 g22 w22 c22=>?_;exact qB [true,false] fun z K0 K=>hJ2 (j-(i+1)) _ _ _ z _ (by omega) ⟨i+1,A.act (F i),rfl,by omega,rfl,rfl,(M20.ch0 (c21.trans c22) K0.new),hI2,hA.act (by omega) hlk,(((((((hC2).n c16).n c17).n c19).trans (c20.mono dO)).n c21).n c22)⟩ K
    ·refine qI ((decide ((i:Int)<(j:Int)))) false (decide_eq_false (by omega)) ?_;obtain rfl:i=j:=by omega
     rw[List.drop_eq_nil_of_le (by omega)]at hI2
     replace hI2:A=Bb.acts L0:=hI2;subst hI2;refine qR [] 4 [] fun σ23 g23 w23 c23=>?_;refine Ag fun K=>?_;have NM:MS mb tb' ob nb g23 w23 (Bb.acts L0):=(hM.ch0 (c16.trans c23) K.new);have hwt:=hA.wt;have htl:=hA.told;have hGo:∀ b,w23.heap.size≤b→g23.t b=.z:=fun b hb=>(K.new b hb).1;have bb24:=(Cg.below (((hC2).n c16).n c23) (fun _ _=>Mm));refine qC 1 (Pp NM (fun q hq=>⟨(hA.node q hq).dn,(hA.node q hq).ag⟩) (by omega) (by omega)) ?_;rintro e' w24 ⟨ly,tv,ys,rfl,hOW,hON,b24⟩;refine⟨_,rfl,b24,?_⟩;have c24:=Cg.ofBelow (B:=w.heap.size) (T:=[]) (g:=g23) b24;refine qR [] 3 [0,0] fun σ25 g25 w25 c25=>?_;exact qE2 2 3 34 0 (σ1 0) (KI (Bb.acts L0) ly tv) (iv 0) fun K=>⟨(Cg.below (((((hC2).n c16).n c23).n c24).n c25) (fun _ _=>Mm)),ly,tv,ys,rfl,(hOW.ch hON hGo c25),hON.mono bb24.size⟩
theorem tbA{w0 w:World}{g:Gh}(h:Tabs w0)(C:Cg w0.heap.size TQ gS w0 g w):Tabs w:=⟨h.t.below (CgQ.below C),h.n.below (CgQ.below C),h.q.below h.q.pos (CgQ.below C)⟩
def SY(w:World):Prop:=Tabs w∧LWTab w∧LBTab w
theorem tb5{w0 w:World}{g:Gh}(h:SY w0)(C:Cg w0.heap.size TQ gS w0 g w):SY w:=⟨tbA h.1 C,h.2.1.below (CgQ.below C),h.2.2.below (CgQ.below C)⟩
theorem Nt{g:Gh}{w:World}{B:Nat}{y:S3}{l:List Int}(h:Sl w y.v l)(n:Nb B y l)(G:∀ b,B≤b→g.t b=.z):FSl g w y l:=⟨h,fun hl a ha=>G _ (n hl a ha)⟩
structure OwN(B:Nat)(w:World)(e:TypeId)(sz:Nat)(x:S3)(xs:List Value):Prop where
 len:xs.length=x.n*sz
 ex:(x.a=none∧x.n=0∧x.c=0)∨∃ b cur,B≤b∧x.a=some ⟨b,0,none⟩∧w.heap[b]?=some (.cells cur e (0,0))∧x.n≤x.c∧x.c≤maxLen∧cur.size=x.c*sz∧cur.toList.take (x.n*sz)=xs
theorem OwnS.own{w0 w:World}{g:Gh}{r:Nat}{kp:Bool}{e:TypeId}{sz:Nat}{x:S3}{xs:List Value}(h:OwnS g w (.n 60 r) kp e sz x xs)(C:Cg w0.heap.size TQ gS w0 g w):OwN w0.heap.size w e sz x xs:=by
 refine⟨h.len,h.ex.imp id fun⟨b,cur,h1,h2,h3,h4,h5,h6,h7,h8⟩=>⟨b,cur,?_,h1,h2,h3,h4,h5,h6⟩⟩;refine Nat.le_of_not_lt fun hb=>?_;have:=C.tag hb (fun _=>hb);rw[h7]at this
 cases this
theorem OwN.rv{B:Nat}{w:World}{e:TypeId}{sz:Nat}{x:S3}{xs:List Value}(h:OwN B w e sz x xs):RdV w x sz xs:=by
 rcases h.ex with⟨h1,h2,h3⟩|⟨b,cur,h0,h1,h2,h3,h4,h5,h6⟩
 ·exact⟨h.len,by omega,fun _=>h3,.inl h2⟩
 ·refine⟨h.len,h3,fun h=>(by rw[h1]at h;cases h),.inr ⟨b,0,h1,rl h2,fun j u hj=>?_⟩⟩;rw[Nat.zero_add,cell_of_row _ _ _ _ _ _ h2];rw[← h6,List.getElem?_take]at hj
  split at hj
  ·simpa using hj
  ·cases hj
theorem OwN.fz{B:Nat}{g:Gh}{w:World}{e:TypeId}{sz:Nat}{x:S3}{xs:List Value}(h:OwN B w e sz x xs)(G:∀ b,B≤b→g.t b=.z):FzV g w x sz xs :=
 ⟨h.rv,fun _ a ha=>by
  rcases h.ex with⟨h1,h2,h3⟩|⟨b,cur,h0,h1,_⟩
  ·rw[h1]at ha;cases ha
  ·rw[h1]at ha;cases ha;exact G _ h0⟩
theorem RdV.fz{w:World}{x:S3}{sz:Nat}{xs:List Value}(h:RdV w x sz xs):FzV gS w x sz xs:=⟨h,fun _ _ _=>rfl⟩
theorem RdV.spot{w:World}{x:S3}{sz:Nat}{xs:List Value}(h:RdV w x sz xs){i:Nat}(hi:i<x.n):∃ b off,x.a=some ⟨b,off,none⟩∧b<w.heap.size∧∀ j u,xs[sz*i+j]?=some u→w.cell? ⟨b,off+sz*i+j,none⟩=some u:=by
 rcases h.ex with h1|⟨b,off,h1,h2,h3⟩
 ·omega
 ·exact⟨b,off,h1,h2,fun j u hj=>by rw[Nat.add_assoc];exact h3 _ u hj⟩
theorem JI{α:Type}{f:α→List Value}{sz:Nat}(hf:∀ a,(f a).length=sz)(l:List α){i j:Nat}{a:α}{u:Value}(ha:l[i]?=some a)(hu:(f a)[j]?=some u):(l.flatMap f)[sz*i+j]?=some u:=by
 have hj:j<sz:=by rw[← hf a];exact(List.getElem?_eq_some_iff.1 hu).1
 induction l generalizing i with
 | nil=>cases ha
 | cons c l ih =>
  rw[List.flatMap_cons];cases i with
  | zero =>
   simp only[List.getElem?_cons_zero,Option.some.injEq]at ha;subst ha;rw[List.getElem?_append_left (by rw[hf];omega),Nat.mul_zero,Nat.zero_add];exact hu
  | succ i =>
   rw[List.getElem?_append_right (by rw[hf,Nat.mul_succ];omega),hf,show sz*(i+1)+j-sz=sz*i+j by rw[Nat.mul_succ];omega];exact ih (by simpa using ha)
theorem Ey{α:Type}{f:α→List Value}{sz:Nat}(hf:∀ a,(f a).length=sz)(l:List α):(l.flatMap f).length=l.length*sz:=by
 induction l with
 | nil=>simp
 | cons c l ih=>rw[List.flatMap_cons,List.length_append,hf,ih,List.length_cons,Nat.add_mul];omega
theorem Yu{w:World}{x:S3}{l:List Cmd}(h:RdV w x 5 (cmL l)):x.n=l.length:=h.rc.len
def grV(g:Gr):List Value:=[iv g.k,iv g.a,iv g.b,iv g.c,iv g.d]
def grL(l:List Gr):List Value:=l.flatMap grV
structure GrOk(g:Gr):Prop where
 k:I64 g.k
 a:I64 g.a
 b:I64 g.b
 c:I64 g.c
 d:I64 g.d
theorem gb{W:World}{b k:Nat}(g:Gr)(h:∀ j u,(grV g)[j]?=some u→W.cell? ⟨b,k+j,none⟩=some u):(Instr.loadAt 44 (pt b k)).run prog W=.ok (.agg #[iv g.k,iv g.a,iv g.b,iv g.c,iv g.d]) W:=by
 have h1:=run_loadVar_mid (P:=prog) W b k 44 (grV g) _ h underlying44 rfl (by kernel_rfl);simp only[Instr.loadAt,Instr.sureAddr,Sem.run_bind,Sem.run_pure,Result.andThen_ok];exact h1
theorem eM{W:World}{x:S3}{b off:Nat}(ha:x.a=some ⟨b,off,none⟩)(j:Nat)(hj:j<x.n):(Instr.indexAt 22 x.v (iv (j:Int))).run prog W=.ok (pt b (off+5*j)) W:=by
 obtain⟨xa,xn,xc⟩:=x;simp only at ha hj;subst ha;exact ND (P:=prog) (e:=44) (z:=5) underlying22 (by kernel_rfl) (by kernel_rfl) hj _ rfl
def acV(l:List (Lac × S3)):List Value:=l.flatMap fun p=>laV p.1 p.2.v
theorem JS(l:List (Lac × S3))(x:Lac)(y:S3):acV (l++[(x,y)])=acV l++laV x y.v:=by simp[acV]
theorem Yh(l m:List (Lac × S3)):acV (l++m)=acV l++acV m:=by simp[acV]
theorem RS(l:List (Lac × S3)):(acV l).length=l.length*5:=Ey (f:=fun p:Lac × S3=>laV p.1 p.2.v) (fun _=>rfl) l
def Dat(g:Gh)(w:World)(l:List (Lac × S3)):Prop:=∀ p∈l,FSl g w p.2 p.1.d
theorem Dat.ch{B:Nat}{T:List Tg}{g g':Gh}{w w':World}{l:List (Lac × S3)}(h:Dat g w l)(c:Cg B T g w g' w')(hz:Tg.z∉T:=by simp):Dat g' w' l:=fun p hp=>(h p hp).ch c hz
theorem Dat.snoc{g:Gh}{w:World}{l:List (Lac × S3)}(h:Dat g w l){x:Lac}{y:S3}(k:FSl g w y x.d):Dat g w (l++[(x,y)]):=fun p hp=>(List.mem_append.1 hp).elim (h p) fun e=>by rw[List.mem_singleton.1 e];exact k
theorem fT(g:Gh)(w:World):FSl g w s30 []:=⟨⟨⟨none,0,rfl,Nat.le_refl _,fun _=>rfl,.inl rfl⟩,by simp,by simp⟩,fun h=>absurd rfl h⟩
def Fa.ac(x:S3)(l:List (Lac × S3)):Fa:=⟨none,fun g w=>FzV g w x 5 (acV l)∧Dat g w l,fun hz _ c h=>⟨h.1.ch c hz,h.2.ch c hz⟩⟩
def Fa.oa(r:Nat)(x:S3)(l:List (Lac × S3)):Fa:=⟨some r,fun g w=>OwnS g w (.n 60 r) true 41 5 x (acV l)∧Dat g w l,fun hz hr c h=>⟨h.1.ch c (hr r rfl) (by simp),h.2.ch c hz⟩⟩
def Fa.dt(l:List (Lac × S3)):Fa:=⟨none,fun g w=>Dat g w l,fun hz _ c h=>h.ch c hz⟩
structure AcR(w:World)(x:S3)(L:List Lac)(l:List (Lac × S3)):Prop where
 e:l.map (·.1)=L
 r:RdV w x 5 (acV l)
 d:∀ p∈l,Sl w p.2.v p.1.d
theorem AcR.of{g:Gh}{w:World}{x:S3}{l:List (Lac × S3)}(h:(Fa.ac x l).p g w){L:List Lac}(e:l.map (·.1)=L):AcR w x L l:=⟨e,h.1.rd,fun p hp=>(h.2 p hp).s⟩
theorem AcR.below{w w':World}{x:S3}{L:List Lac}{l:List (Lac × S3)}(h:AcR w x L l)(b:Bw w w'):AcR w' x L l:=⟨h.e,h.r.below b,fun p hp=>(h.d p hp).below b⟩
theorem AcR.n{w:World}{x:S3}{L:List Lac}{l:List (Lac × S3)}(h:AcR w x L l):x.n=L.length:=by
 have:=h.r.len;rw[RS]at this
 rw[← h.e,List.length_map];omega
theorem AcR.sk{w:World}{x:S3}{L:List Lac}{l:List (Lac × S3)}(h:AcR w x L l)(hl:L.length≤1000000):Sk w x.v (laF L) L.length:=by
 have hn:=h.n;refine⟨⟨x.a,x.c,by rw[← hn],?_⟩,by omega⟩;rcases h.r.ex with h1|⟨b,off,h1,h2,h3⟩
 ·exact .inl (by omega)
 ·refine .inr ⟨b,off,h1,h2,fun i hi=>?_⟩;have hil:i<l.length:=by rw[← h.e,List.length_map]at hi;exact hi
  refine⟨l[i].2.v,fun j u hj=>?_,?_⟩
  ·rw[Nat.add_assoc];refine h3 _ u (JI (f:=fun p:Lac × S3=>laV p.1 p.2.v) (fun _=>rfl) l (List.getElem?_eq_getElem hil) ?_);have:laF L i=l[i].1:=by rw[Np hi];simp[← h.e]
   rw[this]at hj;exact hj
  ·have:laF L i=l[i].1:=by rw[Np hi];simp[← h.e]
   rw[this];exact h.d _ (List.getElem_mem hil)
structure AcN(B:Nat)(w:World)(x:S3)(l:List (Lac × S3)):Prop where
 o:OwN B w 41 5 x (acV l)
 d:∀ p∈l,Sl w p.2.v p.1.d∧Nb B p.2 p.1.d
 ne:∀ p∈l,p.1.d≠[]→∀ a b,p.2.a=some a→x.a=some b→a.block≠b.block
theorem AcN.ac{B:Nat}{g:Gh}{w:World}{x:S3}{l:List (Lac × S3)}(h:AcN B w x l)(G:∀ b,B≤b→g.t b=.z):(Fa.ac x l).p g w:=⟨h.o.fz G,fun p hp=>Nt (h.d p hp).1 (h.d p hp).2 G⟩
theorem AcN.of{w0 w:World}{g:Gh}{r:Nat}{x:S3}{l:List (Lac × S3)}(h:(Fa.oa r x l).p g w)(C:Cg w0.heap.size TQ gS w0 g w)(hn:∀ p∈l,Nb w0.heap.size p.2 p.1.d):AcN w0.heap.size w x l :=
 ⟨h.1.own C,fun p hp=>⟨(h.2 p hp).s,hn p hp⟩,fun p hp hd a b ha hb e=>by
  have h1:=(h.2 p hp).z hd a ha;rcases h.1.ex with⟨k1,_⟩|⟨c,cur,k1,_,_,_,_,_,k7,_⟩
  ·rw[k1]at hb;cases hb
  ·rw[k1]at hb;cases hb
   rw[e,k7]at h1;cases h1⟩
theorem UT(L:List Lac):Im (laF L) L.length=L:=by
 apply List.ext_getElem
 ·simp[Im]
 ·intro i h1 h2;simp[Im,Np h2]
def Meet.log(M:Meet)(j:Nat):List Cmd:=(M.node j).agreed.take (M.node j).done
structure OutF(g:Gh)(w:World)(ly tv:S3)(ys:Nat→S3)(M:Meet):Prop where
 logs:FzV g w ly 1 [S3.v (ys 0),S3.v (ys 1),S3.v (ys 2),S3.v (ys 3),S3.v (ys 4)]
 log:∀ j,j<5→FzV g w (ys j) 5 (cmL (M.log j))
 told:FzV g w tv 5 (M.told.flatMap FI)
theorem OutF.ch{B:Nat}{T:List Tg}{g g':Gh}{w w':World}{ly tv:S3}{ys:Nat→S3}{M:Meet}(h:OutF g w ly tv ys M)(c:Cg B T g w g' w')(hz:Tg.z∉T:=by simp):OutF g' w' ly tv ys M:=⟨h.logs.ch c hz,fun j hj=>(h.log j hj).ch c hz,h.told.ch c hz⟩
def Fa.ot(ly tv:S3)(ys:Nat→S3)(M:Meet):Fa:=⟨none,fun g w=>OutF g w ly tv ys M,fun hz _ c h=>h.ch c hz⟩
theorem NA{g:Gh}{w:World}{B:Nat}{ly tv:S3}{M:Meet}{ys:Nat→S3}(h:OutW w M ly tv ys)(n:OutN B M ly tv ys)(G:∀ b,B≤b→g.t b=.z):OutF g w ly tv ys M :=
 ⟨⟨h.logs,fun _ a ha=>G _ (n.logs a ha)⟩,fun j hj=>⟨(h.log j hj).rv,fun hv a ha=>G _ (n.log j hj hv a ha)⟩,⟨h.told,fun hv a ha=>G _ (n.told hv a ha)⟩⟩
theorem OutW.n5{w:World}{M:Meet}{ly tv:S3}{ys:Nat→S3}(h:OutW w M ly tv ys):ly.n=5:=by have:=h.logs.len;simp at this;omega
section
variable{n tc tr tu k c s m v:Int}(h:paE n tc tr tu k c s m v=0)
include h
end
theorem KK{n tc tr tu k c s m v:Int}(h:paE n tc tr tu k c s m v=0):(paL n tc tr tu k c s m v).length=63:=by
 rw[WT h,List.length_cons,FC,GI]
theorem gh{W:World}(x:S3)(k:Nat)(hk:k≤x.c)(ha:∃ b off,x.a=some ⟨b,off,none⟩):(Instr.sliceAt 39 x.v none (some (iv (k:Int))) none).run prog W=.ok (S3.v ⟨x.a,k,x.c⟩) W:=by
 obtain⟨b,off,ha⟩:=ha;obtain⟨xa,xn,xc⟩:=x;simp only at ha hk;subst ha;have e:prog.elem 39=5:=by kernel_rfl
 rw[run_sliceAt_slice _ _ _ _ _ _ ZV,run_slice_h (P:=prog) (w:=W) _ _ _ _ ZV .i64 k (by omega) (by show(k:Int)≤((xc:Nat):Int);omega),e,GP];simp[Result.andThen,sliced,Addr.add]
theorem FSl.take{g:Gh}{w:World}{x:S3}{l:List Int}(h:FSl g w x l)(k:Nat)(hk:k≤l.length):FSl g w ⟨x.a,k,x.c⟩ (l.take k):=by
 have hn:=IA h.s;obtain⟨⟨⟨a,cap,hv,hc,hn,h1⟩,h2,h3⟩,h4⟩:=h;simp only[Value.slice.injEq]at hv;obtain⟨rfl,hxn,rfl⟩:=hv;refine⟨⟨⟨_,_,by simp only[Value.slice.injEq,and_true,true_and,List.length_take];omega,by rw[List.length_take];omega,hn,?_⟩,by rw[List.length_take];omega,fun z hz=>h3 z (List.mem_of_mem_take hz)⟩,fun hl=>h4 fun e=>hl (by rw[e];simp)⟩;rcases h1 with h1|⟨b,off,ha,hbs,hcell⟩
 ·exact .inl (by rw[h1];simp)
 ·refine .inr ⟨b,off,ha,hbs,fun i hi=>?_⟩;rw[List.length_take]at hi
  rw[show(l.take k).getD i 0=l.getD i 0 by simp[List.getD,show i<k by omega]];exact hcell i (by omega)
theorem FSl.addr{g:Gh}{w:World}{x:S3}{l:List Int}(h:FSl g w x l)(hl:l≠[]):(∃ b off,x.a=some ⟨b,off,none⟩)∧l.length≤x.c:=by
 obtain⟨⟨⟨a,cap,hv,hc,hn,h1⟩,h2,h3⟩,h4⟩:=h;simp only[Value.slice.injEq]at hv;obtain⟨rfl,hxn,rfl⟩:=hv;rcases h1 with h1|⟨b,off,ha,_⟩
 ·exact absurd h1 hl
 ·exact⟨⟨b,off,ha⟩,hc⟩
theorem Uf{g:Gr}{w:World}(h:GrOk g)(hT:Tabs w) :
  Calls prog 11 #[.agg #[iv g.k,iv g.a,iv g.b,iv g.c,iv g.d]] w fun e w'=>∃ y:S3,e=.returned y.v∧Sl w' y.v (pkB g)∧Nb w.heap.size y (pkB g)∧Bw w w':=by
 have hl:(pkP g).length=63:=KK (WY g);have r4:=Bk g.c 4 (by omega);refine tIn [] func11 trivial ?_;refine tR 18 [0,0,0,0,0,0,0] fun σ1 _ _=>?_;refine tC 11 (fun F C=>PU h.b h.c h.d h.a h.d) fun Nz=>?_;rintro _ _ ⟨rfl,b2⟩;refine⟨_,_,rfl,b2,id,?_⟩;refine tR 16 [0,0,1,0,1,1,0,2,0,0] fun σ3 _ _=>?_;refine tC 2 (fun F C=>Ce h.d 17) fun Nz=>?_;rintro _ _ ⟨rfl,b4⟩;refine⟨_,_,rfl,b4,id,?_⟩;refine tR 1 [] fun σ5 _ _=>?_;refine RE 56 (fun ee LL ΦΦ=>∃ (tc tr:Int),ee=[(1,pt (σ1 0) 0),(3,pt (σ3 0) 0),(4,pt (σ3 1) 0)]∧LL=[⟨(σ1 0),.cells #[iv g.k,iv g.a,iv g.b,iv g.c,iv g.d] 44,.z,false⟩,⟨(σ3 0),.cells #[iv (wK g.b),iv (pick g.c 4),iv (pick g.d 6),iv (pick g.a 4),iv (wV g.b g.d)] 46,.z,false⟩,⟨(σ3 1),.cells #[iv tc,iv tr,iv 60] 60,.l,false⟩]∧ΦΦ=[]∧tc=pkT g∧tr=pkR g) (fun J hJ=>?_) ?_
 ·refine tR 6 [] fun σ6 _ _=>?_;by_cases h1:pick g.d 17=15
  ·refine tI (((pick g.d 17)==15)) true (by simpa using h1) ?_;refine tR 5 [2,0] fun σ7 _ _=>?_;exact tD hJ [true,true,true] ⟨pick g.c 4,0,rfl,rfl,rfl,(if_neg (by omega)).symm,(if_pos h1).symm⟩ (fun F=>trivial)
  ·refine tI (((pick g.d 17)==15)) false (by simpa using h1) ?_;refine tR 5 [] fun σ8 _ _=>?_;by_cases h2:pick g.d 17=16
   ·refine tI (((pick g.d 17)==16)) true (by simpa using h2) ?_;refine tR 3 [2] fun σ9 _ _=>?_;refine tV 2 (iv (pick g.c 4+1)) (fun F C=>(AV (x:=(.tmp 31)) (y:=(.const (iv 1))) (pick g.c 4) 1 underlying3 (by omega))) ?_;refine tV 3 (iv ((pick g.c 4+1)%4)) (fun F C=>(Xh (x:=(.tmp 32)) (y:=(.const (iv 4))) (pick g.c 4+1) 4 underlying3 (by omega) (by omega) (by decide) (by decide))) ?_;refine tR 4 [2,0] fun σ11 _ _=>?_;exact tD hJ [true,true,true] ⟨(pick g.c 4+1)%4,7,rfl,rfl,rfl,(if_pos h2).symm,(if_neg h1).symm⟩ (fun F=>trivial)
   ·refine tI (((pick g.d 17)==16)) false (by simpa using h2) ?_;refine tR 2 [] fun σ12 _ _=>?_;exact tD hJ [true,true,true] ⟨pick g.c 4,7,rfl,rfl,rfl,(if_neg h2).symm,(if_neg h1).symm⟩ (fun F=>trivial)
 rintro _ _ _ ⟨tc,tr,rfl,rfl,rfl,htc,htr⟩ _ _ _;refine tR 6 [11,0,2,0,6,2,8,1] fun σ13 _ _=>?_;refine tC 2 (fun F C=>Ce h.a 1000) fun Nz=>?_;rintro _ _ ⟨rfl,b14⟩;refine⟨_,_,rfl,b14,id,?_⟩;refine tF fun _ Cs=>?_;have hs16:=Cs.size;have hE:=WY g;rw[← htc,← htr]at hE
 have hP:pkP g=paL (pick g.a 1000) tc tr 60 (wK g.b) (pick g.c 4) (pick g.d 6) (pick g.a 4) (wV g.b g.d):=by rw[htc,htr];rfl
 refine tC 5 (fun F C=>Zs hE (tbA hT C)) fun Nz=>?_;rintro _ _ ⟨y,rfl,hy,hn,b17⟩;refine⟨_,Fa.sl y (pkP g)::_,rfl,b17,fun F=>⟨(by rw[hP];exact Nt hy hn Nz),F⟩,?_⟩;rw[← hP]at hy hn
 have hyn:=IA hy;refine tR 11 [12,14,16,18,20,0] fun σ18 _ _=>?_;refine tC 2 (fun F C=>Ce h.d 23) fun Nz=>?_;rintro _ _ ⟨rfl,b19⟩;refine⟨_,_,rfl,b19,id,?_⟩;by_cases h1:pick g.d 23=22
 ·refine tV 3 (.bool true) (fun F C=>(Fl (t:=3) (m:=pick g.d 23) (n:=22) (x:=(.tmp 46)) (y:=(.const (iv 22))) (by simpa using h1))) ?_;refine tR 6 [] fun σ21 _ _=>?_;refine tI ((decide (30<(y.n:Int)))) true (decide_eq_true (by omega)) ?_;refine tR 2 [] fun σ22 _ _=>?_;refine tF fun F _=>?_;have hya:=FSl.addr F.1 (fun e=>by rw[e]at hl;cases hl);refine tV 1 (S3.v ⟨y.a,30,y.c⟩) (fun F C=>(gh y 30 (by omega) hya.1)) ?_;refine tR 7 [] fun σ23 _ _=>?_;rw[show pkB g=_ from if_pos ⟨h1,by omega⟩];exact tE (S3.v ⟨y.a,30,y.c⟩) fun F B=>⟨⟨y.a,30,y.c⟩,rfl,(F.1.take 30 (by omega)).s,fun _ a ha=>hn.mono hs16 (fun e=>by rw[e]at hl;cases hl) a ha,B⟩
 ·refine tV 3 (.bool false) (fun F C=>(Fl (t:=3) (m:=pick g.d 23) (n:=22) (x:=(.tmp 46)) (y:=(.const (iv 22))) (by simpa using h1))) ?_;refine tR 13 [] fun σ24 _ _=>?_;rw[show pkB g=_ from if_neg (fun e=>h1 e.1)];exact tE (S3.v y) fun F B=>⟨y,rfl,F.1.s,hn.mono hs16,B⟩
theorem bi{g:Gr}{cr:Bool}{w:World}(h:GrOk g)(hT:Tabs w){x:Lac}(hx:OH g cr=x) :
  Calls prog 8 #[.agg #[iv g.k,iv g.a,iv g.b,iv g.c,iv g.d],.bool cr] w fun e w'=>∃ y:S3,e=.returned (.agg #[iv x.k,iv x.n,iv x.a,iv x.p,y.v])∧Sl w' y.v x.d∧Nb w.heap.size y x.d∧Bw w w':=by
 refine tIn [] func8 trivial ?_;refine tR 9 [0,0,1,0,0] fun σ1 _ _=>?_;refine tC 2 (fun F C=>Ce h.a 5) fun Nz=>?_;rintro _ _ ⟨rfl,b2⟩;refine⟨_,_,rfl,b2,id,?_⟩;refine tR 7 [0] fun σ3 _ _=>?_;refine tC 2 (fun F C=>Ce h.k 24) fun Nz=>?_;rintro _ _ ⟨rfl,b4⟩;refine⟨_,_,rfl,b4,id,?_⟩;unfold OH at hx;refine tR 9 [] fun σ5 _ _=>?_;by_cases h1:pick g.k 24<3
 ·refine tI ((decide ((pick g.k 24)<3))) true (by simpa using h1) ?_;rw[if_pos h1]at hx
  refine tR 4 [0] fun σ6 _ _=>?_;refine tF fun _ Cs=>?_;have hs7:=Cs.size;refine tC 2 (fun F C=>Uf h (tbA hT C)) fun Nz=>?_;rintro _ _ ⟨y,rfl,hy,hn,b8⟩;refine⟨_,Fa.sl y (pkB g)::_,rfl,b8,fun F=>⟨Nt hy hn Nz,F⟩,?_⟩;refine tR 3 [1,0] fun σ9 _ _=>?_;subst hx;exact tX fun F C=>qE1 4 41 1 (σ1 1) #[iv 1,iv (pick g.a 5),iv 0,iv 0,S3.v y] fun _=>⟨y,rfl,F.1.s,hn.mono hs7,CgQ.below C⟩
 ·refine tI ((decide ((pick g.k 24)<3))) false (by simpa using h1) ?_;rw[if_neg h1]at hx
  refine tR 6 [] fun σ10 _ _=>?_;by_cases h1:pick g.k 24<5
  ·refine tI ((decide ((pick g.k 24)<5))) true (by simpa using h1) ?_;rw[if_pos h1]at hx
   refine tR 6 [1,0] fun σ11 _ _=>?_;subst hx;exact tX fun F C=>qE1 4 41 1 (σ1 1) #[iv 2,iv (pick g.a 5),iv 0,iv 0,S3.v s30] fun _=>⟨s30,rfl,DR _,fun e=>absurd rfl e,CgQ.below C⟩
  ·refine tI ((decide ((pick g.k 24)<5))) false (by simpa using h1) ?_;rw[if_neg h1]at hx
   refine tR 6 [] fun σ12 _ _=>?_;by_cases h1:pick g.k 24<14
   ·refine tI ((decide ((pick g.k 24)<14))) true (by simpa using h1) ?_;rw[if_pos h1]at hx
    refine tR 6 [1,0] fun σ13 _ _=>?_;subst hx;exact tX fun F C=>qE1 4 41 1 (σ1 1) #[iv 3,iv (pick g.a 5),iv 0,iv 0,S3.v s30] fun _=>⟨s30,rfl,DR _,fun e=>absurd rfl e,CgQ.below C⟩
   ·refine tI ((decide ((pick g.k 24)<14))) false (by simpa using h1) ?_;rw[if_neg h1]at hx
    refine tR 6 [] fun σ14 _ _=>?_;by_cases h1:pick g.k 24=14
    ·refine tI (((pick g.k 24)==14)) true (by simpa using h1) ?_;rw[if_pos h1]at hx
     refine tR 4 [0] fun σ15 _ _=>?_;refine tC 2 (fun F C=>Ce h.c 20) fun Nz=>?_;rintro _ _ ⟨rfl,b16⟩;refine⟨_,_,rfl,b16,id,?_⟩;refine tR 3 [1,0] fun σ17 _ _=>?_;subst hx;exact tX fun F C=>qE1 4 41 1 (σ1 1) #[iv 4,iv 0,iv (pick g.c 20),iv 0,S3.v s30] fun _=>⟨s30,rfl,DR _,fun e=>absurd rfl e,CgQ.below C⟩
    ·refine tI (((pick g.k 24)==14)) false (by simpa using h1) ?_;rw[if_neg h1]at hx
     refine tR 6 [] fun σ18 _ _=>?_;by_cases h1:pick g.k 24=15
     ·refine tI (((pick g.k 24)==15)) true (by simpa using h1) ?_;rw[if_pos h1]at hx
      refine tR 4 [0] fun σ19 _ _=>?_;refine tC 2 (fun F C=>Ce h.c 20) fun Nz=>?_;rintro _ _ ⟨rfl,b20⟩;refine⟨_,_,rfl,b20,id,?_⟩;refine tR 3 [1,0] fun σ21 _ _=>?_;subst hx;exact tX fun F C=>qE1 4 41 1 (σ1 1) #[iv 5,iv 0,iv (pick g.c 20),iv 0,S3.v s30] fun _=>⟨s30,rfl,DR _,fun e=>absurd rfl e,CgQ.below C⟩
     ·refine tI (((pick g.k 24)==15)) false (by simpa using h1) ?_;rw[if_neg h1]at hx
      refine tR 6 [] fun σ22 _ _=>?_;by_cases h1:pick g.k 24=16
      ·refine tI (((pick g.k 24)==16)) true (by simpa using h1) ?_;rw[if_pos h1]at hx
       refine tR 4 [0] fun σ23 _ _=>?_;refine tC 2 (fun F C=>Ce h.c 20) fun Nz=>?_;rintro _ _ ⟨rfl,b24⟩;refine⟨_,_,rfl,b24,id,?_⟩;refine tR 3 [1,0] fun σ25 _ _=>?_;subst hx;exact tX fun F C=>qE1 4 41 1 (σ1 1) #[iv 6,iv 0,iv (pick g.c 20),iv 0,S3.v s30] fun _=>⟨s30,rfl,DR _,fun e=>absurd rfl e,CgQ.below C⟩
      ·refine tI (((pick g.k 24)==16)) false (by simpa using h1) ?_;rw[if_neg h1]at hx
       refine tR 3 [] fun σ26 _ _=>?_;by_cases h1:pick g.k 24=17
       ·refine tV 1 (.bool true) (fun F C=>(Fl (t:=3) (m:=pick g.k 24) (n:=17) (x:=(.tmp 52)) (y:=(.const (iv 17))) (by simpa using h1))) ?_;refine tR 5 [] fun σ27 _ _=>?_;by_cases h2:cr=true
        ·refine tI (cr) true h2 ?_;rw[if_pos ⟨h1,h2⟩]at hx
         refine tR 5 [0] fun σ28 _ _=>?_;refine tC 3 (fun F C=>Ce h.c 90) fun Nz=>?_;rintro _ _ ⟨rfl,b29⟩;refine⟨_,_,rfl,b29,id,?_⟩;refine tR 3 [1,0] fun σ30 _ _=>?_;subst hx;exact tX fun F C=>qE1 4 41 1 (σ1 1) #[iv 8,iv (pick g.a 5),iv 0,iv (pick g.c 90),S3.v s30] fun _=>⟨s30,rfl,DR _,fun e=>absurd rfl e,CgQ.below C⟩
        ·refine tI (cr) false (by simpa using h2) ?_;rw[if_neg (fun e=>h2 e.2)]at hx
         refine tR 3 [] fun σ31 _ _=>?_;by_cases h1:pick g.k 24=18
         ·refine tV 1 (.bool true) (fun F C=>(Fl (t:=3) (m:=pick g.k 24) (n:=18) (x:=(.tmp 63)) (y:=(.const (iv 18))) (by simpa using h1))) ?_;refine tR 5 [] fun σ32 _ _=>?_;by_cases h2:cr=true
          ·refine tI (cr) true h2 ?_;rw[if_pos ⟨h1,h2⟩]at hx
           refine tR 6 [1,0] fun σ33 _ _=>?_;subst hx;exact tX fun F C=>qE1 4 41 1 (σ1 1) #[iv 9,iv (pick g.a 5),iv 0,iv 0,S3.v s30] fun _=>⟨s30,rfl,DR _,fun e=>absurd rfl e,CgQ.below C⟩
          ·refine tI (cr) false (by simpa using h2) ?_;rw[if_neg (fun e=>h2 e.2)]at hx
           refine tR 7 [1,0] fun σ34 _ _=>?_;subst hx;exact tX fun F C=>qE1 4 41 1 (σ1 1) #[iv 7,iv 0,iv 0,iv 0,S3.v s30] fun _=>⟨s30,rfl,DR _,fun e=>absurd rfl e,CgQ.below C⟩
         ·refine tV 1 (.bool false) (fun F C=>(Fl (t:=3) (m:=pick g.k 24) (n:=18) (x:=(.tmp 63)) (y:=(.const (iv 18))) (by simpa using h1))) ?_;rw[if_neg (fun e=>h1 e.1)]at hx
          refine tR 13 [1,0] fun σ35 _ _=>?_;subst hx;exact tX fun F C=>qE1 4 41 1 (σ1 1) #[iv 7,iv 0,iv 0,iv 0,S3.v s30] fun _=>⟨s30,rfl,DR _,fun e=>absurd rfl e,CgQ.below C⟩
       ·refine tV 1 (.bool false) (fun F C=>(Fl (t:=3) (m:=pick g.k 24) (n:=17) (x:=(.tmp 52)) (y:=(.const (iv 17))) (by simpa using h1))) ?_;rw[if_neg (fun e=>h1 e.1)]at hx
        refine tR 9 [] fun σ36 _ _=>?_;by_cases h1:pick g.k 24=18
        ·refine tV 1 (.bool true) (fun F C=>(Fl (t:=3) (m:=pick g.k 24) (n:=18) (x:=(.tmp 63)) (y:=(.const (iv 18))) (by simpa using h1))) ?_;refine tR 5 [] fun σ37 _ _=>?_;by_cases h2:cr=true
         ·refine tI (cr) true h2 ?_;rw[if_pos ⟨h1,h2⟩]at hx
          refine tR 6 [1,0] fun σ38 _ _=>?_;subst hx;exact tX fun F C=>qE1 4 41 1 (σ1 1) #[iv 9,iv (pick g.a 5),iv 0,iv 0,S3.v s30] fun _=>⟨s30,rfl,DR _,fun e=>absurd rfl e,CgQ.below C⟩
         ·refine tI (cr) false (by simpa using h2) ?_;rw[if_neg (fun e=>h2 e.2)]at hx
          refine tR 7 [1,0] fun σ39 _ _=>?_;subst hx;exact tX fun F C=>qE1 4 41 1 (σ1 1) #[iv 7,iv 0,iv 0,iv 0,S3.v s30] fun _=>⟨s30,rfl,DR _,fun e=>absurd rfl e,CgQ.below C⟩
        ·refine tV 1 (.bool false) (fun F C=>(Fl (t:=3) (m:=pick g.k 24) (n:=18) (x:=(.tmp 63)) (y:=(.const (iv 18))) (by simpa using h1))) ?_;rw[if_neg (fun e=>h1 e.1)]at hx
         refine tR 13 [1,0] fun σ40 _ _=>?_;subst hx;exact tX fun F C=>qE1 4 41 1 (σ1 1) #[iv 7,iv 0,iv 0,iv 0,S3.v s30] fun _=>⟨s30,rfl,DR _,fun e=>absurd rfl e,CgQ.below C⟩
theorem eu{w:World}{l:S3}{G:List Gr}{b off i:Nat}{g:Gr}(h:RdV w l 5 (grL G))(ha:l.a=some ⟨b,off,none⟩)(hg:G[i]?=some g){j:Nat}{u:Value}(hj:(grV g)[j]?=some u):w.cell? ⟨b,off+5*i+j,none⟩=some u:=by
 have hn:l.n=G.length:=by have:=h.len;rw[show(grL G).length=G.length*5 from Ey (f:=grV) (fun _=>rfl) G]at this;omega
 obtain⟨b',off',h1,_,h3⟩:=h.spot (i:=i) (by rw[hn];exact(List.getElem?_eq_some_iff.1 hg).1);rw[ha]at h1
 cases h1;exact h3 j u (JI (f:=grV) (fun _=>rfl) G hg hj)
theorem Uw{l:S3}{G:List Gr}{most:Nat}{cr:Bool}{w:World}(h:RdV w l 5 (grL G))(hG:∀ g∈G,GrOk g)(hm:most≤100)(hT:Tabs w) :
  Calls prog 5 #[l.v,iv (most:Int),.bool cr] w fun e w'=>∃ (y:S3) (P:List (Lac × S3)),e=.returned y.v∧P.map (·.1)=scr G most cr∧AcN w.heap.size w' y P∧Bw w w':=by
 have hln:l.n=G.length:=by have:=h.len;rw[show(grL G).length=G.length*5 from Ey (f:=grV) (fun _=>rfl) G]at this;omega
 refine tIn [Fa.zv l 5 (grL G)] func5 ⟨h.fz,trivial⟩ ?_;refine tR 18 [] fun σ1 _ _=>?_;refine Jl 41 [(0,S3.v l),(1,iv (most:Int)),(2,.bool cr),(7,sn),(8,iv 0),(9,iv 0)] [] [] [Fa.zv l 5 (grL G),Fa.oa 0 s30 []] (fun kk ee LL ΦΦ=>∃ (i s:Nat) (y:S3) (P:List (Lac × S3)),kk=min G.length most-i∧ee=[(0,S3.v l),(1,iv (most:Int)),(2,.bool cr),(7,S3.v y),(8,iv (s:Int)),(9,iv (i:Int))]∧LL=[]∧ΦΦ=[Fa.zv l 5 (grL G),Fa.oa 0 y P]∧i≤min G.length most∧y.n=i∧s≤i∧scr G most cr=P.map (·.1)++NL cr s ((G.take most).drop i)∧(∀ p∈P,Nb w.heap.size p.2 p.1.d)) (min G.length most) ⟨0,0,s30,[],rfl,rfl,rfl,rfl,by omega,rfl,by omega,rfl,fun p hp=>by cases hp⟩ (fun F=>⟨F.1,⟨OwnS.nil _ _ _ _ _ _,fun p hp=>by cases hp⟩,trivial⟩) ?_;rintro k _ _ _ ⟨i,s,y,P,rfl,rfl,rfl,rfl,hi,hyn,hsi,hI,hN⟩ _ _ _ J hJ;refine tR 6 [] fun σ2 _ _=>?_;by_cases h1:i<G.length
 ·refine tV 3 (.bool true) (fun F C=>(rLt (t:=3) (m:=(i:Int)) (n:=(l.n:Int)) (x:=(.tmp 11)) (y:=(.tmp 13)) (decide_eq_true (by omega)))) ?_;refine tR 6 [] fun σ3 _ _=>?_;by_cases h2:i<most
  ·refine tI ((decide ((i:Int)<(most:Int)))) true (decide_eq_true (by omega)) ?_;have hi:i<(G.take most).length:=by rw[List.length_take];omega
   obtain⟨g,hg⟩:∃ g,(G.take most)[i]?=some g:=⟨_,List.getElem?_eq_getElem hi⟩;have hgG:G[i]?=some g:=by rw[List.getElem?_take,if_pos h2]at hg;exact hg
   have hgo:=hG g (List.mem_of_getElem? hgG);rw[List.drop_eq_getElem_cons hi,show(G.take most)[i]=g from(List.getElem?_eq_some_iff.1 hg).2,NL]at hI
   refine tF fun F _=>?_;obtain⟨b,off,hla,_,hlc⟩:=F.1.rd.spot (i:=i) (by omega);refine tR 7 [] fun σ4 _ _=>?_;refine tV 2 (pt b (off+5*i)) (fun F C=>(eM hla i (by omega))) ?_;refine tV 3 (.agg #[iv g.k,iv g.a,iv g.b,iv g.c,iv g.d]) (fun F C=>(gb g fun j u hj=>eu F.1.rd hla hgG hj)) ?_;refine tR 1 [] fun σ6 _ _=>?_;obtain⟨x,hx⟩:∃ x,OH g cr=x:=⟨_,rfl⟩;refine tF fun _ Cs=>?_;have hs7:=Cs.size;refine tC 5 (fun F C=>bi hgo (tbA hT C) hx) fun Nz=>?_;rintro _ _ ⟨d,rfl,hd,hn,b8⟩;refine⟨_,Fa.sl d x.d::_,rfl,b8,fun F=>⟨Nt hd hn Nz,F⟩,?_⟩;rw[hx]at hI
   refine tR 10 [1,0,0,0,0] fun σ9 _ _=>?_;by_cases h3:x.k=1
   ·refine tI ((x.k==1)) true (by simpa using h3) ?_;refine tR 3 [] fun σ10 _ _=>?_;refine tV 1 (iv ((s:Int)+1)) (fun F C=>(AV (x:=(.tmp 31)) (y:=(.const (iv 1))) (s:Int) 1 underlying3 (by omega))) ?_;refine tR 7 [] fun σ11 _ _=>?_;rw[show dm s x=s+1 from if_pos h3]at hI
    by_cases h4:6<s+1
    ·refine tI ((decide (6<((s:Int)+1)))) true (decide_eq_true (by omega)) ?_;rw[show Xr s x=acN 7 0 from if_pos ⟨h3,by omega⟩]at hI
     refine tR 8 [0,0,0,0,0] fun σ12 _ _=>?_;refine XF 3 0 (x:=y) 26 26 41 5 56 zLa ⟨(σ12 0),0,none⟩ 1 1 [iv 7,iv 0,iv 0,iv 0,sn] (fun F=>F.2.2.1.1) [Fa.zv l 5 (grL G),Fa.dt (P++[(acN 7 0,s30)])] (fun F=>⟨F.2.1,Dat.snoc F.2.2.1.2 (fT _ _),trivial⟩) rfl (by simp[TQ]) rfl (by simp[Value.oneCell']) (fun F K=>CY K 1 (σ12 0) [iv 7,iv 0,iv 0,iv 0,sn] 41 .z true (by kernel_rfl)) (by unfold maxLen;omega) (by omega) fun y13 _ _ n13=>?_;refine tR 5 [] fun σ14 _ _=>?_;refine tV 1 (iv ((i:Int)+1)) (fun F C=>(AV (x:=(.tmp 20)) (y:=(.const (iv 1))) (i:Int) 1 underlying3 (by omega))) ?_;refine tR 2 [] fun σ15 _ _=>?_;exact tB hJ (min G.length most-(i+1)) (by omega) [false,false] ⟨i+1,(s+1),y13,P++[(acN 7 0,s30)],rfl,rfl,rfl,rfl,by omega,by omega,by omega,(by rw[hI,List.map_append,List.append_assoc];rfl),fun p hp=>(List.mem_append.1 hp).elim (hN p) fun e=>by rw[List.mem_singleton.1 e];exact fun e=>absurd rfl e⟩ (fun F=>⟨F.2.1,⟨(by rw[JS];exact F.1),F.2.2.1⟩,trivial⟩)
    ·refine tI ((decide (6<((s:Int)+1)))) false (decide_eq_false (by omega)) ?_;rw[show Xr s x=x from if_neg (fun e=>h4 (by omega))]at hI
     refine tR 5 [0,0,0] fun σ16 _ _=>?_;refine XF 3 0 (x:=y) 26 26 41 5 56 zLa ⟨(σ16 0),0,none⟩ 1 1 [iv x.k,iv x.n,iv x.a,iv x.p,S3.v d] (fun F=>F.2.2.1.1) [Fa.zv l 5 (grL G),Fa.dt (P++[(x,d)])] (fun F=>⟨F.2.1,Dat.snoc F.2.2.1.2 (F.1),trivial⟩) rfl (by simp[TQ]) rfl (by simp[Value.oneCell']) (fun F K=>CY K 1 (σ16 0) [iv x.k,iv x.n,iv x.a,iv x.p,S3.v d] 41 .z true (by kernel_rfl)) (by unfold maxLen;omega) (by omega) fun y17 _ _ n17=>?_;refine tR 5 [] fun σ18 _ _=>?_;refine tV 1 (iv ((i:Int)+1)) (fun F C=>(AV (x:=(.tmp 20)) (y:=(.const (iv 1))) (i:Int) 1 underlying3 (by omega))) ?_;refine tR 2 [] fun σ19 _ _=>?_;exact tB hJ (min G.length most-(i+1)) (by omega) [false,false] ⟨i+1,(s+1),y17,P++[(x,d)],rfl,rfl,rfl,rfl,by omega,by omega,by omega,(by rw[hI,List.map_append,List.append_assoc];rfl),fun p hp=>(List.mem_append.1 hp).elim (hN p) fun e=>by rw[List.mem_singleton.1 e];exact hn.mono hs7⟩ (fun F=>⟨F.2.1,⟨(by rw[JS];exact F.1),F.2.2.1⟩,trivial⟩)
   ·refine tI ((x.k==1)) false (by simpa using h3) ?_;rw[show dm s x=s from if_neg h3,show Xr s x=x from if_neg (fun e=>h3 e.1)]at hI
    refine tR 5 [0,0,0] fun σ20 _ _=>?_;refine XF 3 0 (x:=y) 26 26 41 5 56 zLa ⟨(σ20 0),0,none⟩ 1 1 [iv x.k,iv x.n,iv x.a,iv x.p,S3.v d] (fun F=>F.2.2.1.1) [Fa.zv l 5 (grL G),Fa.dt (P++[(x,d)])] (fun F=>⟨F.2.1,Dat.snoc F.2.2.1.2 (F.1),trivial⟩) rfl (by simp[TQ]) rfl (by simp[Value.oneCell']) (fun F K=>CY K 1 (σ20 0) [iv x.k,iv x.n,iv x.a,iv x.p,S3.v d] 41 .z true (by kernel_rfl)) (by unfold maxLen;omega) (by omega) fun y21 _ _ n21=>?_;refine tR 5 [] fun σ22 _ _=>?_;refine tV 1 (iv ((i:Int)+1)) (fun F C=>(AV (x:=(.tmp 20)) (y:=(.const (iv 1))) (i:Int) 1 underlying3 (by omega))) ?_;refine tR 2 [] fun σ23 _ _=>?_;exact tB hJ (min G.length most-(i+1)) (by omega) [false,false] ⟨i+1,s,y21,P++[(x,d)],rfl,rfl,rfl,rfl,by omega,by omega,by omega,(by rw[hI,List.map_append,List.append_assoc];rfl),fun p hp=>(List.mem_append.1 hp).elim (hN p) fun e=>by rw[List.mem_singleton.1 e];exact hn.mono hs7⟩ (fun F=>⟨F.2.1,⟨(by rw[JS];exact F.1),F.2.2.1⟩,trivial⟩)
  ·refine tI ((decide ((i:Int)<(most:Int)))) false (decide_eq_false (by omega)) ?_;refine tR 6 [] fun σ24 _ _=>?_;rw[List.drop_eq_nil_of_le (by rw[List.length_take];omega),NL,List.append_nil]at hI
   exact tX fun F C=>qE (S3.v y) fun _=>⟨y,P,rfl,hI.symm,AcN.of F.2.1 C hN,CgQ.below C⟩
 ·refine tV 3 (.bool false) (fun F C=>(rLt (t:=3) (m:=(i:Int)) (n:=(l.n:Int)) (x:=(.tmp 11)) (y:=(.tmp 13)) (decide_eq_false (by omega)))) ?_;refine tR 13 [] fun σ25 _ _=>?_;rw[List.drop_eq_nil_of_le (by rw[List.length_take];omega),NL,List.append_nil]at hI
  exact tX fun F C=>qE (S3.v y) fun _=>⟨y,P,rfl,hI.symm,AcN.of F.2.1 C hN,CgQ.below C⟩
theorem NB{g:Gh}{w:World}{ly tv:S3}{ys:Nat→S3}{M:Meet}(h:OutF g w ly tv ys M):OutW w M ly tv ys:=⟨h.logs.rd,fun j hj=>(h.log j hj).rd.rc,h.told.rd⟩
theorem dl{x:S3}{L:List Lac}{l:List (Lac × S3)}{w:World}(h:AcR w x L l)(ho:∀ a∈L,LacOk a)(hl:L.length≤100000)(hT:SY w){M:Meet}(hM:Bb.acts L=M) :
  Calls prog 9 #[x.v] w fun e w'=>∃ (ly tv:S3) (ys:Nat→S3),e=.returned (.tuple #[.agg (KI M ly tv),iv 0])∧OutW w' M ly tv ys∧OutN w.heap.size M ly tv ys∧Bw w w':=by
 subst hM;refine(ZD (h.sk (by omega)) (fun i hi=>by rw[Np hi];exact ho _ (List.getElem_mem hi)) hl hT.1 hT.2.1 hT.2.2).mono ?_;rw[UT];rintro e w' ⟨hb,ly,tv,ys,h1,h2,h3⟩;exact⟨ly,tv,ys,h1,h2,h3,hb⟩
theorem dg{x:S3}{L:List Lac}{l:List (Lac × S3)}{w:World}(h:AcR w x L l)(ho:∀ a∈L,LacOk a)(hl:L.length≤100000)(hT:SY w){M:Meet}(hM:Bb.acts L=M) :
  Calls prog 7 #[x.v] w fun e w'=>∃ (ly tv:S3) (ys:Nat→S3),e=.returned (.tuple #[.agg (KI M ly tv),.bool true])∧OutW w' M ly tv ys∧OutN w.heap.size M ly tv ys∧Bw w w':=by
 refine tIn [] func7 trivial ?_;refine tR 8 [1,0] fun σ1 _ _=>?_;refine tF fun _ Cs=>?_;have hs2:=Cs.size;refine tC 1 (fun F C=>dl (h.below (CgQ.below C)) ho hl (tb5 hT C) hM) fun Nz=>?_;rintro _ _ ⟨ly,tv,ys,rfl,hW,hN,b3⟩;refine⟨_,Fa.ot ly tv ys M::_,rfl,b3,fun F=>⟨NA hW hN Nz,F⟩,?_⟩;refine tR 14 [0,0,1,0,9,0,1,2,4,6,8] fun σ4 _ _=>?_;refine RE 20 (fun ee LL ΦΦ=>∃ (_:Unit),ee=[(2,pt (σ1 0) 0),(3,.bool ((ly.n:Int)==5))]∧LL=[⟨(σ1 0),.cells (KI M ly tv) 34,.l,false⟩,⟨(σ4 0),.cells (KI M ly tv) 34,.z,false⟩]∧ΦΦ=[Fa.ot ly tv ys M]) (fun J hJ=>?_) ?_
 ·refine RF 5 9 ?_ ?_
  ·refine tR 7 [1,12,14,16,19,0,0,20] fun σ5 _ _=>?_;exact tD hJ [true,true] ⟨(),rfl,rfl,rfl⟩ (fun F=>⟨F.1,trivial⟩)
  ·refine tR 7 [0,0,11,1,12,14,16,20] fun σ6 _ _=>?_;exact tD hJ [true,true] ⟨(),rfl,rfl,rfl⟩ (fun F=>⟨F.1,trivial⟩)
 rintro _ _ _ ⟨_,rfl,rfl,rfl⟩ _ _ _;have hn:(((ly.n:Nat):Int)==5)=true:=by rw[hW.n5];rfl
 exact tX fun F C=>qE2 2 3 34 0 (σ1 0) (KI M ly tv) (.bool ((ly.n:Int)==5)) fun _=>⟨ly,tv,ys,by rw[hn],NB F.1,hN.mono hs2,CgQ.below C⟩
end
section
def Nod.ub(p:Nod):Bool × Nat:=(p.up,p.bad)
theorem KN(p:Nod)(b:Bal):(p.promise b).1.ub=p.ub:=by
 unfold Nod.promise;split
 ·rfl
 ·split
  ·rfl
  ·split<;>rfl
theorem az(p:Nod)(v:Vt):(p.vote v).1.ub=p.ub:=by
 unfold Nod.vote;split
 ·rfl
 ·split
  ·rfl
  ·split<;>rfl
theorem O4(p:Nod)(j:Nat)(v:Vt):(p.count j v).ub=p.ub:=by
 unfold Nod.count;split
 ·rfl
 ·split<;>rfl
theorem ME(p:Nod)(to:Nat)(e:Int):(p.refuse to e).ub=p.ub:=by unfold Nod.refuse;split<;>rfl
theorem Q2(p:Nod)(l:List Cmd):(p.enqueue l).ub=p.ub:=by unfold Nod.enqueue;split<;>rfl
theorem ZR(p:Nod)(l:Let):(p.take l).ub=p.ub:=by
 unfold Nod.take;split
 ·split
  ·exact ME _ _ _
  ·exact KN p l.bal
 ·simp only;split<;>rfl
 ·rfl
 ·split
  ·exact ME _ _ _
  ·exact az p l.vote
 ·exact O4 p _ _
 ·split<;>rfl
 ·simp only;split<;>exact Q2 p l.what
 ·rfl
theorem YY(p:Nod)(i:Nat):(p.lead i).ub=p.ub:=by
 unfold Nod.lead;simp only;split
 ·rfl
 ·exact KN p _
theorem SZ(M:Meet)(L:List Lac)(x:Lac):M.acts (L++[x])=(M.acts L).act x:=by unfold Meet.acts;rw[List.foldl_append];rfl
theorem Ta{M:Meet}{L:List Lac}{i:Nat}{x:Lac}(h:L[i]?=some x):M.acts (L.take (i+1))=(M.acts (L.take i)).act x:=by rw[List.take_add_one,h];exact SZ M (L.take i) x
theorem Og(L:List Lac)(h:∀ x∈L,LacOk x)(hl:L.length≤100000):MOk L.length (Bb.acts L):=by
 suffices ∀ i,i≤L.length→MOk i (Bb.acts (L.take i))by have h1:=this L.length (Nat.le_refl _);rwa [List.take_length]at h1
 intro i;induction i with
 | zero=>intro _;exact MOk.zero
 | succ i ih =>
  intro hi;have hx:L[i]?=some L[i]:=List.getElem?_eq_getElem (by omega);rw[Ta hx];exact(ih (by omega)).act (by omega) (h _ (List.getElem_mem _))
theorem YF(g:Gr)(cr:Bool):LacOk (OH g cr):=by
 have h1:=Bk g.a 5 (by omega);have h2:=Bk g.c 20 (by omega);have h3:=Bk g.c 90 (by omega);have hl:(pkB g).length≤63:=by
  have:(pkP g).length=63:=KK (WY g);unfold pkB;split
  ·rw[List.length_take];omega
  ·omega
 rw[← Ss];unfold OH acN
 repeat' split
 all_goals simp[cI,Gk,Ih,Ii];try omega
theorem Xt{P:Lac→Prop}(h7:P (acN 7 0)){cr:Bool}(hg:∀ g,P (OH g cr))(s:Nat)(l:List Gr):∀ x∈NL cr s l,P x:=by
 induction l generalizing s with
 | nil=>intro x hx;cases hx
 | cons g l ih =>
  intro x hx;rcases List.mem_cons.1 hx with rfl|hx
  ·unfold Xr;split
   ·exact h7
   ·exact hg g
  ·exact ih _ x hx
theorem dp(l:List Gr)(m:Nat)(cr:Bool):∀ x∈scr l m cr,LacOk x:=Xt (by rw[← Ss];decide) (fun g=>YF g cr) _ _
theorem Xu(cr:Bool)(s:Nat)(l:List Gr):(NL cr s l).length=l.length:=by
 induction l generalizing s with
 | nil=>rfl
 | cons g l ih=>rw[NL,List.length_cons,ih,List.length_cons]
theorem ZG(l:List Gr)(m:Nat)(cr:Bool):(scr l m cr).length≤m:=by unfold scr;rw[Xu,List.length_take];omega
end
section
open Go.RowKit
structure OT where
 M:Meet
 ly:S3
 tv:S3
 ys:Nat→S3
def oV(o:OT):List Value:=(KI o.M o.ly o.tv).toList
def GU(g:Gh)(w:World)(l:List OT):Prop:=∀ o∈l,OutF g w o.ly o.tv o.ys o.M
theorem GU.ch{B:Nat}{T:List Tg}{g g':Gh}{w w':World}{l:List OT}(h:GU g w l)(c:Cg B T g w g' w')(hz:Tg.z∉T):GU g' w' l:=fun o ho=>(h o ho).ch c hz
theorem GU.snoc{g:Gh}{w:World}{l:List OT}(h:GU g w l){o:OT}(k:OutF g w o.ly o.tv o.ys o.M):GU g w (l++[o]):=fun p hp=>(List.mem_append.1 hp).elim (h p) fun e=>by rw[List.mem_singleton.1 e];exact k
def Fa.os(l:List OT):Fa:=⟨none,fun g w=>GU g w l,fun hz _ c h=>h.ch c hz⟩
def Fa.ol(x:S3)(l:List OT):Fa:=⟨none,fun g w=>FzV g w x 13 (l.flatMap oV)∧GU g w l,fun hz _ c h=>⟨h.1.ch c hz,h.2.ch c hz⟩⟩
theorem fc{W:World}(x:S3)(k:Nat)(hk:k≤x.c)(ha:x.a=none∨∃ b off,x.a=some ⟨b,off,none⟩):(Instr.sliceAt 26 x.v none (some (iv (k:Int))) (some (iv (k:Int)))).run prog W=.ok (S3.v ⟨x.a,k,k⟩) W:=by
 obtain⟨xa,xn,xc⟩:=x;have un:prog.underlying 26=some (.slice (prog.elem 26)):=by kernel_rfl
 have sz:(Go.sizeOf (prog.elem 26)).run prog W=.ok 5 W:=by kernel_rfl
 rw[run_sliceAt_slice _ _ _ _ _ _ un,run_slice_hm (P:=prog) (w:=W) _ _ _ _ un .i64 .i64 (k:Int) (k:Int) (by omega) (Int.le_refl _) (by show(k:Int)≤((xc:Nat):Int);simp only at hk;omega),sz];rcases ha with ha|⟨b,off,ha⟩
 ·simp only at ha;subst ha;simp[Result.andThen,sliced]
 ·simp only at ha;subst ha;simp[Result.andThen,sliced,Addr.add]
theorem AcR.pre{w:World}{x:S3}{L:List Lac}{l:List (Lac × S3)}(h:AcR w x L l){k:Nat}(hk:k≤L.length):AcR w ⟨x.a,k,k⟩ (L.take k) (l.take k):=by
 have hn:=h.n;have hll:l.length=L.length:=by rw[← h.e,List.length_map]
 refine⟨by rw[List.map_take,h.e],⟨by rw[RS,List.length_take,Nat.min_eq_left (by omega)],Nat.le_refl _,fun ha=>?_,?_⟩,fun p hp=>h.d p (List.mem_of_mem_take hp)⟩
 ·have h1:=h.r.nul ha;have h2:=h.r.cap;show k=0;omega
 ·rcases h.r.ex with h1|⟨b,off,h1,h2,h3⟩
  ·exact .inl (by show k=0;omega)
  ·refine .inr ⟨b,off,h1,h2,fun j u hj=>h3 j u ?_⟩;have:acV l=acV (l.take k)++acV (l.drop k):=by rw[← Yh,List.take_append_drop]
   rw[this];exact List.getElem?_append_left (List.getElem?_eq_some_iff.1 hj).1▸hj
theorem Ps{x:S3}{L:List Lac}{l:List (Lac × S3)}{w:World}(h:AcR w x L l)(hx0:x.a=none∨∃ b off,x.a=some ⟨b,off,none⟩)(ho:∀ a∈L,LacOk a)(hl:L.length≤1000)(hT:SY w) :
  Calls prog 4 #[x.v] w fun e w'=>∃ (y:S3) (Q:List OT),e=.returned (.tuple #[y.v,.bool true])∧Q.map (·.M)=(List.range (L.length+1)).map (fun k=>Bb.acts (L.take k))∧OwN w.heap.size w' 34 13 y (Q.flatMap oV)∧(∀ o∈Q,OutW w' o.M o.ly o.tv o.ys∧OutN w.heap.size o.M o.ly o.tv o.ys)∧Bw w w':=by
 have hxn:=h.n;have hxc:=h.r.cap;refine tIn [Fa.ac x l] func4 ⟨⟨h.r.fz,fun p hp=>⟨h.d p hp,fun _ _ _=>rfl⟩⟩,trivial⟩ ?_;refine tR 15 [] fun σ1 _ _=>?_;refine Jl 29 [(0,S3.v x),(4,sn),(5,iv 0)] [] [] [Fa.ac x l,Fa.ow 0 34 13 s30 (([]:List OT).flatMap oV),Fa.os []] (fun kk ee LL ΦΦ=>∃ (k:Nat) (y:S3) (Q:List OT),kk=L.length+1-k∧ee=[(0,S3.v x),(4,S3.v y),(5,iv (k:Int))]∧LL=[]∧ΦΦ=[Fa.ac x l,Fa.ow 0 34 13 y (Q.flatMap oV),Fa.os Q]∧k≤L.length+1∧y.n=k∧Q.map (·.M)=(List.range k).map (fun k=>Bb.acts (L.take k))∧(∀ o∈Q,OutN w.heap.size o.M o.ly o.tv o.ys)) (L.length+1) ⟨0,s30,[],rfl,rfl,rfl,rfl,by omega,rfl,rfl,fun o ho=>by cases ho⟩ (fun F=>⟨F.1,OwnS.nil _ _ _ _ _ _,(fun o ho=>by cases ho),trivial⟩) ?_;rintro k _ _ _ ⟨k,y,Q,rfl,rfl,rfl,rfl,hk,hyn,hQ,hN⟩ _ _ _ J hJ;refine tR 8 [] fun σ2 _ _=>?_;by_cases h1:k≤L.length
 ·refine tI ((decide ((k:Int)≤(x.n:Int)))) true (decide_eq_true (by omega)) ?_;refine tR 8 [] fun σ3 _ _=>?_;refine tV 3 (S3.v ⟨x.a,k,k⟩) (fun F C=>(fc x k (by omega) hx0)) ?_;obtain⟨M,hM⟩:∃ M,Bb.acts (L.take k)=M:=⟨_,rfl⟩;refine tF fun _ Cs=>?_;have hs5:=Cs.size;refine tC 4 (fun F C=>dg ((AcR.of F.1 h.e).pre (by omega)) (fun a ha=>ho a (List.mem_of_mem_take ha)) (by rw[List.length_take];omega) (tb5 hT C) hM) fun Nz=>?_;rintro _ _ ⟨ly,tv,ys,rfl,hW,hO,b6⟩;refine⟨_,Fa.ot ly tv ys M::_,rfl,b6,fun F=>⟨NA hW hO Nz,F⟩,?_⟩;refine tR 19 [0,0,0,0,0,0,0] fun σ7 _ _=>?_;refine XF 3 0 (x:=y) 23 23 34 13 104 (.agg WQ) ⟨(σ7 1),0,none⟩ 1 1 (oV (OT.mk M ly tv ys)) (fun F=>F.2.2.1) [Fa.ac x l,Fa.os (Q++[OT.mk M ly tv ys])] (fun F=>⟨F.2.1,GU.snoc F.2.2.2.1 (o:=OT.mk M ly tv ys) F.1,trivial⟩) rfl (by simp[TQ]) rfl (by simp[oV,KI,Value.oneCell']) (fun F K=>CY K 1 (σ7 1) (oV (OT.mk M ly tv ys)) 34 .z true (by kernel_rfl)) (by unfold maxLen;omega) (by omega) fun y8 _ _ n8=>?_;refine tR 5 [] fun σ9 _ _=>?_;refine tV 1 (iv ((k:Int)+1)) (fun F C=>(AV (x:=(.tmp 12)) (y:=(.const (iv 1))) (k:Int) 1 underlying3 (by omega))) ?_;refine tR 2 [] fun σ10 _ _=>?_;exact tB hJ (L.length+1-(k+1)) (by omega) [false,false] ⟨k+1,y8,Q++[OT.mk M ly tv ys],rfl,rfl,rfl,rfl,by omega,by omega,(by rw[List.map_append,hQ,List.range_succ,List.map_append];simp[hM]),fun o ho=>(List.mem_append.1 ho).elim (hN o) fun e=>by rw[List.mem_singleton.1 e];exact hO.mono hs5⟩ (fun F=>⟨F.2.1,(by rw[List.flatMap_append];simpa using F.1),F.2.2.1,trivial⟩)
 ·refine tI ((decide ((k:Int)≤(x.n:Int)))) false (decide_eq_false (by omega)) ?_;refine tR 7 [] fun σ11 _ _=>?_;obtain rfl:k=L.length+1:=by omega
  exact tX fun F C=>qE (.tuple #[S3.v y,.bool true]) fun _=>⟨y,Q,rfl,hQ,F.2.1.own C,fun o ho=>⟨NB (F.2.2.1 o ho),hN o ho⟩,CgQ.below C⟩
theorem eN{W:World}{x:S3}{b off:Nat}(ha:x.a=some ⟨b,off,none⟩)(j:Nat)(hj:j<x.n):(Instr.indexAt 30 x.v (iv (j:Int))).run prog W=.ok (pt b (off+j)) W:=by
 obtain⟨xa,xn,xc⟩:=x;simp only at ha hj;subst ha;exact ND (P:=prog) (e:=28) (z:=1) underlying30 (by kernel_rfl) (by kernel_rfl) hj _ (by rw[Nat.one_mul])
theorem Zb{w:World}{ly:S3}{ys:Nat→S3}{b off j:Nat}(h:RdV w ly 1 [S3.v (ys 0),S3.v (ys 1),S3.v (ys 2),S3.v (ys 3),S3.v (ys 4)])(ha:ly.a=some ⟨b,off,none⟩)(hj:j<5):w.cell? ⟨b,off+j,none⟩=some (S3.v (ys j)):=by
 rcases h.ex with h1|⟨b',off',h1,h2,h3⟩
 ·have:=h.len;simp at this;omega
 ·rw[ha]at h1;cases h1
  refine h3 j _ ?_;rcases five hj with rfl|rfl|rfl|rfl|rfl<;>rfl
theorem Xf{W:World}{x:S3}{b off:Nat}(ha:x.a=some ⟨b,off,none⟩)(k:Nat)(hk:k<x.n){j:Int}(hj:j=(k:Int)):(Instr.indexAt 23 x.v (iv j)).run prog W=.ok (pt b (off+13*k)) W:=by
 subst hj;obtain⟨xa,xn,xc⟩:=x;simp only at ha hk;subst ha;exact ND (P:=prog) (e:=34) (z:=13) underlying23 (by kernel_rfl) (by kernel_rfl) hk _ rfl
theorem eH{g:Gh}{w:World}{x:S3}{l:List OT}(h:(Fa.ol x l).p g w):x.n=l.length:=by
 have:=h.1.rd.len;rw[Ey (f:=oV) (sz:=13) (fun _=>rfl)]at this
 omega
theorem WJ{g:Gh}{w:World}{x:S3}{l:List OT}(h:(Fa.ol x l).p g w){i b off:Nat}(hx:x.a=some ⟨b,off,none⟩){o:OT}(ho:l[i]?=some o){j:Nat}{u:Value}(hu:(oV o)[j]?=some u):w.cell? ⟨b,off+13*i+j,none⟩=some u:=by
 have hn:=eH h;have hi:=(List.getElem?_eq_some_iff.1 ho).1;obtain⟨b',off',h1,_,h2⟩:=h.1.rd.spot (i:=i) (by omega);rw[hx]at h1;cases h1
 exact h2 j u (JI (f:=oV) (sz:=13) (fun _=>rfl) l ho hu)
theorem S8{Q:List OT}{L:List Lac}(h:Q.map (·.M)=(List.range (L.length+1)).map fun k=>Bb.acts (L.take k)){i:Nat}(hi:i≤L.length):∃ o,Q[i]?=some o∧o.M=Bb.acts (L.take i):=by
 have h1:=congrArg (·[i]?) h;simp only[List.getElem?_map,List.getElem?_range (show i<L.length+1 by omega),Option.map_some]at h1;cases hq:Q[i]? with
 | none=>rw[hq]at h1;cases h1
 | some o=>rw[hq]at h1;exact⟨o,rfl,by simpa using h1⟩
end
end Go.Proofs.YtfhbkoflaekhpaaGreatDoor
