/- Part 43 of the walk. -/
import Derived.Test.YtaeckakjdagddadGreatDoorZ41
import Derived.Test.YtaeckakjdagddadGreatDoorZ42
import Derived.Test.YtaeckakjdagddadGreatDoorZ35
set_option maxRecDepth 100000
set_option maxHeartbeats 4000000
open Go.Proofs.Tryz
set_option linter.unusedVariables false
namespace Go.Proofs.YtaeckakjdagddadGreatDoor
open Go.RowKit
def laV(x:Lac)(y:Value):List Value:=[.int .i64 x.k,.int .i64 x.n,.int .i64 x.a,.int .i64 x.p,y]
def zLa:Value:=.agg #[.int .i64 0,.int .i64 0,.int .i64 0,.int .i64 0,.slice none 0 0]
def gf:Lac:=⟨0,0,0,0,[]⟩
structure Sk(w:World)(x:Value)(F:Nat→Lac)(n:Nat):Prop where
 ex:∃ a cap,x=.slice a n cap∧(n=0∨∃ b off,a=some ⟨b,off,none⟩∧b<w.heap.size∧∀ i,i<n→∃ y,w.rangeAt b (off+5*i) (laV (F i) y)∧Sl w y (F i).d)
 len:n≤2513169434916
theorem Sk.shape{w:World}{x:Value}{F:Nat→Lac}{n:Nat}(h:Sk w x F n):∃ a cap,x=.slice a n cap:=by
 obtain⟨⟨a,cap,e,_⟩,_⟩:=h;exact⟨a,cap,e⟩
theorem Sk.spot{w:World}{a:Option Addr}{n cap:Nat}{F:Nat→Lac}(h:Sk w (.slice a n cap) F n)(i:Nat)(hi:i<n):∃ b off xa xm xp,a=some ⟨b,off,none⟩∧b<w.heap.size∧w.rangeAt b (off+5*i) (laV (F i) (.slice xa xm xp))∧Sl w (.slice xa xm xp) (F i).d:=by
 obtain⟨⟨a',cap',e,h1⟩,_⟩:=h;simp only[Value.slice.injEq]at e;obtain⟨rfl,_,rfl⟩:=e;rcases h1 with rfl|⟨b,off,rfl,hb,hcell⟩
 ·omega
 ·obtain⟨y,h3,h4⟩:=hcell i hi;obtain⟨xa,xp,rfl⟩:=h4.shapeT;exact⟨b,off,xa,_,xp,rfl,hb,h3,h4⟩
def laF(l:List Lac):Nat→Lac:=fun i=>l.getD i gf
theorem Nd{l:List Lac}{i:Nat}(h:i<l.length):laF l i=l[i]:=by simp[laF,List.getD,List.getElem?_eq_getElem h]
def Ia(F:Nat→Lac)(n:Nat):List Lac:=(List.range n).map F
theorem US(F:Nat→Lac)(n:Nat):(Ia F n).length=n:=by simp[Ia]
theorem Ye{F:Nat→Lac}{n j:Nat}(h:j<n):(Ia F n).drop j=F j::(Ia F n).drop (j+1):=by
 have h1:(Ia F n)[j]?=some (F j):=by simp[Ia,h]
 obtain⟨h2,h3⟩:=List.getElem?_eq_some_iff.1 h1;rw[← h3];exact List.drop_eq_getElem_cons h2
def Zn:Array Value:=#[iv 0,.bool false,.bool false,.bool false,.bool false,.bool false,S3.v s30,iv 0,iv 0,iv 0,iv 0,iv 0,S3.v s30]
def TR:List Tg:=.n 70 0::TM
theorem ef:Tg.z∉TR:=by simp[TR,TM,TN]
theorem ea:∀ t∈TM,t∈TR:=fun t h=>List.mem_cons_of_mem _ h
theorem LZ{b:Nat}:gS.t b∉TR:=ef
theorem Base.self(w:World):Base w gS w:=⟨Below.refl _ _,fun _ _=>rfl⟩
theorem Mu{W:World}{la:Option Addr}{b off n c:Nat}(ha:la=some ⟨b,off,none⟩)(j:Nat)(hj:j<n):(Instr.indexAt 23 (.slice la n c) (iv (j:Int))).run prog W=.ok (pt b (off+5*j)) W:=by
 subst ha;exact Pn (P:=prog) (e:=42) (z:=5) underlying23 (by kernel_rfl) (by kernel_rfl) hj _ rfl
theorem eZ{W:World}{b k:Nat}{x:Lac}{y:Value}(h:W.rangeAt b k (laV x y)):(Instr.loadAt 42 (pt b k)).run prog W=.ok (.agg #[iv x.k,iv x.n,iv x.a,iv x.p,y]) W:=by
 have h1:=run_loadVar_mid (P:=prog) W b k 42 (laV x y) _ h underlying42 rfl (by kernel_rfl);simp only[Instr.loadAt,Instr.sureAddr,Sem.run_bind,Sem.run_pure,Result.andThen_ok];exact h1
theorem OutN.mono{B C:Nat}{M:Meet}{ly tv:S3}{ys:Nat→S3}(h:OutN B M ly tv ys)(hc:C≤B):OutN C M ly tv ys:=⟨fun a e=>Nat.le_trans hc (h.logs a e),fun j hj hv a e=>Nat.le_trans hc (h.log j hj hv a e),fun hv a e=>Nat.le_trans hc (h.told hv a e)⟩
theorem ZF{w:World}{lv:S3}{F:Nat→Lac}{n:Nat}(h:Sk w lv.v F n)(hok:∀ i,i<n→LacOk (F i))(hn1:n≤100000)(hT:Tabs w)(tw:LWTab w)(tb:LBTab w) :
  Calls prog 10 #[lv.v] w fun e w'=>Bw w w'∧∃ (ly tv:S3) (ys:Nat→S3),e=.returned (.tuple #[.agg (K9 (Br.acts (Ia F n)) ly tv),iv 0])∧OutW w' (Br.acts (Ia F n)) ly tv ys∧OutN w.heap.size (Br.acts (Ia F n)) ly tv ys:=by
 obtain⟨la,lq,lc⟩:=lv;have hqn:lq=n:=by obtain⟨a,cap,hh⟩:=h.shape;simp only[S3.v,Value.slice.injEq]at hh;exact hh.2.1
 subst lq;have hnb:=h.len;obtain⟨L0,hL0⟩:∃ L0,Ia F n=L0:=⟨_,rfl⟩;have hLn:L0.length=n:=by rw[← hL0];exact US F n
 rw[hL0];refine gI (fn:=f10) TR gS func10 (fun _ _=>⟨rfl,rfl⟩) ?_;refine qR [] 12 [1,0] fun σ1 g1 w1 c1=>?_;refine qI ((decide (100000<(n:Int)))) false (decide_eq_false (by omega)) ?_;refine qR [] 9 [] fun σ3 g3 w3 c3=>?_;refine Bz 40 [(0,.slice la n lc),(2,pt (σ1 0) 0),(14,.slice la n lc),(15,iv (n:Int)),(16,iv 0)] [true] [⟨(σ1 0),.cells Zn 30,.l,false⟩] (fun k g' w' e L=>∃ j:Nat,k=n-j∧j≤n∧e=[(0,.slice la n lc),(2,pt (σ1 0) 0),(14,.slice la n lc),(15,iv (n:Int)),(16,iv (j:Int))]∧L=[⟨(σ1 0),.cells Zn 30,.l,false⟩]∧Cg w.heap.size TR gS w g' w') (by kernel_rfl) (by kernel_rfl) (by kernel_rfl) (by kernel_rfl) n (fun K=>?_) ?_
 ·exact⟨0,rfl,Nat.zero_le _,rfl,rfl,((c1.nil TR).n c3)⟩
 ·rintro k gr wr _ zr _ ⟨j,rfl,hj,rfl,rfl,hC⟩ J hJ;refine qR [] 5 [] fun σ4 g4 w4 c4=>?_;by_cases h0:j<n
  ·refine qI ((decide ((j:Int)<(n:Int)))) true (decide_eq_true (by omega)) ?_;refine qR [] 5 [] fun σ5 g5 w5 c5=>?_;obtain⟨b,off,xa,xm,xp,hla,hbs,hrg,hsl⟩:=h.spot j h0;refine qV 0 (pt b (off+5*j)) (Mu hla (n:=n) (c:=lc) j h0) ?_;refine qV 1 (.agg #[iv (F j).k,iv (F j).n,iv (F j).a,iv (F j).p,.slice xa xm xp]) (eZ (x:=F j) (y:=.slice xa xm xp) (fun q u hq=>(((Cg.below (((hC).n c4).n c5) (fun _ _=>LZ))).cell (p:=⟨b,off+5*j+q,none⟩) hbs).trans (hrg q u hq))) ?_;refine qR [] 6 [0,0,1,0,1] fun σ7 g7 w7 c7=>?_;have bb8:=(Cg.below ((((hC).n c4).n c5).n c7) (fun _ _=>LZ));refine qC 1 (Qa (x:=F j) (y:=⟨xa,xm,xp⟩) (hok j h0) (Iz (x:=⟨xa,xm,xp⟩) hsl) (tw.below bb8) (tb.below bb8)) ?_;rintro e' w8 ⟨rfl,b8⟩;refine⟨_,rfl,b8,?_⟩;have c8:=Cg.ofBelow (B:=w.heap.size) (T:=[]) (g:=g7) b8;refine qR [] 7 [] fun σ9 g9 w9 c9=>?_;refine qR [] 4 [] fun σ11 g11 w11 c11=>?_;refine qV 0 (iv ((j:Int)+1)) (AB (x:=(.tmp 16)) (y:=(.const (iv 1))) (j:Int) 1 underlying3 (by omega)) ?_;refine qR [] 2 [] fun σ12 g12 w12 c12=>?_;exact qB [true,false] fun z K0 K=>hJ (n-(j+1)) _ _ _ z _ (by omega) ⟨j+1,rfl,by omega,rfl,rfl,((((((((hC).n c4).n c5).n c7).n c8).n c9).n c11).n c12)⟩ K
  ·refine qI ((decide ((j:Int)<(n:Int)))) false (decide_eq_false (by omega)) ?_;obtain rfl:j=n:=by omega
   refine qR [] 3 [] fun σ13 g13 w13 c13=>?_;refine Ae fun K=>?_;refine qG 0 [.n 70 0] [true] (K4 K.new) ?_;rintro e' w14 ⟨mb,tb',ob,nb,g14,rfl,hM0,c14⟩;refine⟨_,g14,rfl,c14,hM0.new,?_⟩;replace c14:=c14.ret (B:=w.heap.size);refine qR [] 10 [] fun σ15 g15 w15 c15=>?_;refine Bz 40 [(2,pt (σ1 0) 0),(7,pt mb 0),(28,.slice la j lc),(29,iv (j:Int)),(30,iv 0)] [true] [⟨(σ1 0),.cells Zn 30,.l,false⟩] (fun k g' w' e L=>∃ (i:Nat) (A:Meet),k=j-i∧i≤j∧e=[(2,pt (σ1 0) 0),(7,pt mb 0),(28,.slice la j lc),(29,iv (j:Int)),(30,iv (i:Int))]∧L=[⟨(σ1 0),.cells Zn 30,.l,false⟩]∧MS mb tb' ob nb g' w' A∧(L0.drop i).foldl Meet.act A=Br.acts L0∧MOk i A∧Cg w.heap.size TR gS w g' w') (by kernel_rfl) (by kernel_rfl) (by kernel_rfl) (by kernel_rfl) j (fun K=>?_) ?_
   ·exact⟨0,Br,rfl,Nat.zero_le _,rfl,rfl,(hM0.ch0 c15 K.new),rfl,MOk.zero,(((((hC).n c4).n c13).trans (c14.mono (by simp[TR]))).n c15)⟩
   ·rintro k gq wq _ zq _ ⟨i,A,rfl,hi,rfl,rfl,hM,hI2,hA,hC2⟩ J2 hJ2;refine qR [] 5 [] fun σ16 g16 w16 c16=>?_;by_cases h3:i<j
    ·refine qI ((decide ((i:Int)<(j:Int)))) true (decide_eq_true (by omega)) ?_;rw[← hL0,Ye h3,hL0,List.foldl_cons]at hI2
     have hlk:LacOk (F i):=hok i h3;refine qR [] 5 [] fun σ17 g17 w17 c17=>?_;obtain⟨b,off,xa,xm,xp,hla,hbs,hrg,hsl⟩:=h.spot i h3;refine qV 0 (pt b (off+5*i)) (Mu hla (n:=j) (c:=lc) i h3) ?_;refine qV 1 (.agg #[iv (F i).k,iv (F i).n,iv (F i).a,iv (F i).p,.slice xa xm xp]) (eZ (x:=F i) (y:=.slice xa xm xp) (fun q u hq=>(((Cg.below (((hC2).n c16).n c17) (fun _ _=>LZ))).cell (p:=⟨b,off+5*i+q,none⟩) hbs).trans (hrg q u hq))) ?_;refine qR [] 6 [0,0,1,0,1] fun σ19 g19 w19 c19=>?_;refine Ae fun K=>?_;have NM:MS mb tb' ob nb g19 w19 A:=(hM.ch0 ((c16.trans c17).trans c19) K.new);have bbl:=(Cg.below ((((hC2).n c16).n c17).n c19) (fun _ _=>LZ));refine qG 2 TM [true,true] (cx NM ((Base.self w).ch ((((hC2).n c16).n c17).n c19) ef) hT (F i) ⟨xa,xm,xp⟩ (hsl.below bbl) hlk hA (by omega)) ?_;rintro e' w20 ⟨g20,rfl,M20,c20⟩;refine⟨_,g20,rfl,c20,M20.new,?_⟩;replace c20:=c20.ret (B:=w.heap.size);refine qR [] 3 [] fun σ21 g21 w21 c21=>?_;refine qV 0 (iv ((i:Int)+1)) (AB (x:=(.tmp 30)) (y:=(.const (iv 1))) (i:Int) 1 underlying3 (by omega)) ?_;refine qR [] 2 [] fun σ22 g22 w22 c22=>?_;exact qB [true,false] fun z K0 K=>hJ2 (j-(i+1)) _ _ _ z _ (by omega) ⟨i+1,A.act (F i),rfl,by omega,rfl,rfl,(M20.ch0 (c21.trans c22) K0.new),hI2,hA.act (by omega) hlk,(((((((hC2).n c16).n c17).n c19).trans (c20.mono ea)).n c21).n c22)⟩ K
    ·refine qI ((decide ((i:Int)<(j:Int)))) false (decide_eq_false (by omega)) ?_;obtain rfl:i=j:=by omega
     rw[List.drop_eq_nil_of_le (by omega)]at hI2
     replace hI2:A=Br.acts L0:=hI2;subst hI2;refine qR [] 4 [] fun σ23 g23 w23 c23=>?_;refine Ae fun K=>?_;have NM:MS mb tb' ob nb g23 w23 (Br.acts L0):=(hM.ch0 (c16.trans c23) K.new);have hwt:=hA.wt;have htl:=hA.told;have hGo:∀ b,w23.heap.size≤b→g23.t b=.z:=fun b hb=>(K.new b hb).1;have bb24:=(Cg.below (((hC2).n c16).n c23) (fun _ _=>LZ));refine qC 1 (Pb NM (fun q hq=>⟨(hA.node q hq).dn,(hA.node q hq).ag⟩) (by omega) (by omega)) ?_;rintro e' w24 ⟨ly,tv,ys,rfl,hOW,hON,b24⟩;refine⟨_,rfl,b24,?_⟩;have c24:=Cg.ofBelow (B:=w.heap.size) (T:=[]) (g:=g23) b24;refine qR [] 3 [0,0] fun σ25 g25 w25 c25=>?_;exact qE2 2 3 30 0 (σ1 0) (K9 (Br.acts L0) ly tv) (iv 0) fun K=>⟨(Cg.below (((((hC2).n c16).n c23).n c24).n c25) (fun _ _=>LZ)),ly,tv,ys,rfl,(hOW.ch hON hGo c25),hON.mono bb24.size⟩
theorem tbA{w0 w:World}{g:Gh}(h:Tabs w0)(C:Cg w0.heap.size TQ gS w0 g w):Tabs w:=⟨h.t.below (CgQ.below C),h.n.below (CgQ.below C),h.q.below h.q.pos (CgQ.below C)⟩
def SR(w:World):Prop:=Tabs w∧LWTab w∧LBTab w
theorem tb5{w0 w:World}{g:Gh}(h:SR w0)(C:Cg w0.heap.size TQ gS w0 g w):SR w:=⟨tbA h.1 C,h.2.1.below (CgQ.below C),h.2.2.below (CgQ.below C)⟩
theorem Nj{g:Gh}{w:World}{B:Nat}{y:S3}{l:List Int}(h:Sl w y.v l)(n:Nb B y l)(G:∀ b,B≤b→g.t b=.z):FSl g w y l:=⟨h,fun hl a ha=>G _ (n hl a ha)⟩
structure OwN(B:Nat)(w:World)(e:TypeId)(sz:Nat)(x:S3)(xs:List Value):Prop where
 len:xs.length=x.n*sz
 ex:(x.a=none∧x.n=0∧x.c=0)∨∃ b cur,B≤b∧x.a=some ⟨b,0,none⟩∧w.heap[b]?=some (.cells cur e (0,0))∧x.n≤x.c∧x.c≤maxLen∧cur.size=x.c*sz∧cur.toList.take (x.n*sz)=xs
theorem OwnS.own{w0 w:World}{g:Gh}{r:Nat}{kp:Bool}{e:TypeId}{sz:Nat}{x:S3}{xs:List Value}(h:OwnS g w (.n 60 r) kp e sz x xs)(C:Cg w0.heap.size TQ gS w0 g w):OwN w0.heap.size w e sz x xs:=by
 refine⟨h.len,h.ex.imp id fun⟨b,cur,h1,h2,h3,h4,h5,h6,h7,h8⟩=>⟨b,cur,?_,h1,h2,h3,h4,h5,h6⟩⟩;refine Nat.le_of_not_lt fun hb=>?_;have:=C.tag hb (fun _=>hb);rw[h7]at this
 cases this
theorem OwN.rv{B:Nat}{w:World}{e:TypeId}{sz:Nat}{x:S3}{xs:List Value}(h:OwN B w e sz x xs):RdV w x sz xs:=by
 rcases h.ex with⟨h1,h2,h3⟩|⟨b,cur,h0,h1,h2,h3,h4,h5,h6⟩
 ·exact⟨h.len,by omega,fun _=>h3,.inl h2⟩
 ·refine⟨h.len,h3,fun h=>(by rw[h1]at h;cases h),.inr ⟨b,0,h1,rl h2,fun j u hj=>?_⟩⟩;rw[Nat.zero_add,cell_of_row _ _ _ _ _ _ h2];rw[← h6,List.getElem?_take]at hj
  split at hj
  ·simpa using hj
  ·cases hj
theorem OwN.fz{B:Nat}{g:Gh}{w:World}{e:TypeId}{sz:Nat}{x:S3}{xs:List Value}(h:OwN B w e sz x xs)(G:∀ b,B≤b→g.t b=.z):FzV g w x sz xs :=
 ⟨h.rv,fun _ a ha=>by
  rcases h.ex with⟨h1,h2,h3⟩|⟨b,cur,h0,h1,_⟩
  ·rw[h1]at ha;cases ha
  ·rw[h1]at ha;cases ha;exact G _ h0⟩
theorem RdV.fz{w:World}{x:S3}{sz:Nat}{xs:List Value}(h:RdV w x sz xs):FzV gS w x sz xs:=⟨h,fun _ _ _=>rfl⟩
theorem RdV.spot{w:World}{x:S3}{sz:Nat}{xs:List Value}(h:RdV w x sz xs){i:Nat}(hi:i<x.n):∃ b off,x.a=some ⟨b,off,none⟩∧b<w.heap.size∧∀ j u,xs[sz*i+j]?=some u→w.cell? ⟨b,off+sz*i+j,none⟩=some u:=by
 rcases h.ex with h1|⟨b,off,h1,h2,h3⟩
 ·omega
 ·exact⟨b,off,h1,h2,fun j u hj=>by rw[Nat.add_assoc];exact h3 _ u hj⟩
theorem FJ{α:Type}{f:α→List Value}{sz:Nat}(hf:∀ a,(f a).length=sz)(l:List α){i j:Nat}{a:α}{u:Value}(ha:l[i]?=some a)(hu:(f a)[j]?=some u):(l.flatMap f)[sz*i+j]?=some u:=by
 have hj:j<sz:=by rw[← hf a];exact(List.getElem?_eq_some_iff.1 hu).1
 induction l generalizing i with
 | nil=>cases ha
 | cons c l ih =>
  rw[List.flatMap_cons];cases i with
  | zero =>
   simp only[List.getElem?_cons_zero,Option.some.injEq]at ha;subst ha;rw[List.getElem?_append_left (by rw[hf];omega),Nat.mul_zero,Nat.zero_add];exact hu
  | succ i =>
   rw[List.getElem?_append_right (by rw[hf,Nat.mul_succ];omega),hf,show sz*(i+1)+j-sz=sz*i+j by rw[Nat.mul_succ];omega];exact ih (by simpa using ha)
theorem Ek{α:Type}{f:α→List Value}{sz:Nat}(hf:∀ a,(f a).length=sz)(l:List α):(l.flatMap f).length=l.length*sz:=by
 induction l with
 | nil=>simp
 | cons c l ih=>rw[List.flatMap_cons,List.length_append,hf,ih,List.length_cons,Nat.add_mul];omega
def grV(g:Gr):List Value:=[iv g.k,iv g.a,iv g.b,iv g.c,iv g.d]
def grL(l:List Gr):List Value:=l.flatMap grV
structure GrOk(g:Gr):Prop where
 k:I64 g.k
 a:I64 g.a
 b:I64 g.b
 c:I64 g.c
 d:I64 g.d
theorem gj{W:World}{b k:Nat}(g:Gr)(h:∀ j u,(grV g)[j]?=some u→W.cell? ⟨b,k+j,none⟩=some u):(Instr.loadAt 50 (pt b k)).run prog W=.ok (.agg #[iv g.k,iv g.a,iv g.b,iv g.c,iv g.d]) W:=by
 have h1:=run_loadVar_mid (P:=prog) W b k 50 (grV g) _ h underlying50 rfl (by kernel_rfl);simp only[Instr.loadAt,Instr.sureAddr,Sem.run_bind,Sem.run_pure,Result.andThen_ok];exact h1
theorem eY{W:World}{x:S3}{b off:Nat}(ha:x.a=some ⟨b,off,none⟩)(j:Nat)(hj:j<x.n):(Instr.indexAt 22 x.v (iv (j:Int))).run prog W=.ok (pt b (off+5*j)) W:=by
 obtain⟨xa,xn,xc⟩:=x;simp only at ha hj;subst ha;exact Pn (P:=prog) (e:=50) (z:=5) underlying22 (by kernel_rfl) (by kernel_rfl) hj _ rfl
def acV(l:List (Lac × S3)):List Value:=l.flatMap fun p=>laV p.1 p.2.v
theorem Ds(l:List (Lac × S3))(x:Lac)(y:S3):acV (l++[(x,y)])=acV l++laV x y.v:=by simp[acV]
theorem J3(l:List (Lac × S3)):(acV l).length=l.length*5:=Ek (f:=fun p:Lac × S3=>laV p.1 p.2.v) (fun _=>rfl) l
theorem RJ(l:List (Lac × S3)):∀ u∈acV l,u.oneCell'=true:=by
 intro u hu;obtain⟨p,_,hp⟩:=List.mem_flatMap.1 hu;simp[laV]at hp
 rcases hp with rfl|rfl|rfl|rfl|rfl<;>rfl
def Dat(g:Gh)(w:World)(l:List (Lac × S3)):Prop:=∀ p∈l,FSl g w p.2 p.1.d
theorem Dat.ch{B:Nat}{T:List Tg}{g g':Gh}{w w':World}{l:List (Lac × S3)}(h:Dat g w l)(c:Cg B T g w g' w')(hz:Tg.z∉T:=by simp):Dat g' w' l:=fun p hp=>(h p hp).ch c hz
theorem Dat.snoc{g:Gh}{w:World}{l:List (Lac × S3)}(h:Dat g w l){x:Lac}{y:S3}(k:FSl g w y x.d):Dat g w (l++[(x,y)]):=fun p hp=>(List.mem_append.1 hp).elim (h p) fun e=>by rw[List.mem_singleton.1 e];exact k
theorem Dat.app{g:Gh}{w:World}{l m:List (Lac × S3)}(h:Dat g w l)(k:Dat g w m):Dat g w (l++m):=fun p hp=>(List.mem_append.1 hp).elim (h p) (k p)
theorem Ty(g:Gh)(w:World):FSl g w s30 []:=⟨⟨⟨none,0,rfl,Nat.le_refl _,fun _=>rfl,.inl rfl⟩,by simp,by simp⟩,fun h=>absurd rfl h⟩
def Fa.ac(x:S3)(l:List (Lac × S3)):Fa:=⟨none,fun g w=>FzV g w x 5 (acV l)∧Dat g w l,fun hz _ c h=>⟨h.1.ch c hz,h.2.ch c hz⟩⟩
def Fa.oa(r:Nat)(x:S3)(l:List (Lac × S3)):Fa:=⟨some r,fun g w=>OwnS g w (.n 60 r) true 42 5 x (acV l)∧Dat g w l,fun hz hr c h=>⟨h.1.ch c (hr r rfl) (by simp),h.2.ch c hz⟩⟩
def Fa.dt(l:List (Lac × S3)):Fa:=⟨none,fun g w=>Dat g w l,fun hz _ c h=>h.ch c hz⟩
structure AcR(w:World)(x:S3)(L:List Lac)(l:List (Lac × S3)):Prop where
 e:l.map (·.1)=L
 r:RdV w x 5 (acV l)
 d:∀ p∈l,Sl w p.2.v p.1.d
theorem AcR.of{g:Gh}{w:World}{x:S3}{l:List (Lac × S3)}(h:(Fa.ac x l).p g w){L:List Lac}(e:l.map (·.1)=L):AcR w x L l:=⟨e,h.1.rd,fun p hp=>(h.2 p hp).s⟩
theorem AcR.oo{g:Gh}{w:World}{r:Nat}{x:S3}{l:List (Lac × S3)}(h:(Fa.oa r x l).p g w){L:List Lac}(e:l.map (·.1)=L):AcR w x L l:=⟨e,h.1.rv,fun p hp=>(h.2 p hp).s⟩
theorem AcR.below{w w':World}{x:S3}{L:List Lac}{l:List (Lac × S3)}(h:AcR w x L l)(b:Bw w w'):AcR w' x L l:=⟨h.e,h.r.below b,fun p hp=>(h.d p hp).below b⟩
theorem AcR.n{w:World}{x:S3}{L:List Lac}{l:List (Lac × S3)}(h:AcR w x L l):x.n=L.length:=by
 have:=h.r.len;rw[J3]at this
 rw[← h.e,List.length_map];omega
theorem AcR.sk{w:World}{x:S3}{L:List Lac}{l:List (Lac × S3)}(h:AcR w x L l)(hl:L.length≤1000000):Sk w x.v (laF L) L.length:=by
 have hn:=h.n;refine⟨⟨x.a,x.c,by rw[← hn],?_⟩,by omega⟩;rcases h.r.ex with h1|⟨b,off,h1,h2,h3⟩
 ·exact .inl (by omega)
 ·refine .inr ⟨b,off,h1,h2,fun i hi=>?_⟩;have hil:i<l.length:=by rw[← h.e,List.length_map]at hi;exact hi
  refine⟨l[i].2.v,fun j u hj=>?_,?_⟩
  ·rw[Nat.add_assoc];refine h3 _ u (FJ (f:=fun p:Lac × S3=>laV p.1 p.2.v) (fun _=>rfl) l (List.getElem?_eq_getElem hil) ?_);have:laF L i=l[i].1:=by rw[Nd hi];simp[← h.e]
   rw[this]at hj;exact hj
  ·have:laF L i=l[i].1:=by rw[Nd hi];simp[← h.e]
   rw[this];exact h.d _ (List.getElem_mem hil)
theorem AcR.spot{w:World}{x:S3}{L:List Lac}{l:List (Lac × S3)}(h:AcR w x L l){i:Nat}{a:Lac}(ha:L[i]?=some a):∃ b off y,x.a=some ⟨b,off,none⟩∧w.rangeAt b (off+5*i) (laV a (S3.v y))∧Sl w y.v a.d∧i<x.n:=by
 have hn:=h.n;have hi:=(List.getElem?_eq_some_iff.1 ha).1;have hil:i<l.length:=by rw[← h.e,List.length_map]at hi;exact hi
 have e:l[i].1=a:=by
  have:=(List.getElem?_eq_some_iff.1 ha).2;rw[← this];simp[← h.e]
 obtain⟨b,off,h1,h2,h3⟩:=h.r.spot (i:=i) (by omega);refine⟨b,off,l[i].2,h1,fun j u hj=>?_,?_,by omega⟩
 ·refine h3 j u (FJ (f:=fun p:Lac × S3=>laV p.1 p.2.v) (fun _=>rfl) l (List.getElem?_eq_getElem hil) ?_);rw[e];exact hj
 ·rw[← e];exact h.d _ (List.getElem_mem hil)
structure AcN(B:Nat)(w:World)(x:S3)(l:List (Lac × S3)):Prop where
 o:OwN B w 42 5 x (acV l)
 d:∀ p∈l,Sl w p.2.v p.1.d∧Nb B p.2 p.1.d
 ne:∀ p∈l,p.1.d≠[]→∀ a b,p.2.a=some a→x.a=some b→a.block≠b.block
theorem AcN.ac{B:Nat}{g:Gh}{w:World}{x:S3}{l:List (Lac × S3)}(h:AcN B w x l)(G:∀ b,B≤b→g.t b=.z):(Fa.ac x l).p g w:=⟨h.o.fz G,fun p hp=>Nj (h.d p hp).1 (h.d p hp).2 G⟩
theorem AcN.of{w0 w:World}{g:Gh}{r:Nat}{x:S3}{l:List (Lac × S3)}(h:(Fa.oa r x l).p g w)(C:Cg w0.heap.size TQ gS w0 g w)(hn:∀ p∈l,Nb w0.heap.size p.2 p.1.d):AcN w0.heap.size w x l :=
 ⟨h.1.own C,fun p hp=>⟨(h.2 p hp).s,hn p hp⟩,fun p hp hd a b ha hb e=>by
  have h1:=(h.2 p hp).z hd a ha;rcases h.1.ex with⟨k1,_⟩|⟨c,cur,k1,_,_,_,_,_,k7,_⟩
  ·rw[k1]at hb;cases hb
  ·rw[k1]at hb;cases hb
   rw[e,k7]at h1;cases h1⟩
theorem UR(L:List Lac):Ia (laF L) L.length=L:=by
 apply List.ext_getElem
 ·simp[Ia]
 ·intro i h1 h2;simp[Ia,Nd h2]
def Meet.log(M:Meet)(j:Nat):List Cmd:=(M.node j).agreed.take (M.node j).done
structure OutF(g:Gh)(w:World)(ly tv:S3)(ys:Nat→S3)(M:Meet):Prop where
 logs:FzV g w ly 1 [S3.v (ys 0),S3.v (ys 1),S3.v (ys 2),S3.v (ys 3),S3.v (ys 4)]
 log:∀ j,j<5→FzV g w (ys j) 5 (cmL (M.log j))
 told:FzV g w tv 5 (M.told.flatMap Dk)
theorem OutF.ch{B:Nat}{T:List Tg}{g g':Gh}{w w':World}{ly tv:S3}{ys:Nat→S3}{M:Meet}(h:OutF g w ly tv ys M)(c:Cg B T g w g' w')(hz:Tg.z∉T:=by simp):OutF g' w' ly tv ys M:=⟨h.logs.ch c hz,fun j hj=>(h.log j hj).ch c hz,h.told.ch c hz⟩
def Fa.ot(ly tv:S3)(ys:Nat→S3)(M:Meet):Fa:=⟨none,fun g w=>OutF g w ly tv ys M,fun hz _ c h=>h.ch c hz⟩
theorem Su{g:Gh}{w:World}{B:Nat}{ly tv:S3}{M:Meet}{ys:Nat→S3}(h:OutW w M ly tv ys)(n:OutN B M ly tv ys)(G:∀ b,B≤b→g.t b=.z):OutF g w ly tv ys M :=
 ⟨⟨h.logs,fun _ a ha=>G _ (n.logs a ha)⟩,fun j hj=>⟨(h.log j hj).rv,fun hv a ha=>G _ (n.log j hj hv a ha)⟩,⟨h.told,fun hv a ha=>G _ (n.told hv a ha)⟩⟩
theorem OutW.n5{w:World}{M:Meet}{ly tv:S3}{ys:Nat→S3}(h:OutW w M ly tv ys):ly.n=5:=by have:=h.logs.len;simp at this;omega
theorem OwN.take{g:Gh}{w w':World}{e:TypeId}{sz:Nat}{x:S3}{xs:List Value}(h:OwN w.heap.size w' e sz x xs)(b:Bw w w')(G:∀ b,w.heap.size≤b→g.t b=.z∧g.k b=0)(r:Nat):∃ g',(∀ B,Cg B [] g w g' w')∧(∀ b,w'.heap.size≤b→g'.t b=.z∧g'.k b=0)∧OwnS g' w' (.n 60 r) true e sz x xs∧∀ b,w.heap.size≤b→(∀ a,x.a=some a→b≠a.block)→g'.t b=.z:=by
 have hs:=b.size;rcases h.ex with h1|⟨c,cur,h0,h1,h2,h3,h4,h5,h6⟩
 ·exact⟨g,fun _=>Cg.ofBelow b,fun d hd=>G d (Nat.le_trans hs hd),⟨h.len,.inl h1⟩,fun d hd _=>(G d hd).1⟩
 ·have hc:c<w'.heap.size:=rl h2;have hne:∀ d,d<w.heap.size→¬ d=c:=fun d hd e=>by omega
  refine⟨⟨fun d=>if d=c then .n 60 r else g.t d,fun d=>if d=c then xs.length else g.k d⟩,fun _=>⟨b.os,b.tape,b.output,hs,fun d hd=>.inl (if_neg (hne d hd)),fun d hd=>?_,fun d hd _ _=>if_neg (hne d hd),fun d hd _ _=>b.block d hd,fun d hd j _=>World.cell?_of_block (w:=w) (b.block d hd)⟩,fun d hd=>?_,⟨h.len,.inr ⟨c,cur,h1,h2,h3,h4,h5,h6,if_pos rfl,if_pos rfl⟩⟩,fun d hd hx=>(if_neg (hx _ h1)).trans (G d hd).1⟩
  ·show g.k d≤(if d=c then _ else g.k d);rw[if_neg (hne d hd)];exact Nat.le_refl _
  ·have hd2:¬ d=c:=by omega
   show(if d=c then _ else g.t d)=.z∧(if d=c then _ else g.k d)=0;rw[if_neg hd2,if_neg hd2];exact G d (Nat.le_trans hs hd)
section
variable{P:Program}{fn:Func}{R:Ending→World→Prop}{w0:World}{Φ:List Fa}{g:Gh}{w:World}
theorem tG{s:Xs}(i:Nat)(m:List Bool)(r:Nat){f:FuncId}{av:Array Value}{K:Ending→World→Prop}(hc:AllF g w Φ→Cg w0.heap.size TQ gS w0 g w→Calls P f av w K)(hk:(∀ b,w.heap.size≤b→g.t b=.z)→∀ e w',K e w'→∃ v Ψ et sz x xs,e=.returned v∧Bw w w'∧OwN w.heap.size w' et sz x xs∧∀ g',(AllF g' w' Φ→OwnS g' w' (.n 60 r) true et sz x xs→(∀ b,w.heap.size≤b→(∀ a,x.a=some a→b≠a.block)→g'.t b=.z)→AllF g' w' Ψ)∧GT P fn R w0 Ψ (nxt s i v (Ay m s.L)).s g' w')(hr:∀ W,Cz P s i W=some (.ok (.enter f av) W):=by intro _;kernel_rfl)(hd:Kc s i=true:=by kernel_rfl)(hob:(nxt s i undef (Ay m s.L)).o.map Ob.l'=(nxt s i undef (Ay m s.L)).o.map Ob.r':=by kernel_rfl):GT P fn R w0 Φ s g w:=by
 refine⟨fun F C=>Ae fun hK=>qG i [] m (hc F C) (fun e w' h=>?_) hr hd hob (by simp)⟩;obtain⟨v,Ψ,et,sz,x,xs,h1,h2,h3,h4⟩:=hk (fun b hb=>(hK.new b hb).1) e w' h;obtain⟨g',c,G,hO,hz⟩:=h3.take h2 hK.new r;exact⟨v,g',h1,c _,G,(h4 g').2.ex ((h4 g').1 (F.ch0 (c w0.heap.size)) hO hz) (C.trans ((c _).nil TQ))⟩
theorem dc{P:Program}{W:World}(t ty e:TypeId)(i:TypeInfo)(ht:P.underlying t=some (.slice e))(hi:P.info? e=some i)(y:S3)(hy:y.n=0):(Builtin.append_ #[t,t] ty #[s30.v,y.v]).run P W=.ok s30.v W:=by
 obtain⟨ya,yn,yc⟩:=y;simp only at hy;subst hy;show(Builtin.append_ #[t,t] ty #[.slice none 0 0,.slice ya 0 yc]).run P W=.ok (.slice none 0 0) W;cases ya with
 | none=>simp[Builtin.append_,run_underlying ht,sizeOf,typeInfo,hi,Builtin.lenOf,run_firstCells_none]
 | some a =>
  have hf:=run_firstCells_some (P:=P) W i.size 0 a 0 yc [] (by simp) (by simp);simp[Builtin.append_,run_underlying ht,sizeOf,typeInfo,hi,Builtin.lenOf,run_firstCells_none,hf]
theorem aY{s:Xs}(i:Nat)(r:Nat)(y:S3)(news:List Value)(t ty e:TypeId)(sz bytes:Nat)(z:Value)(hy:AllF g w Φ→RdV w y sz news)(Ψ:List Fa)(hΨ:AllF g w Φ→AllF g w Ψ)(hro:Ψ.all (fun f=>f.ro != some r)=true)(hrT:Tg.n 60 r∈TQ)
  (h1:∀ u∈news,u.oneCell'=true)(h63:y.n≤maxLen)(hbytes:y.n*bytes≤140737488355328)
  (hk:∀ x' g' w',x'.n=y.n→GT P fn R w0 (Fa.ow r e sz x' news::Ψ) (nxt s i (S3.v x') s.L).s g' w')(hsz:0<sz:=by decide)
  (ht:P.underlying t=some (.slice e):=by kernel_rfl)(hinfo:(P.info? e).map (fun i=>(i.zero,i.size,i.bytes))=some (some z,sz,bytes):=by kernel_rfl)(hzs:Nat.beq z.cells.size sz=true:=by kernel_rfl)
  (hsem:CP s i=some (Builtin.append_ #[t,t] ty #[s30.v,y.v]>>=fun v=>pure (.value v)):=by kernel_rfl)(hob:(nxt s i undef s.L).o.map Ob.l'=(nxt s i undef s.L).o.map Ob.r':=by kernel_rfl)(hT:s.L.all (fun y=>[Tg.n 60 r].all fun t=>y.t.ne t)=true:=by kernel_rfl):GT P fn R w0 Φ s g w:=by
 refine tF fun F C=>?_;have hR:=hy F;by_cases h0:y.n=0
 ·obtain⟨inf,hi⟩:∃ inf,P.info? e=some inf:=by cases hh:P.info? e with|none=>rw[hh]at hinfo;cases hinfo|some j=>exact⟨j,rfl⟩
  obtain rfl:news=[]:=List.eq_nil_of_length_eq_zero (by rw[hR.len,h0,Nat.zero_mul]);refine tV i s30.v (fun _ _=>dc t ty e inf ht hi y h0) ?_ hsem hob;exact tCv (Fa.ow r e sz s30 []::Ψ) (fun F=>⟨OwnS.nil _ _ _ _ _ _,hΨ F⟩) (hk s30 g w h0.symm)
 ·obtain⟨b,off,ha,_,_⟩:=hR.spot (i:=0) (by omega);obtain⟨ya,m,c⟩:=y;simp only at ha h0 h63 hbytes hk hsem hR;subst ha;refine NC i r (x:=s30) (xs:=[]) t ty e sz bytes z ⟨b,off,none⟩ m c news (fun _=>OwnS.nil _ _ _ _ _ _) Ψ hΨ hro hrT hR.len h1 (fun F _ j u hj=>?_) (by show 0+m≤_;omega) (by show(0+m)*bytes≤_;rw[Nat.zero_add];exact hbytes) (fun x' g' w' hn=>?_) (Nat.pos_of_ne_zero h0) hsz ht hinfo hzs hsem hob hT
  ·rcases(hy F).ex with h2|⟨b2,off2,k1,k2,k3⟩
   ·exact absurd h2 h0
   ·cases k1;have:(⟨b,off,none⟩:Addr).add j=⟨b,off+j,none⟩:=by unfold Addr.add;split<;>simp_all
    rw[this];exact k3 j u hj
  ·rw[List.nil_append];exact hk x' g' w' (by rw[hn];show 0+m=m;omega)
end
end Go.Proofs.YtaeckakjdagddadGreatDoor
