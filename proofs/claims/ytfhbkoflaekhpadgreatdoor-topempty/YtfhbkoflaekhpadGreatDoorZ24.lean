/- Part 24 of the walk. -/
import Derived.Test.YtfhbkoflaekhpadGreatDoorZ23
set_option maxRecDepth 100000
set_option maxHeartbeats 4000000
open Go.Proofs.Tryz
set_option linter.unusedVariables false
namespace Go.Proofs.YtfhbkoflaekhpadGreatDoor
open Go.RowKit
def laV(x:Lac)(y:Value):List Value:=[.int .i64 x.k,.int .i64 x.n,.int .i64 x.a,.int .i64 x.p,y]
def zLa:Value:=.agg #[.int .i64 0,.int .i64 0,.int .i64 0,.int .i64 0,.slice none 0 0]
def gT:Lac:=⟨0,0,0,0,[]⟩
structure Sk(w:World)(x:Value)(F:Nat→Lac)(n:Nat):Prop where
 ex:∃ a cap,x=.slice a n cap∧(n=0∨∃ b off,a=some ⟨b,off,none⟩∧b<w.heap.size∧∀ i,i<n→∃ y,w.rangeAt b (off+5*i) (laV (F i) y)∧Sl w y (F i).d)
 len:n≤2513169434916
theorem Sk.shape{w:World}{x:Value}{F:Nat→Lac}{n:Nat}(h:Sk w x F n):∃ a cap,x=.slice a n cap:=by
 obtain⟨⟨a,cap,e,_⟩,_⟩:=h;exact⟨a,cap,e⟩
theorem Sk.spot{w:World}{a:Option Addr}{n cap:Nat}{F:Nat→Lac}(h:Sk w (.slice a n cap) F n)(i:Nat)(hi:i<n):∃ b off xa xm xp,a=some ⟨b,off,none⟩∧b<w.heap.size∧w.rangeAt b (off+5*i) (laV (F i) (.slice xa xm xp))∧Sl w (.slice xa xm xp) (F i).d:=by
 obtain⟨⟨a',cap',e,h1⟩,_⟩:=h;simp only[Value.slice.injEq]at e;obtain⟨rfl,_,rfl⟩:=e;rcases h1 with rfl|⟨b,off,rfl,hb,hcell⟩
 ·omega
 ·obtain⟨y,h3,h4⟩:=hcell i hi;obtain⟨xa,xp,rfl⟩:=h4.shapeT;exact⟨b,off,xa,_,xp,rfl,hb,h3,h4⟩
def laF(l:List Lac):Nat→Lac:=fun i=>l.getD i gT
theorem Nv{l:List Lac}{i:Nat}(h:i<l.length):laF l i=l[i]:=by simp[laF,List.getD,List.getElem?_eq_getElem h]
def Is(F:Nat→Lac)(n:Nat):List Lac:=(List.range n).map F
theorem Vd(F:Nat→Lac)(n:Nat):(Is F n).length=n:=by simp[Is]
theorem Yz{F:Nat→Lac}{n j:Nat}(h:j<n):(Is F n).drop j=F j::(Is F n).drop (j+1):=by
 have h1:(Is F n)[j]?=some (F j):=by simp[Is,h]
 obtain⟨h2,h3⟩:=List.getElem?_eq_some_iff.1 h1;rw[← h3];exact List.drop_eq_getElem_cons h2
def ZL:Array Value:=#[iv 0,.bool false,.bool false,.bool false,.bool false,.bool false,S3.v s30,iv 0,iv 0,iv 0,iv 0,iv 0,S3.v s30]
def TR:List Tg:=.n 70 0::TM
theorem eU:Tg.z∉TR:=by simp[TR,TM,TN]
theorem eQ:∀ t∈TM,t∈TR:=fun t h=>List.mem_cons_of_mem _ h
theorem Mu{b:Nat}:gS.t b∉TR:=eU
theorem Base.self(w:World):Base w gS w:=⟨Below.refl _ _,fun _ _=>rfl⟩
theorem Px{W:World}{la:Option Addr}{b off n c:Nat}(ha:la=some ⟨b,off,none⟩)(j:Nat)(hj:j<n):(Instr.indexAt 23 (.slice la n c) (iv (j:Int))).run prog W=.ok (pt b (off+5*j)) W:=by
 subst ha;exact Pw (P:=prog) (e:=27) (z:=5) underlying23 (by kernel_rfl) (by kernel_rfl) hj _ rfl
theorem dP{W:World}{b k:Nat}{x:Lac}{y:Value}(h:W.rangeAt b k (laV x y)):(Instr.loadAt 27 (pt b k)).run prog W=.ok (.agg #[iv x.k,iv x.n,iv x.a,iv x.p,y]) W:=by
 have h1:=run_loadVar_mid (P:=prog) W b k 27 (laV x y) _ h underlying27 rfl (by kernel_rfl);simp only[Instr.loadAt,Instr.sureAddr,Sem.run_bind,Sem.run_pure,Result.andThen_ok];exact h1
theorem OutN.mono{B C:Nat}{M:Meet}{ly tv:S3}{ys:Nat→S3}(h:OutN B M ly tv ys)(hc:C≤B):OutN C M ly tv ys:=⟨fun a e=>Nat.le_trans hc (h.logs a e),fun j hj hv a e=>Nat.le_trans hc (h.log j hj hv a e),fun hv a e=>Nat.le_trans hc (h.told hv a e)⟩
theorem am{w:World}{lv:S3}{F:Nat→Lac}{n:Nat}(h:Sk w lv.v F n)(hok:∀ i,i<n→LacOk (F i))(hn1:n≤100000)(hT:Tabs w)(tw:LWTab w)(tb:LBTab w) :
  Calls prog 10 #[lv.v] w fun e w'=>Bw w w'∧∃ (ly tv:S3) (ys:Nat→S3),e=.returned (.tuple #[.agg (I8 (BS.acts (Is F n)) ly tv),iv 0])∧OutW w' (BS.acts (Is F n)) ly tv ys∧OutN w.heap.size (BS.acts (Is F n)) ly tv ys:=by
 obtain⟨la,lq,lc⟩:=lv;have hqn:lq=n:=by obtain⟨a,cap,hh⟩:=h.shape;simp only[S3.v,Value.slice.injEq]at hh;exact hh.2.1
 subst lq;have hnb:=h.len;obtain⟨L0,hL0⟩:∃ L0,Is F n=L0:=⟨_,rfl⟩;have hLn:L0.length=n:=by rw[← hL0];exact Vd F n
 rw[hL0];refine gI (fn:=f10) TR gS func10 (fun _ _=>⟨rfl,rfl⟩) ?_;refine qR [] 12 [1,0] fun σ1 g1 w1 c1=>?_;refine qI ((decide (100000<(n:Int)))) false (decide_eq_false (by omega)) ?_;refine qR [] 9 [] fun σ3 g3 w3 c3=>?_;refine BC 40 [(0,.slice la n lc),(2,pt (σ1 0) 0),(14,.slice la n lc),(15,iv (n:Int)),(16,iv 0)] [true] [⟨(σ1 0),.cells ZL 33,.l,false⟩] (fun k g' w' e L=>∃ j:Nat,k=n-j∧j≤n∧e=[(0,.slice la n lc),(2,pt (σ1 0) 0),(14,.slice la n lc),(15,iv (n:Int)),(16,iv (j:Int))]∧L=[⟨(σ1 0),.cells ZL 33,.l,false⟩]∧Cg w.heap.size TR gS w g' w') (by kernel_rfl) (by kernel_rfl) (by kernel_rfl) (by kernel_rfl) n (fun K=>?_) ?_
 ·exact⟨0,rfl,Nat.zero_le _,rfl,rfl,((c1.nil TR).n c3)⟩
 ·rintro k gr wr _ zr _ ⟨j,rfl,hj,rfl,rfl,hC⟩ J hJ;refine qR [] 5 [] fun σ4 g4 w4 c4=>?_;by_cases h0:j<n
  ·refine qI ((decide ((j:Int)<(n:Int)))) true (decide_eq_true (by omega)) ?_;refine qR [] 5 [] fun σ5 g5 w5 c5=>?_;obtain⟨b,off,xa,xm,xp,hla,hbs,hrg,hsl⟩:=h.spot j h0;refine qV 0 (pt b (off+5*j)) (Px hla (n:=n) (c:=lc) j h0) ?_;refine qV 1 (.agg #[iv (F j).k,iv (F j).n,iv (F j).a,iv (F j).p,.slice xa xm xp]) (dP (x:=F j) (y:=.slice xa xm xp) (fun q u hq=>(((Cg.below (((hC).n c4).n c5) (fun _ _=>Mu))).cell (p:=⟨b,off+5*j+q,none⟩) hbs).trans (hrg q u hq))) ?_;refine qR [] 6 [0,0,1,0,1] fun σ7 g7 w7 c7=>?_;have bb8:=(Cg.below ((((hC).n c4).n c5).n c7) (fun _ _=>Mu));refine qC 1 (Ql (x:=F j) (y:=⟨xa,xm,xp⟩) (hok j h0) (IH (x:=⟨xa,xm,xp⟩) hsl) (tw.below bb8) (tb.below bb8)) ?_;rintro e' w8 ⟨rfl,b8⟩;refine⟨_,rfl,b8,?_⟩;have c8:=Cg.ofBelow (B:=w.heap.size) (T:=[]) (g:=g7) b8;refine qR [] 7 [] fun σ9 g9 w9 c9=>?_;refine qR [] 4 [] fun σ11 g11 w11 c11=>?_;refine qV 0 (iv ((j:Int)+1)) (AF (x:=(.tmp 16)) (y:=(.const (iv 1))) (j:Int) 1 underlying3 (by omega)) ?_;refine qR [] 2 [] fun σ12 g12 w12 c12=>?_;exact qB [true,false] fun z K0 K=>hJ (n-(j+1)) _ _ _ z _ (by omega) ⟨j+1,rfl,by omega,rfl,rfl,((((((((hC).n c4).n c5).n c7).n c8).n c9).n c11).n c12)⟩ K
  ·refine qI ((decide ((j:Int)<(n:Int)))) false (decide_eq_false (by omega)) ?_;obtain rfl:j=n:=by omega
   refine qR [] 3 [] fun σ13 g13 w13 c13=>?_;refine Af fun K=>?_;refine qG 0 [.n 70 0] [true] (KJ K.new) ?_;rintro e' w14 ⟨mb,tb',ob,nb,g14,rfl,hM0,c14⟩;refine⟨_,g14,rfl,c14,hM0.new,?_⟩;replace c14:=c14.ret (B:=w.heap.size);refine qR [] 10 [] fun σ15 g15 w15 c15=>?_;refine BC 40 [(2,pt (σ1 0) 0),(7,pt mb 0),(28,.slice la j lc),(29,iv (j:Int)),(30,iv 0)] [true] [⟨(σ1 0),.cells ZL 33,.l,false⟩] (fun k g' w' e L=>∃ (i:Nat) (A:Meet),k=j-i∧i≤j∧e=[(2,pt (σ1 0) 0),(7,pt mb 0),(28,.slice la j lc),(29,iv (j:Int)),(30,iv (i:Int))]∧L=[⟨(σ1 0),.cells ZL 33,.l,false⟩]∧MS mb tb' ob nb g' w' A∧(L0.drop i).foldl Meet.act A=BS.acts L0∧MOk i A∧Cg w.heap.size TR gS w g' w') (by kernel_rfl) (by kernel_rfl) (by kernel_rfl) (by kernel_rfl) j (fun K=>?_) ?_
   ·exact⟨0,BS,rfl,Nat.zero_le _,rfl,rfl,(hM0.ch0 c15 K.new),rfl,MOk.zero,(((((hC).n c4).n c13).trans (c14.mono (by simp[TR]))).n c15)⟩
   ·rintro k gq wq _ zq _ ⟨i,A,rfl,hi,rfl,rfl,hM,hI2,hA,hC2⟩ J2 hJ2;refine qR [] 5 [] fun σ16 g16 w16 c16=>?_;by_cases h3:i<j
    ·refine qI ((decide ((i:Int)<(j:Int)))) true (decide_eq_true (by omega)) ?_;rw[← hL0,Yz h3,hL0,List.foldl_cons]at hI2
     have hlk:LacOk (F i):=hok i h3;refine qR [] 5 [] fun σ17 g17 w17 c17=>?_;obtain⟨b,off,xa,xm,xp,hla,hbs,hrg,hsl⟩:=h.spot i h3;refine qV 0 (pt b (off+5*i)) (Px hla (n:=j) (c:=lc) i h3) ?_;refine qV 1 (.agg #[iv (F i).k,iv (F i).n,iv (F i).a,iv (F i).p,.slice xa xm xp]) (dP (x:=F i) (y:=.slice xa xm xp) (fun q u hq=>(((Cg.below (((hC2).n c16).n c17) (fun _ _=>Mu))).cell (p:=⟨b,off+5*i+q,none⟩) hbs).trans (hrg q u hq))) ?_;refine qR [] 6 [0,0,1,0,1] fun σ19 g19 w19 c19=>?_;refine Af fun K=>?_;have NM:MS mb tb' ob nb g19 w19 A:=(hM.ch0 ((c16.trans c17).trans c19) K.new);have bbl:=(Cg.below ((((hC2).n c16).n c17).n c19) (fun _ _=>Mu));refine qG 2 TM [true,true] (cZ NM ((Base.self w).ch ((((hC2).n c16).n c17).n c19) eU) hT (F i) ⟨xa,xm,xp⟩ (hsl.below bbl) hlk hA (by omega)) ?_;rintro e' w20 ⟨g20,rfl,M20,c20⟩;refine⟨_,g20,rfl,c20,M20.new,?_⟩;replace c20:=c20.ret (B:=w.heap.size);refine qR [] 3 [] fun σ21 g21 w21 c21=>?_;refine qV 0 (iv ((i:Int)+1)) (AF (x:=(.tmp 30)) (y:=(.const (iv 1))) (i:Int) 1 underlying3 (by omega)) ?_;refine qR [] 2 [] fun σ22 g22 w22 c22=>?_;exact qB [true,false] fun z K0 K=>hJ2 (j-(i+1)) _ _ _ z _ (by omega) ⟨i+1,A.act (F i),rfl,by omega,rfl,rfl,(M20.ch0 (c21.trans c22) K0.new),hI2,hA.act (by omega) hlk,(((((((hC2).n c16).n c17).n c19).trans (c20.mono eQ)).n c21).n c22)⟩ K
    ·refine qI ((decide ((i:Int)<(j:Int)))) false (decide_eq_false (by omega)) ?_;obtain rfl:i=j:=by omega
     rw[List.drop_eq_nil_of_le (by omega)]at hI2
     replace hI2:A=BS.acts L0:=hI2;subst hI2;refine qR [] 4 [] fun σ23 g23 w23 c23=>?_;refine Af fun K=>?_;have NM:MS mb tb' ob nb g23 w23 (BS.acts L0):=(hM.ch0 (c16.trans c23) K.new);have hwt:=hA.wt;have htl:=hA.told;have hGo:∀ b,w23.heap.size≤b→g23.t b=.z:=fun b hb=>(K.new b hb).1;have bb24:=(Cg.below (((hC2).n c16).n c23) (fun _ _=>Mu));refine qC 1 (Pn NM (fun q hq=>⟨(hA.node q hq).dn,(hA.node q hq).ag⟩) (by omega) (by omega)) ?_;rintro e' w24 ⟨ly,tv,ys,rfl,hOW,hON,b24⟩;refine⟨_,rfl,b24,?_⟩;have c24:=Cg.ofBelow (B:=w.heap.size) (T:=[]) (g:=g23) b24;refine qR [] 3 [0,0] fun σ25 g25 w25 c25=>?_;exact qE2 2 3 33 0 (σ1 0) (I8 (BS.acts L0) ly tv) (iv 0) fun K=>⟨(Cg.below (((((hC2).n c16).n c23).n c24).n c25) (fun _ _=>Mu)),ly,tv,ys,rfl,(hOW.ch hON hGo c25),hON.mono bb24.size⟩
theorem tbA{w0 w:World}{g:Gh}(h:Tabs w0)(C:Cg w0.heap.size TQ gS w0 g w):Tabs w:=⟨h.t.below (CgQ.below C),h.n.below (CgQ.below C),h.q.below h.q.pos (CgQ.below C)⟩
def Ti(w:World):Prop:=Tabs w∧LWTab w∧LBTab w
theorem tb5{w0 w:World}{g:Gh}(h:Ti w0)(C:Cg w0.heap.size TQ gS w0 g w):Ti w:=⟨tbA h.1 C,h.2.1.below (CgQ.below C),h.2.2.below (CgQ.below C)⟩
theorem NB{g:Gh}{w:World}{B:Nat}{y:S3}{l:List Int}(h:Sl w y.v l)(n:Nb B y l)(G:∀ b,B≤b→g.t b=.z):FSl g w y l:=⟨h,fun hl a ha=>G _ (n hl a ha)⟩
structure OwN(B:Nat)(w:World)(e:TypeId)(sz:Nat)(x:S3)(xs:List Value):Prop where
 len:xs.length=x.n*sz
 ex:(x.a=none∧x.n=0∧x.c=0)∨∃ b cur,B≤b∧x.a=some ⟨b,0,none⟩∧w.heap[b]?=some (.cells cur e (0,0))∧x.n≤x.c∧x.c≤maxLen∧cur.size=x.c*sz∧cur.toList.take (x.n*sz)=xs
theorem OwnS.own{w0 w:World}{g:Gh}{r:Nat}{kp:Bool}{e:TypeId}{sz:Nat}{x:S3}{xs:List Value}(h:OwnS g w (.n 60 r) kp e sz x xs)(C:Cg w0.heap.size TQ gS w0 g w):OwN w0.heap.size w e sz x xs:=by
 refine⟨h.len,h.ex.imp id fun⟨b,cur,h1,h2,h3,h4,h5,h6,h7,h8⟩=>⟨b,cur,?_,h1,h2,h3,h4,h5,h6⟩⟩;refine Nat.le_of_not_lt fun hb=>?_;have:=C.tag hb (fun _=>hb);rw[h7]at this
 cases this
theorem OwN.rv{B:Nat}{w:World}{e:TypeId}{sz:Nat}{x:S3}{xs:List Value}(h:OwN B w e sz x xs):RdV w x sz xs:=by
 rcases h.ex with⟨h1,h2,h3⟩|⟨b,cur,h0,h1,h2,h3,h4,h5,h6⟩
 ·exact⟨h.len,by omega,fun _=>h3,.inl h2⟩
 ·refine⟨h.len,h3,fun h=>(by rw[h1]at h;cases h),.inr ⟨b,0,h1,rl h2,fun j u hj=>?_⟩⟩;rw[Nat.zero_add,cell_of_row _ _ _ _ _ _ h2];rw[← h6,List.getElem?_take]at hj
  split at hj
  ·simpa using hj
  ·cases hj
theorem OwN.fz{B:Nat}{g:Gh}{w:World}{e:TypeId}{sz:Nat}{x:S3}{xs:List Value}(h:OwN B w e sz x xs)(G:∀ b,B≤b→g.t b=.z):FzV g w x sz xs :=
 ⟨h.rv,fun _ a ha=>by
  rcases h.ex with⟨h1,h2,h3⟩|⟨b,cur,h0,h1,_⟩
  ·rw[h1]at ha;cases ha
  ·rw[h1]at ha;cases ha;exact G _ h0⟩
theorem RdV.fz{w:World}{x:S3}{sz:Nat}{xs:List Value}(h:RdV w x sz xs):FzV gS w x sz xs:=⟨h,fun _ _ _=>rfl⟩
theorem RdV.spot{w:World}{x:S3}{sz:Nat}{xs:List Value}(h:RdV w x sz xs){i:Nat}(hi:i<x.n):∃ b off,x.a=some ⟨b,off,none⟩∧b<w.heap.size∧∀ j u,xs[sz*i+j]?=some u→w.cell? ⟨b,off+sz*i+j,none⟩=some u:=by
 rcases h.ex with h1|⟨b,off,h1,h2,h3⟩
 ·omega
 ·exact⟨b,off,h1,h2,fun j u hj=>by rw[Nat.add_assoc];exact h3 _ u hj⟩
theorem Hk{α:Type}{f:α→List Value}{sz:Nat}(hf:∀ a,(f a).length=sz)(l:List α){i j:Nat}{a:α}{u:Value}(ha:l[i]?=some a)(hu:(f a)[j]?=some u):(l.flatMap f)[sz*i+j]?=some u:=by
 have hj:j<sz:=by rw[← hf a];exact(List.getElem?_eq_some_iff.1 hu).1
 induction l generalizing i with
 | nil=>cases ha
 | cons c l ih =>
  rw[List.flatMap_cons];cases i with
  | zero =>
   simp only[List.getElem?_cons_zero,Option.some.injEq]at ha;subst ha;rw[List.getElem?_append_left (by rw[hf];omega),Nat.mul_zero,Nat.zero_add];exact hu
  | succ i =>
   rw[List.getElem?_append_right (by rw[hf,Nat.mul_succ];omega),hf,show sz*(i+1)+j-sz=sz*i+j by rw[Nat.mul_succ];omega];exact ih (by simpa using ha)
theorem Ew{α:Type}{f:α→List Value}{sz:Nat}(hf:∀ a,(f a).length=sz)(l:List α):(l.flatMap f).length=l.length*sz:=by
 induction l with
 | nil=>simp
 | cons c l ih=>rw[List.flatMap_cons,List.length_append,hf,ih,List.length_cons,Nat.add_mul];omega
theorem fm{w:World}{x:S3}{l:List Cmd}(h:RdV w x 5 (cmL l)):x.n=l.length:=h.rc.len
def grV(g:Gr):List Value:=[iv g.k,iv g.a,iv g.b,iv g.c,iv g.d]
def grL(l:List Gr):List Value:=l.flatMap grV
structure GrOk(g:Gr):Prop where
 k:I64 g.k
 a:I64 g.a
 b:I64 g.b
 c:I64 g.c
 d:I64 g.d
theorem gX{W:World}{b k:Nat}(g:Gr)(h:∀ j u,(grV g)[j]?=some u→W.cell? ⟨b,k+j,none⟩=some u):(Instr.loadAt 45 (pt b k)).run prog W=.ok (.agg #[iv g.k,iv g.a,iv g.b,iv g.c,iv g.d]) W:=by
 have h1:=run_loadVar_mid (P:=prog) W b k 45 (grV g) _ h underlying45 rfl (by kernel_rfl);simp only[Instr.loadAt,Instr.sureAddr,Sem.run_bind,Sem.run_pure,Result.andThen_ok];exact h1
theorem fR{W:World}{x:S3}{b off:Nat}(ha:x.a=some ⟨b,off,none⟩)(j:Nat)(hj:j<x.n):(Instr.indexAt 22 x.v (iv (j:Int))).run prog W=.ok (pt b (off+5*j)) W:=by
 obtain⟨xa,xn,xc⟩:=x;simp only at ha hj;subst ha;exact Pw (P:=prog) (e:=45) (z:=5) underlying22 (by kernel_rfl) (by kernel_rfl) hj _ rfl
def acV(l:List (Lac × S3)):List Value:=l.flatMap fun p=>laV p.1 p.2.v
theorem Df(l:List (Lac × S3))(x:Lac)(y:S3):acV (l++[(x,y)])=acV l++laV x y.v:=by simp[acV]
theorem JL(l:List (Lac × S3)):(acV l).length=l.length*5:=Ew (f:=fun p:Lac × S3=>laV p.1 p.2.v) (fun _=>rfl) l
theorem RW(l:List (Lac × S3)):∀ u∈acV l,u.oneCell'=true:=by
 intro u hu;obtain⟨p,_,hp⟩:=List.mem_flatMap.1 hu;simp[laV]at hp
 rcases hp with rfl|rfl|rfl|rfl|rfl<;>rfl
def Dat(g:Gh)(w:World)(l:List (Lac × S3)):Prop:=∀ p∈l,FSl g w p.2 p.1.d
theorem Dat.ch{B:Nat}{T:List Tg}{g g':Gh}{w w':World}{l:List (Lac × S3)}(h:Dat g w l)(c:Cg B T g w g' w')(hz:Tg.z∉T:=by simp):Dat g' w' l:=fun p hp=>(h p hp).ch c hz
theorem Dat.snoc{g:Gh}{w:World}{l:List (Lac × S3)}(h:Dat g w l){x:Lac}{y:S3}(k:FSl g w y x.d):Dat g w (l++[(x,y)]):=fun p hp=>(List.mem_append.1 hp).elim (h p) fun e=>by rw[List.mem_singleton.1 e];exact k
theorem Dat.app{g:Gh}{w:World}{l m:List (Lac × S3)}(h:Dat g w l)(k:Dat g w m):Dat g w (l++m):=fun p hp=>(List.mem_append.1 hp).elim (h p) (k p)
theorem T8(g:Gh)(w:World):FSl g w s30 []:=⟨⟨⟨none,0,rfl,Nat.le_refl _,fun _=>rfl,.inl rfl⟩,by simp,by simp⟩,fun h=>absurd rfl h⟩
def Fa.ac(x:S3)(l:List (Lac × S3)):Fa:=⟨none,fun g w=>FzV g w x 5 (acV l)∧Dat g w l,fun hz _ c h=>⟨h.1.ch c hz,h.2.ch c hz⟩⟩
def Fa.oa(r:Nat)(x:S3)(l:List (Lac × S3)):Fa:=⟨some r,fun g w=>OwnS g w (.n 60 r) true 27 5 x (acV l)∧Dat g w l,fun hz hr c h=>⟨h.1.ch c (hr r rfl) (by simp),h.2.ch c hz⟩⟩
def Fa.dt(l:List (Lac × S3)):Fa:=⟨none,fun g w=>Dat g w l,fun hz _ c h=>h.ch c hz⟩
structure AcR(w:World)(x:S3)(L:List Lac)(l:List (Lac × S3)):Prop where
 e:l.map (·.1)=L
 r:RdV w x 5 (acV l)
 d:∀ p∈l,Sl w p.2.v p.1.d
theorem AcR.of{g:Gh}{w:World}{x:S3}{l:List (Lac × S3)}(h:(Fa.ac x l).p g w){L:List Lac}(e:l.map (·.1)=L):AcR w x L l:=⟨e,h.1.rd,fun p hp=>(h.2 p hp).s⟩
theorem AcR.oo{g:Gh}{w:World}{r:Nat}{x:S3}{l:List (Lac × S3)}(h:(Fa.oa r x l).p g w){L:List Lac}(e:l.map (·.1)=L):AcR w x L l:=⟨e,h.1.rv,fun p hp=>(h.2 p hp).s⟩
theorem AcR.below{w w':World}{x:S3}{L:List Lac}{l:List (Lac × S3)}(h:AcR w x L l)(b:Bw w w'):AcR w' x L l:=⟨h.e,h.r.below b,fun p hp=>(h.d p hp).below b⟩
theorem AcR.n{w:World}{x:S3}{L:List Lac}{l:List (Lac × S3)}(h:AcR w x L l):x.n=L.length:=by
 have:=h.r.len;rw[JL]at this
 rw[← h.e,List.length_map];omega
theorem AcR.sk{w:World}{x:S3}{L:List Lac}{l:List (Lac × S3)}(h:AcR w x L l)(hl:L.length≤1000000):Sk w x.v (laF L) L.length:=by
 have hn:=h.n;refine⟨⟨x.a,x.c,by rw[← hn],?_⟩,by omega⟩;rcases h.r.ex with h1|⟨b,off,h1,h2,h3⟩
 ·exact .inl (by omega)
 ·refine .inr ⟨b,off,h1,h2,fun i hi=>?_⟩;have hil:i<l.length:=by rw[← h.e,List.length_map]at hi;exact hi
  refine⟨l[i].2.v,fun j u hj=>?_,?_⟩
  ·rw[Nat.add_assoc];refine h3 _ u (Hk (f:=fun p:Lac × S3=>laV p.1 p.2.v) (fun _=>rfl) l (List.getElem?_eq_getElem hil) ?_);have:laF L i=l[i].1:=by rw[Nv hi];simp[← h.e]
   rw[this]at hj;exact hj
  ·have:laF L i=l[i].1:=by rw[Nv hi];simp[← h.e]
   rw[this];exact h.d _ (List.getElem_mem hil)
theorem AcR.spot{w:World}{x:S3}{L:List Lac}{l:List (Lac × S3)}(h:AcR w x L l){i:Nat}{a:Lac}(ha:L[i]?=some a):∃ b off y,x.a=some ⟨b,off,none⟩∧w.rangeAt b (off+5*i) (laV a (S3.v y))∧Sl w y.v a.d∧i<x.n:=by
 have hn:=h.n;have hi:=(List.getElem?_eq_some_iff.1 ha).1;have hil:i<l.length:=by rw[← h.e,List.length_map]at hi;exact hi
 have e:l[i].1=a:=by
  have:=(List.getElem?_eq_some_iff.1 ha).2;rw[← this];simp[← h.e]
 obtain⟨b,off,h1,h2,h3⟩:=h.r.spot (i:=i) (by omega);refine⟨b,off,l[i].2,h1,fun j u hj=>?_,?_,by omega⟩
 ·refine h3 j u (Hk (f:=fun p:Lac × S3=>laV p.1 p.2.v) (fun _=>rfl) l (List.getElem?_eq_getElem hil) ?_);rw[e];exact hj
 ·rw[← e];exact h.d _ (List.getElem_mem hil)
structure AcN(B:Nat)(w:World)(x:S3)(l:List (Lac × S3)):Prop where
 o:OwN B w 27 5 x (acV l)
 d:∀ p∈l,Sl w p.2.v p.1.d∧Nb B p.2 p.1.d
 ne:∀ p∈l,p.1.d≠[]→∀ a b,p.2.a=some a→x.a=some b→a.block≠b.block
theorem AcN.ac{B:Nat}{g:Gh}{w:World}{x:S3}{l:List (Lac × S3)}(h:AcN B w x l)(G:∀ b,B≤b→g.t b=.z):(Fa.ac x l).p g w:=⟨h.o.fz G,fun p hp=>NB (h.d p hp).1 (h.d p hp).2 G⟩
theorem AcN.of{w0 w:World}{g:Gh}{r:Nat}{x:S3}{l:List (Lac × S3)}(h:(Fa.oa r x l).p g w)(C:Cg w0.heap.size TQ gS w0 g w)(hn:∀ p∈l,Nb w0.heap.size p.2 p.1.d):AcN w0.heap.size w x l :=
 ⟨h.1.own C,fun p hp=>⟨(h.2 p hp).s,hn p hp⟩,fun p hp hd a b ha hb e=>by
  have h1:=(h.2 p hp).z hd a ha;rcases h.1.ex with⟨k1,_⟩|⟨c,cur,k1,_,_,_,_,_,k7,_⟩
  ·rw[k1]at hb;cases hb
  ·rw[k1]at hb;cases hb
   rw[e,k7]at h1;cases h1⟩
theorem Vc(L:List Lac):Is (laF L) L.length=L:=by
 apply List.ext_getElem
 ·simp[Is]
 ·intro i h1 h2;simp[Is,Nv h2]
def Meet.log(M:Meet)(j:Nat):List Cmd:=(M.node j).agreed.take (M.node j).done
structure OutF(g:Gh)(w:World)(ly tv:S3)(ys:Nat→S3)(M:Meet):Prop where
 logs:FzV g w ly 1 [S3.v (ys 0),S3.v (ys 1),S3.v (ys 2),S3.v (ys 3),S3.v (ys 4)]
 log:∀ j,j<5→FzV g w (ys j) 5 (cmL (M.log j))
 told:FzV g w tv 5 (M.told.flatMap Fb)
theorem OutF.ch{B:Nat}{T:List Tg}{g g':Gh}{w w':World}{ly tv:S3}{ys:Nat→S3}{M:Meet}(h:OutF g w ly tv ys M)(c:Cg B T g w g' w')(hz:Tg.z∉T:=by simp):OutF g' w' ly tv ys M:=⟨h.logs.ch c hz,fun j hj=>(h.log j hj).ch c hz,h.told.ch c hz⟩
def Fa.ot(ly tv:S3)(ys:Nat→S3)(M:Meet):Fa:=⟨none,fun g w=>OutF g w ly tv ys M,fun hz _ c h=>h.ch c hz⟩
theorem SE{g:Gh}{w:World}{B:Nat}{ly tv:S3}{M:Meet}{ys:Nat→S3}(h:OutW w M ly tv ys)(n:OutN B M ly tv ys)(G:∀ b,B≤b→g.t b=.z):OutF g w ly tv ys M :=
 ⟨⟨h.logs,fun _ a ha=>G _ (n.logs a ha)⟩,fun j hj=>⟨(h.log j hj).rv,fun hv a ha=>G _ (n.log j hj hv a ha)⟩,⟨h.told,fun hv a ha=>G _ (n.told hv a ha)⟩⟩
theorem OutW.n5{w:World}{M:Meet}{ly tv:S3}{ys:Nat→S3}(h:OutW w M ly tv ys):ly.n=5:=by have:=h.logs.len;simp at this;omega
theorem OwN.take{g:Gh}{w w':World}{e:TypeId}{sz:Nat}{x:S3}{xs:List Value}(h:OwN w.heap.size w' e sz x xs)(b:Bw w w')(G:∀ b,w.heap.size≤b→g.t b=.z∧g.k b=0)(r:Nat):∃ g',(∀ B,Cg B [] g w g' w')∧(∀ b,w'.heap.size≤b→g'.t b=.z∧g'.k b=0)∧OwnS g' w' (.n 60 r) true e sz x xs∧∀ b,w.heap.size≤b→(∀ a,x.a=some a→b≠a.block)→g'.t b=.z:=by
 have hs:=b.size;rcases h.ex with h1|⟨c,cur,h0,h1,h2,h3,h4,h5,h6⟩
 ·exact⟨g,fun _=>Cg.ofBelow b,fun d hd=>G d (Nat.le_trans hs hd),⟨h.len,.inl h1⟩,fun d hd _=>(G d hd).1⟩
 ·have hc:c<w'.heap.size:=rl h2;have hne:∀ d,d<w.heap.size→¬ d=c:=fun d hd e=>by omega
  refine⟨⟨fun d=>if d=c then .n 60 r else g.t d,fun d=>if d=c then xs.length else g.k d⟩,fun _=>⟨b.os,b.tape,b.output,hs,fun d hd=>.inl (if_neg (hne d hd)),fun d hd=>?_,fun d hd _ _=>if_neg (hne d hd),fun d hd _ _=>b.block d hd,fun d hd j _=>World.cell?_of_block (w:=w) (b.block d hd)⟩,fun d hd=>?_,⟨h.len,.inr ⟨c,cur,h1,h2,h3,h4,h5,h6,if_pos rfl,if_pos rfl⟩⟩,fun d hd hx=>(if_neg (hx _ h1)).trans (G d hd).1⟩
  ·show g.k d≤(if d=c then _ else g.k d);rw[if_neg (hne d hd)];exact Nat.le_refl _
  ·have hd2:¬ d=c:=by omega
   show(if d=c then _ else g.t d)=.z∧(if d=c then _ else g.k d)=0;rw[if_neg hd2,if_neg hd2];exact G d (Nat.le_trans hs hd)
section
variable{P:Program}{fn:Func}{R:Ending→World→Prop}{w0:World}{Φ:List Fa}{g:Gh}{w:World}
theorem tG{s:Xs}(i:Nat)(m:List Bool)(r:Nat){f:FuncId}{av:Array Value}{K:Ending→World→Prop}(hc:AllF g w Φ→Cg w0.heap.size TQ gS w0 g w→Calls P f av w K)(hk:(∀ b,w.heap.size≤b→g.t b=.z)→∀ e w',K e w'→∃ v Ψ et sz x xs,e=.returned v∧Bw w w'∧OwN w.heap.size w' et sz x xs∧∀ g',(AllF g' w' Φ→OwnS g' w' (.n 60 r) true et sz x xs→(∀ b,w.heap.size≤b→(∀ a,x.a=some a→b≠a.block)→g'.t b=.z)→AllF g' w' Ψ)∧GT P fn R w0 Ψ (nxt s i v (AB m s.L)).s g' w')(hr:∀ W,CE P s i W=some (.ok (.enter f av) W):=by intro _;kernel_rfl)(hd:Kr s i=true:=by kernel_rfl)(hob:(nxt s i undef (AB m s.L)).o.map Ob.l'=(nxt s i undef (AB m s.L)).o.map Ob.r':=by kernel_rfl):GT P fn R w0 Φ s g w:=by
 refine⟨fun F C=>Af fun hK=>qG i [] m (hc F C) (fun e w' h=>?_) hr hd hob (by simp)⟩;obtain⟨v,Ψ,et,sz,x,xs,h1,h2,h3,h4⟩:=hk (fun b hb=>(hK.new b hb).1) e w' h;obtain⟨g',c,G,hO,hz⟩:=h3.take h2 hK.new r;exact⟨v,g',h1,c _,G,(h4 g').2.ex ((h4 g').1 (F.ch0 (c w0.heap.size)) hO hz) (C.trans ((c _).nil TQ))⟩
theorem dN{P:Program}{W:World}(t ty e:TypeId)(i:TypeInfo)(ht:P.underlying t=some (.slice e))(hi:P.info? e=some i)(y:S3)(hy:y.n=0):(Builtin.append_ #[t,t] ty #[s30.v,y.v]).run P W=.ok s30.v W:=by
 obtain⟨ya,yn,yc⟩:=y;simp only at hy;subst hy;show(Builtin.append_ #[t,t] ty #[.slice none 0 0,.slice ya 0 yc]).run P W=.ok (.slice none 0 0) W;cases ya with
 | none=>simp[Builtin.append_,run_underlying ht,sizeOf,typeInfo,hi,Builtin.lenOf,run_firstCells_none]
 | some a =>
  have hf:=run_firstCells_some (P:=P) W i.size 0 a 0 yc [] (by simp) (by simp);simp[Builtin.append_,run_underlying ht,sizeOf,typeInfo,hi,Builtin.lenOf,run_firstCells_none,hf]
theorem bS{s:Xs}(i:Nat)(r:Nat)(y:S3)(news:List Value)(t ty e:TypeId)(sz bytes:Nat)(z:Value)(hy:AllF g w Φ→RdV w y sz news)(Ψ:List Fa)(hΨ:AllF g w Φ→AllF g w Ψ)(hro:Ψ.all (fun f=>f.ro != some r)=true)(hrT:Tg.n 60 r∈TQ)
  (h1:∀ u∈news,u.oneCell'=true)(h63:y.n≤maxLen)(hbytes:y.n*bytes≤140737488355328)
  (hk:∀ x' g' w',x'.n=y.n→GT P fn R w0 (Fa.ow r e sz x' news::Ψ) (nxt s i (S3.v x') s.L).s g' w')(hsz:0<sz:=by decide)
  (ht:P.underlying t=some (.slice e):=by kernel_rfl)(hinfo:(P.info? e).map (fun i=>(i.zero,i.size,i.bytes))=some (some z,sz,bytes):=by kernel_rfl)(hzs:Nat.beq z.cells.size sz=true:=by kernel_rfl)
  (hsem:CZ s i=some (Builtin.append_ #[t,t] ty #[s30.v,y.v]>>=fun v=>pure (.value v)):=by kernel_rfl)(hob:(nxt s i undef s.L).o.map Ob.l'=(nxt s i undef s.L).o.map Ob.r':=by kernel_rfl)(hT:s.L.all (fun y=>[Tg.n 60 r].all fun t=>y.t.ne t)=true:=by kernel_rfl):GT P fn R w0 Φ s g w:=by
 refine tF fun F C=>?_;have hR:=hy F;by_cases h0:y.n=0
 ·obtain⟨inf,hi⟩:∃ inf,P.info? e=some inf:=by cases hh:P.info? e with|none=>rw[hh]at hinfo;cases hinfo|some j=>exact⟨j,rfl⟩
  obtain rfl:news=[]:=List.eq_nil_of_length_eq_zero (by rw[hR.len,h0,Nat.zero_mul]);refine tV i s30.v (fun _ _=>dN t ty e inf ht hi y h0) ?_ hsem hob;exact tCv (Fa.ow r e sz s30 []::Ψ) (fun F=>⟨OwnS.nil _ _ _ _ _ _,hΨ F⟩) (hk s30 g w h0.symm)
 ·obtain⟨b,off,ha,_,_⟩:=hR.spot (i:=0) (by omega);obtain⟨ya,m,c⟩:=y;simp only at ha h0 h63 hbytes hk hsem hR;subst ha;refine Mb i r (x:=s30) (xs:=[]) t ty e sz bytes z ⟨b,off,none⟩ m c news (fun _=>OwnS.nil _ _ _ _ _ _) Ψ hΨ hro hrT hR.len h1 (fun F _ j u hj=>?_) (by show 0+m≤_;omega) (by show(0+m)*bytes≤_;rw[Nat.zero_add];exact hbytes) (fun x' g' w' hn=>?_) (Nat.pos_of_ne_zero h0) hsz ht hinfo hzs hsem hob hT
  ·rcases(hy F).ex with h2|⟨b2,off2,k1,k2,k3⟩
   ·exact absurd h2 h0
   ·cases k1;have:(⟨b,off,none⟩:Addr).add j=⟨b,off+j,none⟩:=by unfold Addr.add;split<;>simp_all
    rw[this];exact k3 j u hj
  ·rw[List.nil_append];exact hk x' g' w' (by rw[hn];show 0+m=m;omega)
end
section
variable{n tc tr tu k c s m v:Int}(h:paE n tc tr tu k c s m v=0)
include h
end
theorem KP{n tc tr tu k c s m v:Int}(h:paE n tc tr tu k c s m v=0):(paL n tc tr tu k c s m v).length=63:=by
 rw[Xj h,List.length_cons,FF,GP]
theorem ic{W:World}(x:S3)(k:Nat)(hk:k≤x.c)(ha:∃ b off,x.a=some ⟨b,off,none⟩):(Instr.sliceAt 25 x.v none (some (iv (k:Int))) none).run prog W=.ok (S3.v ⟨x.a,k,x.c⟩) W:=by
 obtain⟨b,off,ha⟩:=ha;obtain⟨xa,xn,xc⟩:=x;simp only at ha hk;subst ha;have e:prog.elem 25=5:=by kernel_rfl
 rw[run_sliceAt_slice _ _ _ _ _ _ aN,run_slice_h (P:=prog) (w:=W) _ _ _ _ aN .i64 k (by omega) (by show(k:Int)≤((xc:Nat):Int);omega),e,GV];simp[Result.andThen,sliced,Addr.add]
theorem FSl.take{g:Gh}{w:World}{x:S3}{l:List Int}(h:FSl g w x l)(k:Nat)(hk:k≤l.length):FSl g w ⟨x.a,k,x.c⟩ (l.take k):=by
 have hn:=IH h.s;obtain⟨⟨⟨a,cap,hv,hc,hn,h1⟩,h2,h3⟩,h4⟩:=h;simp only[Value.slice.injEq]at hv;obtain⟨rfl,hxn,rfl⟩:=hv;refine⟨⟨⟨_,_,by simp only[Value.slice.injEq,and_true,true_and,List.length_take];omega,by rw[List.length_take];omega,hn,?_⟩,by rw[List.length_take];omega,fun z hz=>h3 z (List.mem_of_mem_take hz)⟩,fun hl=>h4 fun e=>hl (by rw[e];simp)⟩;rcases h1 with h1|⟨b,off,ha,hbs,hcell⟩
 ·exact .inl (by rw[h1];simp)
 ·refine .inr ⟨b,off,ha,hbs,fun i hi=>?_⟩;rw[List.length_take]at hi
  rw[show(l.take k).getD i 0=l.getD i 0 by simp[List.getD,show i<k by omega]];exact hcell i (by omega)
theorem FSl.addr{g:Gh}{w:World}{x:S3}{l:List Int}(h:FSl g w x l)(hl:l≠[]):(∃ b off,x.a=some ⟨b,off,none⟩)∧l.length≤x.c:=by
 obtain⟨⟨⟨a,cap,hv,hc,hn,h1⟩,h2,h3⟩,h4⟩:=h;simp only[Value.slice.injEq]at hv;obtain⟨rfl,hxn,rfl⟩:=hv;rcases h1 with h1|⟨b,off,ha,_⟩
 ·exact absurd h1 hl
 ·exact⟨⟨b,off,ha⟩,hc⟩
theorem Un{g:Gr}{w:World}(h:GrOk g)(hT:Tabs w) :
  Calls prog 13 #[.agg #[iv g.k,iv g.a,iv g.b,iv g.c,iv g.d]] w fun e w'=>∃ y:S3,e=.returned y.v∧Sl w' y.v (pkB g)∧Nb w.heap.size y (pkB g)∧Bw w w':=by
 have hl:(pkP g).length=63:=KP (Xp g);have r4:=AW g.c 4 (by omega);refine tIn [] func13 trivial ?_;refine tR 18 [0,0,0,0,0,0,0] fun σ1 _ _=>?_;refine tC 11 (fun F C=>PX h.b h.c h.d h.a h.d) fun Nz=>?_;rintro _ _ ⟨rfl,b2⟩;refine⟨_,_,rfl,b2,id,?_⟩;refine tR 16 [0,0,1,0,1,1,0,2,0,0] fun σ3 _ _=>?_;refine tC 2 (fun F C=>BH h.d 17) fun Nz=>?_;rintro _ _ ⟨rfl,b4⟩;refine⟨_,_,rfl,b4,id,?_⟩;refine tR 1 [] fun σ5 _ _=>?_;refine RJ 56 (fun ee LL ΦΦ=>∃ (tc tr:Int),ee=[(1,pt (σ1 0) 0),(3,pt (σ3 0) 0),(4,pt (σ3 1) 0)]∧LL=[⟨(σ1 0),.cells #[iv g.k,iv g.a,iv g.b,iv g.c,iv g.d] 45,.z,false⟩,⟨(σ3 0),.cells #[iv (wK g.b),iv (pick g.c 4),iv (pick g.d 6),iv (pick g.a 4),iv (wV g.b g.d)] 41,.z,false⟩,⟨(σ3 1),.cells #[iv tc,iv tr,iv 60] 58,.l,false⟩]∧ΦΦ=[]∧tc=pkT g∧tr=pkR g) (fun J hJ=>?_) ?_
 ·refine tR 6 [] fun σ6 _ _=>?_;by_cases h1:pick g.d 17=15
  ·refine tI (((pick g.d 17)==15)) true (by simpa using h1) ?_;refine tR 5 [2,0] fun σ7 _ _=>?_;exact tD hJ [true,true,true] ⟨pick g.c 4,0,rfl,rfl,rfl,(if_neg (by omega)).symm,(if_pos h1).symm⟩ (fun F=>trivial)
  ·refine tI (((pick g.d 17)==15)) false (by simpa using h1) ?_;refine tR 5 [] fun σ8 _ _=>?_;by_cases h2:pick g.d 17=16
   ·refine tI (((pick g.d 17)==16)) true (by simpa using h2) ?_;refine tR 3 [2] fun σ9 _ _=>?_;refine tV 2 (iv (pick g.c 4+1)) (fun F C=>(AF (x:=(.tmp 31)) (y:=(.const (iv 1))) (pick g.c 4) 1 underlying3 (by omega))) ?_;refine tV 3 (iv ((pick g.c 4+1)%4)) (fun F C=>(Xz (x:=(.tmp 32)) (y:=(.const (iv 4))) (pick g.c 4+1) 4 underlying3 (by omega) (by omega) (by decide) (by decide))) ?_;refine tR 4 [2,0] fun σ11 _ _=>?_;exact tD hJ [true,true,true] ⟨(pick g.c 4+1)%4,7,rfl,rfl,rfl,(if_pos h2).symm,(if_neg h1).symm⟩ (fun F=>trivial)
   ·refine tI (((pick g.d 17)==16)) false (by simpa using h2) ?_;refine tR 2 [] fun σ12 _ _=>?_;exact tD hJ [true,true,true] ⟨pick g.c 4,7,rfl,rfl,rfl,(if_neg h2).symm,(if_neg h1).symm⟩ (fun F=>trivial)
 rintro _ _ _ ⟨tc,tr,rfl,rfl,rfl,htc,htr⟩ _ _ _;refine tR 6 [11,0,2,0,6,2,8,1] fun σ13 _ _=>?_;refine tC 2 (fun F C=>BH h.a 1000) fun Nz=>?_;rintro _ _ ⟨rfl,b14⟩;refine⟨_,_,rfl,b14,id,?_⟩;refine tF fun _ Cs=>?_;have hs16:=Cs.size;have hE:=Xp g;rw[← htc,← htr]at hE
 have hP:pkP g=paL (pick g.a 1000) tc tr 60 (wK g.b) (pick g.c 4) (pick g.d 6) (pick g.a 4) (wV g.b g.d):=by rw[htc,htr];rfl
 refine tC 5 (fun F C=>ZP hE (tbA hT C)) fun Nz=>?_;rintro _ _ ⟨y,rfl,hy,hn,b17⟩;refine⟨_,Fa.sl y (pkP g)::_,rfl,b17,fun F=>⟨(by rw[hP];exact NB hy hn Nz),F⟩,?_⟩;rw[← hP]at hy hn
 have hyn:=IH hy;refine tR 11 [12,14,16,18,20,0] fun σ18 _ _=>?_;refine tC 2 (fun F C=>BH h.d 23) fun Nz=>?_;rintro _ _ ⟨rfl,b19⟩;refine⟨_,_,rfl,b19,id,?_⟩;by_cases h1:pick g.d 23=22
 ·refine tV 3 (.bool true) (fun F C=>(ET (t:=3) (m:=pick g.d 23) (n:=22) (x:=(.tmp 46)) (y:=(.const (iv 22))) (by simpa using h1))) ?_;refine tR 6 [] fun σ21 _ _=>?_;refine tI ((decide (30<(y.n:Int)))) true (decide_eq_true (by omega)) ?_;refine tR 2 [] fun σ22 _ _=>?_;refine tF fun F _=>?_;have hya:=FSl.addr F.1 (fun e=>by rw[e]at hl;cases hl);refine tV 1 (S3.v ⟨y.a,30,y.c⟩) (fun F C=>(ic y 30 (by omega) hya.1)) ?_;refine tR 7 [] fun σ23 _ _=>?_;rw[show pkB g=_ from if_pos ⟨h1,by omega⟩];exact tE (S3.v ⟨y.a,30,y.c⟩) fun F B=>⟨⟨y.a,30,y.c⟩,rfl,(F.1.take 30 (by omega)).s,fun _ a ha=>hn.mono hs16 (fun e=>by rw[e]at hl;cases hl) a ha,B⟩
 ·refine tV 3 (.bool false) (fun F C=>(ET (t:=3) (m:=pick g.d 23) (n:=22) (x:=(.tmp 46)) (y:=(.const (iv 22))) (by simpa using h1))) ?_;refine tR 13 [] fun σ24 _ _=>?_;rw[show pkB g=_ from if_neg (fun e=>h1 e.1)];exact tE (S3.v y) fun F B=>⟨y,rfl,F.1.s,hn.mono hs16,B⟩
theorem ce{g:Gr}{cr:Bool}{w:World}(h:GrOk g)(hT:Tabs w){x:Lac}(hx:OI g cr=x) :
  Calls prog 9 #[.agg #[iv g.k,iv g.a,iv g.b,iv g.c,iv g.d],.bool cr] w fun e w'=>∃ y:S3,e=.returned (.agg #[iv x.k,iv x.n,iv x.a,iv x.p,y.v])∧Sl w' y.v x.d∧Nb w.heap.size y x.d∧Bw w w':=by
 refine tIn [] func9 trivial ?_;refine tR 9 [0,0,1,0,0] fun σ1 _ _=>?_;refine tC 2 (fun F C=>BH h.a 5) fun Nz=>?_;rintro _ _ ⟨rfl,b2⟩;refine⟨_,_,rfl,b2,id,?_⟩;refine tR 7 [0] fun σ3 _ _=>?_;refine tC 2 (fun F C=>BH h.k 24) fun Nz=>?_;rintro _ _ ⟨rfl,b4⟩;refine⟨_,_,rfl,b4,id,?_⟩;unfold OI at hx;refine tR 9 [] fun σ5 _ _=>?_;by_cases h1:pick g.k 24<3
 ·refine tI ((decide ((pick g.k 24)<3))) true (by simpa using h1) ?_;rw[if_pos h1]at hx
  refine tR 4 [0] fun σ6 _ _=>?_;refine tF fun _ Cs=>?_;have hs7:=Cs.size;refine tC 2 (fun F C=>Un h (tbA hT C)) fun Nz=>?_;rintro _ _ ⟨y,rfl,hy,hn,b8⟩;refine⟨_,Fa.sl y (pkB g)::_,rfl,b8,fun F=>⟨NB hy hn Nz,F⟩,?_⟩;refine tR 3 [1,0] fun σ9 _ _=>?_;subst hx;exact tX fun F C=>qE1 4 27 1 (σ1 1) #[iv 1,iv (pick g.a 5),iv 0,iv 0,S3.v y] fun _=>⟨y,rfl,F.1.s,hn.mono hs7,CgQ.below C⟩
 ·refine tI ((decide ((pick g.k 24)<3))) false (by simpa using h1) ?_;rw[if_neg h1]at hx
  refine tR 6 [] fun σ10 _ _=>?_;by_cases h1:pick g.k 24<5
  ·refine tI ((decide ((pick g.k 24)<5))) true (by simpa using h1) ?_;rw[if_pos h1]at hx
   refine tR 6 [1,0] fun σ11 _ _=>?_;subst hx;exact tX fun F C=>qE1 4 27 1 (σ1 1) #[iv 2,iv (pick g.a 5),iv 0,iv 0,S3.v s30] fun _=>⟨s30,rfl,DP _,fun e=>absurd rfl e,CgQ.below C⟩
  ·refine tI ((decide ((pick g.k 24)<5))) false (by simpa using h1) ?_;rw[if_neg h1]at hx
   refine tR 6 [] fun σ12 _ _=>?_;by_cases h1:pick g.k 24<14
   ·refine tI ((decide ((pick g.k 24)<14))) true (by simpa using h1) ?_;rw[if_pos h1]at hx
    refine tR 6 [1,0] fun σ13 _ _=>?_;subst hx;exact tX fun F C=>qE1 4 27 1 (σ1 1) #[iv 3,iv (pick g.a 5),iv 0,iv 0,S3.v s30] fun _=>⟨s30,rfl,DP _,fun e=>absurd rfl e,CgQ.below C⟩
   ·refine tI ((decide ((pick g.k 24)<14))) false (by simpa using h1) ?_;rw[if_neg h1]at hx
    refine tR 6 [] fun σ14 _ _=>?_;by_cases h1:pick g.k 24=14
    ·refine tI (((pick g.k 24)==14)) true (by simpa using h1) ?_;rw[if_pos h1]at hx
     refine tR 4 [0] fun σ15 _ _=>?_;refine tC 2 (fun F C=>BH h.c 20) fun Nz=>?_;rintro _ _ ⟨rfl,b16⟩;refine⟨_,_,rfl,b16,id,?_⟩;refine tR 3 [1,0] fun σ17 _ _=>?_;subst hx;exact tX fun F C=>qE1 4 27 1 (σ1 1) #[iv 4,iv 0,iv (pick g.c 20),iv 0,S3.v s30] fun _=>⟨s30,rfl,DP _,fun e=>absurd rfl e,CgQ.below C⟩
    ·refine tI (((pick g.k 24)==14)) false (by simpa using h1) ?_;rw[if_neg h1]at hx
     refine tR 6 [] fun σ18 _ _=>?_;by_cases h1:pick g.k 24=15
     ·refine tI (((pick g.k 24)==15)) true (by simpa using h1) ?_;rw[if_pos h1]at hx
      refine tR 4 [0] fun σ19 _ _=>?_;refine tC 2 (fun F C=>BH h.c 20) fun Nz=>?_;rintro _ _ ⟨rfl,b20⟩;refine⟨_,_,rfl,b20,id,?_⟩;refine tR 3 [1,0] fun σ21 _ _=>?_;subst hx;exact tX fun F C=>qE1 4 27 1 (σ1 1) #[iv 5,iv 0,iv (pick g.c 20),iv 0,S3.v s30] fun _=>⟨s30,rfl,DP _,fun e=>absurd rfl e,CgQ.below C⟩
     ·refine tI (((pick g.k 24)==15)) false (by simpa using h1) ?_;rw[if_neg h1]at hx
      refine tR 6 [] fun σ22 _ _=>?_;by_cases h1:pick g.k 24=16
      ·refine tI (((pick g.k 24)==16)) true (by simpa using h1) ?_;rw[if_pos h1]at hx
       refine tR 4 [0] fun σ23 _ _=>?_;refine tC 2 (fun F C=>BH h.c 20) fun Nz=>?_;rintro _ _ ⟨rfl,b24⟩;refine⟨_,_,rfl,b24,id,?_⟩;refine tR 3 [1,0] fun σ25 _ _=>?_;subst hx;exact tX fun F C=>qE1 4 27 1 (σ1 1) #[iv 6,iv 0,iv (pick g.c 20),iv 0,S3.v s30] fun _=>⟨s30,rfl,DP _,fun e=>absurd rfl e,CgQ.below C⟩
      ·refine tI (((pick g.k 24)==16)) false (by simpa using h1) ?_;rw[if_neg h1]at hx
       refine tR 3 [] fun σ26 _ _=>?_;by_cases h1:pick g.k 24=17
       ·refine tV 1 (.bool true) (fun F C=>(ET (t:=3) (m:=pick g.k 24) (n:=17) (x:=(.tmp 52)) (y:=(.const (iv 17))) (by simpa using h1))) ?_;refine tR 5 [] fun σ27 _ _=>?_;by_cases h2:cr=true
        ·refine tI (cr) true h2 ?_;rw[if_pos ⟨h1,h2⟩]at hx
         refine tR 5 [0] fun σ28 _ _=>?_;refine tC 3 (fun F C=>BH h.c 90) fun Nz=>?_;rintro _ _ ⟨rfl,b29⟩;refine⟨_,_,rfl,b29,id,?_⟩;refine tR 3 [1,0] fun σ30 _ _=>?_;subst hx;exact tX fun F C=>qE1 4 27 1 (σ1 1) #[iv 8,iv (pick g.a 5),iv 0,iv (pick g.c 90),S3.v s30] fun _=>⟨s30,rfl,DP _,fun e=>absurd rfl e,CgQ.below C⟩
        ·refine tI (cr) false (by simpa using h2) ?_;rw[if_neg (fun e=>h2 e.2)]at hx
         refine tR 3 [] fun σ31 _ _=>?_;by_cases h1:pick g.k 24=18
         ·refine tV 1 (.bool true) (fun F C=>(ET (t:=3) (m:=pick g.k 24) (n:=18) (x:=(.tmp 63)) (y:=(.const (iv 18))) (by simpa using h1))) ?_;refine tR 5 [] fun σ32 _ _=>?_;by_cases h2:cr=true
          ·refine tI (cr) true h2 ?_;rw[if_pos ⟨h1,h2⟩]at hx
           refine tR 6 [1,0] fun σ33 _ _=>?_;subst hx;exact tX fun F C=>qE1 4 27 1 (σ1 1) #[iv 9,iv (pick g.a 5),iv 0,iv 0,S3.v s30] fun _=>⟨s30,rfl,DP _,fun e=>absurd rfl e,CgQ.below C⟩
          ·refine tI (cr) false (by simpa using h2) ?_;rw[if_neg (fun e=>h2 e.2)]at hx
           refine tR 7 [1,0] fun σ34 _ _=>?_;subst hx;exact tX fun F C=>qE1 4 27 1 (σ1 1) #[iv 7,iv 0,iv 0,iv 0,S3.v s30] fun _=>⟨s30,rfl,DP _,fun e=>absurd rfl e,CgQ.below C⟩
         ·refine tV 1 (.bool false) (fun F C=>(ET (t:=3) (m:=pick g.k 24) (n:=18) (x:=(.tmp 63)) (y:=(.const (iv 18))) (by simpa using h1))) ?_;rw[if_neg (fun e=>h1 e.1)]at hx
          refine tR 13 [1,0] fun σ35 _ _=>?_;subst hx;exact tX fun F C=>qE1 4 27 1 (σ1 1) #[iv 7,iv 0,iv 0,iv 0,S3.v s30] fun _=>⟨s30,rfl,DP _,fun e=>absurd rfl e,CgQ.below C⟩
       ·refine tV 1 (.bool false) (fun F C=>(ET (t:=3) (m:=pick g.k 24) (n:=17) (x:=(.tmp 52)) (y:=(.const (iv 17))) (by simpa using h1))) ?_;rw[if_neg (fun e=>h1 e.1)]at hx
        refine tR 9 [] fun σ36 _ _=>?_;by_cases h1:pick g.k 24=18
        ·refine tV 1 (.bool true) (fun F C=>(ET (t:=3) (m:=pick g.k 24) (n:=18) (x:=(.tmp 63)) (y:=(.const (iv 18))) (by simpa using h1))) ?_;refine tR 5 [] fun σ37 _ _=>?_;by_cases h2:cr=true
         ·refine tI (cr) true h2 ?_;rw[if_pos ⟨h1,h2⟩]at hx
          refine tR 6 [1,0] fun σ38 _ _=>?_;subst hx;exact tX fun F C=>qE1 4 27 1 (σ1 1) #[iv 9,iv (pick g.a 5),iv 0,iv 0,S3.v s30] fun _=>⟨s30,rfl,DP _,fun e=>absurd rfl e,CgQ.below C⟩
         ·refine tI (cr) false (by simpa using h2) ?_;rw[if_neg (fun e=>h2 e.2)]at hx
          refine tR 7 [1,0] fun σ39 _ _=>?_;subst hx;exact tX fun F C=>qE1 4 27 1 (σ1 1) #[iv 7,iv 0,iv 0,iv 0,S3.v s30] fun _=>⟨s30,rfl,DP _,fun e=>absurd rfl e,CgQ.below C⟩
        ·refine tV 1 (.bool false) (fun F C=>(ET (t:=3) (m:=pick g.k 24) (n:=18) (x:=(.tmp 63)) (y:=(.const (iv 18))) (by simpa using h1))) ?_;rw[if_neg (fun e=>h1 e.1)]at hx
         refine tR 13 [1,0] fun σ40 _ _=>?_;subst hx;exact tX fun F C=>qE1 4 27 1 (σ1 1) #[iv 7,iv 0,iv 0,iv 0,S3.v s30] fun _=>⟨s30,rfl,DP _,fun e=>absurd rfl e,CgQ.below C⟩
theorem fC{w:World}{l:S3}{G:List Gr}{b off i:Nat}{g:Gr}(h:RdV w l 5 (grL G))(ha:l.a=some ⟨b,off,none⟩)(hg:G[i]?=some g){j:Nat}{u:Value}(hj:(grV g)[j]?=some u):w.cell? ⟨b,off+5*i+j,none⟩=some u:=by
 have hn:l.n=G.length:=by have:=h.len;rw[show(grL G).length=G.length*5 from Ew (f:=grV) (fun _=>rfl) G]at this;omega
 obtain⟨b',off',h1,_,h3⟩:=h.spot (i:=i) (by rw[hn];exact(List.getElem?_eq_some_iff.1 hg).1);rw[ha]at h1
 cases h1;exact h3 j u (Hk (f:=grV) (fun _=>rfl) G hg hj)
theorem U6{l:S3}{G:List Gr}{most:Nat}{cr:Bool}{w:World}(h:RdV w l 5 (grL G))(hG:∀ g∈G,GrOk g)(hm:most≤100)(hT:Tabs w) :
  Calls prog 4 #[l.v,iv (most:Int),.bool cr] w fun e w'=>∃ (y:S3) (P:List (Lac × S3)),e=.returned y.v∧P.map (·.1)=scr G most cr∧AcN w.heap.size w' y P∧Bw w w':=by
 have hln:l.n=G.length:=by have:=h.len;rw[show(grL G).length=G.length*5 from Ew (f:=grV) (fun _=>rfl) G]at this;omega
 refine tIn [Fa.zv l 5 (grL G)] func4 ⟨h.fz,trivial⟩ ?_;refine tR 18 [] fun σ1 _ _=>?_;refine Fh 41 [(0,S3.v l),(1,iv (most:Int)),(2,.bool cr),(7,sn),(8,iv 0),(9,iv 0)] [] [] [Fa.zv l 5 (grL G),Fa.oa 0 s30 []] (fun kk ee LL ΦΦ=>∃ (i s:Nat) (y:S3) (P:List (Lac × S3)),kk=min G.length most-i∧ee=[(0,S3.v l),(1,iv (most:Int)),(2,.bool cr),(7,S3.v y),(8,iv (s:Int)),(9,iv (i:Int))]∧LL=[]∧ΦΦ=[Fa.zv l 5 (grL G),Fa.oa 0 y P]∧i≤min G.length most∧y.n=i∧s≤i∧scr G most cr=P.map (·.1)++NR cr s ((G.take most).drop i)∧(∀ p∈P,Nb w.heap.size p.2 p.1.d)) (min G.length most) ⟨0,0,s30,[],rfl,rfl,rfl,rfl,by omega,rfl,by omega,rfl,fun p hp=>by cases hp⟩ (fun F=>⟨F.1,⟨OwnS.nil _ _ _ _ _ _,fun p hp=>by cases hp⟩,trivial⟩) ?_;rintro k _ _ _ ⟨i,s,y,P,rfl,rfl,rfl,rfl,hi,hyn,hsi,hI,hN⟩ _ _ _ J hJ;refine tR 6 [] fun σ2 _ _=>?_;by_cases h1:i<G.length
 ·refine tV 3 (.bool true) (fun F C=>(rLt (t:=3) (m:=(i:Int)) (n:=(l.n:Int)) (x:=(.tmp 11)) (y:=(.tmp 13)) (decide_eq_true (by omega)))) ?_;refine tR 6 [] fun σ3 _ _=>?_;by_cases h2:i<most
  ·refine tI ((decide ((i:Int)<(most:Int)))) true (decide_eq_true (by omega)) ?_;have hi:i<(G.take most).length:=by rw[List.length_take];omega
   obtain⟨g,hg⟩:∃ g,(G.take most)[i]?=some g:=⟨_,List.getElem?_eq_getElem hi⟩;have hgG:G[i]?=some g:=by rw[List.getElem?_take,if_pos h2]at hg;exact hg
   have hgo:=hG g (List.mem_of_getElem? hgG);rw[List.drop_eq_getElem_cons hi,show(G.take most)[i]=g from(List.getElem?_eq_some_iff.1 hg).2,NR]at hI
   refine tF fun F _=>?_;obtain⟨b,off,hla,_,hlc⟩:=F.1.rd.spot (i:=i) (by omega);refine tR 7 [] fun σ4 _ _=>?_;refine tV 2 (pt b (off+5*i)) (fun F C=>(fR hla i (by omega))) ?_;refine tV 3 (.agg #[iv g.k,iv g.a,iv g.b,iv g.c,iv g.d]) (fun F C=>(gX g fun j u hj=>fC F.1.rd hla hgG hj)) ?_;refine tR 1 [] fun σ6 _ _=>?_;obtain⟨x,hx⟩:∃ x,OI g cr=x:=⟨_,rfl⟩;refine tF fun _ Cs=>?_;have hs7:=Cs.size;refine tC 5 (fun F C=>ce hgo (tbA hT C) hx) fun Nz=>?_;rintro _ _ ⟨d,rfl,hd,hn,b8⟩;refine⟨_,Fa.sl d x.d::_,rfl,b8,fun F=>⟨NB hd hn Nz,F⟩,?_⟩;rw[hx]at hI
   refine tR 10 [1,0,0,0,0] fun σ9 _ _=>?_;by_cases h3:x.k=1
   ·refine tI ((x.k==1)) true (by simpa using h3) ?_;refine tR 3 [] fun σ10 _ _=>?_;refine tV 1 (iv ((s:Int)+1)) (fun F C=>(AF (x:=(.tmp 31)) (y:=(.const (iv 1))) (s:Int) 1 underlying3 (by omega))) ?_;refine tR 7 [] fun σ11 _ _=>?_;rw[show eh s x=s+1 from if_pos h3]at hI
    by_cases h4:6<s+1
    ·refine tI ((decide (6<((s:Int)+1)))) true (decide_eq_true (by omega)) ?_;rw[show XA s x=acN 7 0 from if_pos ⟨h3,by omega⟩]at hI
     refine tR 8 [0,0,0,0,0] fun σ12 _ _=>?_;refine Mb 3 0 (x:=y) 23 23 27 5 56 zLa ⟨(σ12 0),0,none⟩ 1 1 [iv 7,iv 0,iv 0,iv 0,sn] (fun F=>F.2.2.1.1) [Fa.zv l 5 (grL G),Fa.dt (P++[(acN 7 0,s30)])] (fun F=>⟨F.2.1,Dat.snoc F.2.2.1.2 (T8 _ _),trivial⟩) rfl (by simp[TQ]) rfl (by simp[Value.oneCell']) (fun F K=>BT K 1 (σ12 0) [iv 7,iv 0,iv 0,iv 0,sn] 27 .z true (by kernel_rfl)) (by unfold maxLen;omega) (by omega) fun y13 _ _ n13=>?_;refine tR 5 [] fun σ14 _ _=>?_;refine tV 1 (iv ((i:Int)+1)) (fun F C=>(AF (x:=(.tmp 20)) (y:=(.const (iv 1))) (i:Int) 1 underlying3 (by omega))) ?_;refine tR 2 [] fun σ15 _ _=>?_;exact tB hJ (min G.length most-(i+1)) (by omega) [false,false] ⟨i+1,(s+1),y13,P++[(acN 7 0,s30)],rfl,rfl,rfl,rfl,by omega,by omega,by omega,(by rw[hI,List.map_append,List.append_assoc];rfl),fun p hp=>(List.mem_append.1 hp).elim (hN p) fun e=>by rw[List.mem_singleton.1 e];exact fun e=>absurd rfl e⟩ (fun F=>⟨F.2.1,⟨(by rw[Df];exact F.1),F.2.2.1⟩,trivial⟩)
    ·refine tI ((decide (6<((s:Int)+1)))) false (decide_eq_false (by omega)) ?_;rw[show XA s x=x from if_neg (fun e=>h4 (by omega))]at hI
     refine tR 5 [0,0,0] fun σ16 _ _=>?_;refine Mb 3 0 (x:=y) 23 23 27 5 56 zLa ⟨(σ16 0),0,none⟩ 1 1 [iv x.k,iv x.n,iv x.a,iv x.p,S3.v d] (fun F=>F.2.2.1.1) [Fa.zv l 5 (grL G),Fa.dt (P++[(x,d)])] (fun F=>⟨F.2.1,Dat.snoc F.2.2.1.2 (F.1),trivial⟩) rfl (by simp[TQ]) rfl (by simp[Value.oneCell']) (fun F K=>BT K 1 (σ16 0) [iv x.k,iv x.n,iv x.a,iv x.p,S3.v d] 27 .z true (by kernel_rfl)) (by unfold maxLen;omega) (by omega) fun y17 _ _ n17=>?_;refine tR 5 [] fun σ18 _ _=>?_;refine tV 1 (iv ((i:Int)+1)) (fun F C=>(AF (x:=(.tmp 20)) (y:=(.const (iv 1))) (i:Int) 1 underlying3 (by omega))) ?_;refine tR 2 [] fun σ19 _ _=>?_;exact tB hJ (min G.length most-(i+1)) (by omega) [false,false] ⟨i+1,(s+1),y17,P++[(x,d)],rfl,rfl,rfl,rfl,by omega,by omega,by omega,(by rw[hI,List.map_append,List.append_assoc];rfl),fun p hp=>(List.mem_append.1 hp).elim (hN p) fun e=>by rw[List.mem_singleton.1 e];exact hn.mono hs7⟩ (fun F=>⟨F.2.1,⟨(by rw[Df];exact F.1),F.2.2.1⟩,trivial⟩)
   ·refine tI ((x.k==1)) false (by simpa using h3) ?_;rw[show eh s x=s from if_neg h3,show XA s x=x from if_neg (fun e=>h3 e.1)]at hI
    refine tR 5 [0,0,0] fun σ20 _ _=>?_;refine Mb 3 0 (x:=y) 23 23 27 5 56 zLa ⟨(σ20 0),0,none⟩ 1 1 [iv x.k,iv x.n,iv x.a,iv x.p,S3.v d] (fun F=>F.2.2.1.1) [Fa.zv l 5 (grL G),Fa.dt (P++[(x,d)])] (fun F=>⟨F.2.1,Dat.snoc F.2.2.1.2 (F.1),trivial⟩) rfl (by simp[TQ]) rfl (by simp[Value.oneCell']) (fun F K=>BT K 1 (σ20 0) [iv x.k,iv x.n,iv x.a,iv x.p,S3.v d] 27 .z true (by kernel_rfl)) (by unfold maxLen;omega) (by omega) fun y21 _ _ n21=>?_;refine tR 5 [] fun σ22 _ _=>?_;refine tV 1 (iv ((i:Int)+1)) (fun F C=>(AF (x:=(.tmp 20)) (y:=(.const (iv 1))) (i:Int) 1 underlying3 (by omega))) ?_;refine tR 2 [] fun σ23 _ _=>?_;exact tB hJ (min G.length most-(i+1)) (by omega) [false,false] ⟨i+1,s,y21,P++[(x,d)],rfl,rfl,rfl,rfl,by omega,by omega,by omega,(by rw[hI,List.map_append,List.append_assoc];rfl),fun p hp=>(List.mem_append.1 hp).elim (hN p) fun e=>by rw[List.mem_singleton.1 e];exact hn.mono hs7⟩ (fun F=>⟨F.2.1,⟨(by rw[Df];exact F.1),F.2.2.1⟩,trivial⟩)
  ·refine tI ((decide ((i:Int)<(most:Int)))) false (decide_eq_false (by omega)) ?_;refine tR 6 [] fun σ24 _ _=>?_;rw[List.drop_eq_nil_of_le (by rw[List.length_take];omega),NR,List.append_nil]at hI
   exact tX fun F C=>qE (S3.v y) fun _=>⟨y,P,rfl,hI.symm,AcN.of F.2.1 C hN,CgQ.below C⟩
 ·refine tV 3 (.bool false) (fun F C=>(rLt (t:=3) (m:=(i:Int)) (n:=(l.n:Int)) (x:=(.tmp 11)) (y:=(.tmp 13)) (decide_eq_false (by omega)))) ?_;refine tR 13 [] fun σ25 _ _=>?_;rw[List.drop_eq_nil_of_le (by rw[List.length_take];omega),NR,List.append_nil]at hI
  exact tX fun F C=>qE (S3.v y) fun _=>⟨y,P,rfl,hI.symm,AcN.of F.2.1 C hN,CgQ.below C⟩
def rnP(l:List Lac):List (Lac × S3):=l.map fun a=>(a,s30)
theorem ZY(l:List Lac):(rnP l).map (·.1)=l:=by simp[rnP,Function.comp_def]
theorem NL(g:Gh)(w:World){l:List Lac}(h:∀ a∈l,a.d=[]):Dat g w (rnP l):=by
 intro p hp;obtain⟨a,ha,rfl⟩:=List.mem_map.1 hp;show FSl g w s30 a.d;rw[h a ha];exact T8 g w
theorem H9(l:List Lac)(a:Lac):rnP (l++[a])=rnP l++[(a,s30)]:=by simp[rnP]
theorem SL(l m:List Lac):rnP (l++m)=rnP l++rnP m:=by simp[rnP]
theorem JR(l:List Lac):(rnP l).length=l.length:=by simp[rnP]
theorem GC(m:Nat):(Ci m).length=6*m:=by
 induction m with
 | zero=>rfl
 | succ m ih=>rw[Ci,List.length_append,ih];show _+6=_;omega
def Ej(k:Int)(j:Nat):List Lac:=(List.range j).map fun n:Nat=>acN k (n:Int)
theorem I4(k:Int)(j:Nat):Ej k (j+1)=Ej k j++[acN k (j:Int)]:=by simp[Ej,List.range_succ]
theorem W9(k:Int)(j:Nat):(Ej k j).length=j:=by simp[Ej]
theorem MN{x:S3}{l:List (Lac × S3)}{many:Nat}{w:World}(h:RdV w x 5 (acV l))(hd:∀ p∈l,Sl w p.2.v p.1.d)(hm:l.length+6*many≤1000000) :
  Calls prog 11 #[x.v,iv (many:Int)] w fun e w'=>∃ y:S3,e=.returned y.v∧OwN w.heap.size w' 27 5 y (acV (l++rnP (CM many)))∧Bw w w':=by
 have hxn:x.n=l.length:=by have:=h.len;rw[JL]at this;omega
 refine tIn [Fa.ac x l] func11 ⟨⟨h.fz,fun p hp=>⟨hd p hp,fun _ _ _=>rfl⟩⟩,trivial⟩ ?_;refine tR 7 [] fun σ1 _ _=>?_;refine bS 1 0 x (acV l) 23 23 27 5 56 zLa (fun F=>F.1.1.rd) [Fa.dt l] (fun F=>⟨F.1.2,trivial⟩) rfl (by simp[TQ]) (RW l) (by rw[hxn];unfold maxLen;omega) (by omega) fun y0 _ _ n0=>?_;refine tR 8 [] fun σ3 _ _=>?_;refine Fh 39 [(1,iv (many:Int)),(5,S3.v y0),(6,iv 0)] [] [] [Fa.oa 0 y0 (l++rnP (Ej 9 0))] (fun kk ee LL ΦΦ=>∃ (j:Nat) (y:S3),kk=5-j∧ee=[(1,iv (many:Int)),(5,S3.v y),(6,iv (j:Int))]∧LL=[]∧ΦΦ=[Fa.oa 0 y (l++rnP (Ej 9 j))]∧j≤5∧y.n=l.length+j) (5) ⟨0,y0,rfl,rfl,rfl,rfl,by omega,by omega⟩ (fun F=>⟨by rw[show rnP (Ej 9 0)=[]from rfl,List.append_nil];exact⟨F.1,F.2.1⟩,trivial⟩) ?_;rintro k _ _ _ ⟨j,y,rfl,rfl,rfl,rfl,hj,hyn⟩ _ _ _ J hJ;refine tR 6 [] fun σ4 _ _=>?_;by_cases h1:j<5
 ·refine tI ((decide ((j:Int)<5))) true (decide_eq_true (by omega)) ?_;refine tR 8 [0,0] fun σ5 _ _=>?_;refine Mb 4 0 (x:=y) 23 23 27 5 56 zLa ⟨(σ5 0),0,none⟩ 1 1 [iv 9,iv (j:Int),iv 0,iv 0,sn] (fun F=>F.1.1) [Fa.dt ((l++rnP (Ej 9 j))++[(acN 9 (j:Int),s30)])] (fun F=>⟨Dat.snoc F.1.2 (T8 _ _),trivial⟩) rfl (by simp[TQ]) rfl (by simp[Value.oneCell']) (fun F K=>BT K 0 (σ5 0) [iv 9,iv (j:Int),iv 0,iv 0,sn] 27 .z true (by kernel_rfl)) (by unfold maxLen;omega) (by omega) fun y6 _ _ n6=>?_;refine tR 5 [] fun σ7 _ _=>?_;refine tV 1 (iv ((j:Int)+1)) (fun F C=>(AF (x:=(.tmp 13)) (y:=(.const (iv 1))) (j:Int) 1 underlying3 (by omega))) ?_;refine tR 2 [] fun σ8 _ _=>?_;exact tB hJ (5-(j+1)) (by omega) [false] ⟨j+1,y6,rfl,rfl,rfl,rfl,by omega,by omega⟩ (fun F=>by rw[I4,H9,← List.append_assoc];exact⟨⟨(by rw[Df];exact F.1),F.2.1⟩,trivial⟩)
 ·refine tI ((decide ((j:Int)<5))) false (decide_eq_false (by omega)) ?_;obtain rfl:j=5:=by omega
  refine tR 7 [] fun σ9 _ _=>?_;refine Fh 39 [(1,iv (many:Int)),(5,S3.v y),(7,iv 0)] [] [] [Fa.oa 0 y (l++rnP (Em++Ci 0))] (fun kk ee LL ΦΦ=>∃ (i:Nat) (y:S3),kk=many-i∧ee=[(1,iv (many:Int)),(5,S3.v y),(7,iv (i:Int))]∧LL=[]∧ΦΦ=[Fa.oa 0 y (l++rnP (Em++Ci i))]∧i≤many∧y.n=l.length+(5+6*i)) (many) ⟨0,y,rfl,rfl,rfl,rfl,by omega,by omega⟩ (fun F=>⟨F.1,trivial⟩) ?_;rintro k _ _ _ ⟨i,y,rfl,rfl,rfl,rfl,hi,hyn⟩ _ _ _ Jb hJb;refine tR 7 [] fun σ10 _ _=>?_;by_cases h2:i<many
  ·refine tI ((decide ((i:Int)<(many:Int)))) true (decide_eq_true (by omega)) ?_;refine tR 9 [] fun σ11 _ _=>?_;refine Fh 39 [(1,iv (many:Int)),(5,S3.v y),(7,iv (i:Int)),(8,iv 0)] [] [] [Fa.oa 0 y (l++rnP (Em++Ci i++Ej 3 0))] (fun kk ee LL ΦΦ=>∃ (j:Nat) (y:S3),kk=5-j∧ee=[(1,iv (many:Int)),(5,S3.v y),(7,iv (i:Int)),(8,iv (j:Int))]∧LL=[]∧ΦΦ=[Fa.oa 0 y (l++rnP (Em++Ci i++Ej 3 j))]∧j≤5∧y.n=l.length+(5+6*i+j)) (5) ⟨0,y,rfl,rfl,rfl,rfl,by omega,by omega⟩ (fun F=>⟨by rw[show Ej 3 0=[]from rfl,List.append_nil];exact F.1,trivial⟩) ?_;rintro k _ _ _ ⟨j,y,rfl,rfl,rfl,rfl,hj,hyn⟩ _ _ _ Jc hJc;refine tR 6 [] fun σ12 _ _=>?_;by_cases h3:j<5
   ·refine tI ((decide ((j:Int)<5))) true (decide_eq_true (by omega)) ?_;refine tR 8 [0,0] fun σ13 _ _=>?_;refine Mb 4 0 (x:=y) 23 23 27 5 56 zLa ⟨(σ13 0),0,none⟩ 1 1 [iv 3,iv (j:Int),iv 0,iv 0,sn] (fun F=>F.1.1) [Fa.dt ((l++rnP (Em++Ci i++Ej 3 j))++[(acN 3 (j:Int),s30)])] (fun F=>⟨Dat.snoc F.1.2 (T8 _ _),trivial⟩) rfl (by simp[TQ]) rfl (by simp[Value.oneCell']) (fun F K=>BT K 0 (σ13 0) [iv 3,iv (j:Int),iv 0,iv 0,sn] 27 .z true (by kernel_rfl)) (by unfold maxLen;omega) (by omega) fun y14 _ _ n14=>?_;refine tR 5 [] fun σ15 _ _=>?_;refine tV 1 (iv ((j:Int)+1)) (fun F C=>(AF (x:=(.tmp 27)) (y:=(.const (iv 1))) (j:Int) 1 underlying3 (by omega))) ?_;refine tR 2 [] fun σ16 _ _=>?_;exact tB hJc (5-(j+1)) (by omega) [false] ⟨j+1,y14,rfl,rfl,rfl,rfl,by omega,by omega⟩ (fun F=>by rw[I4,← List.append_assoc (Em++Ci i),H9,← List.append_assoc l];exact⟨⟨(by rw[Df];exact F.1),F.2.1⟩,trivial⟩)
   ·refine tI ((decide ((j:Int)<5))) false (decide_eq_false (by omega)) ?_;obtain rfl:j=5:=by omega
    refine tR 5 [0,0] fun σ17 _ _=>?_;refine Mb 3 0 (x:=y) 23 23 27 5 56 zLa ⟨(σ17 0),0,none⟩ 1 1 [iv 7,iv 0,iv 0,iv 0,sn] (fun F=>F.1.1) [Fa.dt ((l++rnP (Em++Ci i++Ej 3 5))++[(acN 7 0,s30)])] (fun F=>⟨Dat.snoc F.1.2 (T8 _ _),trivial⟩) rfl (by simp[TQ]) rfl (by simp[Value.oneCell']) (fun F K=>BT K 0 (σ17 0) [iv 7,iv 0,iv 0,iv 0,sn] 27 .z true (by kernel_rfl)) (by unfold maxLen;omega) (by omega) fun y18 _ _ n18=>?_;refine tR 5 [] fun σ19 _ _=>?_;refine tV 1 (iv ((i:Int)+1)) (fun F C=>(AF (x:=(.tmp 23)) (y:=(.const (iv 1))) (i:Int) 1 underlying3 (by omega))) ?_;refine tR 2 [] fun σ20 _ _=>?_;exact tB hJb (many-(i+1)) (by omega) [false] ⟨i+1,y18,rfl,rfl,rfl,rfl,by omega,by omega⟩ (fun F=>by rw[show Em++Ci (i+1)=Em++Ci i++Ej 3 5++[acN 7 0]by rw[Ci,← List.append_assoc,List.append_assoc _ (Ej 3 5)];rfl,H9,← List.append_assoc l];exact⟨⟨(by rw[Df];exact F.1),F.2.1⟩,trivial⟩)
  ·refine tI ((decide ((i:Int)<(many:Int)))) false (decide_eq_false (by omega)) ?_;obtain rfl:i=many:=by omega
   refine tR 6 [] fun σ21 _ _=>?_;exact tX fun F C=>qE (S3.v y) fun _=>⟨y,rfl,F.1.1.own C,CgQ.below C⟩
theorem W8(k:Int)(j:Nat):∀ a∈Ej k j,a.d=[]:=by
 intro a ha;obtain⟨n,_,rfl⟩:=List.mem_map.1 ha;rfl
theorem VV(m:Nat):∀ a∈Ci m,a.d=[]:=by
 induction m with
 | zero=>intro a ha;cases ha
 | succ m ih =>
  intro a ha;rcases List.mem_append.1 ha with h|h
  ·exact ih a h
  ·rcases List.mem_append.1 h with h|h
   ·exact W8 3 5 a h
   ·rw[List.mem_singleton.1 h];rfl
theorem X3(m:Nat):∀ a∈CM m,a.d=[]:=by
 intro a ha;rcases List.mem_append.1 ha with h|h
 ·exact W8 9 5 a h
 ·exact VV m a h
theorem FH(m:Nat):(CM m).length=5+6*m:=by unfold CM;rw[List.length_append,GC];rfl
theorem gL{w:World}{x:S3}{L:List Lac}{l:List (Lac × S3)}{b off i:Nat}{a:Lac}(h:AcR w x L l)(hx:x.a=some ⟨b,off,none⟩)(ha:L[i]?=some a):w.cell? ⟨b,off+5*i,none⟩=some (iv a.k):=by
 obtain⟨b',off',y,h1,h2,_,_⟩:=h.spot ha;rw[hx]at h1
 cases h1;exact h2 0 _ rfl
theorem TX{L:List Lac}{i:Nat}{a:Lac}(h:L[i]?=some a):CH (L.take (i+1))=if hvy a then CH (L.take i)+20 else CH (L.take i):=by
 unfold CH;rw[List.take_add_one,h,List.filter_append];cases hh:hvy a<;>simp[hh];omega
theorem S4(L:List Lac):CH L≤100+20*L.length:=by
 unfold CH;have:=List.length_filter_le hvy L;omega
theorem Wm(m:Nat)(n:Int):(Ex m n).length=11+6*m:=by unfold Ex;rw[List.length_append,List.length_append,FH,FH,List.length_singleton];omega
theorem RB{x:S3}{L:List Lac}{l:List (Lac × S3)}{n:Int}{w:World}(h:AcR w x L l)(hm:L.length≤2000) :
  Calls prog 6 #[x.v,iv n] w fun e w'=>∃ y:S3,e=.returned y.v∧OwN w.heap.size w' 27 5 y (acV (l++rnP (EW L n)))∧Bw w w':=by
 have hxn:x.n=L.length:=h.n;have hll:l.length=L.length:=by rw[← h.e,List.length_map]
 refine tIn [Fa.ac x l] func6 ⟨⟨h.r.fz,fun p hp=>⟨h.d p hp,fun _ _ _=>rfl⟩⟩,trivial⟩ ?_;refine tR 14 [] fun σ1 _ _=>?_;refine Fh 44 [(0,S3.v x),(1,iv n),(5,iv 100),(6,iv 0)] [] [] [Fa.ac x l] (fun kk ee LL ΦΦ=>∃ (i m:Nat),kk=L.length-i∧ee=[(0,S3.v x),(1,iv n),(5,iv (m:Int)),(6,iv (i:Int))]∧LL=[]∧ΦΦ=[Fa.ac x l]∧i≤L.length∧m=CH (L.take i)) (L.length) ⟨0,100,rfl,rfl,rfl,rfl,by omega,rfl⟩ (fun F=>⟨F.1,trivial⟩) ?_;rintro k _ _ _ ⟨i,m,rfl,rfl,rfl,rfl,hi,hmi⟩ _ _ _ J hJ;refine tR 8 [] fun σ2 _ _=>?_;by_cases h1:i<L.length
 ·refine tI ((decide ((i:Int)<(x.n:Int)))) true (decide_eq_true (by omega)) ?_;have hmb:=S4 (L.take i);rw[← hmi,List.length_take]at hmb
  obtain⟨a,ha⟩:∃ a,L[i]?=some a:=⟨_,List.getElem?_eq_getElem (by omega)⟩;refine tF fun F _=>?_;obtain⟨b,off,yd,hxa,_,_,hin⟩:=(AcR.of F.1 h.e).spot ha;refine tR 7 [] fun σ3 _ _=>?_;refine tV 2 (pt b (off+5*i)) (fun F C=>(Px (c:=x.c) hxa i hin)) ?_;refine tR 1 [] fun σ4 _ _=>?_;refine tV 4 (iv a.k) (fun F C=>(CX underlying3 rfl (gL (AcR.of F.1 h.e) hxa ha))) ?_;refine tR 1 [] fun σ5 _ _=>?_;refine RJ 44 (fun ee LL ΦΦ=>∃ (m2:Nat),ee=[(0,S3.v x),(1,iv n),(5,iv (m2:Int)),(6,iv (i:Int))]∧LL=[]∧ΦΦ=[Fa.ac x l]∧m2=(if hvy a then m+20 else m)) (fun J hJ=>?_) ?_
  ·refine tR 7 [] fun σ6 _ _=>?_;by_cases h2:a.k=1
   ·refine tI ((a.k==1)) true (by simpa using h2) ?_;refine tR 1 [] fun σ7 _ _=>?_;refine tI ((a.k==1)) true (by simpa using h2) ?_;refine tR 2 [] fun σ8 _ _=>?_;refine tV 1 (iv ((m:Int)+20)) (fun F C=>(AF (x:=(.tmp 25)) (y:=(.const (iv 20))) (m:Int) 20 underlying3 (by omega))) ?_;refine tR 3 [] fun σ9 _ _=>?_;exact tD hJ [] ⟨m+20,rfl,rfl,rfl,(if_pos (by simp[hvy,h2])).symm⟩ (fun F=>⟨F.1,trivial⟩)
   ·refine tI ((a.k==1)) false (by simpa using h2) ?_;refine tR 5 [] fun σ10 _ _=>?_;by_cases h3:a.k=2
    ·refine tI ((a.k==2)) true (by simpa using h3) ?_;refine tR 1 [] fun σ11 _ _=>?_;refine tI ((a.k==2)) true (by simpa using h3) ?_;refine tR 2 [] fun σ12 _ _=>?_;refine tV 1 (iv ((m:Int)+20)) (fun F C=>(AF (x:=(.tmp 25)) (y:=(.const (iv 20))) (m:Int) 20 underlying3 (by omega))) ?_;refine tR 3 [] fun σ13 _ _=>?_;exact tD hJ [] ⟨m+20,rfl,rfl,rfl,(if_pos (by simp[hvy,h3])).symm⟩ (fun F=>⟨F.1,trivial⟩)
    ·refine tI ((a.k==2)) false (by simpa using h3) ?_;refine tR 5 [] fun σ14 _ _=>?_;by_cases h4:a.k=6
     ·refine tI ((a.k==6)) true (by simpa using h4) ?_;refine tR 1 [] fun σ15 _ _=>?_;refine tI ((a.k==6)) true (by simpa using h4) ?_;refine tR 2 [] fun σ16 _ _=>?_;refine tV 1 (iv ((m:Int)+20)) (fun F C=>(AF (x:=(.tmp 25)) (y:=(.const (iv 20))) (m:Int) 20 underlying3 (by omega))) ?_;refine tR 3 [] fun σ17 _ _=>?_;exact tD hJ [] ⟨m+20,rfl,rfl,rfl,(if_pos (by simp[hvy,h4])).symm⟩ (fun F=>⟨F.1,trivial⟩)
     ·refine tI ((a.k==6)) false (by simpa using h4) ?_;refine tR 4 [] fun σ18 _ _=>?_;by_cases h5:a.k=8
      ·refine tI ((a.k==8)) true (by simpa using h5) ?_;refine tR 2 [] fun σ19 _ _=>?_;refine tV 1 (iv ((m:Int)+20)) (fun F C=>(AF (x:=(.tmp 25)) (y:=(.const (iv 20))) (m:Int) 20 underlying3 (by omega))) ?_;refine tR 3 [] fun σ20 _ _=>?_;exact tD hJ [] ⟨m+20,rfl,rfl,rfl,(if_pos (by simp[hvy,h5])).symm⟩ (fun F=>⟨F.1,trivial⟩)
      ·refine tI ((a.k==8)) false (by simpa using h5) ?_;refine tR 2 [] fun σ21 _ _=>?_;exact tD hJ [] ⟨m,rfl,rfl,rfl,(if_neg (by simp[hvy,h2,h3,h4,h5])).symm⟩ (fun F=>⟨F.1,trivial⟩)
  rintro _ _ _ ⟨m2,rfl,rfl,rfl,hm2⟩ _ _ _;refine tR 3 [] fun σ22 _ _=>?_;refine tV 1 (iv ((i:Int)+1)) (fun F C=>(AF (x:=(.tmp 13)) (y:=(.const (iv 1))) (i:Int) 1 underlying3 (by omega))) ?_;refine tR 2 [] fun σ23 _ _=>?_;exact tB hJ (L.length-(i+1)) (by omega) [] ⟨i+1,m2,rfl,rfl,rfl,rfl,by omega,(by rw[hm2,TX ha,← hmi])⟩ (fun F=>⟨F.1,trivial⟩)
 ·refine tI ((decide ((i:Int)<(x.n:Int)))) false (decide_eq_false (by omega)) ?_;rw[show L.take i=L from List.take_of_length_le (by omega)]at hmi
  have hmb:=S4 L;rw[← hmi]at hmb
  refine tR 4 [] fun σ24 _ _=>?_;refine bS 1 0 x (acV l) 23 23 27 5 56 zLa (fun F=>F.1.1.rd) [Fa.dt l] (fun F=>⟨F.1.2,trivial⟩) rfl (by simp[TQ]) (RW l) (by rw[hxn];unfold maxLen;omega) (by omega) fun y0 _ _ n0=>?_;refine tR 8 [] fun σ25 _ _=>?_;refine Fh 44 [(1,iv n),(5,iv (m:Int)),(7,S3.v y0),(8,iv 0)] [] [] [Fa.oa 0 y0 (l++rnP [])] (fun kk ee LL ΦΦ=>∃ (j:Nat) (y:S3) (Q:List Lac),kk=2-j∧ee=[(1,iv n),(5,iv (m:Int)),(7,S3.v y),(8,iv (j:Int))]∧LL=[]∧ΦΦ=[Fa.oa 0 y (l++rnP Q)]∧j≤2∧Q.length≤j*300000∧Q=(List.replicate j (Ex m n)).flatten) (2) ⟨0,y0,[],rfl,rfl,rfl,rfl,by omega,by simp,by simp⟩ (fun F=>⟨by rw[show rnP []=[]from rfl,List.append_nil];exact⟨F.1,F.2.1⟩,trivial⟩) ?_;rintro k _ _ _ ⟨j,y,Q,rfl,rfl,rfl,rfl,hj,hQl,hQ⟩ _ _ _ J hJ;refine tR 6 [] fun σ26 _ _=>?_;by_cases h2:j<2
  ·refine tI ((decide ((j:Int)<2))) true (decide_eq_true (by omega)) ?_;refine tR 6 [] fun σ27 _ _=>?_;refine tG 1 [] 0 (fun F C=>MN (many:=0) (AcR.oo F.1 rfl).r (AcR.oo F.1 rfl).d (by rw[List.length_append,JR];omega)) fun Nz=>?_;rintro _ _ ⟨q1,rfl,ho,b28⟩;have hqnq1:q1.n=((l++rnP Q)++rnP (CM 0)).length:=by have:=ho.len;rw[JL]at this;omega
   simp only[List.length_append,JR,FH]at hqnq1;refine⟨_,[Fa.oa 0 q1 ((l++rnP Q)++rnP (CM 0))],_,_,_,_,rfl,b28,ho,fun _=>⟨fun F hO _=>⟨⟨hO,Dat.app F.1.2 (NL _ _ (X3 _))⟩,trivial⟩,?_⟩⟩;refine tR 8 [0,0] fun σ29 _ _=>?_;refine Mb 4 0 (x:=q1) 23 23 27 5 56 zLa ⟨(σ29 0),0,none⟩ 1 1 [iv 2,iv n,iv 0,iv 0,sn] (fun F=>F.1.1) [Fa.dt ((l++rnP Q++rnP (CM 0))++[(acN 2 n,s30)])] (fun F=>⟨Dat.snoc F.1.2 (T8 _ _),trivial⟩) rfl (by simp[TQ]) rfl (by simp[Value.oneCell']) (fun F K=>BT K 0 (σ29 0) [iv 2,iv n,iv 0,iv 0,sn] 27 .z true (by kernel_rfl)) (by unfold maxLen;omega) (by omega) fun y30 _ _ n30=>?_;refine tCv [Fa.oa 0 y30 (l++rnP (Q++CM 0++[acN 2 n]))] (fun F=>by rw[H9,SL,← List.append_assoc l,← List.append_assoc l];exact⟨⟨(by rw[Df];exact F.1),F.2.1⟩,trivial⟩) ?_;refine tR 5 [] fun σ31 _ _=>?_;refine tG 2 [false] 0 (fun F C=>MN (many:=m) (AcR.oo F.1 rfl).r (AcR.oo F.1 rfl).d (by rw[List.length_append,JR,List.length_append,List.length_append,FH,List.length_singleton];omega)) fun Nz=>?_;rintro _ _ ⟨q2,rfl,ho,b32⟩;have hqnq2:q2.n=((l++rnP (Q++CM 0++[acN 2 n]))++rnP (CM m)).length:=by have:=ho.len;rw[JL]at this;omega
   simp only[List.length_append,JR,FH,List.length_singleton]at hqnq2;refine⟨_,[Fa.oa 0 q2 ((l++rnP (Q++CM 0++[acN 2 n]))++rnP (CM m))],_,_,_,_,rfl,b32,ho,fun _=>⟨fun F hO _=>⟨⟨hO,Dat.app F.1.2 (NL _ _ (X3 _))⟩,trivial⟩,?_⟩⟩;refine tR 5 [] fun σ33 _ _=>?_;refine tV 1 (iv ((j:Int)+1)) (fun F C=>(AF (x:=(.tmp 31)) (y:=(.const (iv 1))) (j:Int) 1 underlying3 (by omega))) ?_;refine tR 2 [] fun σ34 _ _=>?_;exact tB hJ (2-(j+1)) (by omega) [] ⟨j+1,q2,Q++Ex m n,rfl,rfl,rfl,rfl,by omega,(by rw[List.length_append,Wm];omega),(by rw[hQ];rcases(show j=0∨j=1 by omega)with rfl|rfl<;>simp)⟩ (fun F=>by rw[show Q++Ex m n=Q++CM 0++[acN 2 n]++CM m by simp[Ex,List.append_assoc],SL _ (CM m),← List.append_assoc l];exact F)
  ·refine tI ((decide ((j:Int)<2))) false (decide_eq_false (by omega)) ?_;obtain rfl:j=2:=by omega
   refine tR 6 [] fun σ35 _ _=>?_;have hS:Q=EW L n:=by rw[hQ,hmi];simp[EW]
   rw[← hS];exact tX fun F C=>qE (S3.v y) fun _=>⟨y,rfl,F.1.1.own C,CgQ.below C⟩
theorem SG{g:Gh}{w:World}{ly tv:S3}{ys:Nat→S3}{M:Meet}(h:OutF g w ly tv ys M):OutW w M ly tv ys:=⟨h.logs.rd,fun j hj=>(h.log j hj).rd.rc,h.told.rd⟩
theorem eg{x:S3}{L:List Lac}{l:List (Lac × S3)}{w:World}(h:AcR w x L l)(ho:∀ a∈L,LacOk a)(hl:L.length≤100000)(hT:Ti w){M:Meet}(hM:BS.acts L=M) :
  Calls prog 10 #[x.v] w fun e w'=>∃ (ly tv:S3) (ys:Nat→S3),e=.returned (.tuple #[.agg (I8 M ly tv),iv 0])∧OutW w' M ly tv ys∧OutN w.heap.size M ly tv ys∧Bw w w':=by
 subst hM;refine(am (h.sk (by omega)) (fun i hi=>by rw[Nv hi];exact ho _ (List.getElem_mem hi)) hl hT.1 hT.2.1 hT.2.2).mono ?_;rw[Vc];rintro e w' ⟨hb,ly,tv,ys,h1,h2,h3⟩;exact⟨ly,tv,ys,h1,h2,h3,hb⟩
theorem dX{x:S3}{L:List Lac}{l:List (Lac × S3)}{w:World}(h:AcR w x L l)(ho:∀ a∈L,LacOk a)(hl:L.length≤100000)(hT:Ti w){M:Meet}(hM:BS.acts L=M) :
  Calls prog 5 #[x.v] w fun e w'=>∃ (ly tv:S3) (ys:Nat→S3),e=.returned (.tuple #[.agg (I8 M ly tv),.bool true])∧OutW w' M ly tv ys∧OutN w.heap.size M ly tv ys∧Bw w w':=by
 refine tIn [] func5 trivial ?_;refine tR 8 [1,0] fun σ1 _ _=>?_;refine tF fun _ Cs=>?_;have hs2:=Cs.size;refine tC 1 (fun F C=>eg (h.below (CgQ.below C)) ho hl (tb5 hT C) hM) fun Nz=>?_;rintro _ _ ⟨ly,tv,ys,rfl,hW,hN,b3⟩;refine⟨_,Fa.ot ly tv ys M::_,rfl,b3,fun F=>⟨SE hW hN Nz,F⟩,?_⟩;refine tR 14 [0,0,1,0,9,0,1,2,4,6,8] fun σ4 _ _=>?_;refine RJ 20 (fun ee LL ΦΦ=>∃ (_:Unit),ee=[(2,pt (σ1 0) 0),(3,.bool ((ly.n:Int)==5))]∧LL=[⟨(σ1 0),.cells (I8 M ly tv) 33,.l,false⟩,⟨(σ4 0),.cells (I8 M ly tv) 33,.z,false⟩]∧ΦΦ=[Fa.ot ly tv ys M]) (fun J hJ=>?_) ?_
 ·refine UD 5 9 ?_ ?_
  ·refine tR 7 [1,12,14,16,19,0,0,20] fun σ5 _ _=>?_;exact tD hJ [true,true] ⟨(),rfl,rfl,rfl⟩ (fun F=>⟨F.1,trivial⟩)
  ·refine tR 7 [0,0,11,1,12,14,16,20] fun σ6 _ _=>?_;exact tD hJ [true,true] ⟨(),rfl,rfl,rfl⟩ (fun F=>⟨F.1,trivial⟩)
 rintro _ _ _ ⟨_,rfl,rfl,rfl⟩ _ _ _;have hn:(((ly.n:Nat):Int)==5)=true:=by rw[hW.n5];rfl
 exact tX fun F C=>qE2 2 3 33 0 (σ1 0) (I8 M ly tv) (.bool ((ly.n:Int)==5)) fun _=>⟨ly,tv,ys,by rw[hn],SG F.1,hN.mono hs2,CgQ.below C⟩
def lgN(M:Meet):Nat→Option Nat
 | 0=>none
 | n+1=>if(((lgN M n).map M.log).getD []).length<(M.log n).length then some n else lgN M n
def lgY(ys:Nat→S3)(o:Option Nat):S3:=(o.map ys).getD s30
theorem dq{M:Meet}{n j:Nat}(h:lgN M n=some j):j<n:=by
 induction n with
 | zero=>cases h
 | succ n ih =>
  rw[lgN]at h
  split at h
  ·cases h;omega
  ·have:=ih h;omega
theorem du{g:Gh}{w:World}{ly tv:S3}{ys:Nat→S3}{M:Meet}(h:OutF g w ly tv ys M){n:Nat}(hn:n≤5):FzV g w (lgY ys (lgN M n)) 5 (cmL (((lgN M n).map M.log).getD [])):=by
 cases hh:lgN M n with
 | none=>exact⟨⟨rfl,Nat.le_refl _,fun _=>rfl,.inl rfl⟩,fun e=>absurd rfl e⟩
 | some j=>exact h.log j (Nat.lt_of_lt_of_le (dq hh) hn)
theorem bO{W:World}{x:S3}{b off:Nat}(ha:x.a=some ⟨b,off,none⟩)(j:Nat)(hj:j<x.n):(Instr.indexAt 29 x.v (iv (j:Int))).run prog W=.ok (pt b (off+j)) W:=by
 obtain⟨xa,xn,xc⟩:=x;simp only at ha hj;subst ha;exact Pw (P:=prog) (e:=38) (z:=1) underlying29 (by kernel_rfl) (by kernel_rfl) hj _ (by rw[Nat.one_mul])
theorem S2{w:World}{ly:S3}{ys:Nat→S3}{b off j:Nat}(h:RdV w ly 1 [S3.v (ys 0),S3.v (ys 1),S3.v (ys 2),S3.v (ys 3),S3.v (ys 4)])(ha:ly.a=some ⟨b,off,none⟩)(hj:j<5):w.cell? ⟨b,off+j,none⟩=some (S3.v (ys j)):=by
 rcases h.ex with h1|⟨b',off',h1,h2,h3⟩
 ·have:=h.len;simp at this;omega
 ·rw[ha]at h1;cases h1
  refine h3 j _ ?_;rcases five hj with rfl|rfl|rfl|rfl|rfl<;>rfl
def Xg(M:Meet)(ly tv:S3):Array Value:=#[iv (M.lets.length:Int),.bool true,.bool (M.node 1).up,.bool (M.node 2).up,.bool (M.node 3).up,.bool (M.node 4).up,S3.v ly,iv ((M.node 0).bad:Int),iv ((M.node 1).bad:Int),iv ((M.node 2).bad:Int),iv ((M.node 3).bad:Int),iv ((M.node 4).bad:Int),S3.v tv]
theorem SF{M:Meet}(hu:(M.node 0).up=true)(ly tv:S3):I8 M ly tv=Xg M ly tv:=by unfold I8 Xg;rw[hu]
theorem dY{x:S3}{L:List Lac}{l:List (Lac × S3)}{w:World}(h:AcR w x L l)(ho:∀ a∈L,LacOk a)(hl:L.length≤100000)(hT:Ti w){M:Meet}(hM:BS.acts L=M)(hu:(M.node 0).up=true) :
  Calls prog 5 #[x.v] w fun e w'=>∃ (ly tv:S3) (ys:Nat→S3),e=.returned (.tuple #[.agg (Xg M ly tv),.bool true])∧OutW w' M ly tv ys∧OutN w.heap.size M ly tv ys∧Bw w w' :=
 (dX h ho hl hT hM).mono fun e w' ⟨ly,tv,ys,h1,h2⟩=>⟨ly,tv,ys,by rw[← SF hu];exact h1,h2⟩
theorem Zu{M:Meet}(h:∀ j,j<5→M.log j=[]){n:Nat}(hn:n≤5):lgN M n=none:=by
 induction n with
 | zero=>rfl
 | succ n ih=>rw[lgN,ih (by omega),h n (by omega),if_neg (by simp)]
theorem bB{g:Gh}{w:World}{x:S3}{l:List (Lac × S3)}(h:(Fa.ac x l).p g w){i:Nat}{p:Lac × S3}(hp:l[i]?=some p):∃ b off,x.a=some ⟨b,off,none⟩∧w.rangeAt b (off+5*i) (laV p.1 p.2.v)∧i<x.n:=by
 have hn:=(AcR.of h rfl).n;rw[List.length_map]at hn
 have hi:=(List.getElem?_eq_some_iff.1 hp).1;obtain⟨b,off,h1,_,h2⟩:=h.1.rd.spot (i:=i) (by omega);exact⟨b,off,h1,fun j u hj=>h2 j u (Hk (f:=fun p:Lac × S3=>laV p.1 p.2.v) (fun _=>rfl) l hp hj),by omega⟩
theorem acS{g:Gh}{w:World}{x:S3}{l:List (Lac × S3)}(h:(Fa.ac x l).p g w){i b off:Nat}(hx:x.a=some ⟨b,off,none⟩){a:Lac}{y:S3}(hp:l[i]?=some (a,y)):w.rangeAt b (off+5*i) (laV a y.v):=by
 obtain⟨b',off',h1,h2,_⟩:=bB h hp;rw[hx]at h1;cases h1;exact h2
theorem acK{g:Gh}{w:World}{x:S3}{l:List (Lac × S3)}(h:(Fa.ac x l).p g w){i b off:Nat}(hx:x.a=some ⟨b,off,none⟩){a:Lac}{y:S3}(hp:l[i]?=some (a,y)):w.cell? ⟨b,off+5*i,none⟩=some (iv a.k):=acS h hx hp 0 _ rfl
theorem gt{w:World}{x:S3}{l:List Tol}(h:RdV w x 5 (l.flatMap Fb)):x.n=l.length:=by
 have:=h.len;rw[Ew (f:=Fb) (sz:=5) (fun _=>rfl)]at this
 omega
theorem QV{ly tv:S3}{ys:Nat→S3}{M:Meet}{w:World}(h:OutW w M ly tv ys) :
  Calls prog 8 #[.agg (I8 M ly tv)] w fun e w'=>e=.returned (S3.v (lgY ys (lgN M 5)))∧Bw w w':=by
 have hn:=h.n5;refine tIn [Fa.ot ly tv ys M] func8 ⟨⟨h.logs.fz,fun j hj=>(h.log j hj).rv.fz,h.told.fz⟩,trivial⟩ ?_;refine tR 15 [0,0] fun σ1 _ _=>?_;refine Fh 27 [(1,pt (σ1 0) 0),(3,sn),(4,iv 0)] [true] [⟨(σ1 0),.cells #[iv (M.lets.length:Int),.bool (M.node 0).up,.bool (M.node 1).up,.bool (M.node 2).up,.bool (M.node 3).up,.bool (M.node 4).up,S3.v ly,iv ((M.node 0).bad:Int),iv ((M.node 1).bad:Int),iv ((M.node 2).bad:Int),iv ((M.node 3).bad:Int),iv ((M.node 4).bad:Int),S3.v tv] 33,.z,false⟩] [Fa.ot ly tv ys M] (fun kk ee LL ΦΦ=>∃ (i:Nat),kk=5-i∧ee=[(1,pt (σ1 0) 0),(3,S3.v (lgY ys (lgN M i))),(4,iv (i:Int))]∧LL=[⟨(σ1 0),.cells (I8 M ly tv) 33,.z,false⟩]∧ΦΦ=[Fa.ot ly tv ys M]∧i≤5) (5) ⟨0,rfl,rfl,rfl,rfl,by omega⟩ (fun F=>F) ?_;rintro k _ _ _ ⟨i,rfl,rfl,rfl,rfl,hi⟩ _ _ _ J hJ;refine tR 9 [0] fun σ2 _ _=>?_;by_cases h1:i<5
 ·refine tI ((decide ((i:Int)<(ly.n:Int)))) true (decide_eq_true (by omega)) ?_;refine tF fun F _=>?_;obtain⟨b,off,hla,_⟩:=F.1.logs.rd.spot (i:=i) (by omega);have h1n:=fm (F.1.log i (by omega)).rd;have h2n:=fm (du F.1 (n:=i) (by omega)).rd;refine tR 8 [0] fun σ3 _ _=>?_;refine tV 3 (pt b (off+i)) (fun F C=>(bO hla i (by omega))) ?_;refine tV 4 (S3.v (ys i)) (fun F C=>(CX underlying38 rfl (S2 F.1.logs.rd hla (by omega)))) ?_;refine tR 5 [] fun σ5 _ _=>?_;by_cases h2:(((lgN M i).map M.log).getD []).length<(M.log i).length
  ·refine tI ((decide (((lgY ys (lgN M i)).n:Int)<((ys i).n:Int)))) true (decide_eq_true (by omega)) ?_;refine tR 4 [0] fun σ6 _ _=>?_;refine tV 3 (pt b (off+i)) (fun F C=>(bO hla i (by omega))) ?_;refine tV 4 (S3.v (ys i)) (fun F C=>(CX underlying38 rfl (S2 F.1.logs.rd hla (by omega)))) ?_;refine tR 5 [] fun σ8 _ _=>?_;refine tV 1 (iv ((i:Int)+1)) (fun F C=>(AF (x:=(.tmp 10)) (y:=(.const (iv 1))) (i:Int) 1 underlying3 (by omega))) ?_;refine tR 2 [] fun σ9 _ _=>?_;exact tB hJ (5-(i+1)) (by omega) [true] ⟨i+1,rfl,(by rw[show lgN M (i+1)=some i from if_pos (by omega)]),rfl,rfl,by omega⟩ (fun F=>F)
  ·refine tI ((decide (((lgY ys (lgN M i)).n:Int)<((ys i).n:Int)))) false (decide_eq_false (by omega)) ?_;refine tR 4 [] fun σ10 _ _=>?_;refine tV 1 (iv ((i:Int)+1)) (fun F C=>(AF (x:=(.tmp 10)) (y:=(.const (iv 1))) (i:Int) 1 underlying3 (by omega))) ?_;refine tR 2 [] fun σ11 _ _=>?_;exact tB hJ (5-(i+1)) (by omega) [true] ⟨i+1,rfl,(by rw[show lgN M (i+1)=lgN M i from if_neg (by omega)]),rfl,rfl,by omega⟩ (fun F=>F)
 ·refine tI ((decide ((i:Int)<(ly.n:Int)))) false (decide_eq_false (by omega)) ?_;refine tR 6 [] fun σ12 _ _=>?_;obtain rfl:i=5:=by omega
  exact tE (S3.v (lgY ys (lgN M 5))) fun _ B=>⟨rfl,B⟩
theorem QW{ly tv:S3}{ys:Nat→S3}{M:Meet}{w:World}(h:OutW w M ly tv ys)(hu:(M.node 0).up=true) :
  Calls prog 8 #[.agg (Xg M ly tv)] w fun e w'=>e=.returned (S3.v (lgY ys (lgN M 5)))∧Bw w w':=by
 rw[← SF hu];exact QV h
end Go.Proofs.YtfhbkoflaekhpadGreatDoor
