/- Part 31 of the walk. -/
import Derived.Test.YtalbmmghmoggcacGreatDoorZ30
set_option maxRecDepth 100000
set_option maxHeartbeats 4000000
open Go.Proofs.Tryz
set_option linter.unusedVariables false
namespace Go.Proofs.YtalbmmghmoggcacGreatDoor
open Go.RowKit
section
def laV(x:Lac)(y:Value):List Value:=[.int .i64 x.k,.int .i64 x.n,.int .i64 x.a,.int .i64 x.p,y]
def zLa:Value:=.agg #[.int .i64 0,.int .i64 0,.int .i64 0,.int .i64 0,.slice none 0 0]
def gW:Lac:=⟨0,0,0,0,[]⟩
structure Sk(w:World)(x:Value)(F:Nat->Lac)(n:Nat):Prop where
 ex:∃ a cap,x=.slice a n cap/\(n=0\/∃ b off,a=some ⟨b,off,none⟩/\b<w.heap.size/\∀ i,i<n->∃ y,w.rangeAt b (off+5*i) (laV (F i) y)/\Sl w y (F i).d)
 len:n<=2513169434916
variable{B b i j k off r sz:Nat}{F:Nat->Lac}{L:List Lac}{M:Meet}{T:List Tg}{W w w' w0:World}{e:TypeId}{g g':Gh}{l:List (Lac × S3)}{ly tv x y:S3}{xs:List Value}{ys:Nat->S3}{α:Type}
theorem Sk.shape{x:Value}{n:Nat}(h:Sk w x F n):∃ a cap,x=.slice a n cap:=by
 obtain⟨⟨a,cap,e,_⟩,_⟩:=h;exact⟨a,cap,e⟩
theorem Sk.spot{a:Option Addr}{n cap:Nat}(h:Sk w (.slice a n cap) F n)(i:Nat)(hi:i<n):∃ b off xa xm xp,a=some ⟨b,off,none⟩/\b<w.heap.size/\w.rangeAt b (off+5*i) (laV (F i) (.slice xa xm xp))/\Sl w (.slice xa xm xp) (F i).d:=by
 obtain⟨⟨a',cap',e,h1⟩,_⟩:=h;simp only[Value.slice.injEq]at e;obtain⟨rfl,_,rfl⟩:=e;rcases h1 with rfl|⟨b,off,rfl,hb,hcell⟩
 .omega
 .obtain⟨y,h3,h4⟩:=hcell i hi;obtain⟨xa,xp,rfl⟩:=h4.shapeT;exact⟨b,off,xa,_,xp,rfl,hb,h3,h4⟩
def laF(l:List Lac):Nat->Lac:=λi=>l.getD i gW
theorem NA{l:List Lac}(h:i<l.length):laF l i=l[i]:=by simp[laF,List.getD,List.getElem?_eq_getElem h]
def Ir(F:Nat->Lac)(n:Nat):List Lac:=(List.range n).map F
theorem Vv(F:Nat->Lac)(n:Nat):(Ir F n).length=n:=by simp[Ir]
theorem YB{n:Nat}(h:j<n):(Ir F n).drop j=F j::(Ir F n).drop (j+1):=by
 have h1:(Ir F n)[j]?=some (F j):=by simp[Ir,h]
 obtain⟨h2,h3⟩:=P'.1 h1;rw[<- h3];exact iY h2
def ZU:Array Value:=#[iv 0,.bool false,.bool false,.bool false,.bool false,.bool false,S3.v s30,iv 0,iv 0,iv 0,iv 0,iv 0,S3.v s30]
def TR:List Tg:=.n 70 0::TM
theorem eU:Tg.z∉TR:=by simp[TR,TM,TN]
theorem eQ:∀ t∈TM,t∈TR:=λt h=>Q' _ h
theorem Ms:gS.t b∉TR:=eU
theorem Base.self(w:World):Base w gS w:=⟨Below.refl _ _,λ_ _=>rfl⟩
theorem bX{la:Option Addr}{n c:Nat}(ha:la=some ⟨b,off,none⟩)(j:Nat)(hj:j<n):(Instr.indexAt 27 (.slice la n c) (iv (j:Int))).run prog W=.ok (pt b (off+5*j)) W:=by
 subst ha;exact P9 (P:=prog) (e:=26) (z:=5) underlying27 (by kernel_rfl) (by kernel_rfl) hj _ rfl
theorem fS{x:Lac}{y:Value}(h:W.rangeAt b k (laV x y)):(Instr.loadAt 26 (pt b k)).run prog W=.ok (.agg #[iv x.k,iv x.n,iv x.a,iv x.p,y]) W:=by
 have h1:=run_loadVar_mid (P:=prog) W b k 26 (laV x y) _ h underlying26 rfl (by kernel_rfl);simp only[Instr.loadAt,Instr.sureAddr,Sem.run_bind,Sem.run_pure,Result.andThen_ok];exact h1
theorem OutN.mono{C:Nat}(h:OutN B M ly tv ys)(hc:C<=B):OutN C M ly tv ys:=⟨λa e=>iB hc (h.logs a e),λj hj hv a e=>iB hc (h.log j hj hv a e),λhv a e=>iB hc (h.told hv a e)⟩
theorem aH{lv:S3}{n:Nat}(h:Sk w lv.v F n)(hok:∀ i,i<n->LacOk (F i))(hn1:n<=100000)(hT:Tabs w)(tw:LWTab w)(tb:LBTab w) :
  Calls prog 11 #[lv.v] w λe w'=>Bw w w'/\∃ (ly tv:S3) (ys:Nat->S3),e=.returned (.tuple #[.agg (KQ (Bl.acts (Ir F n)) ly tv),iv 0])/\OutW w' (Bl.acts (Ir F n)) ly tv ys/\OutN w.heap.size (Bl.acts (Ir F n)) ly tv ys:=by
 obtain⟨la,lq,lc⟩:=lv;have hqn:lq=n:=by obtain⟨a,cap,hh⟩:=h.shape;simp only[S3.v,Value.slice.injEq]at hh;exact hh.2.1
 subst lq;have hnb:=h.len;obtain⟨L0,hL0⟩:∃ L0,Ir F n=L0:=⟨_,rfl⟩;have hLn:L0.length=n:=by rw[<- hL0];exact Vv F n
 rw[hL0];refine gI (fn:=f11) TR gS func11 (λ_ _=>⟨rfl,rfl⟩) ?_;refine qR [] 12 [1,0] λσ1 g1 w1 c1=>?_;refine qI ((decide (100000<(n:Int)))) false (D' (by omega)) ?_;refine qR [] 9 [] λσ3 g3 w3 c3=>?_;refine BG 40 [(0,.slice la n lc),(2,pt (σ1 0) 0),(14,.slice la n lc),(15,iv (n:Int)),(16,iv 0)] [true] [⟨(σ1 0),.cells ZU 34,.l,false⟩] (λk g' w' e L=>∃ j:Nat,k=n-j/\j<=n/\e=[(0,.slice la n lc),(2,pt (σ1 0) 0),(14,.slice la n lc),(15,iv (n:Int)),(16,iv (j:Int))]/\L=[⟨(σ1 0),.cells ZU 34,.l,false⟩]/\Cg w.heap.size TR gS w g' w') (by kernel_rfl) (by kernel_rfl) (by kernel_rfl) (by kernel_rfl) n (λK=>?_) ?_
 .exact⟨0,rfl,iP _,rfl,rfl,((c1.nil TR).n c3)⟩
 .rintro k gr wr _ zr _ ⟨j,rfl,hj,rfl,rfl,hC⟩ J hJ;refine qR [] 5 [] λσ4 g4 w4 c4=>?_;by_cases h0:j<n
  .refine qI ((decide ((j:Int)<(n:Int)))) true (I' (by omega)) ?_;refine qR [] 5 [] λσ5 g5 w5 c5=>?_;obtain⟨b,off,xa,xm,xp,hla,hbs,hrg,hsl⟩:=h.spot j h0;refine qV 0 (pt b (off+5*j)) (bX hla (n:=n) (c:=lc) j h0) ?_;refine qV 1 (.agg #[iv (F j).k,iv (F j).n,iv (F j).a,iv (F j).p,.slice xa xm xp]) (fS (x:=F j) (y:=.slice xa xm xp) (λq u hq=>(((Cg.below (((hC).n c4).n c5) (λ_ _=>Ms))).cell (p:=⟨b,off+5*j+q,none⟩) hbs).trans (hrg q u hq))) ?_;refine qR [] 6 [0,0,1,0,1] λσ7 g7 w7 c7=>?_;have bb8:=(Cg.below ((((hC).n c4).n c5).n c7) (λ_ _=>Ms));refine qC 1 (Qy (x:=F j) (y:=⟨xa,xm,xp⟩) (hok j h0) (IF (x:=⟨xa,xm,xp⟩) hsl) (tw.below bb8) (tb.below bb8)) ?_;rintro e' w8 ⟨rfl,b8⟩;refine⟨_,rfl,b8,?_⟩;have c8:=Cg.ofBelow (B:=w.heap.size) (T:=[]) (g:=g7) b8;refine qR [] 7 [] λσ9 g9 w9 c9=>?_;refine qR [] 4 [] λσ11 g11 w11 c11=>?_;refine qV 0 (iv ((j:Int)+1)) (AV (x:=(.tmp 16)) (y:=(.const (iv 1))) (j:Int) 1 underlying3 (by omega)) ?_;refine qR [] 2 [] λσ12 g12 w12 c12=>?_;exact qB [true,false] λz K0 K=>hJ (n-(j+1)) _ _ _ z _ (by omega) ⟨j+1,rfl,by omega,rfl,rfl,((((((((hC).n c4).n c5).n c7).n c8).n c9).n c11).n c12)⟩ K
  .refine qI ((decide ((j:Int)<(n:Int)))) false (D' (by omega)) ?_;obtain rfl:j=n:=by omega
   refine qR [] 3 [] λσ13 g13 w13 c13=>?_;refine Ag λK=>?_;refine qG 0 [.n 70 0] [true] (KM K.new) ?_;rintro e' w14 ⟨mb,tb',ob,nb,g14,rfl,hM0,c14⟩;refine⟨_,g14,rfl,c14,hM0.new,?_⟩;replace c14:=c14.ret (B:=w.heap.size);refine qR [] 10 [] λσ15 g15 w15 c15=>?_;refine BG 40 [(2,pt (σ1 0) 0),(7,pt mb 0),(28,.slice la j lc),(29,iv (j:Int)),(30,iv 0)] [true] [⟨(σ1 0),.cells ZU 34,.l,false⟩] (λk g' w' e L=>∃ (i:Nat) (A:Meet),k=j-i/\i<=j/\e=[(2,pt (σ1 0) 0),(7,pt mb 0),(28,.slice la j lc),(29,iv (j:Int)),(30,iv (i:Int))]/\L=[⟨(σ1 0),.cells ZU 34,.l,false⟩]/\MS mb tb' ob nb g' w' A/\(L0.drop i).foldl Meet.act A=Bl.acts L0/\MOk i A/\Cg w.heap.size TR gS w g' w') (by kernel_rfl) (by kernel_rfl) (by kernel_rfl) (by kernel_rfl) j (λK=>?_) ?_
   .exact⟨0,Bl,rfl,iP _,rfl,rfl,(hM0.ch0 c15 K.new),rfl,MOk.zero,(((((hC).n c4).n c13).trans (c14.mono (by simp[TR]))).n c15)⟩
   .rintro k gq wq _ zq _ ⟨i,A,rfl,hi,rfl,rfl,hM,hI2,hA,hC2⟩ J2 hJ2;refine qR [] 5 [] λσ16 g16 w16 c16=>?_;by_cases h3:i<j
    .refine qI ((decide ((i:Int)<(j:Int)))) true (I' (by omega)) ?_;rw[<- hL0,YB h3,hL0,l9]at hI2
     have hlk:LacOk (F i):=hok i h3;refine qR [] 5 [] λσ17 g17 w17 c17=>?_;obtain⟨b,off,xa,xm,xp,hla,hbs,hrg,hsl⟩:=h.spot i h3;refine qV 0 (pt b (off+5*i)) (bX hla (n:=j) (c:=lc) i h3) ?_;refine qV 1 (.agg #[iv (F i).k,iv (F i).n,iv (F i).a,iv (F i).p,.slice xa xm xp]) (fS (x:=F i) (y:=.slice xa xm xp) (λq u hq=>(((Cg.below (((hC2).n c16).n c17) (λ_ _=>Ms))).cell (p:=⟨b,off+5*i+q,none⟩) hbs).trans (hrg q u hq))) ?_;refine qR [] 6 [0,0,1,0,1] λσ19 g19 w19 c19=>?_;refine Ag λK=>?_;have NM:MS mb tb' ob nb g19 w19 A:=(hM.ch0 ((c16.trans c17).trans c19) K.new);have bbl:=(Cg.below ((((hC2).n c16).n c17).n c19) (λ_ _=>Ms));refine qG 2 TM [true,true] (di NM ((Base.self w).ch ((((hC2).n c16).n c17).n c19) eU) hT (F i) ⟨xa,xm,xp⟩ (hsl.below bbl) hlk hA (by omega)) ?_;rintro e' w20 ⟨g20,rfl,M20,c20⟩;refine⟨_,g20,rfl,c20,M20.new,?_⟩;replace c20:=c20.ret (B:=w.heap.size);refine qR [] 3 [] λσ21 g21 w21 c21=>?_;refine qV 0 (iv ((i:Int)+1)) (AV (x:=(.tmp 30)) (y:=(.const (iv 1))) (i:Int) 1 underlying3 (by omega)) ?_;refine qR [] 2 [] λσ22 g22 w22 c22=>?_;exact qB [true,false] λz K0 K=>hJ2 (j-(i+1)) _ _ _ z _ (by omega) ⟨i+1,A.act (F i),rfl,by omega,rfl,rfl,(M20.ch0 (c21.trans c22) K0.new),hI2,hA.act (by omega) hlk,(((((((hC2).n c16).n c17).n c19).trans (c20.mono eQ)).n c21).n c22)⟩ K
    .refine qI ((decide ((i:Int)<(j:Int)))) false (D' (by omega)) ?_;obtain rfl:i=j:=by omega
     rw[i8 (by omega)]at hI2
     replace hI2:A=Bl.acts L0:=hI2;subst hI2;refine qR [] 4 [] λσ23 g23 w23 c23=>?_;refine Ag λK=>?_;have NM:MS mb tb' ob nb g23 w23 (Bl.acts L0):=(hM.ch0 (c16.trans c23) K.new);have hwt:=hA.wt;have htl:=hA.told;have hGo:∀ b,w23.heap.size<=b->g23.t b=.z:=λb hb=>(K.new b hb).1;have bb24:=(Cg.below (((hC2).n c16).n c23) (λ_ _=>Ms));refine qC 1 (Py NM (λq hq=>⟨(hA.node q hq).dn,(hA.node q hq).ag⟩) (by omega) (by omega)) ?_;rintro e' w24 ⟨ly,tv,ys,rfl,hOW,hON,b24⟩;refine⟨_,rfl,b24,?_⟩;have c24:=Cg.ofBelow (B:=w.heap.size) (T:=[]) (g:=g23) b24;refine qR [] 3 [0,0] λσ25 g25 w25 c25=>?_;exact qE2 2 3 34 0 (σ1 0) (KQ (Bl.acts L0) ly tv) (iv 0) λK=>⟨(Cg.below (((((hC2).n c16).n c23).n c24).n c25) (λ_ _=>Ms)),ly,tv,ys,rfl,(hOW.ch hON hGo c25),hON.mono bb24.size⟩
theorem tbA(h:Tabs w0)(C:Cg w0.heap.size TQ gS w0 g w):Tabs w:=⟨h.t.below (CgQ.below C),h.n.below (CgQ.below C),h.q.below h.q.pos (CgQ.below C)⟩
def Tw(w:World):Prop:=Tabs w/\LWTab w/\LBTab w
theorem tb5(h:Tw w0)(C:Cg w0.heap.size TQ gS w0 g w):Tw w:=⟨tbA h.1 C,h.2.1.below (CgQ.below C),h.2.2.below (CgQ.below C)⟩
theorem NE{l:List Int}(h:Sl w y.v l)(n:Nb B y l)(G:∀ b,B<=b->g.t b=.z):FSl g w y l:=⟨h,λhl a ha=>G _ (n hl a ha)⟩
structure OwN(B:Nat)(w:World)(e:TypeId)(sz:Nat)(x:S3)(xs:List Value):Prop where
 len:xs.length=x.n*sz
 ex:(x.a=none/\x.n=0/\x.c=0)\/∃ b cur,B<=b/\x.a=some ⟨b,0,none⟩/\w.heap[b]?=some (.cells cur e (0,0))/\x.n<=x.c/\x.c<=maxLen/\cur.size=x.c*sz/\cur.toList.take (x.n*sz)=xs
theorem OwnS.own{kp:Bool}(h:OwnS g w (.n 60 r) kp e sz x xs)(C:Cg w0.heap.size TQ gS w0 g w):OwN w0.heap.size w e sz x xs:=by
 refine⟨h.len,h.ex.imp id λ⟨b,cur,h1,h2,h3,h4,h5,h6,h7,h8⟩=>⟨b,cur,?_,h1,h2,h3,h4,h5,h6⟩⟩;refine lS λhb=>?_;have:=C.tag hb (λ_=>hb);rw[h7]at this
 cases this
theorem OwN.rv(h:OwN B w e sz x xs):RdV w x sz xs:=by
 rcases h.ex with⟨h1,h2,h3⟩|⟨b,cur,h0,h1,h2,h3,h4,h5,h6⟩
 .exact⟨h.len,by omega,λ_=>h3,.inl h2⟩
 .refine⟨h.len,h3,λh=>(by rw[h1]at h;cases h),.inr ⟨b,0,h1,rl h2,λj u hj=>?_⟩⟩;rw[iX,cell_of_row _ _ _ _ _ _ h2];rw[<- h6,jr]at hj
  split at hj
  .simpa using hj
  .cases hj
theorem OwN.fz(h:OwN B w e sz x xs)(G:∀ b,B<=b->g.t b=.z):FzV g w x sz xs :=
 ⟨h.rv,λ_ a ha=>by
  rcases h.ex with⟨h1,h2,h3⟩|⟨b,cur,h0,h1,_⟩
  .rw[h1]at ha;cases ha
  .rw[h1]at ha;cases ha;exact G _ h0⟩
theorem RdV.fz(h:RdV w x sz xs):FzV gS w x sz xs:=⟨h,λ_ _ _=>rfl⟩
theorem RdV.spot(h:RdV w x sz xs)(hi:i<x.n):∃ b off,x.a=some ⟨b,off,none⟩/\b<w.heap.size/\∀ j u,xs[sz*i+j]?=some u->w.cell? ⟨b,off+sz*i+j,none⟩=some u:=by
 rcases h.ex with h1|⟨b,off,h1,h2,h3⟩
 .omega
 .exact⟨b,off,h1,h2,λj u hj=>by rw[jn];exact h3 _ u hj⟩
theorem Nt{f:α->List Value}(hf:∀ a,(f a).length=sz)(l:List α){a:α}{u:Value}(ha:l[i]?=some a)(hu:(f a)[j]?=some u):(l.flatMap f)[sz*i+j]?=some u:=by
 have hj:j<sz:=by rw[<- hf a];exact(P'.1 hu).1
 induction l generalizing i with
 | nil=>cases ha
 | cons c l ih =>
  rw[jY];cases i with
  | zero =>
   simp only[jy,Y']at ha;subst ha;rw[iE (by rw[hf];omega),Nat.mul_zero,iX];exact hu
  | succ i =>
   rw[iH (by rw[hf,Nat.mul_succ];omega),hf,show sz*(i+1)+j-sz=sz*i+j by rw[Nat.mul_succ];omega];exact ih (by simpa using ha)
theorem F5{f:α->List Value}(hf:∀ a,(f a).length=sz)(l:List α):(l.flatMap f).length=l.length*sz:=by
 induction l with
 | nil=>simp
 | cons c l ih=>rw[jY,M',hf,ih,iW,kN];omega
theorem fh{l:List Cmd}(h:RdV w x 5 (cmL l)):x.n=l.length:=h.rc.len
def grV(g:Gr):List Value:=[iv g.k,iv g.a,iv g.b,iv g.c,iv g.d]
def grL(l:List Gr):List Value:=l.flatMap grV
structure GrOk(g:Gr):Prop where
 k:I64 g.k
 a:I64 g.a
 b:I64 g.b
 c:I64 g.c
 d:I64 g.d
theorem ia(g:Gr)(h:∀ j u,(grV g)[j]?=some u->W.cell? ⟨b,k+j,none⟩=some u):(Instr.loadAt 43 (pt b k)).run prog W=.ok (.agg #[iv g.k,iv g.a,iv g.b,iv g.c,iv g.d]) W:=by
 have h1:=run_loadVar_mid (P:=prog) W b k 43 (grV g) _ h underlying43 rfl (by kernel_rfl);simp only[Instr.loadAt,Instr.sureAddr,Sem.run_bind,Sem.run_pure,Result.andThen_ok];exact h1
theorem fR(ha:x.a=some ⟨b,off,none⟩)(j:Nat)(hj:j<x.n):(Instr.indexAt 22 x.v (iv (j:Int))).run prog W=.ok (pt b (off+5*j)) W:=by
 obtain⟨xa,xn,xc⟩:=x;simp only at ha hj;subst ha;exact P9 (P:=prog) (e:=43) (z:=5) underlying22 (by kernel_rfl) (by kernel_rfl) hj _ rfl
def acV(l:List (Lac × S3)):List Value:=l.flatMap λp=>laV p.1 p.2.v
theorem Ev(l:List (Lac × S3))(x:Lac)(y:S3):acV (l++[(x,y)])=acV l++laV x y.v:=by simp[acV]
theorem Y9(l m:List (Lac × S3)):acV (l++m)=acV l++acV m:=by simp[acV]
theorem So(l:List (Lac × S3)):(acV l).length=l.length*5:=F5 (f:=λp:Lac × S3=>laV p.1 p.2.v) (λ_=>rfl) l
theorem Sp(l:List (Lac × S3)):∀ u∈acV l,u.oneCell'=true:=by
 intro u hu;obtain⟨p,_,hp⟩:=kq.1 hu;simp[laV]at hp
 rcases hp with rfl|rfl|rfl|rfl|rfl<;>rfl
def Dat(g:Gh)(w:World)(l:List (Lac × S3)):Prop:=∀ p∈l,FSl g w p.2 p.1.d
theorem Dat.ch(h:Dat g w l)(c:Cg B T g w g' w')(hz:Tg.z∉T:=by simp):Dat g' w' l:=λp hp=>(h p hp).ch c hz
theorem Dat.snoc(h:Dat g w l){x:Lac}(k:FSl g w y x.d):Dat g w (l++[(x,y)]):=λp hp=>(V'.1 hp).elim (h p) λe=>by rw[N'.1 e];exact k
theorem Dat.app{m:List (Lac × S3)}(h:Dat g w l)(k:Dat g w m):Dat g w (l++m):=λp hp=>(V'.1 hp).elim (h p) (k p)
theorem QP(g:Gh)(w:World):FSl g w s30 []:=⟨⟨⟨none,0,rfl,A' _,λ_=>rfl,.inl rfl⟩,by simp,by simp⟩,λh=>absurd rfl h⟩
def Fa.ac(x:S3)(l:List (Lac × S3)):Fa:=⟨none,λg w=>FzV g w x 5 (acV l)/\Dat g w l,λhz _ c h=>⟨h.1.ch c hz,h.2.ch c hz⟩⟩
def Fa.oa(r:Nat)(x:S3)(l:List (Lac × S3)):Fa:=⟨some r,λg w=>OwnS g w (.n 60 r) true 26 5 x (acV l)/\Dat g w l,λhz hr c h=>⟨h.1.ch c (hr r rfl) (by simp),h.2.ch c hz⟩⟩
def Fa.dt(l:List (Lac × S3)):Fa:=⟨none,λg w=>Dat g w l,λhz _ c h=>h.ch c hz⟩
structure AcR(w:World)(x:S3)(L:List Lac)(l:List (Lac × S3)):Prop where
 e:l.map (·.1)=L
 r:RdV w x 5 (acV l)
 d:∀ p∈l,Sl w p.2.v p.1.d
theorem AcR.of(h:(Fa.ac x l).p g w)(e:l.map (·.1)=L):AcR w x L l:=⟨e,h.1.rd,λp hp=>(h.2 p hp).s⟩
theorem AcR.oo(h:(Fa.oa r x l).p g w)(e:l.map (·.1)=L):AcR w x L l:=⟨e,h.1.rv,λp hp=>(h.2 p hp).s⟩
theorem AcR.below(h:AcR w x L l)(b:Bw w w'):AcR w' x L l:=⟨h.e,h.r.below b,λp hp=>(h.d p hp).below b⟩
theorem AcR.n(h:AcR w x L l):x.n=L.length:=by
 have:=h.r.len;rw[So]at this
 rw[<- h.e,iO];omega
theorem AcR.sk(h:AcR w x L l)(hl:L.length<=1000000):Sk w x.v (laF L) L.length:=by
 have hn:=h.n;refine⟨⟨x.a,x.c,by rw[<- hn],?_⟩,by omega⟩;rcases h.r.ex with h1|⟨b,off,h1,h2,h3⟩
 .exact .inl (by omega)
 .refine .inr ⟨b,off,h1,h2,λi hi=>?_⟩;have hil:i<l.length:=by rw[<- h.e,iO]at hi;exact hi
  refine⟨l[i].2.v,λj u hj=>?_,?_⟩
  .rw[jn];refine h3 _ u (Nt (f:=λp:Lac × S3=>laV p.1 p.2.v) (λ_=>rfl) l (E' hil) ?_);have:laF L i=l[i].1:=by rw[NA hi];simp[<- h.e]
   rw[this]at hj;exact hj
  .have:laF L i=l[i].1:=by rw[NA hi];simp[<- h.e]
   rw[this];exact h.d _ (jc hil)
structure AcN(B:Nat)(w:World)(x:S3)(l:List (Lac × S3)):Prop where
 o:OwN B w 26 5 x (acV l)
 d:∀ p∈l,Sl w p.2.v p.1.d/\Nb B p.2 p.1.d
 ne:∀ p∈l,p.1.d≠[]->∀ a b,p.2.a=some a->x.a=some b->a.block≠b.block
theorem AcN.ac(h:AcN B w x l)(G:∀ b,B<=b->g.t b=.z):(Fa.ac x l).p g w:=⟨h.o.fz G,λp hp=>NE (h.d p hp).1 (h.d p hp).2 G⟩
theorem AcN.of(h:(Fa.oa r x l).p g w)(C:Cg w0.heap.size TQ gS w0 g w)(hn:∀ p∈l,Nb w0.heap.size p.2 p.1.d):AcN w0.heap.size w x l :=
 ⟨h.1.own C,λp hp=>⟨(h.2 p hp).s,hn p hp⟩,λp hp hd a b ha hb e=>by
  have h1:=(h.2 p hp).z hd a ha;rcases h.1.ex with⟨k1,_⟩|⟨c,cur,k1,_,_,_,_,_,k7,_⟩
  .rw[k1]at hb;cases hb
  .rw[k1]at hb;cases hb
   rw[e,k7]at h1;cases h1⟩
theorem Vu(L:List Lac):Ir (laF L) L.length=L:=by
 apply ko
 .simp[Ir]
 .intro i h1 h2;simp[Ir,NA h2]
def Meet.log(M:Meet)(j:Nat):List Cmd:=(M.node j).agreed.take (M.node j).done
structure OutF(g:Gh)(w:World)(ly tv:S3)(ys:Nat->S3)(M:Meet):Prop where
 logs:FzV g w ly 1 [S3.v (ys 0),S3.v (ys 1),S3.v (ys 2),S3.v (ys 3),S3.v (ys 4)]
 log:∀ j,j<5->FzV g w (ys j) 5 (cmL (M.log j))
 told:FzV g w tv 5 (M.told.flatMap FM)
theorem OutF.ch(h:OutF g w ly tv ys M)(c:Cg B T g w g' w')(hz:Tg.z∉T:=by simp):OutF g' w' ly tv ys M:=⟨h.logs.ch c hz,λj hj=>(h.log j hj).ch c hz,h.told.ch c hz⟩
def Fa.ot(ly tv:S3)(ys:Nat->S3)(M:Meet):Fa:=⟨none,λg w=>OutF g w ly tv ys M,λhz _ c h=>h.ch c hz⟩
theorem ST(h:OutW w M ly tv ys)(n:OutN B M ly tv ys)(G:∀ b,B<=b->g.t b=.z):OutF g w ly tv ys M :=
 ⟨⟨h.logs,λ_ a ha=>G _ (n.logs a ha)⟩,λj hj=>⟨(h.log j hj).rv,λhv a ha=>G _ (n.log j hj hv a ha)⟩,⟨h.told,λhv a ha=>G _ (n.told hv a ha)⟩⟩
theorem OutW.n5(h:OutW w M ly tv ys):ly.n=5:=by have:=h.logs.len;simp at this;omega
end
section
variable{P:Program}{fn:Func}{R:Ending->World->Prop}{w0:World}{Φ:List Fa}{g:Gh}{w:World}
theorem dS{P:Program}{W:World}(t ty e:TypeId)(i:TypeInfo)(ht:P.underlying t=some (.slice e))(hi:P.info? e=some i)(y:S3)(hy:y.n=0):(Builtin.append_ #[t,t] ty #[s30.v,y.v]).run P W=.ok s30.v W:=by
 obtain⟨ya,yn,yc⟩:=y;simp only at hy;subst hy;show(Builtin.append_ #[t,t] ty #[.slice none 0 0,.slice ya 0 yc]).run P W=.ok (.slice none 0 0) W;cases ya with
 | none=>simp[Builtin.append_,run_underlying ht,sizeOf,typeInfo,hi,Builtin.lenOf,run_firstCells_none]
 | some a =>
  have hf:=run_firstCells_some (P:=P) W i.size 0 a 0 yc [] (by simp) (by simp);simp[Builtin.append_,run_underlying ht,sizeOf,typeInfo,hi,Builtin.lenOf,run_firstCells_none,hf]
theorem gt{s:Xs}(i:Nat)(r:Nat)(y:S3)(news:List Value)(t ty e:TypeId)(sz bytes:Nat)(z:Value)(hy:AllF g w Φ->RdV w y sz news)(Ψ:List Fa)(hΨ:AllF g w Φ->AllF g w Ψ)(hro:Ψ.all (λf=>f.ro != some r)=true)(hrT:Tg.n 60 r∈TQ)
  (h1:∀ u∈news,u.oneCell'=true)(h63:y.n<=maxLen)(hbytes:y.n*bytes<=140737488355328)
  (hk:∀ x' g' w',x'.n=y.n->GT P fn R w0 (Fa.ow r e sz x' news::Ψ) (nxt s i (S3.v x') s.L).s g' w')(hsz:0<sz:=by decide)
  (ht:P.underlying t=some (.slice e):=by kernel_rfl)(hinfo:(P.info? e).map (λi=>(i.zero,i.size,i.bytes))=some (some z,sz,bytes):=by kernel_rfl)(hzs:Nat.beq z.cells.size sz=true:=by kernel_rfl)
  (hsem:CU s i=some (Builtin.append_ #[t,t] ty #[s30.v,y.v]>>=λv=>pure (.value v)):=by kernel_rfl)(hob:(nxt s i undef s.L).o.map Ob.l'=(nxt s i undef s.L).o.map Ob.r':=by kernel_rfl)(hT:s.L.all (λy=>[Tg.n 60 r].all λt=>y.t.ne t)=true:=by kernel_rfl):GT P fn R w0 Φ s g w:=by
 refine tF λF C=>?_;have hR:=hy F;by_cases h0:y.n=0
 .obtain⟨inf,hi⟩:∃ inf,P.info? e=some inf:=by cases hh:P.info? e with|none=>rw[hh]at hinfo;cases hinfo|some j=>exact⟨j,rfl⟩
  obtain rfl:news=[]:=iz (by rw[hR.len,h0,lH]);refine tV i s30.v (λ_ _=>dS t ty e inf ht hi y h0) ?_ hsem hob;exact tCv (Fa.ow r e sz s30 []::Ψ) (λF=>⟨OwnS.nil _ _ _ _ _ _,hΨ F⟩) (hk s30 g w h0.symm)
 .obtain⟨b,off,ha,_,_⟩:=hR.spot (i:=0) (by omega);obtain⟨ya,m,c⟩:=y;simp only at ha h0 h63 hbytes hk hsem hR;subst ha;refine Oa i r (x:=s30) (xs:=[]) t ty e sz bytes z ⟨b,off,none⟩ m c news (λ_=>OwnS.nil _ _ _ _ _ _) Ψ hΨ hro hrT hR.len h1 (λF _ j u hj=>?_) (by show 0+m<=_;omega) (by show(0+m)*bytes<=_;rw[iX];exact hbytes) (λx' g' w' hn=>?_) (Nat.pos_of_ne_zero h0) hsz ht hinfo hzs hsem hob hT
  .rcases(hy F).ex with h2|⟨b2,off2,k1,k2,k3⟩
   .exact absurd h2 h0
   .cases k1;have:(⟨b,off,none⟩:Addr).add j=⟨b,off+j,none⟩:=by unfold Addr.add;split<;>simp_all
    rw[this];exact k3 j u hj
  .rw[jL];exact hk x' g' w' (by rw[hn];show 0+m=m;omega)
end
section
variable{n tc tr tu k c s m v:Int}(h:paE n tc tr tu k c s m v=0)
include h
end
section
theorem KS{n tc tr tu k c s m v:Int}(h:paE n tc tr tu k c s m v=0):(paL n tc tr tu k c s m v).length=63:=by
 rw[Xv h,iW,FG,GP]
variable{G:List Gr}{L:List Lac}{M:Meet}{W w:World}{a:List Cmd}{b i j off:Nat}{cr:Bool}{g:Gh}{l:List (Lac × S3)}{ly x:S3}{ys:Nat->S3}
theorem ij(x:S3)(k:Nat)(hk:k<=x.c)(ha:∃ b off,x.a=some ⟨b,off,none⟩):(Instr.sliceAt 24 x.v none (some (iv (k:Int))) none).run prog W=.ok (S3.v ⟨x.a,k,x.c⟩) W:=by
 obtain⟨b,off,ha⟩:=ha;obtain⟨xa,xn,xc⟩:=x;simp only at ha hk;subst ha;have e:prog.elem 24=5:=by kernel_rfl
 rw[run_sliceAt_slice _ _ _ _ _ _ aY,run_slice_h (P:=prog) (w:=W) _ _ _ _ aY .i64 k (by omega) (by show(k:Int)<=((xc:Nat):Int);omega),e,GW];simp[Result.andThen,sliced,Addr.add]
theorem FSl.take{l:List Int}(h:FSl g w x l)(k:Nat)(hk:k<=l.length):FSl g w ⟨x.a,k,x.c⟩ (l.take k):=by
 have hn:=IF h.s;obtain⟨⟨⟨a,cap,hv,hc,hn,h1⟩,h2,h3⟩,h4⟩:=h;simp only[Value.slice.injEq]at hv;obtain⟨rfl,hxn,rfl⟩:=hv;refine⟨⟨⟨_,_,by simp only[Value.slice.injEq,and_true,true_and,X'];omega,by rw[X'];omega,hn,?_⟩,by rw[X'];omega,λz hz=>h3 z (iM hz)⟩,λhl=>h4 λe=>hl (by rw[e];simp)⟩;rcases h1 with h1|⟨b,off,ha,hbs,hcell⟩
 .exact .inl (by rw[h1];simp)
 .refine .inr ⟨b,off,ha,hbs,λi hi=>?_⟩;rw[X']at hi
  rw[show(l.take k).getD i 0=l.getD i 0 by simp[List.getD,show i<k by omega]];exact hcell i (by omega)
theorem FSl.addr{l:List Int}(h:FSl g w x l)(hl:l≠[]):(∃ b off,x.a=some ⟨b,off,none⟩)/\l.length<=x.c:=by
 obtain⟨⟨⟨a,cap,hv,hc,hn,h1⟩,h2,h3⟩,h4⟩:=h;simp only[Value.slice.injEq]at hv;obtain⟨rfl,hxn,rfl⟩:=hv;rcases h1 with h1|⟨b,off,ha,_⟩
 .exact absurd h1 hl
 .exact⟨⟨b,off,ha⟩,hc⟩
theorem U6{g:Gr}(h:GrOk g)(hT:Tabs w) :
  Calls prog 12 #[.agg #[iv g.k,iv g.a,iv g.b,iv g.c,iv g.d]] w λe w'=>∃ y:S3,e=.returned y.v/\Sl w' y.v (pkB g)/\Nb w.heap.size y (pkB g)/\Bw w w':=by
 have hl:(pkP g).length=63:=KS (X1 g);have r4:=AT g.c 4 (by omega);refine tIn [] func12 trivial ?_;refine tR 18 [0,0,0,0,0,0,0] λσ1 _ _=>?_;refine tC 11 (λF C=>Qj h.b h.c h.d h.a h.d) λNz=>?_;rintro _ _ ⟨rfl,b2⟩;refine⟨_,_,rfl,b2,id,?_⟩;refine tR 16 [0,0,1,0,1,1,0,2,0,0] λσ3 _ _=>?_;refine tC 2 (λF C=>BP h.d 17) λNz=>?_;rintro _ _ ⟨rfl,b4⟩;refine⟨_,_,rfl,b4,id,?_⟩;refine tR 1 [] λσ5 _ _=>?_;refine PS 56 (λee LL ΦΦ=>∃ (tc tr:Int),ee=[(1,pt (σ1 0) 0),(3,pt (σ3 0) 0),(4,pt (σ3 1) 0)]/\LL=[⟨(σ1 0),.cells #[iv g.k,iv g.a,iv g.b,iv g.c,iv g.d] 43,.z,false⟩,⟨(σ3 0),.cells #[iv (wK g.b),iv (pick g.c 4),iv (pick g.d 6),iv (pick g.a 4),iv (wV g.b g.d)] 48,.z,false⟩,⟨(σ3 1),.cells #[iv tc,iv tr,iv 60] 58,.l,false⟩]/\ΦΦ=[]/\tc=pkT g/\tr=pkR g) (λJ hJ=>?_) ?_
 .refine tR 6 [] λσ6 _ _=>?_;by_cases h1:pick g.d 17=15
  .refine tI (((pick g.d 17)==15)) true (by simpa using h1) ?_;refine tR 5 [2,0] λσ7 _ _=>?_;exact tD hJ [true,true,true] ⟨pick g.c 4,0,rfl,rfl,rfl,(if_neg (by omega)).symm,(if_pos h1).symm⟩ (λF=>trivial)
  .refine tI (((pick g.d 17)==15)) false (by simpa using h1) ?_;refine tR 5 [] λσ8 _ _=>?_;by_cases h2:pick g.d 17=16
   .refine tI (((pick g.d 17)==16)) true (by simpa using h2) ?_;refine tR 3 [2] λσ9 _ _=>?_;refine tV 2 (iv (pick g.c 4+1)) (λF C=>(AV (x:=(.tmp 31)) (y:=(.const (iv 1))) (pick g.c 4) 1 underlying3 (by omega))) ?_;refine tV 3 (iv ((pick g.c 4+1)%4)) (λF C=>(XA (x:=(.tmp 32)) (y:=(.const (iv 4))) (pick g.c 4+1) 4 underlying3 (by omega) (by omega) (by decide) (by decide))) ?_;refine tR 4 [2,0] λσ11 _ _=>?_;exact tD hJ [true,true,true] ⟨(pick g.c 4+1)%4,7,rfl,rfl,rfl,(if_pos h2).symm,(if_neg h1).symm⟩ (λF=>trivial)
   .refine tI (((pick g.d 17)==16)) false (by simpa using h2) ?_;refine tR 2 [] λσ12 _ _=>?_;exact tD hJ [true,true,true] ⟨pick g.c 4,7,rfl,rfl,rfl,(if_neg h2).symm,(if_neg h1).symm⟩ (λF=>trivial)
 rintro _ _ _ ⟨tc,tr,rfl,rfl,rfl,htc,htr⟩ _ _ _;refine tR 6 [11,0,2,0,6,2,8,1] λσ13 _ _=>?_;refine tC 2 (λF C=>BP h.a 1000) λNz=>?_;rintro _ _ ⟨rfl,b14⟩;refine⟨_,_,rfl,b14,id,?_⟩;refine tF λ_ Cs=>?_;have hs16:=Cs.size;have hE:=X1 g;rw[<- htc,<- htr]at hE
 have hP:pkP g=paL (pick g.a 1000) tc tr 60 (wK g.b) (pick g.c 4) (pick g.d 6) (pick g.a 4) (wV g.b g.d):=by rw[htc,htr];rfl
 refine tC 5 (λF C=>ZY hE (tbA hT C)) λNz=>?_;rintro _ _ ⟨y,rfl,hy,hn,b17⟩;refine⟨_,Fa.sl y (pkP g)::_,rfl,b17,λF=>⟨(by rw[hP];exact NE hy hn Nz),F⟩,?_⟩;rw[<- hP]at hy hn
 have hyn:=IF hy;refine tR 11 [12,14,16,18,20,0] λσ18 _ _=>?_;refine tC 2 (λF C=>BP h.d 23) λNz=>?_;rintro _ _ ⟨rfl,b19⟩;refine⟨_,_,rfl,b19,id,?_⟩;by_cases h1:pick g.d 23=22
 .refine tV 3 (.bool true) (λF C=>(Fq (t:=3) (m:=pick g.d 23) (n:=22) (x:=(.tmp 46)) (y:=(.const (iv 22))) (by simpa using h1))) ?_;refine tR 6 [] λσ21 _ _=>?_;refine tI ((decide (30<(y.n:Int)))) true (I' (by omega)) ?_;refine tR 2 [] λσ22 _ _=>?_;refine tF λF _=>?_;have hya:=FSl.addr F.1 (λe=>by rw[e]at hl;cases hl);refine tV 1 (S3.v ⟨y.a,30,y.c⟩) (λF C=>(ij y 30 (by omega) hya.1)) ?_;refine tR 7 [] λσ23 _ _=>?_;rw[show pkB g=_ from if_pos ⟨h1,by omega⟩];exact tE (S3.v ⟨y.a,30,y.c⟩) λF B=>⟨⟨y.a,30,y.c⟩,rfl,(F.1.take 30 (by omega)).s,λ_ a ha=>hn.mono hs16 (λe=>by rw[e]at hl;cases hl) a ha,B⟩
 .refine tV 3 (.bool false) (λF C=>(Fq (t:=3) (m:=pick g.d 23) (n:=22) (x:=(.tmp 46)) (y:=(.const (iv 22))) (by simpa using h1))) ?_;refine tR 13 [] λσ24 _ _=>?_;rw[show pkB g=_ from if_neg (λe=>h1 e.1)];exact tE (S3.v y) λF B=>⟨y,rfl,F.1.s,hn.mono hs16,B⟩
theorem cE{g:Gr}(h:GrOk g)(hT:Tabs w){x:Lac}(hx:Nu g cr=x) :
  Calls prog 10 #[.agg #[iv g.k,iv g.a,iv g.b,iv g.c,iv g.d],.bool cr] w λe w'=>∃ y:S3,e=.returned (.agg #[iv x.k,iv x.n,iv x.a,iv x.p,y.v])/\Sl w' y.v x.d/\Nb w.heap.size y x.d/\Bw w w':=by
 refine tIn [] func10 trivial ?_;refine tR 9 [0,0,1,0,0] λσ1 _ _=>?_;refine tC 2 (λF C=>BP h.a 5) λNz=>?_;rintro _ _ ⟨rfl,b2⟩;refine⟨_,_,rfl,b2,id,?_⟩;refine tR 7 [0] λσ3 _ _=>?_;refine tC 2 (λF C=>BP h.k 24) λNz=>?_;rintro _ _ ⟨rfl,b4⟩;refine⟨_,_,rfl,b4,id,?_⟩;unfold Nu at hx;refine tR 9 [] λσ5 _ _=>?_;by_cases h1:pick g.k 24<3
 .refine tI ((decide ((pick g.k 24)<3))) true (by simpa using h1) ?_;rw[if_pos h1]at hx
  refine tR 4 [0] λσ6 _ _=>?_;refine tF λ_ Cs=>?_;have hs7:=Cs.size;refine tC 2 (λF C=>U6 h (tbA hT C)) λNz=>?_;rintro _ _ ⟨y,rfl,hy,hn,b8⟩;refine⟨_,Fa.sl y (pkB g)::_,rfl,b8,λF=>⟨NE hy hn Nz,F⟩,?_⟩;refine tR 3 [1,0] λσ9 _ _=>?_;subst hx;exact tX λF C=>qE1 4 26 1 (σ1 1) #[iv 1,iv (pick g.a 5),iv 0,iv 0,S3.v y] λ_=>⟨y,rfl,F.1.s,hn.mono hs7,CgQ.below C⟩
 .refine tI ((decide ((pick g.k 24)<3))) false (by simpa using h1) ?_;rw[if_neg h1]at hx
  refine tR 6 [] λσ10 _ _=>?_;by_cases h1:pick g.k 24<5
  .refine tI ((decide ((pick g.k 24)<5))) true (by simpa using h1) ?_;rw[if_pos h1]at hx
   refine tR 6 [1,0] λσ11 _ _=>?_;subst hx;exact tX λF C=>qE1 4 26 1 (σ1 1) #[iv 2,iv (pick g.a 5),iv 0,iv 0,S3.v s30] λ_=>⟨s30,rfl,DS _,λe=>absurd rfl e,CgQ.below C⟩
  .refine tI ((decide ((pick g.k 24)<5))) false (by simpa using h1) ?_;rw[if_neg h1]at hx
   refine tR 6 [] λσ12 _ _=>?_;by_cases h1:pick g.k 24<14
   .refine tI ((decide ((pick g.k 24)<14))) true (by simpa using h1) ?_;rw[if_pos h1]at hx
    refine tR 6 [1,0] λσ13 _ _=>?_;subst hx;exact tX λF C=>qE1 4 26 1 (σ1 1) #[iv 3,iv (pick g.a 5),iv 0,iv 0,S3.v s30] λ_=>⟨s30,rfl,DS _,λe=>absurd rfl e,CgQ.below C⟩
   .refine tI ((decide ((pick g.k 24)<14))) false (by simpa using h1) ?_;rw[if_neg h1]at hx
    refine tR 6 [] λσ14 _ _=>?_;by_cases h1:pick g.k 24=14
    .refine tI (((pick g.k 24)==14)) true (by simpa using h1) ?_;rw[if_pos h1]at hx
     refine tR 4 [0] λσ15 _ _=>?_;refine tC 2 (λF C=>BP h.c 20) λNz=>?_;rintro _ _ ⟨rfl,b16⟩;refine⟨_,_,rfl,b16,id,?_⟩;refine tR 3 [1,0] λσ17 _ _=>?_;subst hx;exact tX λF C=>qE1 4 26 1 (σ1 1) #[iv 4,iv 0,iv (pick g.c 20),iv 0,S3.v s30] λ_=>⟨s30,rfl,DS _,λe=>absurd rfl e,CgQ.below C⟩
    .refine tI (((pick g.k 24)==14)) false (by simpa using h1) ?_;rw[if_neg h1]at hx
     refine tR 6 [] λσ18 _ _=>?_;by_cases h1:pick g.k 24=15
     .refine tI (((pick g.k 24)==15)) true (by simpa using h1) ?_;rw[if_pos h1]at hx
      refine tR 4 [0] λσ19 _ _=>?_;refine tC 2 (λF C=>BP h.c 20) λNz=>?_;rintro _ _ ⟨rfl,b20⟩;refine⟨_,_,rfl,b20,id,?_⟩;refine tR 3 [1,0] λσ21 _ _=>?_;subst hx;exact tX λF C=>qE1 4 26 1 (σ1 1) #[iv 5,iv 0,iv (pick g.c 20),iv 0,S3.v s30] λ_=>⟨s30,rfl,DS _,λe=>absurd rfl e,CgQ.below C⟩
     .refine tI (((pick g.k 24)==15)) false (by simpa using h1) ?_;rw[if_neg h1]at hx
      refine tR 6 [] λσ22 _ _=>?_;by_cases h1:pick g.k 24=16
      .refine tI (((pick g.k 24)==16)) true (by simpa using h1) ?_;rw[if_pos h1]at hx
       refine tR 4 [0] λσ23 _ _=>?_;refine tC 2 (λF C=>BP h.c 20) λNz=>?_;rintro _ _ ⟨rfl,b24⟩;refine⟨_,_,rfl,b24,id,?_⟩;refine tR 3 [1,0] λσ25 _ _=>?_;subst hx;exact tX λF C=>qE1 4 26 1 (σ1 1) #[iv 6,iv 0,iv (pick g.c 20),iv 0,S3.v s30] λ_=>⟨s30,rfl,DS _,λe=>absurd rfl e,CgQ.below C⟩
      .refine tI (((pick g.k 24)==16)) false (by simpa using h1) ?_;rw[if_neg h1]at hx
       refine tR 3 [] λσ26 _ _=>?_;by_cases h1:pick g.k 24=17
       .refine tV 1 (.bool true) (λF C=>(Fq (t:=3) (m:=pick g.k 24) (n:=17) (x:=(.tmp 52)) (y:=(.const (iv 17))) (by simpa using h1))) ?_;refine tR 5 [] λσ27 _ _=>?_;by_cases h2:cr=true
        .refine tI (cr) true h2 ?_;rw[if_pos ⟨h1,h2⟩]at hx
         refine tR 5 [0] λσ28 _ _=>?_;refine tC 3 (λF C=>BP h.c 90) λNz=>?_;rintro _ _ ⟨rfl,b29⟩;refine⟨_,_,rfl,b29,id,?_⟩;refine tR 3 [1,0] λσ30 _ _=>?_;subst hx;exact tX λF C=>qE1 4 26 1 (σ1 1) #[iv 8,iv (pick g.a 5),iv 0,iv (pick g.c 90),S3.v s30] λ_=>⟨s30,rfl,DS _,λe=>absurd rfl e,CgQ.below C⟩
        .refine tI (cr) false (by simpa using h2) ?_;rw[if_neg (λe=>h2 e.2)]at hx
         refine tR 3 [] λσ31 _ _=>?_;by_cases h1:pick g.k 24=18
         .refine tV 1 (.bool true) (λF C=>(Fq (t:=3) (m:=pick g.k 24) (n:=18) (x:=(.tmp 63)) (y:=(.const (iv 18))) (by simpa using h1))) ?_;refine tR 5 [] λσ32 _ _=>?_;by_cases h2:cr=true
          .refine tI (cr) true h2 ?_;rw[if_pos ⟨h1,h2⟩]at hx
           refine tR 6 [1,0] λσ33 _ _=>?_;subst hx;exact tX λF C=>qE1 4 26 1 (σ1 1) #[iv 9,iv (pick g.a 5),iv 0,iv 0,S3.v s30] λ_=>⟨s30,rfl,DS _,λe=>absurd rfl e,CgQ.below C⟩
          .refine tI (cr) false (by simpa using h2) ?_;rw[if_neg (λe=>h2 e.2)]at hx
           refine tR 7 [1,0] λσ34 _ _=>?_;subst hx;exact tX λF C=>qE1 4 26 1 (σ1 1) #[iv 7,iv 0,iv 0,iv 0,S3.v s30] λ_=>⟨s30,rfl,DS _,λe=>absurd rfl e,CgQ.below C⟩
         .refine tV 1 (.bool false) (λF C=>(Fq (t:=3) (m:=pick g.k 24) (n:=18) (x:=(.tmp 63)) (y:=(.const (iv 18))) (by simpa using h1))) ?_;rw[if_neg (λe=>h1 e.1)]at hx
          refine tR 13 [1,0] λσ35 _ _=>?_;subst hx;exact tX λF C=>qE1 4 26 1 (σ1 1) #[iv 7,iv 0,iv 0,iv 0,S3.v s30] λ_=>⟨s30,rfl,DS _,λe=>absurd rfl e,CgQ.below C⟩
       .refine tV 1 (.bool false) (λF C=>(Fq (t:=3) (m:=pick g.k 24) (n:=17) (x:=(.tmp 52)) (y:=(.const (iv 17))) (by simpa using h1))) ?_;rw[if_neg (λe=>h1 e.1)]at hx
        refine tR 9 [] λσ36 _ _=>?_;by_cases h1:pick g.k 24=18
        .refine tV 1 (.bool true) (λF C=>(Fq (t:=3) (m:=pick g.k 24) (n:=18) (x:=(.tmp 63)) (y:=(.const (iv 18))) (by simpa using h1))) ?_;refine tR 5 [] λσ37 _ _=>?_;by_cases h2:cr=true
         .refine tI (cr) true h2 ?_;rw[if_pos ⟨h1,h2⟩]at hx
          refine tR 6 [1,0] λσ38 _ _=>?_;subst hx;exact tX λF C=>qE1 4 26 1 (σ1 1) #[iv 9,iv (pick g.a 5),iv 0,iv 0,S3.v s30] λ_=>⟨s30,rfl,DS _,λe=>absurd rfl e,CgQ.below C⟩
         .refine tI (cr) false (by simpa using h2) ?_;rw[if_neg (λe=>h2 e.2)]at hx
          refine tR 7 [1,0] λσ39 _ _=>?_;subst hx;exact tX λF C=>qE1 4 26 1 (σ1 1) #[iv 7,iv 0,iv 0,iv 0,S3.v s30] λ_=>⟨s30,rfl,DS _,λe=>absurd rfl e,CgQ.below C⟩
        .refine tV 1 (.bool false) (λF C=>(Fq (t:=3) (m:=pick g.k 24) (n:=18) (x:=(.tmp 63)) (y:=(.const (iv 18))) (by simpa using h1))) ?_;rw[if_neg (λe=>h1 e.1)]at hx
         refine tR 13 [1,0] λσ40 _ _=>?_;subst hx;exact tX λF C=>qE1 4 26 1 (σ1 1) #[iv 7,iv 0,iv 0,iv 0,S3.v s30] λ_=>⟨s30,rfl,DS _,λe=>absurd rfl e,CgQ.below C⟩
theorem fC{l:S3}{g:Gr}(h:RdV w l 5 (grL G))(ha:l.a=some ⟨b,off,none⟩)(hg:G[i]?=some g){u:Value}(hj:(grV g)[j]?=some u):w.cell? ⟨b,off+5*i+j,none⟩=some u:=by
 have hn:l.n=G.length:=by have:=h.len;rw[show(grL G).length=G.length*5 from F5 (f:=grV) (λ_=>rfl) G]at this;omega
 obtain⟨b',off',h1,_,h3⟩:=h.spot (i:=i) (by rw[hn];exact(P'.1 hg).1);rw[ha]at h1
 cases h1;exact h3 j u (Nt (f:=grV) (λ_=>rfl) G hg hj)
theorem UO{l:S3}{most:Nat}(h:RdV w l 5 (grL G))(hG:∀ g∈G,GrOk g)(hm:most<=100)(hT:Tabs w) :
  Calls prog 5 #[l.v,iv (most:Int),.bool cr] w λe w'=>∃ (y:S3) (P:List (Lac × S3)),e=.returned y.v/\P.map (·.1)=scr G most cr/\AcN w.heap.size w' y P/\Bw w w':=by
 have hln:l.n=G.length:=by have:=h.len;rw[show(grL G).length=G.length*5 from F5 (f:=grV) (λ_=>rfl) G]at this;omega
 refine tIn [Fa.zv l 5 (grL G)] func5 ⟨h.fz,trivial⟩ ?_;refine tR 18 [] λσ1 _ _=>?_;refine G7 41 [(0,S3.v l),(1,iv (most:Int)),(2,.bool cr),(7,sn),(8,iv 0),(9,iv 0)] [] [] [Fa.zv l 5 (grL G),Fa.oa 0 s30 []] (λkk ee LL ΦΦ=>∃ (i s:Nat) (y:S3) (P:List (Lac × S3)),kk=min G.length most-i/\ee=[(0,S3.v l),(1,iv (most:Int)),(2,.bool cr),(7,S3.v y),(8,iv (s:Int)),(9,iv (i:Int))]/\LL=[]/\ΦΦ=[Fa.zv l 5 (grL G),Fa.oa 0 y P]/\i<=min G.length most/\y.n=i/\s<=i/\scr G most cr=P.map (·.1)++NV cr s ((G.take most).drop i)/\(∀ p∈P,Nb w.heap.size p.2 p.1.d)) (min G.length most) ⟨0,0,s30,[],rfl,rfl,rfl,rfl,by omega,rfl,by omega,rfl,λp hp=>by cases hp⟩ (λF=>⟨F.1,⟨OwnS.nil _ _ _ _ _ _,λp hp=>by cases hp⟩,trivial⟩) ?_;rintro k _ _ _ ⟨i,s,y,P,rfl,rfl,rfl,rfl,hi,hyn,hsi,hI,hN⟩ _ _ _ J hJ;refine tR 6 [] λσ2 _ _=>?_;by_cases h1:i<G.length
 .refine tV 3 (.bool true) (λF C=>(rLt (t:=3) (m:=(i:Int)) (n:=(l.n:Int)) (x:=(.tmp 11)) (y:=(.tmp 13)) (I' (by omega)))) ?_;refine tR 6 [] λσ3 _ _=>?_;by_cases h2:i<most
  .refine tI ((decide ((i:Int)<(most:Int)))) true (I' (by omega)) ?_;have hi:i<(G.take most).length:=by rw[X'];omega
   obtain⟨g,hg⟩:∃ g,(G.take most)[i]?=some g:=⟨_,E' hi⟩;have hgG:G[i]?=some g:=by rw[jr,if_pos h2]at hg;exact hg
   have hgo:=hG g (i5 hgG);rw[iY hi,show(G.take most)[i]=g from(P'.1 hg).2,NV]at hI
   refine tF λF _=>?_;obtain⟨b,off,hla,_,hlc⟩:=F.1.rd.spot (i:=i) (by omega);refine tR 7 [] λσ4 _ _=>?_;refine tV 2 (pt b (off+5*i)) (λF C=>(fR hla i (by omega))) ?_;refine tV 3 (.agg #[iv g.k,iv g.a,iv g.b,iv g.c,iv g.d]) (λF C=>(ia g λj u hj=>fC F.1.rd hla hgG hj)) ?_;refine tR 1 [] λσ6 _ _=>?_;obtain⟨x,hx⟩:∃ x,Nu g cr=x:=⟨_,rfl⟩;refine tF λ_ Cs=>?_;have hs7:=Cs.size;refine tC 5 (λF C=>cE hgo (tbA hT C) hx) λNz=>?_;rintro _ _ ⟨d,rfl,hd,hn,b8⟩;refine⟨_,Fa.sl d x.d::_,rfl,b8,λF=>⟨NE hd hn Nz,F⟩,?_⟩;rw[hx]at hI
   refine tR 10 [1,0,0,0,0] λσ9 _ _=>?_;by_cases h3:x.k=1
   .refine tI ((x.k==1)) true (by simpa using h3) ?_;refine tR 3 [] λσ10 _ _=>?_;refine tV 1 (iv ((s:Int)+1)) (λF C=>(AV (x:=(.tmp 31)) (y:=(.const (iv 1))) (s:Int) 1 underlying3 (by omega))) ?_;refine tR 7 [] λσ11 _ _=>?_;rw[show en s x=s+1 from if_pos h3]at hI
    by_cases h4:6<s+1
    .refine tI ((decide (6<((s:Int)+1)))) true (I' (by omega)) ?_;rw[show XL s x=acN 7 0 from if_pos ⟨h3,by omega⟩]at hI
     refine tR 8 [0,0,0,0,0] λσ12 _ _=>?_;refine Oa 3 0 (x:=y) 27 27 26 5 56 zLa ⟨(σ12 0),0,none⟩ 1 1 [iv 7,iv 0,iv 0,iv 0,sn] (λF=>F.2.2.1.1) [Fa.zv l 5 (grL G),Fa.dt (P++[(acN 7 0,s30)])] (λF=>⟨F.2.1,Dat.snoc F.2.2.1.2 (QP _ _),trivial⟩) rfl (by simp[TQ]) rfl (by simp[Value.oneCell']) (λF K=>CD K 1 (σ12 0) [iv 7,iv 0,iv 0,iv 0,sn] 26 .z true (by kernel_rfl)) (by unfold maxLen;omega) (by omega) λy13 _ _ n13=>?_;refine tR 5 [] λσ14 _ _=>?_;refine tV 1 (iv ((i:Int)+1)) (λF C=>(AV (x:=(.tmp 20)) (y:=(.const (iv 1))) (i:Int) 1 underlying3 (by omega))) ?_;refine tR 2 [] λσ15 _ _=>?_;exact tB hJ (min G.length most-(i+1)) (by omega) [false,false] ⟨i+1,(s+1),y13,P++[(acN 7 0,s30)],rfl,rfl,rfl,rfl,by omega,by omega,by omega,(by rw[hI,iK,iD];rfl),λp hp=>(V'.1 hp).elim (hN p) λe=>by rw[N'.1 e];exact λe=>absurd rfl e⟩ (λF=>⟨F.2.1,⟨(by rw[Ev];exact F.1),F.2.2.1⟩,trivial⟩)
    .refine tI ((decide (6<((s:Int)+1)))) false (D' (by omega)) ?_;rw[show XL s x=x from if_neg (λe=>h4 (by omega))]at hI
     refine tR 5 [0,0,0] λσ16 _ _=>?_;refine Oa 3 0 (x:=y) 27 27 26 5 56 zLa ⟨(σ16 0),0,none⟩ 1 1 [iv x.k,iv x.n,iv x.a,iv x.p,S3.v d] (λF=>F.2.2.1.1) [Fa.zv l 5 (grL G),Fa.dt (P++[(x,d)])] (λF=>⟨F.2.1,Dat.snoc F.2.2.1.2 (F.1),trivial⟩) rfl (by simp[TQ]) rfl (by simp[Value.oneCell']) (λF K=>CD K 1 (σ16 0) [iv x.k,iv x.n,iv x.a,iv x.p,S3.v d] 26 .z true (by kernel_rfl)) (by unfold maxLen;omega) (by omega) λy17 _ _ n17=>?_;refine tR 5 [] λσ18 _ _=>?_;refine tV 1 (iv ((i:Int)+1)) (λF C=>(AV (x:=(.tmp 20)) (y:=(.const (iv 1))) (i:Int) 1 underlying3 (by omega))) ?_;refine tR 2 [] λσ19 _ _=>?_;exact tB hJ (min G.length most-(i+1)) (by omega) [false,false] ⟨i+1,(s+1),y17,P++[(x,d)],rfl,rfl,rfl,rfl,by omega,by omega,by omega,(by rw[hI,iK,iD];rfl),λp hp=>(V'.1 hp).elim (hN p) λe=>by rw[N'.1 e];exact hn.mono hs7⟩ (λF=>⟨F.2.1,⟨(by rw[Ev];exact F.1),F.2.2.1⟩,trivial⟩)
   .refine tI ((x.k==1)) false (by simpa using h3) ?_;rw[show en s x=s from if_neg h3,show XL s x=x from if_neg (λe=>h3 e.1)]at hI
    refine tR 5 [0,0,0] λσ20 _ _=>?_;refine Oa 3 0 (x:=y) 27 27 26 5 56 zLa ⟨(σ20 0),0,none⟩ 1 1 [iv x.k,iv x.n,iv x.a,iv x.p,S3.v d] (λF=>F.2.2.1.1) [Fa.zv l 5 (grL G),Fa.dt (P++[(x,d)])] (λF=>⟨F.2.1,Dat.snoc F.2.2.1.2 (F.1),trivial⟩) rfl (by simp[TQ]) rfl (by simp[Value.oneCell']) (λF K=>CD K 1 (σ20 0) [iv x.k,iv x.n,iv x.a,iv x.p,S3.v d] 26 .z true (by kernel_rfl)) (by unfold maxLen;omega) (by omega) λy21 _ _ n21=>?_;refine tR 5 [] λσ22 _ _=>?_;refine tV 1 (iv ((i:Int)+1)) (λF C=>(AV (x:=(.tmp 20)) (y:=(.const (iv 1))) (i:Int) 1 underlying3 (by omega))) ?_;refine tR 2 [] λσ23 _ _=>?_;exact tB hJ (min G.length most-(i+1)) (by omega) [false,false] ⟨i+1,s,y21,P++[(x,d)],rfl,rfl,rfl,rfl,by omega,by omega,by omega,(by rw[hI,iK,iD];rfl),λp hp=>(V'.1 hp).elim (hN p) λe=>by rw[N'.1 e];exact hn.mono hs7⟩ (λF=>⟨F.2.1,⟨(by rw[Ev];exact F.1),F.2.2.1⟩,trivial⟩)
  .refine tI ((decide ((i:Int)<(most:Int)))) false (D' (by omega)) ?_;refine tR 6 [] λσ24 _ _=>?_;rw[i8 (by rw[X'];omega),NV,iV]at hI
   exact tX λF C=>qE (S3.v y) λ_=>⟨y,P,rfl,hI.symm,AcN.of F.2.1 C hN,CgQ.below C⟩
 .refine tV 3 (.bool false) (λF C=>(rLt (t:=3) (m:=(i:Int)) (n:=(l.n:Int)) (x:=(.tmp 11)) (y:=(.tmp 13)) (D' (by omega)))) ?_;refine tR 13 [] λσ25 _ _=>?_;rw[i8 (by rw[X'];omega),NV,iV]at hI
  exact tX λF C=>qE (S3.v y) λ_=>⟨y,P,rfl,hI.symm,AcN.of F.2.1 C hN,CgQ.below C⟩
def rnP(l:List Lac):List (Lac × S3):=l.map λa=>(a,s30)
theorem aC(l:List Lac):(rnP l).map (·.1)=l:=by simp[rnP,Function.comp_def]
theorem aB(g:Gh)(w:World){l:List Lac}(h:∀ a∈l,a.d=[]):Dat g w (rnP l):=by
 intro p hp;obtain⟨a,ha,rfl⟩:=i9.1 hp;show FSl g w s30 a.d;rw[h a ha];exact QP g w
theorem Lh(l:List Lac)(a:Lac):rnP (l++[a])=rnP l++[(a,s30)]:=by simp[rnP]
theorem QN(m:Nat):(Cr m).length=6*m:=by
 induction m with
 | zero=>rfl
 | succ m ih=>rw[Cr,M',ih];show _+6=_;omega
def Gn(k:Int)(j:Nat):List Lac:=(List.range j).map λn:Nat=>acN k (n:Int)
theorem Mz(k:Int)(j:Nat):Gn k (j+1)=Gn k j++[acN k (j:Int)]:=by simp[Gn,List.range_succ]
theorem UJ{many:Nat}(h:RdV w x 5 (acV l))(hd:∀ p∈l,Sl w p.2.v p.1.d)(hm:l.length+6*many<=1000000) :
  Calls prog 7 #[x.v,iv (many:Int)] w λe w'=>∃ y:S3,e=.returned y.v/\OwN w.heap.size w' 26 5 y (acV (l++rnP (EZ many)))/\Bw w w':=by
 have hxn:x.n=l.length:=by have:=h.len;rw[So]at this;omega
 refine tIn [Fa.ac x l] func7 ⟨⟨h.fz,λp hp=>⟨hd p hp,λ_ _ _=>rfl⟩⟩,trivial⟩ ?_;refine tR 7 [] λσ1 _ _=>?_;refine gt 1 0 x (acV l) 27 27 26 5 56 zLa (λF=>F.1.1.rd) [Fa.dt l] (λF=>⟨F.1.2,trivial⟩) rfl (by simp[TQ]) (Sp l) (by rw[hxn];unfold maxLen;omega) (by omega) λy0 _ _ n0=>?_;refine tR 8 [] λσ3 _ _=>?_;refine G7 39 [(1,iv (many:Int)),(5,S3.v y0),(6,iv 0)] [] [] [Fa.oa 0 y0 (l++rnP (Gn 9 0))] (λkk ee LL ΦΦ=>∃ (j:Nat) (y:S3),kk=5-j/\ee=[(1,iv (many:Int)),(5,S3.v y),(6,iv (j:Int))]/\LL=[]/\ΦΦ=[Fa.oa 0 y (l++rnP (Gn 9 j))]/\j<=5/\y.n=l.length+j) (5) ⟨0,y0,rfl,rfl,rfl,rfl,by omega,by omega⟩ (λF=>⟨by rw[show rnP (Gn 9 0)=[]from rfl,iV];exact⟨F.1,F.2.1⟩,trivial⟩) ?_;rintro k _ _ _ ⟨j,y,rfl,rfl,rfl,rfl,hj,hyn⟩ _ _ _ J hJ;refine tR 6 [] λσ4 _ _=>?_;by_cases h1:j<5
 .refine tI ((decide ((j:Int)<5))) true (I' (by omega)) ?_;refine tR 8 [0,0] λσ5 _ _=>?_;refine Oa 4 0 (x:=y) 27 27 26 5 56 zLa ⟨(σ5 0),0,none⟩ 1 1 [iv 9,iv (j:Int),iv 0,iv 0,sn] (λF=>F.1.1) [Fa.dt ((l++rnP (Gn 9 j))++[(acN 9 (j:Int),s30)])] (λF=>⟨Dat.snoc F.1.2 (QP _ _),trivial⟩) rfl (by simp[TQ]) rfl (by simp[Value.oneCell']) (λF K=>CD K 0 (σ5 0) [iv 9,iv (j:Int),iv 0,iv 0,sn] 26 .z true (by kernel_rfl)) (by unfold maxLen;omega) (by omega) λy6 _ _ n6=>?_;refine tR 5 [] λσ7 _ _=>?_;refine tV 1 (iv ((j:Int)+1)) (λF C=>(AV (x:=(.tmp 13)) (y:=(.const (iv 1))) (j:Int) 1 underlying3 (by omega))) ?_;refine tR 2 [] λσ8 _ _=>?_;exact tB hJ (5-(j+1)) (by omega) [false] ⟨j+1,y6,rfl,rfl,rfl,rfl,by omega,by omega⟩ (λF=>by rw[Mz,Lh,<- iD];exact⟨⟨(by rw[Ev];exact F.1),F.2.1⟩,trivial⟩)
 .refine tI ((decide ((j:Int)<5))) false (D' (by omega)) ?_;obtain rfl:j=5:=by omega
  refine tR 7 [] λσ9 _ _=>?_;refine G7 39 [(1,iv (many:Int)),(5,S3.v y),(7,iv 0)] [] [] [Fa.oa 0 y (l++rnP (Ep++Cr 0))] (λkk ee LL ΦΦ=>∃ (i:Nat) (y:S3),kk=many-i/\ee=[(1,iv (many:Int)),(5,S3.v y),(7,iv (i:Int))]/\LL=[]/\ΦΦ=[Fa.oa 0 y (l++rnP (Ep++Cr i))]/\i<=many/\y.n=l.length+(5+6*i)) (many) ⟨0,y,rfl,rfl,rfl,rfl,by omega,by omega⟩ (λF=>⟨F.1,trivial⟩) ?_;rintro k _ _ _ ⟨i,y,rfl,rfl,rfl,rfl,hi,hyn⟩ _ _ _ Jb hJb;refine tR 7 [] λσ10 _ _=>?_;by_cases h2:i<many
  .refine tI ((decide ((i:Int)<(many:Int)))) true (I' (by omega)) ?_;refine tR 9 [] λσ11 _ _=>?_;refine G7 39 [(1,iv (many:Int)),(5,S3.v y),(7,iv (i:Int)),(8,iv 0)] [] [] [Fa.oa 0 y (l++rnP (Ep++Cr i++Gn 3 0))] (λkk ee LL ΦΦ=>∃ (j:Nat) (y:S3),kk=5-j/\ee=[(1,iv (many:Int)),(5,S3.v y),(7,iv (i:Int)),(8,iv (j:Int))]/\LL=[]/\ΦΦ=[Fa.oa 0 y (l++rnP (Ep++Cr i++Gn 3 j))]/\j<=5/\y.n=l.length+(5+6*i+j)) (5) ⟨0,y,rfl,rfl,rfl,rfl,by omega,by omega⟩ (λF=>⟨by rw[show Gn 3 0=[]from rfl,iV];exact F.1,trivial⟩) ?_;rintro k _ _ _ ⟨j,y,rfl,rfl,rfl,rfl,hj,hyn⟩ _ _ _ Jc hJc;refine tR 6 [] λσ12 _ _=>?_;by_cases h3:j<5
   .refine tI ((decide ((j:Int)<5))) true (I' (by omega)) ?_;refine tR 8 [0,0] λσ13 _ _=>?_;refine Oa 4 0 (x:=y) 27 27 26 5 56 zLa ⟨(σ13 0),0,none⟩ 1 1 [iv 3,iv (j:Int),iv 0,iv 0,sn] (λF=>F.1.1) [Fa.dt ((l++rnP (Ep++Cr i++Gn 3 j))++[(acN 3 (j:Int),s30)])] (λF=>⟨Dat.snoc F.1.2 (QP _ _),trivial⟩) rfl (by simp[TQ]) rfl (by simp[Value.oneCell']) (λF K=>CD K 0 (σ13 0) [iv 3,iv (j:Int),iv 0,iv 0,sn] 26 .z true (by kernel_rfl)) (by unfold maxLen;omega) (by omega) λy14 _ _ n14=>?_;refine tR 5 [] λσ15 _ _=>?_;refine tV 1 (iv ((j:Int)+1)) (λF C=>(AV (x:=(.tmp 27)) (y:=(.const (iv 1))) (j:Int) 1 underlying3 (by omega))) ?_;refine tR 2 [] λσ16 _ _=>?_;exact tB hJc (5-(j+1)) (by omega) [false] ⟨j+1,y14,rfl,rfl,rfl,rfl,by omega,by omega⟩ (λF=>by rw[Mz,<- iD (Ep++Cr i),Lh,<- iD l];exact⟨⟨(by rw[Ev];exact F.1),F.2.1⟩,trivial⟩)
   .refine tI ((decide ((j:Int)<5))) false (D' (by omega)) ?_;obtain rfl:j=5:=by omega
    refine tR 5 [0,0] λσ17 _ _=>?_;refine Oa 3 0 (x:=y) 27 27 26 5 56 zLa ⟨(σ17 0),0,none⟩ 1 1 [iv 7,iv 0,iv 0,iv 0,sn] (λF=>F.1.1) [Fa.dt ((l++rnP (Ep++Cr i++Gn 3 5))++[(acN 7 0,s30)])] (λF=>⟨Dat.snoc F.1.2 (QP _ _),trivial⟩) rfl (by simp[TQ]) rfl (by simp[Value.oneCell']) (λF K=>CD K 0 (σ17 0) [iv 7,iv 0,iv 0,iv 0,sn] 26 .z true (by kernel_rfl)) (by unfold maxLen;omega) (by omega) λy18 _ _ n18=>?_;refine tR 5 [] λσ19 _ _=>?_;refine tV 1 (iv ((i:Int)+1)) (λF C=>(AV (x:=(.tmp 23)) (y:=(.const (iv 1))) (i:Int) 1 underlying3 (by omega))) ?_;refine tR 2 [] λσ20 _ _=>?_;exact tB hJb (many-(i+1)) (by omega) [false] ⟨i+1,y18,rfl,rfl,rfl,rfl,by omega,by omega⟩ (λF=>by rw[show Ep++Cr (i+1)=Ep++Cr i++Gn 3 5++[acN 7 0]by rw[Cr,<- iD,iD _ (Gn 3 5)];rfl,Lh,<- iD l];exact⟨⟨(by rw[Ev];exact F.1),F.2.1⟩,trivial⟩)
  .refine tI ((decide ((i:Int)<(many:Int)))) false (D' (by omega)) ?_;obtain rfl:i=many:=by omega
   refine tR 6 [] λσ21 _ _=>?_;exact tX λF C=>qE (S3.v y) λ_=>⟨y,rfl,F.1.1.own C,CgQ.below C⟩
theorem WK(k:Int)(j:Nat):∀ a∈Gn k j,a.d=[]:=by
 intro a ha;obtain⟨n,_,rfl⟩:=i9.1 ha;rfl
theorem Wm(m:Nat):∀ a∈Cr m,a.d=[]:=by
 induction m with
 | zero=>intro a ha;cases ha
 | succ m ih =>
  intro a ha;rcases V'.1 ha with h|h
  .exact ih a h
  .rcases V'.1 h with h|h
   .exact WK 3 5 a h
   .rw[N'.1 h];rfl
theorem eh(m:Nat):∀ a∈EZ m,a.d=[]:=by
 intro a ha;rcases V'.1 ha with h|h
 .exact WK 9 5 a h
 .exact Wm m a h
theorem XE(m:Nat):(EZ m).length=5+6*m:=by unfold EZ;rw[M',QN];rfl
def alk:List Cmd->List Cmd->Bool
 | c::a,d::b=>decide (c=d)&&alk a b
 | _,_=>true
theorem YE(a:List Cmd):alk a []=true:=by cases a<;>rfl
theorem Sq{b:List Cmd}(h:¬ (i<a.length/\i<b.length)):alk (a.drop i) (b.drop i)=true:=by
 by_cases h1:i<a.length
 .rw[show b.drop i=[]from i8 (by omega),YE]
 .rw[show a.drop i=[]from i8 (by omega)];rfl
theorem Vx{b:List Cmd}{c d:Cmd}(ha:a[i]?=some c)(hb:b[i]?=some d):alk (a.drop i) (b.drop i)=(decide (c=d)&&alk (a.drop (i+1)) (b.drop (i+1))):=by
 obtain⟨h1,rfl⟩:=P'.1 ha;obtain⟨h2,rfl⟩:=P'.1 hb;rw[iY h1,iY h2,alk]
theorem gX(a b c d e a' b' c' d' e':Int):∀ w,(binOp .neq 48 (.agg #[.int .i64 a,.int .i64 b,.int .i64 c,.int .i64 d,.int .i64 e]) (.agg #[.int .i64 a',.int .i64 b',.int .i64 c',.int .i64 d',.int .i64 e'])).run prog w=.ok (.bool (!decide (a=a'/\b=b'/\c=c'/\d=d'/\e=e'))) w:=by
 intro w;rw[run_neq_struct,run_equalIn_agg w 9999 _ _ _ (by kernel_rfl) (by kernel_rfl)];unfold Program.fieldsOf;rw[underlying48];have h3:=underlying3;simp[Op.eqFields,go_sem,h3]
 repeat' split
 all_goals simp_all
theorem fX{x y:Operand}(a b:Cmd):(do Go.eqGuard .neq 48 x y (.agg #[iv a.k,iv a.c,iv a.s,iv a.n,iv a.v]) (.agg #[iv b.k,iv b.c,iv b.s,iv b.n,iv b.v]);Go.binOp .neq 48 (.agg #[iv a.k,iv a.c,iv a.s,iv a.n,iv a.v]) (.agg #[iv b.k,iv b.c,iv b.s,iv b.n,iv b.v]):Sem Value).run prog W=.ok (.bool (!decide (a=b))) W:=by
 have h1:=gX a.k a.c a.s a.n a.v b.k b.c b.s b.n b.v W;rw[Np]at h1
 have hg:(Go.eqGuard .neq 48 x y (.agg #[iv a.k,iv a.c,iv a.s,iv a.n,iv a.v]) (.agg #[iv b.k,iv b.c,iv b.s,iv b.n,iv b.v])).run prog W=.ok () W:=by kernel_rfl
 rw[Sem.run_bind,hg,Result.andThen_ok];exact h1
theorem Ov{y:S3}{b:List Cmd}(h:RdV w x 5 (cmL a))(k:RdV w y 5 (cmL b))(hb:a.length<1000000){r:Bool}(hr:alk a b=r) :
  Calls prog 8 #[x.v,y.v] w λe w'=>e=.returned (.bool r)/\Bw w w':=by
 have hx:=fh h;have hy:=fh k;refine tIn [Fa.zv x 5 (cmL a),Fa.zv y 5 (cmL b)] func8 ⟨h.fz,k.fz,trivial⟩ ?_;refine tR 10 [] λσ1 _ _=>?_;refine G7 27 [(0,S3.v x),(1,S3.v y),(5,iv 0)] [] [] [Fa.zv x 5 (cmL a),Fa.zv y 5 (cmL b)] (λkk ee LL ΦΦ=>∃ (i:Nat),kk=a.length-i/\ee=[(0,S3.v x),(1,S3.v y),(5,iv (i:Int))]/\LL=[]/\ΦΦ=[Fa.zv x 5 (cmL a),Fa.zv y 5 (cmL b)]/\i<=a.length/\alk (a.drop i) (b.drop i)=r) (a.length) ⟨0,rfl,rfl,rfl,rfl,by omega,hr⟩ (λF=>F) ?_;rintro k _ _ _ ⟨i,rfl,rfl,rfl,rfl,hi,hI⟩ _ _ _ J hJ;refine tR 6 [] λσ2 _ _=>?_;by_cases h1:i<a.length
 .refine tV 3 (.bool true) (λF C=>(rLt (t:=3) (m:=(i:Int)) (n:=(x.n:Int)) (x:=(.tmp 6)) (y:=(.tmp 8)) (I' (by omega)))) ?_;refine tR 7 [] λσ3 _ _=>?_;by_cases h2:i<b.length
  .refine tI ((decide ((i:Int)<(y.n:Int)))) true (I' (by omega)) ?_;obtain⟨c,hc⟩:∃ c,a[i]?=some c:=⟨_,E' (by omega)⟩;obtain⟨d,hd⟩:∃ d,b[i]?=some d:=⟨_,E' (by omega)⟩;rw[Vx hc hd]at hI
   refine tF λF _=>?_;obtain⟨bx,ox,hxa⟩:=F.1.rd.rc.addr (k:=i) (by omega);obtain⟨by_,oy,hya⟩:=F.2.1.rd.rc.addr (k:=i) (by omega);refine tR 7 [9,0,2] λσ4 _ _=>?_;refine tT 2 (pt bx (ox+5*i)) (λ_=>(KZ hxa i (by omega))) ?_;refine tR 2 [8,10] λσ5 _ _=>?_;refine tT 6 (pt by_ (oy+5*i)) (λ_=>(KZ hya i (by omega))) ?_;refine PS 27 (λee LL ΦΦ=>∃ (_:Unit),ee=[(0,S3.v x),(1,S3.v y),(5,iv (i:Int)),(26,.bool (!decide (c=d)))]/\LL=[]/\ΦΦ=[Fa.zv x 5 (cmL a),Fa.zv y 5 (cmL b)]) (λJ hJ=>?_) ?_
   .refine PU 3 7 ?_ ?_
    .refine tV 3 (.agg #[iv c.k,iv c.c,iv c.s,iv c.n,iv c.v]) (λF C=>(NL c λq_ u hu=>F.1.rd.rc.cellAt hxa hc hu)) ?_;refine tV 7 (.agg #[iv d.k,iv d.c,iv d.s,iv d.n,iv d.v]) (λF C=>(NL d λq_ u hu=>F.2.1.rd.rc.cellAt hya hd hu)) ?_;refine tT 8 (.bool (!decide (c=d))) (λ_=>(fX (x:=(.tmp 21)) (y:=(.tmp 25)) c d)) ?_;refine tR 1 [] λσ10 _ _=>?_;exact tD hJ [] ⟨(),rfl,rfl,rfl⟩ (λF=>F)
    .refine tV 7 (.agg #[iv d.k,iv d.c,iv d.s,iv d.n,iv d.v]) (λF C=>(NL d λq_ u hu=>F.2.1.rd.rc.cellAt hya hd hu)) ?_;refine tV 3 (.agg #[iv c.k,iv c.c,iv c.s,iv c.n,iv c.v]) (λF C=>(NL c λq_ u hu=>F.1.rd.rc.cellAt hxa hc hu)) ?_;refine tT 8 (.bool (!decide (c=d))) (λ_=>(fX (x:=(.tmp 21)) (y:=(.tmp 25)) c d)) ?_;refine tR 1 [] λσ14 _ _=>?_;exact tD hJ [] ⟨(),rfl,rfl,rfl⟩ (λF=>F)
   rintro _ _ _ ⟨_,rfl,rfl,rfl⟩ _ _ _;by_cases h3:¬ c=d
   .refine tI ((!decide (c=d))) true (by simpa using h3) ?_;refine tR 4 [] λσ16 _ _=>?_;rw[D' h3]at hI
    subst hI;exact tE (.bool false) λ_ B=>⟨rfl,B⟩
   .refine tI ((!decide (c=d))) false (by simpa using h3) ?_;rw[I' (iQ.1 h3),Bool.true_and]at hI
    refine tR 4 [] λσ17 _ _=>?_;refine tV 1 (iv ((i:Int)+1)) (λF C=>(AV (x:=(.tmp 16)) (y:=(.const (iv 1))) (i:Int) 1 underlying3 (by omega))) ?_;refine tR 2 [] λσ18 _ _=>?_;exact tB hJ (a.length-(i+1)) (by omega) [] ⟨i+1,rfl,rfl,rfl,rfl,by omega,hI⟩ (λF=>F)
  .refine tI ((decide ((i:Int)<(y.n:Int)))) false (D' (by omega)) ?_;refine tR 5 [] λσ19 _ _=>?_;rw[Sq (by omega)]at hI
   subst hI;exact tE (.bool true) λ_ B=>⟨rfl,B⟩
 .refine tV 3 (.bool false) (λF C=>(rLt (t:=3) (m:=(i:Int)) (n:=(x.n:Int)) (x:=(.tmp 6)) (y:=(.tmp 8)) (D' (by omega)))) ?_;refine tR 13 [] λσ20 _ _=>?_;rw[Sq (by omega)]at hI
  subst hI;exact tE (.bool true) λ_ B=>⟨rfl,B⟩
theorem SV{tv:S3}(h:OutF g w ly tv ys M):OutW w M ly tv ys:=⟨h.logs.rd,λj hj=>(h.log j hj).rd.rc,h.told.rd⟩
theorem el(h:AcR w x L l)(ho:∀ a∈L,LacOk a)(hl:L.length<=100000)(hT:Tw w)(hM:Bl.acts L=M) :
  Calls prog 11 #[x.v] w λe w'=>∃ (ly tv:S3) (ys:Nat->S3),e=.returned (.tuple #[.agg (KQ M ly tv),iv 0])/\OutW w' M ly tv ys/\OutN w.heap.size M ly tv ys/\Bw w w':=by
 subst hM;refine(aH (h.sk (by omega)) (λi hi=>by rw[NA hi];exact ho _ (jc hi)) hl hT.1 hT.2.1 hT.2.2).mono ?_;rw[Vu];rintro e w' ⟨hb,ly,tv,ys,h1,h2,h3⟩;exact⟨ly,tv,ys,h1,h2,h3,hb⟩
theorem eb(h:AcR w x L l)(ho:∀ a∈L,LacOk a)(hl:L.length<=100000)(hT:Tw w)(hM:Bl.acts L=M) :
  Calls prog 6 #[x.v] w λe w'=>∃ (ly tv:S3) (ys:Nat->S3),e=.returned (.tuple #[.agg (KQ M ly tv),.bool true])/\OutW w' M ly tv ys/\OutN w.heap.size M ly tv ys/\Bw w w':=by
 refine tIn [] func6 trivial ?_;refine tR 8 [1,0] λσ1 _ _=>?_;refine tF λ_ Cs=>?_;have hs2:=Cs.size;refine tC 1 (λF C=>el (h.below (CgQ.below C)) ho hl (tb5 hT C) hM) λNz=>?_;rintro _ _ ⟨ly,tv,ys,rfl,hW,hN,b3⟩;refine⟨_,Fa.ot ly tv ys M::_,rfl,b3,λF=>⟨ST hW hN Nz,F⟩,?_⟩;refine tR 14 [0,0,1,0,9,0,1,2,4,6,8] λσ4 _ _=>?_;refine PS 20 (λee LL ΦΦ=>∃ (_:Unit),ee=[(2,pt (σ1 0) 0),(3,.bool ((ly.n:Int)==5))]/\LL=[⟨(σ1 0),.cells (KQ M ly tv) 34,.l,false⟩,⟨(σ4 0),.cells (KQ M ly tv) 34,.z,false⟩]/\ΦΦ=[Fa.ot ly tv ys M]) (λJ hJ=>?_) ?_
 .refine PU 5 9 ?_ ?_
  .refine tR 7 [1,12,14,16,19,0,0,20] λσ5 _ _=>?_;exact tD hJ [true,true] ⟨(),rfl,rfl,rfl⟩ (λF=>⟨F.1,trivial⟩)
  .refine tR 7 [0,0,11,1,12,14,16,20] λσ6 _ _=>?_;exact tD hJ [true,true] ⟨(),rfl,rfl,rfl⟩ (λF=>⟨F.1,trivial⟩)
 rintro _ _ _ ⟨_,rfl,rfl,rfl⟩ _ _ _;have hn:(((ly.n:Nat):Int)==5)=true:=by rw[hW.n5];rfl
 exact tX λF C=>qE2 2 3 34 0 (σ1 0) (KQ M ly tv) (.bool ((ly.n:Int)==5)) λ_=>⟨ly,tv,ys,by rw[hn],SV F.1,hN.mono hs2,CgQ.below C⟩
theorem ce(ha:x.a=some ⟨b,off,none⟩)(j:Nat)(hj:j<x.n):(Instr.indexAt 30 x.v (iv (j:Int))).run prog W=.ok (pt b (off+j)) W:=by
 obtain⟨xa,xn,xc⟩:=x;simp only at ha hj;subst ha;exact P9 (P:=prog) (e:=39) (z:=1) underlying30 (by kernel_rfl) (by kernel_rfl) hj _ (by rw[Nat.one_mul])
theorem JR(h:RdV w ly 1 [S3.v (ys 0),S3.v (ys 1),S3.v (ys 2),S3.v (ys 3),S3.v (ys 4)])(ha:ly.a=some ⟨b,off,none⟩)(hj:j<5):w.cell? ⟨b,off+j,none⟩=some (S3.v (ys j)):=by
 rcases h.ex with h1|⟨b',off',h1,h2,h3⟩
 .have:=h.len;simp at this;omega
 .rw[ha]at h1;cases h1
  refine h3 j _ ?_;rcases five hj with rfl|rfl|rfl|rfl|rfl<;>rfl
def R4(M:Meet)(ly tv:S3):Array Value:=#[iv (M.lets.length:Int),.bool true,.bool (M.node 1).up,.bool (M.node 2).up,.bool (M.node 3).up,.bool (M.node 4).up,S3.v ly,iv ((M.node 0).bad:Int),iv ((M.node 1).bad:Int),iv ((M.node 2).bad:Int),iv ((M.node 3).bad:Int),iv ((M.node 4).bad:Int),S3.v tv]
theorem ZT(hu:(M.node 0).up=true)(ly tv:S3):KQ M ly tv=R4 M ly tv:=by unfold KQ R4;rw[hu]
theorem ec(h:AcR w x L l)(ho:∀ a∈L,LacOk a)(hl:L.length<=100000)(hT:Tw w)(hM:Bl.acts L=M)(hu:(M.node 0).up=true) :
  Calls prog 6 #[x.v] w λe w'=>∃ (ly tv:S3) (ys:Nat->S3),e=.returned (.tuple #[.agg (R4 M ly tv),.bool true])/\OutW w' M ly tv ys/\OutN w.heap.size M ly tv ys/\Bw w w' :=
 (eb h ho hl hT hM).mono λe w' ⟨ly,tv,ys,h1,h2⟩=>⟨ly,tv,ys,by rw[<- ZT hu];exact h1,h2⟩
end
section
variable{P:Program}{fn:Func}{R:Ending->World->Prop}{w0:World}{Φ:List Fa}{g:Gh}{w:World}
theorem io{s:Xs}(r kk b n:Nat)(m:List Bool)(vs:List Value)(e:TypeId)(sz:Nat)(hl:vs.length=n*sz)(hk:∀ g',GT P fn R w0 (Fa.ow r e sz ⟨some ⟨b,0,none⟩,n,n⟩ vs::Φ) ⟨s.K,s.f,AC m s.L⟩ g' w)
  (hn:n<=maxLen:=by decide)(hrT:Tg.n 60 r∈TQ:=by simp[TQ])(hro:Φ.all (λf=>f.ro != some r)=true:=by rfl)(hx:s.L[kk]?=some ⟨b,.cells vs.toArray e,.n 60 r,true⟩:=by kernel_rfl)(hT:(AC m s.L).all (λy=>[Tg.n 60 r].all λt=>y.t.ne t)=true:=by kernel_rfl):GT P fn R w0 Φ s g w:=by
 refine⟨λF C=>Ag λhK=>?_⟩;obtain⟨h1,h2,_,h3⟩:=hK.row _ (i5 hx);have h3:=h3 (by simp);have c:∀ B T,Tg.n 60 r∈T->Cg B T g w ⟨g.t,λd=>if d=b then vs.length else g.k d⟩ w:=λB T hT=>⟨rfl,rfl,rfl,A' _,λ_ _=>.inl rfl,λd _=>by
  show g.k d<=if d=b then vs.length else g.k d;split
  .rename_i e;rw[e,h3];exact iP _
  .exact A' _,λd _ hd _=>if_neg λe=>hd (by rw[e,h2];exact hT),λ_ _ _ _=>rfl,λ_ _ _ _=>rfl⟩
 have hF:AllF ⟨g.t,λd=>if d=b then vs.length else g.k d⟩ w Φ:=F.ch (c w0.heap.size [.n 60 r] (N'.2 rfl)) (by simp) λf hf q hq hm=>by
  have h4:=jo.1 hro f hf;rw[hq]at h4
  have h5:q=r:=by simpa using hm
  rw[h5]at h4
  simp at h4
 have hG:=(hk ⟨g.t,λd=>if d=b then vs.length else g.k d⟩).ex ⟨⟨hl,.inr ⟨b,vs.toArray,rfl,h1,A' _,hn,by simpa using hl,by simp[<- hl],h2,if_pos rfl⟩⟩,hF⟩ (C.trans (c _ _ hrT));refine⟨λ_=>hG.ex ⟨λx hx2=>?_,hK.nod.sublist (Cl m s.L),λd hd=>⟨(hK.new d hd).1,?_⟩,hK.base⟩⟩
 .obtain⟨k1,k2,k3,k4⟩:=hK.row x ((Cl m s.L).subset hx2);refine⟨k1,k2,k3,λhz=>?_⟩;have hne:¬ x.g=b:=λe=>by
   have h6:=jo.1 hT x hx2;rw[e,h2]at k2
   rw[<- k2]at h6
   simp[Tg.ne]at h6
  show(if x.g=b then vs.length else g.k x.g)=0;rw[if_neg hne];exact k4 hz
 .have:¬ d=b:=λe=>by have h7:b<w.heap.size:=rl h1;omega
  show(if d=b then vs.length else g.k d)=0;rw[if_neg this];exact(hK.new d hd).2
theorem dU{P:Program}{W:World}(t ty e:TypeId)(i:TypeInfo)(ht:P.underlying t=some (.slice e))(hi:P.info? e=some i)(x y:S3)(hx:x.n<=x.c)(hy:y.n=0):(Builtin.append_ #[t,t] ty #[x.v,y.v]).run P W=.ok x.v W:=by
 obtain⟨xa,xn,xc⟩:=x;obtain⟨ya,yn,yc⟩:=y;simp only at hy hx;subst hy;show(Builtin.append_ #[t,t] ty #[.slice xa xn xc,.slice ya 0 yc]).run P W=.ok (.slice xa xn xc) W;cases ya with
 | none=>cases xa<;>simp[Builtin.append_,run_underlying ht,sizeOf,typeInfo,hi,Builtin.lenOf,run_firstCells_none,hx,storeCells]
 | some a =>
  have hf:=run_firstCells_some (P:=P) W i.size 0 a 0 yc [] (by simp) (by simp);cases xa<;>simp[Builtin.append_,run_underlying ht,sizeOf,typeInfo,hi,Builtin.lenOf,run_firstCells_none,hf,hx,storeCells]
theorem gu{s:Xs}(i:Nat)(r:Nat){x:S3}{xs:List Value}(y:S3)(news:List Value)(t ty e:TypeId)(sz bytes:Nat)(z:Value)(hx:AllF g w Φ->OwnS g w (.n 60 r) true e sz x xs)(hy:AllF g w Φ->RdV w y sz news)(Ψ:List Fa)(hΨ:AllF g w Φ->AllF g w Ψ)(hro:Ψ.all (λf=>f.ro != some r)=true)(hrT:Tg.n 60 r∈TQ)
  (h1:∀ u∈news,u.oneCell'=true)(h63:x.n+y.n<=maxLen)(hbytes:(x.n+y.n)*bytes<=140737488355328)
  (hk:∀ x' g' w',x'.n=x.n+y.n->GT P fn R w0 (Fa.ow r e sz x' (xs++news)::Ψ) (nxt s i (S3.v x') s.L).s g' w')(hsz:0<sz:=by decide)
  (ht:P.underlying t=some (.slice e):=by kernel_rfl)(hinfo:(P.info? e).map (λi=>(i.zero,i.size,i.bytes))=some (some z,sz,bytes):=by kernel_rfl)(hzs:Nat.beq z.cells.size sz=true:=by kernel_rfl)
  (hsem:CU s i=some (Builtin.append_ #[t,t] ty #[x.v,y.v]>>=λv=>pure (.value v)):=by kernel_rfl)(hob:(nxt s i undef s.L).o.map Ob.l'=(nxt s i undef s.L).o.map Ob.r':=by kernel_rfl)(hT:s.L.all (λy=>[Tg.n 60 r].all λt=>y.t.ne t)=true:=by kernel_rfl):GT P fn R w0 Φ s g w:=by
 refine tF λF C=>?_;have hR:=hy F;have hc:x.n<=x.c:=by rcases(hx F).ex with⟨_,h,h'⟩|⟨_,_,_,_,h,_⟩<;>omega
 by_cases h0:y.n=0
 .obtain⟨inf,hi⟩:∃ inf,P.info? e=some inf:=by cases hh:P.info? e with|none=>rw[hh]at hinfo;cases hinfo|some j=>exact⟨j,rfl⟩
  obtain rfl:news=[]:=iz (by rw[hR.len,h0,lH]);refine tV i x.v (λ_ _=>dU t ty e inf ht hi x y hc h0) ?_ hsem hob;exact tCv (Fa.ow r e sz x (xs++[])::Ψ) (λF=>⟨by rw[iV];exact hx F,hΨ F⟩) (hk x g w (by omega))
 .obtain⟨b,off,ha,_,_⟩:=hR.spot (i:=0) (by omega);obtain⟨ya,m,c⟩:=y;simp only at ha h0 h63 hbytes hk hsem hR;subst ha;refine Oa i r (x:=x) (xs:=xs) t ty e sz bytes z ⟨b,off,none⟩ m c news hx Ψ hΨ hro hrT hR.len h1 (λF _ j u hj=>?_) h63 hbytes hk (Nat.pos_of_ne_zero h0) hsz ht hinfo hzs hsem hob hT;rcases(hy F).ex with h2|⟨b2,off2,k1,k2,k3⟩
  .exact absurd h2 h0
  .cases k1;have:(⟨b,off,none⟩:Addr).add j=⟨b,off+j,none⟩:=by unfold Addr.add;split<;>simp_all
   rw[this];exact k3 j u hj
end
end Go.Proofs.YtalbmmghmoggcacGreatDoor
