/- Part 31 of the walk. -/
import Derived.Test.YtalbmmghmoggcabGreatDoorZ30
set_option maxRecDepth 100000
set_option maxHeartbeats 4000000
open Go.Proofs.Tryz
set_option linter.unusedVariables false
namespace Go.Proofs.YtalbmmghmoggcabGreatDoor
open Go.RowKit
section
def laV(x:Lac)(y:Value):List Value:=[.int .i64 x.k,.int .i64 x.n,.int .i64 x.a,.int .i64 x.p,y]
def zLa:Value:=.agg #[.int .i64 0,.int .i64 0,.int .i64 0,.int .i64 0,.slice none 0 0]
def eO:Lac:=⟨0,0,0,0,[]⟩
structure Sk(w:World)(x:Value)(F:Nat->Lac)(n:Nat):Prop where
 ex:∃ a cap,x=.slice a n cap/\(n=0\/∃ b off,a=some ⟨b,off,none⟩/\b<w.heap.size/\∀ i,i<n->∃ y,w.rangeAt b (off+5*i) (laV (F i) y)/\Sl w y (F i).d)
 len:n<=2513169434916
variable{B b i j r sz:Nat}{F:Nat->Lac}{L:List Lac}{M:Meet}{T:List Tg}{W w w' w0:World}{e:TypeId}{g g':Gh}{l:List (Lac × S3)}{ly tv x y:S3}{xs:List Value}{ys:Nat->S3}{α:Type}
theorem Sk.shape{x:Value}{n:Nat}(h:Sk w x F n):∃ a cap,x=.slice a n cap:=by
 obtain⟨⟨a,cap,e,_⟩,_⟩:=h;exact⟨a,cap,e⟩
theorem Sk.spot{a:Option Addr}{n cap:Nat}(h:Sk w (.slice a n cap) F n)(i:Nat)(hi:i<n):∃ b off xa xm xp,a=some ⟨b,off,none⟩/\b<w.heap.size/\w.rangeAt b (off+5*i) (laV (F i) (.slice xa xm xp))/\Sl w (.slice xa xm xp) (F i).d:=by
 obtain⟨⟨a',cap',e,h1⟩,_⟩:=h;simp only[Value.slice.injEq]at e;obtain⟨rfl,_,rfl⟩:=e;rcases h1 with rfl|⟨b,off,rfl,hb,hcell⟩
 .omega
 .obtain⟨y,h3,h4⟩:=hcell i hi;obtain⟨xa,xp,rfl⟩:=h4.shapeT;exact⟨b,off,xa,_,xp,rfl,hb,h3,h4⟩
def laF(l:List Lac):Nat->Lac:=λi=>l.getD i eO
theorem Mv{l:List Lac}(h:i<l.length):laF l i=l[i]:=by simp[laF,List.getD,List.getElem?_eq_getElem h]
def Hu(F:Nat->Lac)(n:Nat):List Lac:=(List.range n).map F
theorem Ua(F:Nat->Lac)(n:Nat):(Hu F n).length=n:=by simp[Hu]
theorem Xk{n:Nat}(h:j<n):(Hu F n).drop j=F j::(Hu F n).drop (j+1):=by
 have h1:(Hu F n)[j]?=some (F j):=by simp[Hu,h]
 obtain⟨h2,h3⟩:=P'.1 h1;rw[<- h3];exact gf h2
def Yt:Array Value:=#[iv 0,.bool false,.bool false,.bool false,.bool false,.bool false,S3.v s30,iv 0,iv 0,iv 0,iv 0,iv 0,S3.v s30]
def TR:List Tg:=.n 70 0::TM
theorem cT:Tg.z∉TR:=by simp[TR,TM,TN]
theorem cQ:∀ t∈TM,t∈TR:=λt h=>Q' _ h
theorem Ly:gS.t b∉TR:=cT
theorem Base.self(w:World):Base w gS w:=⟨Below.refl _ _,λ_ _=>rfl⟩
theorem VZ{la:Option Addr}{off n c:Nat}(ha:la=some ⟨b,off,none⟩)(j:Nat)(hj:j<n):(Instr.indexAt 24 (.slice la n c) (iv (j:Int))).run prog W=.ok (pt b (off+5*j)) W:=by
 subst ha;exact O6 (P:=prog) (e:=27) (z:=5) underlying24 (by kernel_rfl) (by kernel_rfl) hj _ rfl
theorem bG{k:Nat}{x:Lac}{y:Value}(h:W.rangeAt b k (laV x y)):(Instr.loadAt 27 (pt b k)).run prog W=.ok (.agg #[iv x.k,iv x.n,iv x.a,iv x.p,y]) W:=by
 have h1:=run_loadVar_mid (P:=prog) W b k 27 (laV x y) _ h underlying27 rfl (by kernel_rfl);simp only[Instr.loadAt,Instr.sureAddr,Sem.run_bind,Sem.run_pure,Result.andThen_ok];exact h1
theorem OutN.mono{C:Nat}(h:OutN B M ly tv ys)(hc:C<=B):OutN C M ly tv ys:=⟨λa e=>fy hc (h.logs a e),λj hj hv a e=>fy hc (h.log j hj hv a e),λhv a e=>fy hc (h.told hv a e)⟩
theorem YD{lv:S3}{n:Nat}(h:Sk w lv.v F n)(hok:∀ i,i<n->LacOk (F i))(hn1:n<=100000)(hT:Tabs w)(tw:LWTab w)(tb:LBTab w) :
  Calls prog 10 #[lv.v] w λe w'=>Bw w w'/\∃ (ly tv:S3) (ys:Nat->S3),e=.returned (.tuple #[.agg (GR (Cb.acts (Hu F n)) ly tv),iv 0])/\OutW w' (Cb.acts (Hu F n)) ly tv ys/\OutN w.heap.size (Cb.acts (Hu F n)) ly tv ys:=by
 obtain⟨la,lq,lc⟩:=lv;have hqn:lq=n:=by obtain⟨a,cap,hh⟩:=h.shape;simp only[S3.v,Value.slice.injEq]at hh;exact hh.2.1
 subst lq;have hnb:=h.len;obtain⟨L0,hL0⟩:∃ L0,Hu F n=L0:=⟨_,rfl⟩;have hLn:L0.length=n:=by rw[<- hL0];exact Ua F n
 rw[hL0];refine gI (fn:=f10) TR gS func10 (λ_ _=>⟨rfl,rfl⟩) ?_;refine qR [] 12 [1,0] λσ1 g1 w1 c1=>?_;refine qI ((decide (100000<(n:Int)))) false (D' (by omega)) ?_;refine qR [] 9 [] λσ3 g3 w3 c3=>?_;refine Br 40 [(0,.slice la n lc),(2,pt (σ1 0) 0),(14,.slice la n lc),(15,iv (n:Int)),(16,iv 0)] [true] [⟨(σ1 0),.cells Yt 34,.l,false⟩] (λk g' w' e L=>∃ j:Nat,k=n-j/\j<=n/\e=[(0,.slice la n lc),(2,pt (σ1 0) 0),(14,.slice la n lc),(15,iv (n:Int)),(16,iv (j:Int))]/\L=[⟨(σ1 0),.cells Yt 34,.l,false⟩]/\Cg w.heap.size TR gS w g' w') (by kernel_rfl) (by kernel_rfl) (by kernel_rfl) (by kernel_rfl) n (λK=>?_) ?_
 .exact⟨0,rfl,fP _,rfl,rfl,((c1.nil TR).n c3)⟩
 .rintro k gr wr _ zr _ ⟨j,rfl,hj,rfl,rfl,hC⟩ J hJ;refine qR [] 5 [] λσ4 g4 w4 c4=>?_;by_cases h0:j<n
  .refine qI ((decide ((j:Int)<(n:Int)))) true (I' (by omega)) ?_;refine qR [] 5 [] λσ5 g5 w5 c5=>?_;obtain⟨b,off,xa,xm,xp,hla,hbs,hrg,hsl⟩:=h.spot j h0;refine qV 0 (pt b (off+5*j)) (VZ hla (n:=n) (c:=lc) j h0) ?_;refine qV 1 (.agg #[iv (F j).k,iv (F j).n,iv (F j).a,iv (F j).p,.slice xa xm xp]) (bG (x:=F j) (y:=.slice xa xm xp) (λq u hq=>(((Cg.below (((hC).n c4).n c5) (λ_ _=>Ly))).cell (p:=⟨b,off+5*j+q,none⟩) hbs).trans (hrg q u hq))) ?_;refine qR [] 6 [0,0,1,0,1] λσ7 g7 w7 c7=>?_;have bb8:=(Cg.below ((((hC).n c4).n c5).n c7) (λ_ _=>Ly));refine qC 1 (Pu (x:=F j) (y:=⟨xa,xm,xp⟩) (hok j h0) (Im (x:=⟨xa,xm,xp⟩) hsl) (tw.below bb8) (tb.below bb8)) ?_;rintro e' w8 ⟨rfl,b8⟩;refine⟨_,rfl,b8,?_⟩;have c8:=Cg.ofBelow (B:=w.heap.size) (T:=[]) (g:=g7) b8;refine qR [] 7 [] λσ9 g9 w9 c9=>?_;refine qR [] 4 [] λσ11 g11 w11 c11=>?_;refine qV 0 (iv ((j:Int)+1)) (AK (x:=(.tmp 16)) (y:=(.const (iv 1))) (j:Int) 1 underlying3 (by omega)) ?_;refine qR [] 2 [] λσ12 g12 w12 c12=>?_;exact qB [true,false] λz K0 K=>hJ (n-(j+1)) _ _ _ z _ (by omega) ⟨j+1,rfl,by omega,rfl,rfl,((((((((hC).n c4).n c5).n c7).n c8).n c9).n c11).n c12)⟩ K
  .refine qI ((decide ((j:Int)<(n:Int)))) false (D' (by omega)) ?_;obtain rfl:j=n:=by omega
   refine qR [] 3 [] λσ13 g13 w13 c13=>?_;refine Ae λK=>?_;refine qG 0 [.n 70 0] [true] (Ke K.new) ?_;rintro e' w14 ⟨mb,tb',ob,nb,g14,rfl,hM0,c14⟩;refine⟨_,g14,rfl,c14,hM0.new,?_⟩;replace c14:=c14.ret (B:=w.heap.size);refine qR [] 10 [] λσ15 g15 w15 c15=>?_;refine Br 40 [(2,pt (σ1 0) 0),(7,pt mb 0),(28,.slice la j lc),(29,iv (j:Int)),(30,iv 0)] [true] [⟨(σ1 0),.cells Yt 34,.l,false⟩] (λk g' w' e L=>∃ (i:Nat) (A:Meet),k=j-i/\i<=j/\e=[(2,pt (σ1 0) 0),(7,pt mb 0),(28,.slice la j lc),(29,iv (j:Int)),(30,iv (i:Int))]/\L=[⟨(σ1 0),.cells Yt 34,.l,false⟩]/\MS mb tb' ob nb g' w' A/\(L0.drop i).foldl Meet.act A=Cb.acts L0/\MOk i A/\Cg w.heap.size TR gS w g' w') (by kernel_rfl) (by kernel_rfl) (by kernel_rfl) (by kernel_rfl) j (λK=>?_) ?_
   .exact⟨0,Cb,rfl,fP _,rfl,rfl,(hM0.ch0 c15 K.new),rfl,MOk.zero,(((((hC).n c4).n c13).trans (c14.mono (by simp[TR]))).n c15)⟩
   .rintro k gq wq _ zq _ ⟨i,A,rfl,hi,rfl,rfl,hM,hI2,hA,hC2⟩ J2 hJ2;refine qR [] 5 [] λσ16 g16 w16 c16=>?_;by_cases h3:i<j
    .refine qI ((decide ((i:Int)<(j:Int)))) true (I' (by omega)) ?_;rw[<- hL0,Xk h3,hL0,List.foldl_cons]at hI2
     have hlk:LacOk (F i):=hok i h3;refine qR [] 5 [] λσ17 g17 w17 c17=>?_;obtain⟨b,off,xa,xm,xp,hla,hbs,hrg,hsl⟩:=h.spot i h3;refine qV 0 (pt b (off+5*i)) (VZ hla (n:=j) (c:=lc) i h3) ?_;refine qV 1 (.agg #[iv (F i).k,iv (F i).n,iv (F i).a,iv (F i).p,.slice xa xm xp]) (bG (x:=F i) (y:=.slice xa xm xp) (λq u hq=>(((Cg.below (((hC2).n c16).n c17) (λ_ _=>Ly))).cell (p:=⟨b,off+5*i+q,none⟩) hbs).trans (hrg q u hq))) ?_;refine qR [] 6 [0,0,1,0,1] λσ19 g19 w19 c19=>?_;refine Ae λK=>?_;have NM:MS mb tb' ob nb g19 w19 A:=(hM.ch0 ((c16.trans c17).trans c19) K.new);have bbl:=(Cg.below ((((hC2).n c16).n c17).n c19) (λ_ _=>Ly));refine qG 2 TM [true,true] (aD NM ((Base.self w).ch ((((hC2).n c16).n c17).n c19) cT) hT (F i) ⟨xa,xm,xp⟩ (hsl.below bbl) hlk hA (by omega)) ?_;rintro e' w20 ⟨g20,rfl,M20,c20⟩;refine⟨_,g20,rfl,c20,M20.new,?_⟩;replace c20:=c20.ret (B:=w.heap.size);refine qR [] 3 [] λσ21 g21 w21 c21=>?_;refine qV 0 (iv ((i:Int)+1)) (AK (x:=(.tmp 30)) (y:=(.const (iv 1))) (i:Int) 1 underlying3 (by omega)) ?_;refine qR [] 2 [] λσ22 g22 w22 c22=>?_;exact qB [true,false] λz K0 K=>hJ2 (j-(i+1)) _ _ _ z _ (by omega) ⟨i+1,A.act (F i),rfl,by omega,rfl,rfl,(M20.ch0 (c21.trans c22) K0.new),hI2,hA.act (by omega) hlk,(((((((hC2).n c16).n c17).n c19).trans (c20.mono cQ)).n c21).n c22)⟩ K
    .refine qI ((decide ((i:Int)<(j:Int)))) false (D' (by omega)) ?_;obtain rfl:i=j:=by omega
     rw[ga (by omega)]at hI2
     replace hI2:A=Cb.acts L0:=hI2;subst hI2;refine qR [] 4 [] λσ23 g23 w23 c23=>?_;refine Ae λK=>?_;have NM:MS mb tb' ob nb g23 w23 (Cb.acts L0):=(hM.ch0 (c16.trans c23) K.new);have hwt:=hA.wt;have htl:=hA.told;have hGo:∀ b,w23.heap.size<=b->g23.t b=.z:=λb hb=>(K.new b hb).1;have bb24:=(Cg.below (((hC2).n c16).n c23) (λ_ _=>Ly));refine qC 1 (Ov NM (λq hq=>⟨(hA.node q hq).dn,(hA.node q hq).ag⟩) (by omega) (by omega)) ?_;rintro e' w24 ⟨ly,tv,ys,rfl,hOW,hON,b24⟩;refine⟨_,rfl,b24,?_⟩;have c24:=Cg.ofBelow (B:=w.heap.size) (T:=[]) (g:=g23) b24;refine qR [] 3 [0,0] λσ25 g25 w25 c25=>?_;exact qE2 2 3 34 0 (σ1 0) (GR (Cb.acts L0) ly tv) (iv 0) λK=>⟨(Cg.below (((((hC2).n c16).n c23).n c24).n c25) (λ_ _=>Ly)),ly,tv,ys,rfl,(hOW.ch hON hGo c25),hON.mono bb24.size⟩
theorem tbA(h:Tabs w0)(C:Cg w0.heap.size TQ gS w0 g w):Tabs w:=⟨h.t.below (CgQ.below C),h.n.below (CgQ.below C),h.q.below h.q.pos (CgQ.below C)⟩
def TW(w:World):Prop:=Tabs w/\LWTab w/\LBTab w
theorem tb5(h:TW w0)(C:Cg w0.heap.size TQ gS w0 g w):TW w:=⟨tbA h.1 C,h.2.1.below (CgQ.below C),h.2.2.below (CgQ.below C)⟩
theorem Mz{l:List Int}(h:Sl w y.v l)(n:Nb B y l)(G:∀ b,B<=b->g.t b=.z):FSl g w y l:=⟨h,λhl a ha=>G _ (n hl a ha)⟩
structure OwN(B:Nat)(w:World)(e:TypeId)(sz:Nat)(x:S3)(xs:List Value):Prop where
 len:xs.length=x.n*sz
 ex:(x.a=none/\x.n=0/\x.c=0)\/∃ b cur,B<=b/\x.a=some ⟨b,0,none⟩/\w.heap[b]?=some (.cells cur e (0,0))/\x.n<=x.c/\x.c<=maxLen/\cur.size=x.c*sz/\cur.toList.take (x.n*sz)=xs
theorem OwnS.own{kp:Bool}(h:OwnS g w (.n 60 r) kp e sz x xs)(C:Cg w0.heap.size TQ gS w0 g w):OwN w0.heap.size w e sz x xs:=by
 refine⟨h.len,h.ex.imp id λ⟨b,cur,h1,h2,h3,h4,h5,h6,h7,h8⟩=>⟨b,cur,?_,h1,h2,h3,h4,h5,h6⟩⟩;refine jr λhb=>?_;have:=C.tag hb (λ_=>hb);rw[h7]at this
 cases this
theorem OwN.rv(h:OwN B w e sz x xs):RdV w x sz xs:=by
 rcases h.ex with⟨h1,h2,h3⟩|⟨b,cur,h0,h1,h2,h3,h4,h5,h6⟩
 .exact⟨h.len,by omega,λ_=>h3,.inl h2⟩
 .refine⟨h.len,h3,λh=>(by rw[h1]at h;cases h),.inr ⟨b,0,h1,rl h2,λj u hj=>?_⟩⟩;rw[fV,cell_of_row _ _ _ _ _ _ h2];rw[<- h6,gt]at hj
  split at hj
  .simpa using hj
  .cases hj
theorem OwN.fz(h:OwN B w e sz x xs)(G:∀ b,B<=b->g.t b=.z):FzV g w x sz xs :=
 ⟨h.rv,λ_ a ha=>by
  rcases h.ex with⟨h1,h2,h3⟩|⟨b,cur,h0,h1,_⟩
  .rw[h1]at ha;cases ha
  .rw[h1]at ha;cases ha;exact G _ h0⟩
theorem RdV.fz(h:RdV w x sz xs):FzV gS w x sz xs:=⟨h,λ_ _ _=>rfl⟩
theorem RdV.spot(h:RdV w x sz xs)(hi:i<x.n):∃ b off,x.a=some ⟨b,off,none⟩/\b<w.heap.size/\∀ j u,xs[sz*i+j]?=some u->w.cell? ⟨b,off+sz*i+j,none⟩=some u:=by
 rcases h.ex with h1|⟨b,off,h1,h2,h3⟩
 .omega
 .exact⟨b,off,h1,h2,λj u hj=>by rw[go];exact h3 _ u hj⟩
theorem Js{f:α->List Value}(hf:∀ a,(f a).length=sz)(l:List α){a:α}{u:Value}(ha:l[i]?=some a)(hu:(f a)[j]?=some u):(l.flatMap f)[sz*i+j]?=some u:=by
 have hj:j<sz:=by rw[<- hf a];exact(P'.1 hu).1
 induction l generalizing i with
 | nil=>cases ha
 | cons c l ih =>
  rw[hY];cases i with
  | zero =>
   simp only[gp,U']at ha;subst ha;rw[fC (by rw[hf];omega),Nat.mul_zero,fV];exact hu
  | succ i =>
   rw[fI (by rw[hf,Nat.mul_succ];omega),hf,show sz*(i+1)+j-sz=sz*i+j by rw[Nat.mul_succ];omega];exact ih (by simpa using ha)
theorem Eb{f:α->List Value}(hf:∀ a,(f a).length=sz)(l:List α):(l.flatMap f).length=l.length*sz:=by
 induction l with
 | nil=>simp
 | cons c l ih=>rw[hY,N',hf,ih,fR,iT];omega
theorem df{l:List Cmd}(h:RdV w x 5 (cmL l)):x.n=l.length:=h.rc.len
def grV(g:Gr):List Value:=[iv g.k,iv g.a,iv g.b,iv g.c,iv g.d]
def grL(l:List Gr):List Value:=l.flatMap grV
structure GrOk(g:Gr):Prop where
 k:I64 g.k
 a:I64 g.a
 b:I64 g.b
 c:I64 g.c
 d:I64 g.d
def acV(l:List (Lac × S3)):List Value:=l.flatMap λp=>laV p.1 p.2.v
theorem DW(l:List (Lac × S3))(x:Lac)(y:S3):acV (l++[(x,y)])=acV l++laV x y.v:=by simp[acV]
theorem Xi(l m:List (Lac × S3)):acV (l++m)=acV l++acV m:=by simp[acV]
theorem Xj(l:List (Lac × S3)):(acV l).length=l.length*5:=Eb (f:=λp:Lac × S3=>laV p.1 p.2.v) (λ_=>rfl) l
def Dat(g:Gh)(w:World)(l:List (Lac × S3)):Prop:=∀ p∈l,FSl g w p.2 p.1.d
theorem Dat.ch(h:Dat g w l)(c:Cg B T g w g' w')(hz:Tg.z∉T:=by simp):Dat g' w' l:=λp hp=>(h p hp).ch c hz
theorem Dat.snoc(h:Dat g w l){x:Lac}(k:FSl g w y x.d):Dat g w (l++[(x,y)]):=λp hp=>(Y'.1 hp).elim (h p) λe=>by rw[O'.1 e];exact k
theorem Dat.app{m:List (Lac × S3)}(h:Dat g w l)(k:Dat g w m):Dat g w (l++m):=λp hp=>(Y'.1 hp).elim (h p) (k p)
theorem XH(g:Gh)(w:World):FSl g w s30 []:=⟨⟨⟨none,0,rfl,A' _,λ_=>rfl,.inl rfl⟩,by simp,by simp⟩,λh=>absurd rfl h⟩
def Fa.ac(x:S3)(l:List (Lac × S3)):Fa:=⟨none,λg w=>FzV g w x 5 (acV l)/\Dat g w l,λhz _ c h=>⟨h.1.ch c hz,h.2.ch c hz⟩⟩
def Fa.oa(r:Nat)(x:S3)(l:List (Lac × S3)):Fa:=⟨some r,λg w=>OwnS g w (.n 60 r) true 27 5 x (acV l)/\Dat g w l,λhz hr c h=>⟨h.1.ch c (hr r rfl) (by simp),h.2.ch c hz⟩⟩
def Fa.dt(l:List (Lac × S3)):Fa:=⟨none,λg w=>Dat g w l,λhz _ c h=>h.ch c hz⟩
structure AcR(w:World)(x:S3)(L:List Lac)(l:List (Lac × S3)):Prop where
 e:l.map (·.1)=L
 r:RdV w x 5 (acV l)
 d:∀ p∈l,Sl w p.2.v p.1.d
theorem AcR.of(h:(Fa.ac x l).p g w)(e:l.map (·.1)=L):AcR w x L l:=⟨e,h.1.rd,λp hp=>(h.2 p hp).s⟩
theorem AcR.oo(h:(Fa.oa r x l).p g w)(e:l.map (·.1)=L):AcR w x L l:=⟨e,h.1.rv,λp hp=>(h.2 p hp).s⟩
theorem AcR.below(h:AcR w x L l)(b:Bw w w'):AcR w' x L l:=⟨h.e,h.r.below b,λp hp=>(h.d p hp).below b⟩
theorem AcR.n(h:AcR w x L l):x.n=L.length:=by
 have:=h.r.len;rw[Xj]at this
 rw[<- h.e,fM];omega
theorem AcR.sk(h:AcR w x L l)(hl:L.length<=1000000):Sk w x.v (laF L) L.length:=by
 have hn:=h.n;refine⟨⟨x.a,x.c,by rw[<- hn],?_⟩,by omega⟩;rcases h.r.ex with h1|⟨b,off,h1,h2,h3⟩
 .exact .inl (by omega)
 .refine .inr ⟨b,off,h1,h2,λi hi=>?_⟩;have hil:i<l.length:=by rw[<- h.e,fM]at hi;exact hi
  refine⟨l[i].2.v,λj u hj=>?_,?_⟩
  .rw[go];refine h3 _ u (Js (f:=λp:Lac × S3=>laV p.1 p.2.v) (λ_=>rfl) l (E' hil) ?_);have:laF L i=l[i].1:=by rw[Mv hi];simp[<- h.e]
   rw[this]at hj;exact hj
  .have:laF L i=l[i].1:=by rw[Mv hi];simp[<- h.e]
   rw[this];exact h.d _ (fU hil)
structure AcN(B:Nat)(w:World)(x:S3)(l:List (Lac × S3)):Prop where
 o:OwN B w 27 5 x (acV l)
 d:∀ p∈l,Sl w p.2.v p.1.d/\Nb B p.2 p.1.d
 ne:∀ p∈l,p.1.d≠[]->∀ a b,p.2.a=some a->x.a=some b->a.block≠b.block
theorem AcN.ac(h:AcN B w x l)(G:∀ b,B<=b->g.t b=.z):(Fa.ac x l).p g w:=⟨h.o.fz G,λp hp=>Mz (h.d p hp).1 (h.d p hp).2 G⟩
theorem AcN.of(h:(Fa.oa r x l).p g w)(C:Cg w0.heap.size TQ gS w0 g w)(hn:∀ p∈l,Nb w0.heap.size p.2 p.1.d):AcN w0.heap.size w x l :=
 ⟨h.1.own C,λp hp=>⟨(h.2 p hp).s,hn p hp⟩,λp hp hd a b ha hb e=>by
  have h1:=(h.2 p hp).z hd a ha;rcases h.1.ex with⟨k1,_⟩|⟨c,cur,k1,_,_,_,_,_,k7,_⟩
  .rw[k1]at hb;cases hb
  .rw[k1]at hb;cases hb
   rw[e,k7]at h1;cases h1⟩
theorem TZ(L:List Lac):Hu (laF L) L.length=L:=by
 apply iE
 .simp[Hu]
 .intro i h1 h2;simp[Hu,Mv h2]
def Meet.log(M:Meet)(j:Nat):List Cmd:=(M.node j).agreed.take (M.node j).done
structure OutF(g:Gh)(w:World)(ly tv:S3)(ys:Nat->S3)(M:Meet):Prop where
 logs:FzV g w ly 1 [S3.v (ys 0),S3.v (ys 1),S3.v (ys 2),S3.v (ys 3),S3.v (ys 4)]
 log:∀ j,j<5->FzV g w (ys j) 5 (cmL (M.log j))
 told:FzV g w tv 5 (M.told.flatMap EE)
theorem OutF.ch(h:OutF g w ly tv ys M)(c:Cg B T g w g' w')(hz:Tg.z∉T:=by simp):OutF g' w' ly tv ys M:=⟨h.logs.ch c hz,λj hj=>(h.log j hj).ch c hz,h.told.ch c hz⟩
def Fa.ot(ly tv:S3)(ys:Nat->S3)(M:Meet):Fa:=⟨none,λg w=>OutF g w ly tv ys M,λhz _ c h=>h.ch c hz⟩
theorem R8(h:OutW w M ly tv ys)(n:OutN B M ly tv ys)(G:∀ b,B<=b->g.t b=.z):OutF g w ly tv ys M :=
 ⟨⟨h.logs,λ_ a ha=>G _ (n.logs a ha)⟩,λj hj=>⟨(h.log j hj).rv,λhv a ha=>G _ (n.log j hj hv a ha)⟩,⟨h.told,λhv a ha=>G _ (n.told hv a ha)⟩⟩
theorem OutW.n5(h:OutW w M ly tv ys):ly.n=5:=by have:=h.logs.len;simp at this;omega
end
section
variable{n tc tr tu k c s m v:Int}(h:paE n tc tr tu k c s m v=0)
include h
end
section
variable{G:List Gr}{L:List Lac}{M:Meet}{W w:World}{b i j n off:Nat}{cr:Bool}{g:Gh}{l:List (Lac × S3)}{ly tv x:S3}{ys:Nat->S3}
theorem Kl{n tc tr tu k c s m v:Int}(h:paE n tc tr tu k c s m v=0):(paL n tc tr tu k c s m v).length=63:=by
 rw[VL h,fR,Fj,Gn]
theorem fc(x:S3)(k:Nat)(hk:k<=x.c)(ha:∃ b off,x.a=some ⟨b,off,none⟩):(Instr.sliceAt 25 x.v none (some (iv (k:Int))) none).run prog W=.ok (S3.v ⟨x.a,k,x.c⟩) W:=by
 obtain⟨b,off,ha⟩:=ha;obtain⟨xa,xn,xc⟩:=x;simp only at ha hk;subst ha;have e:prog.elem 25=5:=by kernel_rfl
 rw[run_sliceAt_slice _ _ _ _ _ _ YW,run_slice_h (P:=prog) (w:=W) _ _ _ _ YW .i64 k (by omega) (by show(k:Int)<=((xc:Nat):Int);omega),e,Gu];simp[Result.andThen,sliced,Addr.add]
theorem FSl.take{l:List Int}(h:FSl g w x l)(k:Nat)(hk:k<=l.length):FSl g w ⟨x.a,k,x.c⟩ (l.take k):=by
 have hn:=Im h.s;obtain⟨⟨⟨a,cap,hv,hc,hn,h1⟩,h2,h3⟩,h4⟩:=h;simp only[Value.slice.injEq]at hv;obtain⟨rfl,hxn,rfl⟩:=hv;refine⟨⟨⟨_,_,by simp only[Value.slice.injEq,and_true,true_and,fx];omega,by rw[fx];omega,hn,?_⟩,by rw[fx];omega,λz hz=>h3 z (fK hz)⟩,λhl=>h4 λe=>hl (by rw[e];simp)⟩;rcases h1 with h1|⟨b,off,ha,hbs,hcell⟩
 .exact .inl (by rw[h1];simp)
 .refine .inr ⟨b,off,ha,hbs,λi hi=>?_⟩;rw[fx]at hi
  rw[show(l.take k).getD i 0=l.getD i 0 by simp[List.getD,show i<k by omega]];exact hcell i (by omega)
theorem FSl.addr{l:List Int}(h:FSl g w x l)(hl:l≠[]):(∃ b off,x.a=some ⟨b,off,none⟩)/\l.length<=x.c:=by
 obtain⟨⟨⟨a,cap,hv,hc,hn,h1⟩,h2,h3⟩,h4⟩:=h;simp only[Value.slice.injEq]at hv;obtain⟨rfl,hxn,rfl⟩:=hv;rcases h1 with h1|⟨b,off,ha,_⟩
 .exact absurd h1 hl
 .exact⟨⟨b,off,ha⟩,hc⟩
theorem Te{g:Gr}(h:GrOk g)(hT:Tabs w) :
  Calls prog 11 #[.agg #[iv g.k,iv g.a,iv g.b,iv g.c,iv g.d]] w λe w'=>∃ y:S3,e=.returned y.v/\Sl w' y.v (pkB g)/\Nb w.heap.size y (pkB g)/\Bw w w':=by
 have hl:(pkP g).length=63:=Kl (VR g);have r4:=AO g.c 4 (by omega);refine tIn [] func11 trivial ?_;refine tR 18 [0,0,0,0,0,0,0] λσ1 _ _=>?_;refine tC 11 (λF C=>Pf h.b h.c h.d h.a h.d) λNz=>?_;rintro _ _ ⟨rfl,b2⟩;refine⟨_,_,rfl,b2,id,?_⟩;refine tR 16 [0,0,1,0,1,1,0,2,0,0] λσ3 _ _=>?_;refine tC 2 (λF C=>BB h.d 17) λNz=>?_;rintro _ _ ⟨rfl,b4⟩;refine⟨_,_,rfl,b4,id,?_⟩;refine tR 1 [] λσ5 _ _=>?_;refine T3 56 (λee LL ΦΦ=>∃ (tc tr:Int),ee=[(1,pt (σ1 0) 0),(3,pt (σ3 0) 0),(4,pt (σ3 1) 0)]/\LL=[⟨(σ1 0),.cells #[iv g.k,iv g.a,iv g.b,iv g.c,iv g.d] 42,.z,false⟩,⟨(σ3 0),.cells #[iv (wK g.b),iv (pick g.c 4),iv (pick g.d 6),iv (pick g.a 4),iv (wV g.b g.d)] 53,.z,false⟩,⟨(σ3 1),.cells #[iv tc,iv tr,iv 60] 57,.l,false⟩]/\ΦΦ=[]/\tc=pkT g/\tr=pkR g) (λJ hJ=>?_) ?_
 .refine tR 6 [] λσ6 _ _=>?_;by_cases h1:pick g.d 17=15
  .refine tI (((pick g.d 17)==15)) true (by simpa using h1) ?_;refine tR 5 [2,0] λσ7 _ _=>?_;exact tD hJ [true,true,true] ⟨pick g.c 4,0,rfl,rfl,rfl,(if_neg (by omega)).symm,(if_pos h1).symm⟩ (λF=>trivial)
  .refine tI (((pick g.d 17)==15)) false (by simpa using h1) ?_;refine tR 5 [] λσ8 _ _=>?_;by_cases h2:pick g.d 17=16
   .refine tI (((pick g.d 17)==16)) true (by simpa using h2) ?_;refine tR 3 [2] λσ9 _ _=>?_;refine tV 2 (iv (pick g.c 4+1)) (λF C=>(AK (x:=(.tmp 31)) (y:=(.const (iv 1))) (pick g.c 4) 1 underlying3 (by omega))) ?_;refine tV 3 (iv ((pick g.c 4+1)%4)) (λF C=>(RC (x:=(.tmp 32)) (y:=(.const (iv 4))) (pick g.c 4+1) 4 underlying3 (by omega) (by omega) (by decide) (by decide))) ?_;refine tR 4 [2,0] λσ11 _ _=>?_;exact tD hJ [true,true,true] ⟨(pick g.c 4+1)%4,7,rfl,rfl,rfl,(if_pos h2).symm,(if_neg h1).symm⟩ (λF=>trivial)
   .refine tI (((pick g.d 17)==16)) false (by simpa using h2) ?_;refine tR 2 [] λσ12 _ _=>?_;exact tD hJ [true,true,true] ⟨pick g.c 4,7,rfl,rfl,rfl,(if_neg h2).symm,(if_neg h1).symm⟩ (λF=>trivial)
 rintro _ _ _ ⟨tc,tr,rfl,rfl,rfl,htc,htr⟩ _ _ _;refine tR 6 [11,0,2,0,6,2,8,1] λσ13 _ _=>?_;refine tC 2 (λF C=>BB h.a 1000) λNz=>?_;rintro _ _ ⟨rfl,b14⟩;refine⟨_,_,rfl,b14,id,?_⟩;refine tF λ_ Cs=>?_;have hs16:=Cs.size;have hE:=VR g;rw[<- htc,<- htr]at hE
 have hP:pkP g=paL (pick g.a 1000) tc tr 60 (wK g.b) (pick g.c 4) (pick g.d 6) (pick g.a 4) (wV g.b g.d):=by rw[htc,htr];rfl
 refine tC 5 (λF C=>Yx hE (tbA hT C)) λNz=>?_;rintro _ _ ⟨y,rfl,hy,hn,b17⟩;refine⟨_,Fa.sl y (pkP g)::_,rfl,b17,λF=>⟨(by rw[hP];exact Mz hy hn Nz),F⟩,?_⟩;rw[<- hP]at hy hn
 have hyn:=Im hy;refine tR 11 [12,14,16,18,20,0] λσ18 _ _=>?_;refine tC 2 (λF C=>BB h.d 23) λNz=>?_;rintro _ _ ⟨rfl,b19⟩;refine⟨_,_,rfl,b19,id,?_⟩;by_cases h1:pick g.d 23=22
 .refine tV 3 (.bool true) (λF C=>(Eg (t:=3) (m:=pick g.d 23) (n:=22) (x:=(.tmp 46)) (y:=(.const (iv 22))) (by simpa using h1))) ?_;refine tR 6 [] λσ21 _ _=>?_;refine tI ((decide (30<(y.n:Int)))) true (I' (by omega)) ?_;refine tR 2 [] λσ22 _ _=>?_;refine tF λF _=>?_;have hya:=FSl.addr F.1 (λe=>by rw[e]at hl;cases hl);refine tV 1 (S3.v ⟨y.a,30,y.c⟩) (λF C=>(fc y 30 (by omega) hya.1)) ?_;refine tR 7 [] λσ23 _ _=>?_;rw[show pkB g=_ from if_pos ⟨h1,by omega⟩];exact tE (S3.v ⟨y.a,30,y.c⟩) λF B=>⟨⟨y.a,30,y.c⟩,rfl,(F.1.take 30 (by omega)).s,λ_ a ha=>hn.mono hs16 (λe=>by rw[e]at hl;cases hl) a ha,B⟩
 .refine tV 3 (.bool false) (λF C=>(Eg (t:=3) (m:=pick g.d 23) (n:=22) (x:=(.tmp 46)) (y:=(.const (iv 22))) (by simpa using h1))) ?_;refine tR 13 [] λσ24 _ _=>?_;rw[show pkB g=_ from if_neg (λe=>h1 e.1)];exact tE (S3.v y) λF B=>⟨y,rfl,F.1.s,hn.mono hs16,B⟩
theorem ZL{g:Gr}(h:GrOk g)(hT:Tabs w){x:Lac}(hx:Mq g cr=x) :
  Calls prog 9 #[.agg #[iv g.k,iv g.a,iv g.b,iv g.c,iv g.d],.bool cr] w λe w'=>∃ y:S3,e=.returned (.agg #[iv x.k,iv x.n,iv x.a,iv x.p,y.v])/\Sl w' y.v x.d/\Nb w.heap.size y x.d/\Bw w w':=by
 refine tIn [] func9 trivial ?_;refine tR 9 [0,0,1,0,0] λσ1 _ _=>?_;refine tC 2 (λF C=>BB h.a 5) λNz=>?_;rintro _ _ ⟨rfl,b2⟩;refine⟨_,_,rfl,b2,id,?_⟩;refine tR 7 [0] λσ3 _ _=>?_;refine tC 2 (λF C=>BB h.k 24) λNz=>?_;rintro _ _ ⟨rfl,b4⟩;refine⟨_,_,rfl,b4,id,?_⟩;unfold Mq at hx;refine tR 9 [] λσ5 _ _=>?_;by_cases h1:pick g.k 24<3
 .refine tI ((decide ((pick g.k 24)<3))) true (by simpa using h1) ?_;rw[if_pos h1]at hx
  refine tR 4 [0] λσ6 _ _=>?_;refine tF λ_ Cs=>?_;have hs7:=Cs.size;refine tC 2 (λF C=>Te h (tbA hT C)) λNz=>?_;rintro _ _ ⟨y,rfl,hy,hn,b8⟩;refine⟨_,Fa.sl y (pkB g)::_,rfl,b8,λF=>⟨Mz hy hn Nz,F⟩,?_⟩;refine tR 3 [1,0] λσ9 _ _=>?_;subst hx;exact tX λF C=>qE1 4 27 1 (σ1 1) #[iv 1,iv (pick g.a 5),iv 0,iv 0,S3.v y] λ_=>⟨y,rfl,F.1.s,hn.mono hs7,CgQ.below C⟩
 .refine tI ((decide ((pick g.k 24)<3))) false (by simpa using h1) ?_;rw[if_neg h1]at hx
  refine tR 6 [] λσ10 _ _=>?_;by_cases h1:pick g.k 24<5
  .refine tI ((decide ((pick g.k 24)<5))) true (by simpa using h1) ?_;rw[if_pos h1]at hx
   refine tR 6 [1,0] λσ11 _ _=>?_;subst hx;exact tX λF C=>qE1 4 27 1 (σ1 1) #[iv 2,iv (pick g.a 5),iv 0,iv 0,S3.v s30] λ_=>⟨s30,rfl,D7 _,λe=>absurd rfl e,CgQ.below C⟩
  .refine tI ((decide ((pick g.k 24)<5))) false (by simpa using h1) ?_;rw[if_neg h1]at hx
   refine tR 6 [] λσ12 _ _=>?_;by_cases h1:pick g.k 24<14
   .refine tI ((decide ((pick g.k 24)<14))) true (by simpa using h1) ?_;rw[if_pos h1]at hx
    refine tR 6 [1,0] λσ13 _ _=>?_;subst hx;exact tX λF C=>qE1 4 27 1 (σ1 1) #[iv 3,iv (pick g.a 5),iv 0,iv 0,S3.v s30] λ_=>⟨s30,rfl,D7 _,λe=>absurd rfl e,CgQ.below C⟩
   .refine tI ((decide ((pick g.k 24)<14))) false (by simpa using h1) ?_;rw[if_neg h1]at hx
    refine tR 6 [] λσ14 _ _=>?_;by_cases h1:pick g.k 24=14
    .refine tI (((pick g.k 24)==14)) true (by simpa using h1) ?_;rw[if_pos h1]at hx
     refine tR 4 [0] λσ15 _ _=>?_;refine tC 2 (λF C=>BB h.c 20) λNz=>?_;rintro _ _ ⟨rfl,b16⟩;refine⟨_,_,rfl,b16,id,?_⟩;refine tR 3 [1,0] λσ17 _ _=>?_;subst hx;exact tX λF C=>qE1 4 27 1 (σ1 1) #[iv 4,iv 0,iv (pick g.c 20),iv 0,S3.v s30] λ_=>⟨s30,rfl,D7 _,λe=>absurd rfl e,CgQ.below C⟩
    .refine tI (((pick g.k 24)==14)) false (by simpa using h1) ?_;rw[if_neg h1]at hx
     refine tR 6 [] λσ18 _ _=>?_;by_cases h1:pick g.k 24=15
     .refine tI (((pick g.k 24)==15)) true (by simpa using h1) ?_;rw[if_pos h1]at hx
      refine tR 4 [0] λσ19 _ _=>?_;refine tC 2 (λF C=>BB h.c 20) λNz=>?_;rintro _ _ ⟨rfl,b20⟩;refine⟨_,_,rfl,b20,id,?_⟩;refine tR 3 [1,0] λσ21 _ _=>?_;subst hx;exact tX λF C=>qE1 4 27 1 (σ1 1) #[iv 5,iv 0,iv (pick g.c 20),iv 0,S3.v s30] λ_=>⟨s30,rfl,D7 _,λe=>absurd rfl e,CgQ.below C⟩
     .refine tI (((pick g.k 24)==15)) false (by simpa using h1) ?_;rw[if_neg h1]at hx
      refine tR 6 [] λσ22 _ _=>?_;by_cases h1:pick g.k 24=16
      .refine tI (((pick g.k 24)==16)) true (by simpa using h1) ?_;rw[if_pos h1]at hx
       refine tR 4 [0] λσ23 _ _=>?_;refine tC 2 (λF C=>BB h.c 20) λNz=>?_;rintro _ _ ⟨rfl,b24⟩;refine⟨_,_,rfl,b24,id,?_⟩;refine tR 3 [1,0] λσ25 _ _=>?_;subst hx;exact tX λF C=>qE1 4 27 1 (σ1 1) #[iv 6,iv 0,iv (pick g.c 20),iv 0,S3.v s30] λ_=>⟨s30,rfl,D7 _,λe=>absurd rfl e,CgQ.below C⟩
      .refine tI (((pick g.k 24)==16)) false (by simpa using h1) ?_;rw[if_neg h1]at hx
       refine tR 3 [] λσ26 _ _=>?_;by_cases h1:pick g.k 24=17
       .refine tV 1 (.bool true) (λF C=>(Eg (t:=3) (m:=pick g.k 24) (n:=17) (x:=(.tmp 52)) (y:=(.const (iv 17))) (by simpa using h1))) ?_;refine tR 5 [] λσ27 _ _=>?_;by_cases h2:cr=true
        .refine tI (cr) true h2 ?_;rw[if_pos ⟨h1,h2⟩]at hx
         refine tR 5 [0] λσ28 _ _=>?_;refine tC 3 (λF C=>BB h.c 90) λNz=>?_;rintro _ _ ⟨rfl,b29⟩;refine⟨_,_,rfl,b29,id,?_⟩;refine tR 3 [1,0] λσ30 _ _=>?_;subst hx;exact tX λF C=>qE1 4 27 1 (σ1 1) #[iv 8,iv (pick g.a 5),iv 0,iv (pick g.c 90),S3.v s30] λ_=>⟨s30,rfl,D7 _,λe=>absurd rfl e,CgQ.below C⟩
        .refine tI (cr) false (by simpa using h2) ?_;rw[if_neg (λe=>h2 e.2)]at hx
         refine tR 3 [] λσ31 _ _=>?_;by_cases h1:pick g.k 24=18
         .refine tV 1 (.bool true) (λF C=>(Eg (t:=3) (m:=pick g.k 24) (n:=18) (x:=(.tmp 63)) (y:=(.const (iv 18))) (by simpa using h1))) ?_;refine tR 5 [] λσ32 _ _=>?_;by_cases h2:cr=true
          .refine tI (cr) true h2 ?_;rw[if_pos ⟨h1,h2⟩]at hx
           refine tR 6 [1,0] λσ33 _ _=>?_;subst hx;exact tX λF C=>qE1 4 27 1 (σ1 1) #[iv 9,iv (pick g.a 5),iv 0,iv 0,S3.v s30] λ_=>⟨s30,rfl,D7 _,λe=>absurd rfl e,CgQ.below C⟩
          .refine tI (cr) false (by simpa using h2) ?_;rw[if_neg (λe=>h2 e.2)]at hx
           refine tR 7 [1,0] λσ34 _ _=>?_;subst hx;exact tX λF C=>qE1 4 27 1 (σ1 1) #[iv 7,iv 0,iv 0,iv 0,S3.v s30] λ_=>⟨s30,rfl,D7 _,λe=>absurd rfl e,CgQ.below C⟩
         .refine tV 1 (.bool false) (λF C=>(Eg (t:=3) (m:=pick g.k 24) (n:=18) (x:=(.tmp 63)) (y:=(.const (iv 18))) (by simpa using h1))) ?_;rw[if_neg (λe=>h1 e.1)]at hx
          refine tR 13 [1,0] λσ35 _ _=>?_;subst hx;exact tX λF C=>qE1 4 27 1 (σ1 1) #[iv 7,iv 0,iv 0,iv 0,S3.v s30] λ_=>⟨s30,rfl,D7 _,λe=>absurd rfl e,CgQ.below C⟩
       .refine tV 1 (.bool false) (λF C=>(Eg (t:=3) (m:=pick g.k 24) (n:=17) (x:=(.tmp 52)) (y:=(.const (iv 17))) (by simpa using h1))) ?_;rw[if_neg (λe=>h1 e.1)]at hx
        refine tR 9 [] λσ36 _ _=>?_;by_cases h1:pick g.k 24=18
        .refine tV 1 (.bool true) (λF C=>(Eg (t:=3) (m:=pick g.k 24) (n:=18) (x:=(.tmp 63)) (y:=(.const (iv 18))) (by simpa using h1))) ?_;refine tR 5 [] λσ37 _ _=>?_;by_cases h2:cr=true
         .refine tI (cr) true h2 ?_;rw[if_pos ⟨h1,h2⟩]at hx
          refine tR 6 [1,0] λσ38 _ _=>?_;subst hx;exact tX λF C=>qE1 4 27 1 (σ1 1) #[iv 9,iv (pick g.a 5),iv 0,iv 0,S3.v s30] λ_=>⟨s30,rfl,D7 _,λe=>absurd rfl e,CgQ.below C⟩
         .refine tI (cr) false (by simpa using h2) ?_;rw[if_neg (λe=>h2 e.2)]at hx
          refine tR 7 [1,0] λσ39 _ _=>?_;subst hx;exact tX λF C=>qE1 4 27 1 (σ1 1) #[iv 7,iv 0,iv 0,iv 0,S3.v s30] λ_=>⟨s30,rfl,D7 _,λe=>absurd rfl e,CgQ.below C⟩
        .refine tV 1 (.bool false) (λF C=>(Eg (t:=3) (m:=pick g.k 24) (n:=18) (x:=(.tmp 63)) (y:=(.const (iv 18))) (by simpa using h1))) ?_;rw[if_neg (λe=>h1 e.1)]at hx
         refine tR 13 [1,0] λσ40 _ _=>?_;subst hx;exact tX λF C=>qE1 4 27 1 (σ1 1) #[iv 7,iv 0,iv 0,iv 0,S3.v s30] λ_=>⟨s30,rfl,D7 _,λe=>absurd rfl e,CgQ.below C⟩
theorem eU{k:Nat}(g:Gr)(h:∀ j u,(grV g)[j]?=some u->W.cell? ⟨b,k+j,none⟩=some u):(Instr.loadAt 42 (pt b k)).run prog W=.ok (.agg #[iv g.k,iv g.a,iv g.b,iv g.c,iv g.d]) W:=by
 have h1:=run_loadVar_mid (P:=prog) W b k 42 (grV g) _ h underlying42 rfl (by kernel_rfl);simp only[Instr.loadAt,Instr.sureAddr,Sem.run_bind,Sem.run_pure,Result.andThen_ok];exact h1
theorem dK(ha:x.a=some ⟨b,off,none⟩)(j:Nat)(hj:j<x.n):(Instr.indexAt 22 x.v (iv (j:Int))).run prog W=.ok (pt b (off+5*j)) W:=by
 obtain⟨xa,xn,xc⟩:=x;simp only at ha hj;subst ha;exact O6 (P:=prog) (e:=42) (z:=5) underlying22 (by kernel_rfl) (by kernel_rfl) hj _ rfl
theorem du{l:S3}{g:Gr}(h:RdV w l 5 (grL G))(ha:l.a=some ⟨b,off,none⟩)(hg:G[i]?=some g){u:Value}(hj:(grV g)[j]?=some u):w.cell? ⟨b,off+5*i+j,none⟩=some u:=by
 have hn:l.n=G.length:=by have:=h.len;rw[show(grL G).length=G.length*5 from Eb (f:=grV) (λ_=>rfl) G]at this;omega
 obtain⟨b',off',h1,_,h3⟩:=h.spot (i:=i) (by rw[hn];exact(P'.1 hg).1);rw[ha]at h1
 cases h1;exact h3 j u (Js (f:=grV) (λ_=>rfl) G hg hj)
theorem Tw{l:S3}{most:Nat}(h:RdV w l 5 (grL G))(hG:∀ g∈G,GrOk g)(hm:most<=100)(hT:Tabs w) :
  Calls prog 5 #[l.v,iv (most:Int),.bool cr] w λe w'=>∃ (y:S3) (P:List (Lac × S3)),e=.returned y.v/\P.map (·.1)=scr G most cr/\AcN w.heap.size w' y P/\Bw w w':=by
 have hln:l.n=G.length:=by have:=h.len;rw[show(grL G).length=G.length*5 from Eb (f:=grV) (λ_=>rfl) G]at this;omega
 refine tIn [Fa.zv l 5 (grL G)] func5 ⟨h.fz,trivial⟩ ?_;refine tR 18 [] λσ1 _ _=>?_;refine IN 41 [(0,S3.v l),(1,iv (most:Int)),(2,.bool cr),(7,sn),(8,iv 0),(9,iv 0)] [] [] [Fa.zv l 5 (grL G),Fa.oa 0 s30 []] (λkk ee LL ΦΦ=>∃ (i s:Nat) (y:S3) (P:List (Lac × S3)),kk=min G.length most-i/\ee=[(0,S3.v l),(1,iv (most:Int)),(2,.bool cr),(7,S3.v y),(8,iv (s:Int)),(9,iv (i:Int))]/\LL=[]/\ΦΦ=[Fa.zv l 5 (grL G),Fa.oa 0 y P]/\i<=min G.length most/\y.n=i/\s<=i/\scr G most cr=P.map (·.1)++MI cr s ((G.take most).drop i)/\(∀ p∈P,Nb w.heap.size p.2 p.1.d)) (min G.length most) ⟨0,0,s30,[],rfl,rfl,rfl,rfl,by omega,rfl,by omega,rfl,λp hp=>by cases hp⟩ (λF=>⟨F.1,⟨OwnS.nil _ _ _ _ _ _,λp hp=>by cases hp⟩,trivial⟩) ?_;rintro k _ _ _ ⟨i,s,y,P,rfl,rfl,rfl,rfl,hi,hyn,hsi,hI,hN⟩ _ _ _ J hJ;refine tR 6 [] λσ2 _ _=>?_;by_cases h1:i<G.length
 .refine tV 3 (.bool true) (λF C=>(rLt (t:=3) (m:=(i:Int)) (n:=(l.n:Int)) (x:=(.tmp 11)) (y:=(.tmp 13)) (I' (by omega)))) ?_;refine tR 6 [] λσ3 _ _=>?_;by_cases h2:i<most
  .refine tI ((decide ((i:Int)<(most:Int)))) true (I' (by omega)) ?_;have hi:i<(G.take most).length:=by rw[fx];omega
   obtain⟨g,hg⟩:∃ g,(G.take most)[i]?=some g:=⟨_,E' hi⟩;have hgG:G[i]?=some g:=by rw[gt,if_pos h2]at hg;exact hg
   have hgo:=hG g (fQ hgG);rw[gf hi,show(G.take most)[i]=g from(P'.1 hg).2,MI]at hI
   refine tF λF _=>?_;obtain⟨b,off,hla,_,hlc⟩:=F.1.rd.spot (i:=i) (by omega);refine tR 7 [] λσ4 _ _=>?_;refine tV 2 (pt b (off+5*i)) (λF C=>(dK hla i (by omega))) ?_;refine tV 3 (.agg #[iv g.k,iv g.a,iv g.b,iv g.c,iv g.d]) (λF C=>(eU g λj u hj=>du F.1.rd hla hgG hj)) ?_;refine tR 1 [] λσ6 _ _=>?_;obtain⟨x,hx⟩:∃ x,Mq g cr=x:=⟨_,rfl⟩;refine tF λ_ Cs=>?_;have hs7:=Cs.size;refine tC 5 (λF C=>ZL hgo (tbA hT C) hx) λNz=>?_;rintro _ _ ⟨d,rfl,hd,hn,b8⟩;refine⟨_,Fa.sl d x.d::_,rfl,b8,λF=>⟨Mz hd hn Nz,F⟩,?_⟩;rw[hx]at hI
   refine tR 10 [1,0,0,0,0] λσ9 _ _=>?_;by_cases h3:x.k=1
   .refine tI ((x.k==1)) true (by simpa using h3) ?_;refine tR 3 [] λσ10 _ _=>?_;refine tV 1 (iv ((s:Int)+1)) (λF C=>(AK (x:=(.tmp 31)) (y:=(.const (iv 1))) (s:Int) 1 underlying3 (by omega))) ?_;refine tR 7 [] λσ11 _ _=>?_;rw[show bR s x=s+1 from if_pos h3]at hI
    by_cases h4:6<s+1
    .refine tI ((decide (6<((s:Int)+1)))) true (I' (by omega)) ?_;rw[show Wl s x=acN 7 0 from if_pos ⟨h3,by omega⟩]at hI
     refine tR 8 [0,0,0,0,0] λσ12 _ _=>?_;refine OQ 3 0 (x:=y) 24 24 27 5 56 zLa ⟨(σ12 0),0,none⟩ 1 1 [iv 7,iv 0,iv 0,iv 0,sn] (λF=>F.2.2.1.1) [Fa.zv l 5 (grL G),Fa.dt (P++[(acN 7 0,s30)])] (λF=>⟨F.2.1,Dat.snoc F.2.2.1.2 (XH _ _),trivial⟩) rfl (by simp[TQ]) rfl (by simp[Value.oneCell']) (λF K=>BL K 1 (σ12 0) [iv 7,iv 0,iv 0,iv 0,sn] 27 .z true (by kernel_rfl)) (by unfold maxLen;omega) (by omega) λy13 _ _ n13=>?_;refine tR 5 [] λσ14 _ _=>?_;refine tV 1 (iv ((i:Int)+1)) (λF C=>(AK (x:=(.tmp 20)) (y:=(.const (iv 1))) (i:Int) 1 underlying3 (by omega))) ?_;refine tR 2 [] λσ15 _ _=>?_;exact tB hJ (min G.length most-(i+1)) (by omega) [false,false] ⟨i+1,(s+1),y13,P++[(acN 7 0,s30)],rfl,rfl,rfl,rfl,by omega,by omega,by omega,(by rw[hI,fG,fF];rfl),λp hp=>(Y'.1 hp).elim (hN p) λe=>by rw[O'.1 e];exact λe=>absurd rfl e⟩ (λF=>⟨F.2.1,⟨(by rw[DW];exact F.1),F.2.2.1⟩,trivial⟩)
    .refine tI ((decide (6<((s:Int)+1)))) false (D' (by omega)) ?_;rw[show Wl s x=x from if_neg (λe=>h4 (by omega))]at hI
     refine tR 5 [0,0,0] λσ16 _ _=>?_;refine OQ 3 0 (x:=y) 24 24 27 5 56 zLa ⟨(σ16 0),0,none⟩ 1 1 [iv x.k,iv x.n,iv x.a,iv x.p,S3.v d] (λF=>F.2.2.1.1) [Fa.zv l 5 (grL G),Fa.dt (P++[(x,d)])] (λF=>⟨F.2.1,Dat.snoc F.2.2.1.2 (F.1),trivial⟩) rfl (by simp[TQ]) rfl (by simp[Value.oneCell']) (λF K=>BL K 1 (σ16 0) [iv x.k,iv x.n,iv x.a,iv x.p,S3.v d] 27 .z true (by kernel_rfl)) (by unfold maxLen;omega) (by omega) λy17 _ _ n17=>?_;refine tR 5 [] λσ18 _ _=>?_;refine tV 1 (iv ((i:Int)+1)) (λF C=>(AK (x:=(.tmp 20)) (y:=(.const (iv 1))) (i:Int) 1 underlying3 (by omega))) ?_;refine tR 2 [] λσ19 _ _=>?_;exact tB hJ (min G.length most-(i+1)) (by omega) [false,false] ⟨i+1,(s+1),y17,P++[(x,d)],rfl,rfl,rfl,rfl,by omega,by omega,by omega,(by rw[hI,fG,fF];rfl),λp hp=>(Y'.1 hp).elim (hN p) λe=>by rw[O'.1 e];exact hn.mono hs7⟩ (λF=>⟨F.2.1,⟨(by rw[DW];exact F.1),F.2.2.1⟩,trivial⟩)
   .refine tI ((x.k==1)) false (by simpa using h3) ?_;rw[show bR s x=s from if_neg h3,show Wl s x=x from if_neg (λe=>h3 e.1)]at hI
    refine tR 5 [0,0,0] λσ20 _ _=>?_;refine OQ 3 0 (x:=y) 24 24 27 5 56 zLa ⟨(σ20 0),0,none⟩ 1 1 [iv x.k,iv x.n,iv x.a,iv x.p,S3.v d] (λF=>F.2.2.1.1) [Fa.zv l 5 (grL G),Fa.dt (P++[(x,d)])] (λF=>⟨F.2.1,Dat.snoc F.2.2.1.2 (F.1),trivial⟩) rfl (by simp[TQ]) rfl (by simp[Value.oneCell']) (λF K=>BL K 1 (σ20 0) [iv x.k,iv x.n,iv x.a,iv x.p,S3.v d] 27 .z true (by kernel_rfl)) (by unfold maxLen;omega) (by omega) λy21 _ _ n21=>?_;refine tR 5 [] λσ22 _ _=>?_;refine tV 1 (iv ((i:Int)+1)) (λF C=>(AK (x:=(.tmp 20)) (y:=(.const (iv 1))) (i:Int) 1 underlying3 (by omega))) ?_;refine tR 2 [] λσ23 _ _=>?_;exact tB hJ (min G.length most-(i+1)) (by omega) [false,false] ⟨i+1,s,y21,P++[(x,d)],rfl,rfl,rfl,rfl,by omega,by omega,by omega,(by rw[hI,fG,fF];rfl),λp hp=>(Y'.1 hp).elim (hN p) λe=>by rw[O'.1 e];exact hn.mono hs7⟩ (λF=>⟨F.2.1,⟨(by rw[DW];exact F.1),F.2.2.1⟩,trivial⟩)
  .refine tI ((decide ((i:Int)<(most:Int)))) false (D' (by omega)) ?_;refine tR 6 [] λσ24 _ _=>?_;rw[ga (by rw[fx];omega),MI,fZ]at hI
   exact tX λF C=>qE (S3.v y) λ_=>⟨y,P,rfl,hI.symm,AcN.of F.2.1 C hN,CgQ.below C⟩
 .refine tV 3 (.bool false) (λF C=>(rLt (t:=3) (m:=(i:Int)) (n:=(l.n:Int)) (x:=(.tmp 11)) (y:=(.tmp 13)) (D' (by omega)))) ?_;refine tR 13 [] λσ25 _ _=>?_;rw[ga (by rw[fx];omega),MI,fZ]at hI
  exact tX λF C=>qE (S3.v y) λ_=>⟨y,P,rfl,hI.symm,AcN.of F.2.1 C hN,CgQ.below C⟩
theorem R9(h:OutF g w ly tv ys M):OutW w M ly tv ys:=⟨h.logs.rd,λj hj=>(h.log j hj).rd.rc,h.told.rd⟩
theorem bQ(h:AcR w x L l)(ho:∀ a∈L,LacOk a)(hl:L.length<=100000)(hT:TW w)(hM:Cb.acts L=M) :
  Calls prog 10 #[x.v] w λe w'=>∃ (ly tv:S3) (ys:Nat->S3),e=.returned (.tuple #[.agg (GR M ly tv),iv 0])/\OutW w' M ly tv ys/\OutN w.heap.size M ly tv ys/\Bw w w':=by
 subst hM;refine(YD (h.sk (by omega)) (λi hi=>by rw[Mv hi];exact ho _ (fU hi)) hl hT.1 hT.2.1 hT.2.2).mono ?_;rw[TZ];rintro e w' ⟨hb,ly,tv,ys,h1,h2,h3⟩;exact⟨ly,tv,ys,h1,h2,h3,hb⟩
theorem bL(h:AcR w x L l)(ho:∀ a∈L,LacOk a)(hl:L.length<=100000)(hT:TW w)(hM:Cb.acts L=M) :
  Calls prog 6 #[x.v] w λe w'=>∃ (ly tv:S3) (ys:Nat->S3),e=.returned (.tuple #[.agg (GR M ly tv),.bool true])/\OutW w' M ly tv ys/\OutN w.heap.size M ly tv ys/\Bw w w':=by
 refine tIn [] func6 trivial ?_;refine tR 8 [1,0] λσ1 _ _=>?_;refine tF λ_ Cs=>?_;have hs2:=Cs.size;refine tC 1 (λF C=>bQ (h.below (CgQ.below C)) ho hl (tb5 hT C) hM) λNz=>?_;rintro _ _ ⟨ly,tv,ys,rfl,hW,hN,b3⟩;refine⟨_,Fa.ot ly tv ys M::_,rfl,b3,λF=>⟨R8 hW hN Nz,F⟩,?_⟩;refine tR 14 [0,0,1,0,9,0,1,2,4,6,8] λσ4 _ _=>?_;refine T3 20 (λee LL ΦΦ=>∃ (_:Unit),ee=[(2,pt (σ1 0) 0),(3,.bool ((ly.n:Int)==5))]/\LL=[⟨(σ1 0),.cells (GR M ly tv) 34,.l,false⟩,⟨(σ4 0),.cells (GR M ly tv) 34,.z,false⟩]/\ΦΦ=[Fa.ot ly tv ys M]) (λJ hJ=>?_) ?_
 .refine T5 5 9 ?_ ?_
  .refine tR 7 [1,12,14,16,19,0,0,20] λσ5 _ _=>?_;exact tD hJ [true,true] ⟨(),rfl,rfl,rfl⟩ (λF=>⟨F.1,trivial⟩)
  .refine tR 7 [0,0,11,1,12,14,16,20] λσ6 _ _=>?_;exact tD hJ [true,true] ⟨(),rfl,rfl,rfl⟩ (λF=>⟨F.1,trivial⟩)
 rintro _ _ _ ⟨_,rfl,rfl,rfl⟩ _ _ _;have hn:(((ly.n:Nat):Int)==5)=true:=by rw[hW.n5];rfl
 exact tX λF C=>qE2 2 3 34 0 (σ1 0) (GR M ly tv) (.bool ((ly.n:Int)==5)) λ_=>⟨ly,tv,ys,by rw[hn],R9 F.1,hN.mono hs2,CgQ.below C⟩
def lgN(M:Meet):Nat->Option Nat
 | 0=>none
 | n+1=>if(((lgN M n).map M.log).getD []).length<(M.log n).length then some n else lgN M n
def lgY(ys:Nat->S3)(o:Option Nat):S3:=(o.map ys).getD s30
theorem aR(h:lgN M n=some j):j<n:=by
 induction n with
 | zero=>cases h
 | succ n ih =>
  rw[lgN]at h
  split at h
  .cases h;omega
  .have:=ih h;omega
theorem aS(h:OutF g w ly tv ys M)(hn:n<=5):FzV g w (lgY ys (lgN M n)) 5 (cmL (((lgN M n).map M.log).getD [])):=by
 cases hh:lgN M n with
 | none=>exact⟨⟨rfl,A' _,λ_=>rfl,.inl rfl⟩,λe=>absurd rfl e⟩
 | some j=>exact h.log j (Z' (aR hh) hn)
theorem ZC(ha:x.a=some ⟨b,off,none⟩)(j:Nat)(hj:j<x.n):(Instr.indexAt 30 x.v (iv (j:Int))).run prog W=.ok (pt b (off+j)) W:=by
 obtain⟨xa,xn,xc⟩:=x;simp only at ha hj;subst ha;exact O6 (P:=prog) (e:=37) (z:=1) underlying30 (by kernel_rfl) (by kernel_rfl) hj _ (by rw[Nat.one_mul])
theorem Ry(h:RdV w ly 1 [S3.v (ys 0),S3.v (ys 1),S3.v (ys 2),S3.v (ys 3),S3.v (ys 4)])(ha:ly.a=some ⟨b,off,none⟩)(hj:j<5):w.cell? ⟨b,off+j,none⟩=some (S3.v (ys j)):=by
 rcases h.ex with h1|⟨b',off',h1,h2,h3⟩
 .have:=h.len;simp at this;omega
 .rw[ha]at h1;cases h1
  refine h3 j _ ?_;rcases five hj with rfl|rfl|rfl|rfl|rfl<;>rfl
def rnP(l:List Lac):List (Lac × S3):=l.map λa=>(a,s30)
theorem RF(l:List Lac):(rnP l).map (·.1)=l:=by simp[rnP,Function.comp_def]
theorem Y8(g:Gh)(w:World){l:List Lac}(h:∀ a∈l,a.d=[]):Dat g w (rnP l):=by
 intro p hp;obtain⟨a,ha,rfl⟩:=fS.1 hp;show FSl g w s30 a.d;rw[h a ha];exact XH g w
theorem Wf(l:List Lac)(a:Lac):rnP (l++[a])=rnP l++[(a,s30)]:=by simp[rnP]
theorem Y7(l m:List Lac):rnP (l++m)=rnP l++rnP m:=by simp[rnP]
theorem Y9(l:List Lac):(rnP l).length=l.length:=by simp[rnP]
theorem Yc(h:∀ j,j<5->M.log j=[])(hn:n<=5):lgN M n=none:=by
 induction n with
 | zero=>rfl
 | succ n ih=>rw[lgN,ih (by omega),h n (by omega),if_neg (by simp)]
theorem Zp(h:(Fa.ac x l).p g w){p:Lac × S3}(hp:l[i]?=some p):∃ b off,x.a=some ⟨b,off,none⟩/\w.rangeAt b (off+5*i) (laV p.1 p.2.v)/\i<x.n:=by
 have hn:=(AcR.of h rfl).n;rw[fM]at hn
 have hi:=(P'.1 hp).1;obtain⟨b,off,h1,_,h2⟩:=h.1.rd.spot (i:=i) (by omega);exact⟨b,off,h1,λj u hj=>h2 j u (Js (f:=λp:Lac × S3=>laV p.1 p.2.v) (λ_=>rfl) l hp hj),by omega⟩
theorem acS(h:(Fa.ac x l).p g w)(hx:x.a=some ⟨b,off,none⟩){a:Lac}{y:S3}(hp:l[i]?=some (a,y)):w.rangeAt b (off+5*i) (laV a y.v):=by
 obtain⟨b',off',h1,h2,_⟩:=Zp h hp;rw[hx]at h1;cases h1;exact h2
theorem et{l:List Tol}(h:RdV w x 5 (l.flatMap EE)):x.n=l.length:=by
 have:=h.len;rw[Eb (f:=EE) (sz:=5) (λ_=>rfl)]at this
 omega
theorem Qc(h:OutW w M ly tv ys) :
  Calls prog 7 #[.agg (GR M ly tv)] w λe w'=>e=.returned (S3.v (lgY ys (lgN M 5)))/\Bw w w':=by
 have hn:=h.n5;refine tIn [Fa.ot ly tv ys M] func7 ⟨⟨h.logs.fz,λj hj=>(h.log j hj).rv.fz,h.told.fz⟩,trivial⟩ ?_;refine tR 15 [0,0] λσ1 _ _=>?_;refine IN 27 [(1,pt (σ1 0) 0),(3,sn),(4,iv 0)] [true] [⟨(σ1 0),.cells #[iv (M.lets.length:Int),.bool (M.node 0).up,.bool (M.node 1).up,.bool (M.node 2).up,.bool (M.node 3).up,.bool (M.node 4).up,S3.v ly,iv ((M.node 0).bad:Int),iv ((M.node 1).bad:Int),iv ((M.node 2).bad:Int),iv ((M.node 3).bad:Int),iv ((M.node 4).bad:Int),S3.v tv] 34,.z,false⟩] [Fa.ot ly tv ys M] (λkk ee LL ΦΦ=>∃ (i:Nat),kk=5-i/\ee=[(1,pt (σ1 0) 0),(3,S3.v (lgY ys (lgN M i))),(4,iv (i:Int))]/\LL=[⟨(σ1 0),.cells (GR M ly tv) 34,.z,false⟩]/\ΦΦ=[Fa.ot ly tv ys M]/\i<=5) (5) ⟨0,rfl,rfl,rfl,rfl,by omega⟩ (λF=>F) ?_;rintro k _ _ _ ⟨i,rfl,rfl,rfl,rfl,hi⟩ _ _ _ J hJ;refine tR 9 [0] λσ2 _ _=>?_;by_cases h1:i<5
 .refine tI ((decide ((i:Int)<(ly.n:Int)))) true (I' (by omega)) ?_;refine tF λF _=>?_;obtain⟨b,off,hla,_⟩:=F.1.logs.rd.spot (i:=i) (by omega);have h1n:=df (F.1.log i (by omega)).rd;have h2n:=df (aS F.1 (n:=i) (by omega)).rd;refine tR 8 [0] λσ3 _ _=>?_;refine tV 3 (pt b (off+i)) (λF C=>(ZC hla i (by omega))) ?_;refine tV 4 (S3.v (ys i)) (λF C=>(CJ underlying37 rfl (Ry F.1.logs.rd hla (by omega)))) ?_;refine tR 5 [] λσ5 _ _=>?_;by_cases h2:(((lgN M i).map M.log).getD []).length<(M.log i).length
  .refine tI ((decide (((lgY ys (lgN M i)).n:Int)<((ys i).n:Int)))) true (I' (by omega)) ?_;refine tR 4 [0] λσ6 _ _=>?_;refine tV 3 (pt b (off+i)) (λF C=>(ZC hla i (by omega))) ?_;refine tV 4 (S3.v (ys i)) (λF C=>(CJ underlying37 rfl (Ry F.1.logs.rd hla (by omega)))) ?_;refine tR 5 [] λσ8 _ _=>?_;refine tV 1 (iv ((i:Int)+1)) (λF C=>(AK (x:=(.tmp 10)) (y:=(.const (iv 1))) (i:Int) 1 underlying3 (by omega))) ?_;refine tR 2 [] λσ9 _ _=>?_;exact tB hJ (5-(i+1)) (by omega) [true] ⟨i+1,rfl,(by rw[show lgN M (i+1)=some i from if_pos (by omega)]),rfl,rfl,by omega⟩ (λF=>F)
  .refine tI ((decide (((lgY ys (lgN M i)).n:Int)<((ys i).n:Int)))) false (D' (by omega)) ?_;refine tR 4 [] λσ10 _ _=>?_;refine tV 1 (iv ((i:Int)+1)) (λF C=>(AK (x:=(.tmp 10)) (y:=(.const (iv 1))) (i:Int) 1 underlying3 (by omega))) ?_;refine tR 2 [] λσ11 _ _=>?_;exact tB hJ (5-(i+1)) (by omega) [true] ⟨i+1,rfl,(by rw[show lgN M (i+1)=lgN M i from if_neg (by omega)]),rfl,rfl,by omega⟩ (λF=>F)
 .refine tI ((decide ((i:Int)<(ly.n:Int)))) false (D' (by omega)) ?_;refine tR 6 [] λσ12 _ _=>?_;obtain rfl:i=5:=by omega
  exact tE (S3.v (lgY ys (lgN M 5))) λ_ B=>⟨rfl,B⟩
end
section
variable{P:Program}{fn:Func}{R:Ending->World->Prop}{w0:World}{Φ:List Fa}{g:Gh}{w:World}
theorem tW{s:Xs}(i:Nat)(v:Value){S:Sem Value}(hr:AllF g w Φ->Kn w0.heap.size g w s.L->S.run P w=.ok v w)(hk:GT P fn R w0 Φ (nxt s i v s.L).s g w)(hs:CK s i=some (S>>=λv=>pure (.value v)):=by kernel_rfl)(hob:(nxt s i undef s.L).o.map Ob.l'=(nxt s i undef s.L).o.map Ob.r':=by kernel_rfl):GT P fn R w0 Φ s g w:=⟨λF C=>Ae λK=>qV i v (hr F K) (hk.ex F C) hs hob⟩
end
theorem eg{B:Nat}{g:Gh}{w:World}{L:List Sh}(h:Kn B g w L)(k b:Nat)(news:List Value)(e:TypeId)(t:Tg)(v:Bool)(hx:L[k]?=some ⟨b,.cells news.toArray e,t,v⟩){j:Nat}{u:Value}(hj:news[j]?=some u):w.cell? ⟨b,j,none⟩=some u:=by
 have:=BL h k b news e t v hx j u hj;have he:(⟨b,0,none⟩:Addr).add j=⟨b,j,none⟩:=by unfold Addr.add;split<;>simp_all
 rwa [he]at this
theorem VY{W:World}{b k n:Nat}(hn:n<5):(Instr.indexAt 29 (pt b k) (iv (n:Int))).run prog W=.ok (pt b (k+n)) W:=by
 rcases five hn with rfl|rfl|rfl|rfl|rfl<;>kernel_rfl
theorem Zw{M:Meet}{ly tv:S3}{n:Nat}(hn:n<5){u:Bool}(hu:(M.node n).up=u):(GR M ly tv).toList[1+n]?=some (.bool u):=by
 subst hu;rcases five hn with rfl|rfl|rfl|rfl|rfl<;>rfl
end Go.Proofs.YtalbmmghmoggcabGreatDoor
