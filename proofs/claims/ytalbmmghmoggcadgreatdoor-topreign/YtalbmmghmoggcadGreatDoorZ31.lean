/- Part 31 of the walk. -/
import Derived.Test.YtalbmmghmoggcadGreatDoorZ30
set_option maxRecDepth 100000
set_option maxHeartbeats 4000000
open Go.Proofs.Tryz
set_option linter.unusedVariables false
namespace Go.Proofs.YtalbmmghmoggcadGreatDoor
section
open Go.RowKit
section
def laV(x:Lac)(y:Value):List Value:=[.int .i64 x.k,.int .i64 x.n,.int .i64 x.a,.int .i64 x.p,y]
def zLa:Value:=.agg #[.int .i64 0,.int .i64 0,.int .i64 0,.int .i64 0,.slice none 0 0]
def iy:Lac:=⟨0,0,0,0,[]⟩
structure Sk(w:World)(x:Value)(F:Nat->Lac)(n:Nat):Prop where
 ex:∃ a cap,x=.slice a n cap/\(n=0\/∃ b off,a=some ⟨b,off,none⟩/\b<w.heap.size/\∀ i,i<n->∃ y,w.rangeAt b (off+5*i) (laV (F i) y)/\Sl w y (F i).d)
 len:n<=2513169434916
variable{F:Nat->Lac}{W w:World}{b n:Nat}
theorem Sk.shape{x:Value}(h:Sk w x F n):∃ a cap,x=.slice a n cap:=by
 obtain⟨⟨a,cap,e,_⟩,_⟩:=h;exact⟨a,cap,e⟩
theorem Sk.spot{a:Option Addr}{cap:Nat}(h:Sk w (.slice a n cap) F n)(i:Nat)(hi:i<n):∃ b off xa xm xp,a=some ⟨b,off,none⟩/\b<w.heap.size/\w.rangeAt b (off+5*i) (laV (F i) (.slice xa xm xp))/\Sl w (.slice xa xm xp) (F i).d:=by
 obtain⟨⟨a',cap',e,h1⟩,_⟩:=h;simp only[Value.slice.injEq]at e;obtain⟨rfl,_,rfl⟩:=e;rcases h1 with rfl|⟨b,off,rfl,hb,hcell⟩
 .omega
 .obtain⟨y,h3,h4⟩:=hcell i hi;obtain⟨xa,xp,rfl⟩:=h4.shapeT;exact⟨b,off,xa,_,xp,rfl,hb,h3,h4⟩
def laF(l:List Lac):Nat->Lac:=λi=>l.getD i iy
theorem Oc{l:List Lac}{i:Nat}(h:i<l.length):laF l i=l[i]:=by simp[laF,List.getD,List.getElem?_eq_getElem h]
def I0(F:Nat->Lac)(n:Nat):List Lac:=(List.range n).map F
theorem VC(F:Nat->Lac)(n:Nat):(I0 F n).length=n:=by simp[I0]
theorem YW{j:Nat}(h:j<n):(I0 F n).drop j=F j::(I0 F n).drop (j+1):=by
 have h1:(I0 F n)[j]?=some (F j):=by simp[I0,h]
 obtain⟨h2,h3⟩:=Q'.1 h1;rw[<- h3];exact js h2
def aK:Array Value:=#[iv 0,.bool false,.bool false,.bool false,.bool false,.bool false,S3.v s30,iv 0,iv 0,iv 0,iv 0,iv 0,S3.v s30]
def TR:List Tg:=.n 70 0::TM
theorem fy:Tg.z∉TR:=by simp[TR,TM,TN]
theorem fu:∀ t∈TM,t∈TR:=λt h=>P' _ h
theorem MQ:gS.t b∉TR:=fy
theorem Base.self(w:World):Base w gS w:=⟨Below.refl _ _,λ_ _=>rfl⟩
theorem cM{la:Option Addr}{off c:Nat}(ha:la=some ⟨b,off,none⟩)(j:Nat)(hj:j<n):(Instr.indexAt 36 (.slice la n c) (iv (j:Int))).run prog W=.ok (pt b (off+5*j)) W:=by
 subst ha;exact PZ (P:=prog) (e:=35) (z:=5) underlying36 (by kernel_rfl) (by kernel_rfl) hj _ rfl
theorem gl{k:Nat}{x:Lac}{y:Value}(h:W.rangeAt b k (laV x y)):(Instr.loadAt 35 (pt b k)).run prog W=.ok (.agg #[iv x.k,iv x.n,iv x.a,iv x.p,y]) W:=by
 have h1:=run_loadVar_mid (P:=prog) W b k 35 (laV x y) _ h underlying35 rfl (by kernel_rfl);simp only[Instr.loadAt,Instr.sureAddr,Sem.run_bind,Sem.run_pure,Result.andThen_ok];exact h1
theorem OutN.mono{B C:Nat}{M:Meet}{ly tv:S3}{ys:Nat->S3}(h:OutN B M ly tv ys)(hc:C<=B):OutN C M ly tv ys:=⟨λa e=>iP hc (h.logs a e),λj hj hv a e=>iP hc (h.log j hj hv a e),λhv a e=>iP hc (h.told hv a e)⟩
theorem bi{lv:S3}(h:Sk w lv.v F n)(hok:∀ i,i<n->LacOk (F i))(hn1:n<=100000)(hT:Tabs w)(tw:LWTab w)(tb:LBTab w) :
  Calls prog 17 #[lv.v] w λe w'=>Bw w w'/\∃ (ly tv:S3) (ys:Nat->S3),e=.returned (.tuple #[.agg (JN (AK.acts (I0 F n)) ly tv),iv 0])/\OutW w' (AK.acts (I0 F n)) ly tv ys/\OutN w.heap.size (AK.acts (I0 F n)) ly tv ys:=by
 obtain⟨la,lq,lc⟩:=lv;have hqn:lq=n:=by obtain⟨a,cap,hh⟩:=h.shape;simp only[S3.v,Value.slice.injEq]at hh;exact hh.2.1
 subst lq;have hnb:=h.len;obtain⟨L0,hL0⟩:∃ L0,I0 F n=L0:=⟨_,rfl⟩;have hLn:L0.length=n:=by rw[<- hL0];exact VC F n
 rw[hL0];refine gI (fn:=f17) TR gS func17 (λ_ _=>⟨rfl,rfl⟩) ?_;refine qR [] 12 [1,0] λσ1 g1 w1 c1=>?_;refine qI ((decide (100000<(n:Int)))) false (D' (by omega)) ?_;refine qR [] 9 [] λσ3 g3 w3 c3=>?_;refine BI 40 [(0,.slice la n lc),(2,pt (σ1 0) 0),(14,.slice la n lc),(15,iv (n:Int)),(16,iv 0)] [true] [⟨(σ1 0),.cells aK 43,.l,false⟩] (λk g' w' e L=>∃ j:Nat,k=n-j/\j<=n/\e=[(0,.slice la n lc),(2,pt (σ1 0) 0),(14,.slice la n lc),(15,iv (n:Int)),(16,iv (j:Int))]/\L=[⟨(σ1 0),.cells aK 43,.l,false⟩]/\Cg w.heap.size TR gS w g' w') (by kernel_rfl) (by kernel_rfl) (by kernel_rfl) (by kernel_rfl) n (λK=>?_) ?_
 .exact⟨0,rfl,jf _,rfl,rfl,((c1.nil TR).n c3)⟩
 .rintro k gr wr _ zr _ ⟨j,rfl,hj,rfl,rfl,hC⟩ J hJ;refine qR [] 5 [] λσ4 g4 w4 c4=>?_;by_cases h0:j<n
  .refine qI ((decide ((j:Int)<(n:Int)))) true (I' (by omega)) ?_;refine qR [] 5 [] λσ5 g5 w5 c5=>?_;obtain⟨b,off,xa,xm,xp,hla,hbs,hrg,hsl⟩:=h.spot j h0;refine qV 0 (pt b (off+5*j)) (cM hla (n:=n) (c:=lc) j h0) ?_;refine qV 1 (.agg #[iv (F j).k,iv (F j).n,iv (F j).a,iv (F j).p,.slice xa xm xp]) (gl (x:=F j) (y:=.slice xa xm xp) (λq u hq=>(((Cg.below (((hC).n c4).n c5) (λ_ _=>MQ))).cell (p:=⟨b,off+5*j+q,none⟩) hbs).trans (hrg q u hq))) ?_;refine qR [] 6 [0,0,1,0,1] λσ7 g7 w7 c7=>?_;have bb8:=(Cg.below ((((hC).n c4).n c5).n c7) (λ_ _=>MQ));refine qC 1 (QK (x:=F j) (y:=⟨xa,xm,xp⟩) (hok j h0) (L3 (x:=⟨xa,xm,xp⟩) hsl) (tw.below bb8) (tb.below bb8)) ?_;rintro e' w8 ⟨rfl,b8⟩;refine⟨_,rfl,b8,?_⟩;have c8:=Cg.ofBelow (B:=w.heap.size) (T:=[]) (g:=g7) b8;refine qR [] 7 [] λσ9 g9 w9 c9=>?_;refine qR [] 4 [] λσ11 g11 w11 c11=>?_;refine qV 0 (iv ((j:Int)+1)) (AD (x:=(.tmp 16)) (y:=(.const (iv 1))) (j:Int) 1 underlying3 (by omega)) ?_;refine qR [] 2 [] λσ12 g12 w12 c12=>?_;exact qB [true,false] λz K0 K=>hJ (n-(j+1)) _ _ _ z _ (by omega) ⟨j+1,rfl,by omega,rfl,rfl,((((((((hC).n c4).n c5).n c7).n c8).n c9).n c11).n c12)⟩ K
  .refine qI ((decide ((j:Int)<(n:Int)))) false (D' (by omega)) ?_;obtain rfl:j=n:=by omega
   refine qR [] 3 [] λσ13 g13 w13 c13=>?_;refine Ag λK=>?_;refine qG 0 [.n 70 0] [true] (Le K.new) ?_;rintro e' w14 ⟨mb,tb',ob,nb,g14,rfl,hM0,c14⟩;refine⟨_,g14,rfl,c14,hM0.new,?_⟩;replace c14:=c14.ret (B:=w.heap.size);refine qR [] 10 [] λσ15 g15 w15 c15=>?_;refine BI 40 [(2,pt (σ1 0) 0),(7,pt mb 0),(28,.slice la j lc),(29,iv (j:Int)),(30,iv 0)] [true] [⟨(σ1 0),.cells aK 43,.l,false⟩] (λk g' w' e L=>∃ (i:Nat) (A:Meet),k=j-i/\i<=j/\e=[(2,pt (σ1 0) 0),(7,pt mb 0),(28,.slice la j lc),(29,iv (j:Int)),(30,iv (i:Int))]/\L=[⟨(σ1 0),.cells aK 43,.l,false⟩]/\MS mb tb' ob nb g' w' A/\(L0.drop i).foldl Meet.act A=AK.acts L0/\MOk i A/\Cg w.heap.size TR gS w g' w') (by kernel_rfl) (by kernel_rfl) (by kernel_rfl) (by kernel_rfl) j (λK=>?_) ?_
   .exact⟨0,AK,rfl,jf _,rfl,rfl,(hM0.ch0 c15 K.new),rfl,MOk.zero,(((((hC).n c4).n c13).trans (c14.mono (by simp[TR]))).n c15)⟩
   .rintro k gq wq _ zq _ ⟨i,A,rfl,hi,rfl,rfl,hM,hI2,hA,hC2⟩ J2 hJ2;refine qR [] 5 [] λσ16 g16 w16 c16=>?_;by_cases h3:i<j
    .refine qI ((decide ((i:Int)<(j:Int)))) true (I' (by omega)) ?_;rw[<- hL0,YW h3,hL0,mD]at hI2
     have hlk:LacOk (F i):=hok i h3;refine qR [] 5 [] λσ17 g17 w17 c17=>?_;obtain⟨b,off,xa,xm,xp,hla,hbs,hrg,hsl⟩:=h.spot i h3;refine qV 0 (pt b (off+5*i)) (cM hla (n:=j) (c:=lc) i h3) ?_;refine qV 1 (.agg #[iv (F i).k,iv (F i).n,iv (F i).a,iv (F i).p,.slice xa xm xp]) (gl (x:=F i) (y:=.slice xa xm xp) (λq u hq=>(((Cg.below (((hC2).n c16).n c17) (λ_ _=>MQ))).cell (p:=⟨b,off+5*i+q,none⟩) hbs).trans (hrg q u hq))) ?_;refine qR [] 6 [0,0,1,0,1] λσ19 g19 w19 c19=>?_;refine Ag λK=>?_;have NM:MS mb tb' ob nb g19 w19 A:=(hM.ch0 ((c16.trans c17).trans c19) K.new);have bbl:=(Cg.below ((((hC2).n c16).n c17).n c19) (λ_ _=>MQ));refine qG 2 TM [true,true] (dH NM ((Base.self w).ch ((((hC2).n c16).n c17).n c19) fy) hT (F i) ⟨xa,xm,xp⟩ (hsl.below bbl) hlk hA (by omega)) ?_;rintro e' w20 ⟨g20,rfl,M20,c20⟩;refine⟨_,g20,rfl,c20,M20.new,?_⟩;replace c20:=c20.ret (B:=w.heap.size);refine qR [] 3 [] λσ21 g21 w21 c21=>?_;refine qV 0 (iv ((i:Int)+1)) (AD (x:=(.tmp 30)) (y:=(.const (iv 1))) (i:Int) 1 underlying3 (by omega)) ?_;refine qR [] 2 [] λσ22 g22 w22 c22=>?_;exact qB [true,false] λz K0 K=>hJ2 (j-(i+1)) _ _ _ z _ (by omega) ⟨i+1,A.act (F i),rfl,by omega,rfl,rfl,(M20.ch0 (c21.trans c22) K0.new),hI2,hA.act (by omega) hlk,(((((((hC2).n c16).n c17).n c19).trans (c20.mono fu)).n c21).n c22)⟩ K
    .refine qI ((decide ((i:Int)<(j:Int)))) false (D' (by omega)) ?_;obtain rfl:i=j:=by omega
     rw[jD (by omega)]at hI2
     replace hI2:A=AK.acts L0:=hI2;subst hI2;refine qR [] 4 [] λσ23 g23 w23 c23=>?_;refine Ag λK=>?_;have NM:MS mb tb' ob nb g23 w23 (AK.acts L0):=(hM.ch0 (c16.trans c23) K.new);have hwt:=hA.wt;have htl:=hA.told;have hGo:∀ b,w23.heap.size<=b->g23.t b=.z:=λb hb=>(K.new b hb).1;have bb24:=(Cg.below (((hC2).n c16).n c23) (λ_ _=>MQ));refine qC 1 (PP NM (λq hq=>⟨(hA.node q hq).dn,(hA.node q hq).ag⟩) (by omega) (by omega)) ?_;rintro e' w24 ⟨ly,tv,ys,rfl,hOW,hON,b24⟩;refine⟨_,rfl,b24,?_⟩;have c24:=Cg.ofBelow (B:=w.heap.size) (T:=[]) (g:=g23) b24;refine qR [] 3 [0,0] λσ25 g25 w25 c25=>?_;exact qE2 2 3 43 0 (σ1 0) (JN (AK.acts L0) ly tv) (iv 0) λK=>⟨(Cg.below (((((hC2).n c16).n c23).n c24).n c25) (λ_ _=>MQ)),ly,tv,ys,rfl,(hOW.ch hON hGo c25),hON.mono bb24.size⟩
end
end
section
def I64(n:Int):Prop:=-9223372036854775808<=n/\n<=9223372036854775807
end
section
open Go.RowKit
section
variable{B i r sz:Nat}{L:List Lac}{M:Meet}{T:List Tg}{e:TypeId}{g g':Gh}{l:List (Lac × S3)}{ly tv x y:S3}{w w' w0:World}{xs:List Value}{ys:Nat->S3}{α:Type}
theorem tbA(h:Tabs w0)(C:Cg w0.heap.size TQ gS w0 g w):Tabs w:=⟨h.t.below (CgQ.below C),h.n.below (CgQ.below C),h.q.below h.q.pos (CgQ.below C)⟩
def TH(w:World):Prop:=Tabs w/\LWTab w/\LBTab w
theorem tb5(h:TH w0)(C:Cg w0.heap.size TQ gS w0 g w):TH w:=⟨tbA h.1 C,h.2.1.below (CgQ.below C),h.2.2.below (CgQ.below C)⟩
theorem X7{l:List Int}(h:Sl w y.v l)(n:Nb B y l)(G:∀ b,B<=b->g.t b=.z):FSl g w y l:=⟨h,λhl a ha=>G _ (n hl a ha)⟩
structure OwN(B:Nat)(w:World)(e:TypeId)(sz:Nat)(x:S3)(xs:List Value):Prop where
 len:xs.length=x.n*sz
 ex:(x.a=none/\x.n=0/\x.c=0)\/∃ b cur,B<=b/\x.a=some ⟨b,0,none⟩/\w.heap[b]?=some (.cells cur e (0,0))/\x.n<=x.c/\x.c<=maxLen/\cur.size=x.c*sz/\cur.toList.take (x.n*sz)=xs
theorem OwnS.own{kp:Bool}(h:OwnS g w (.n 60 r) kp e sz x xs)(C:Cg w0.heap.size TQ gS w0 g w):OwN w0.heap.size w e sz x xs:=by
 refine⟨h.len,h.ex.imp id λ⟨b,cur,h1,h2,h3,h4,h5,h6,h7,h8⟩=>⟨b,cur,?_,h1,h2,h3,h4,h5,h6⟩⟩;refine mo λhb=>?_;have:=C.tag hb (λ_=>hb);rw[h7]at this
 cases this
theorem OwN.rv(h:OwN B w e sz x xs):RdV w x sz xs:=by
 rcases h.ex with⟨h1,h2,h3⟩|⟨b,cur,h0,h1,h2,h3,h4,h5,h6⟩
 .exact⟨h.len,by omega,λ_=>h3,.inl h2⟩
 .refine⟨h.len,h3,λh=>(by rw[h1]at h;cases h),.inr ⟨b,0,h1,rl h2,λj u hj=>?_⟩⟩;rw[jm,cell_of_row _ _ _ _ _ _ h2];rw[<- h6,jL]at hj
  split at hj
  .simpa using hj
  .cases hj
theorem OwN.fz(h:OwN B w e sz x xs)(G:∀ b,B<=b->g.t b=.z):FzV g w x sz xs :=
 ⟨h.rv,λ_ a ha=>by
  rcases h.ex with⟨h1,h2,h3⟩|⟨b,cur,h0,h1,_⟩
  .rw[h1]at ha;cases ha
  .rw[h1]at ha;cases ha;exact G _ h0⟩
theorem RdV.fz(h:RdV w x sz xs):FzV gS w x sz xs:=⟨h,λ_ _ _=>rfl⟩
theorem RdV.spot(h:RdV w x sz xs)(hi:i<x.n):∃ b off,x.a=some ⟨b,off,none⟩/\b<w.heap.size/\∀ j u,xs[sz*i+j]?=some u->w.cell? ⟨b,off+sz*i+j,none⟩=some u:=by
 rcases h.ex with h1|⟨b,off,h1,h2,h3⟩
 .omega
 .exact⟨b,off,h1,h2,λj u hj=>by rw[jI];exact h3 _ u hj⟩
theorem ZH{f:α->List Value}(hf:∀ a,(f a).length=sz)(l:List α){j:Nat}{a:α}{u:Value}(ha:l[i]?=some a)(hu:(f a)[j]?=some u):(l.flatMap f)[sz*i+j]?=some u:=by
 have hj:j<sz:=by rw[<- hf a];exact(Q'.1 hu).1
 induction l generalizing i with
 | nil=>cases ha
 | cons c l ih =>
  rw[kq];cases i with
  | zero =>
   simp only[jT,X']at ha;subst ha;rw[iT (by rw[hf];omega),mC,jm];exact hu
  | succ i =>
   rw[iV (by rw[hf,Nat.mul_succ];omega),hf,show sz*(i+1)+j-sz=sz*i+j by rw[Nat.mul_succ];omega];exact ih (by simpa using ha)
theorem WG{f:α->List Value}(hf:∀ a,(f a).length=sz)(l:List α):(l.flatMap f).length=l.length*sz:=by
 induction l with
 | nil=>simp
 | cons c l ih=>rw[kq,G',hf,ih,jo,lH];omega
theorem fL{l:List Cmd}(h:RdV w x 5 (cmL l)):x.n=l.length:=h.rc.len
def acV(l:List (Lac × S3)):List Value:=l.flatMap λp=>laV p.1 p.2.v
theorem Kp(l:List (Lac × S3))(x:Lac)(y:S3):acV (l++[(x,y)])=acV l++laV x y.v:=by simp[acV]
theorem EG(l m:List (Lac × S3)):acV (l++m)=acV l++acV m:=by simp[acV]
theorem SA(l:List (Lac × S3)):(acV l).length=l.length*5:=WG (f:=λp:Lac × S3=>laV p.1 p.2.v) (λ_=>rfl) l
theorem YU(l:List (Lac × S3)):∀ u∈acV l,u.oneCell'=true:=by
 intro u hu;obtain⟨p,_,hp⟩:=kW.1 hu;simp[laV]at hp
 rcases hp with rfl|rfl|rfl|rfl|rfl<;>rfl
def Dat(g:Gh)(w:World)(l:List (Lac × S3)):Prop:=∀ p∈l,FSl g w p.2 p.1.d
theorem Dat.ch(h:Dat g w l)(c:Cg B T g w g' w')(hz:Tg.z∉T:=by simp):Dat g' w' l:=λp hp=>(h p hp).ch c hz
theorem Dat.snoc(h:Dat g w l){x:Lac}(k:FSl g w y x.d):Dat g w (l++[(x,y)]):=λp hp=>(V'.1 hp).elim (h p) λe=>by rw[O'.1 e];exact k
theorem Dat.app{m:List (Lac × S3)}(h:Dat g w l)(k:Dat g w m):Dat g w (l++m):=λp hp=>(V'.1 hp).elim (h p) (k p)
theorem Hq(g:Gh)(w:World):FSl g w s30 []:=⟨⟨⟨none,0,rfl,A' _,λ_=>rfl,.inl rfl⟩,by simp,by simp⟩,λh=>absurd rfl h⟩
def Fa.ac(x:S3)(l:List (Lac × S3)):Fa:=⟨none,λg w=>FzV g w x 5 (acV l)/\Dat g w l,λhz _ c h=>⟨h.1.ch c hz,h.2.ch c hz⟩⟩
def Fa.oa(r:Nat)(x:S3)(l:List (Lac × S3)):Fa:=⟨some r,λg w=>OwnS g w (.n 60 r) true 35 5 x (acV l)/\Dat g w l,λhz hr c h=>⟨h.1.ch c (hr r rfl) (by simp),h.2.ch c hz⟩⟩
def Fa.dt(l:List (Lac × S3)):Fa:=⟨none,λg w=>Dat g w l,λhz _ c h=>h.ch c hz⟩
structure AcR(w:World)(x:S3)(L:List Lac)(l:List (Lac × S3)):Prop where
 e:l.map (·.1)=L
 r:RdV w x 5 (acV l)
 d:∀ p∈l,Sl w p.2.v p.1.d
theorem AcR.of(h:(Fa.ac x l).p g w)(e:l.map (·.1)=L):AcR w x L l:=⟨e,h.1.rd,λp hp=>(h.2 p hp).s⟩
theorem AcR.oo(h:(Fa.oa r x l).p g w)(e:l.map (·.1)=L):AcR w x L l:=⟨e,h.1.rv,λp hp=>(h.2 p hp).s⟩
theorem AcR.below(h:AcR w x L l)(b:Bw w w'):AcR w' x L l:=⟨h.e,h.r.below b,λp hp=>(h.d p hp).below b⟩
theorem AcR.n(h:AcR w x L l):x.n=L.length:=by
 have:=h.r.len;rw[SA]at this
 rw[<- h.e,jc];omega
theorem AcR.sk(h:AcR w x L l)(hl:L.length<=1000000):Sk w x.v (laF L) L.length:=by
 have hn:=h.n;refine⟨⟨x.a,x.c,by rw[<- hn],?_⟩,by omega⟩;rcases h.r.ex with h1|⟨b,off,h1,h2,h3⟩
 .exact .inl (by omega)
 .refine .inr ⟨b,off,h1,h2,λi hi=>?_⟩;have hil:i<l.length:=by rw[<- h.e,jc]at hi;exact hi
  refine⟨l[i].2.v,λj u hj=>?_,?_⟩
  .rw[jI];refine h3 _ u (ZH (f:=λp:Lac × S3=>laV p.1 p.2.v) (λ_=>rfl) l (E' hil) ?_);have:laF L i=l[i].1:=by rw[Oc hi];simp[<- h.e]
   rw[this]at hj;exact hj
  .have:laF L i=l[i].1:=by rw[Oc hi];simp[<- h.e]
   rw[this];exact h.d _ (jr hil)
theorem VB(L:List Lac):I0 (laF L) L.length=L:=by
 apply kU
 .simp[I0]
 .intro i h1 h2;simp[I0,Oc h2]
def Meet.log(M:Meet)(j:Nat):List Cmd:=(M.node j).agreed.take (M.node j).done
structure OutF(g:Gh)(w:World)(ly tv:S3)(ys:Nat->S3)(M:Meet):Prop where
 logs:FzV g w ly 1 [S3.v (ys 0),S3.v (ys 1),S3.v (ys 2),S3.v (ys 3),S3.v (ys 4)]
 log:∀ j,j<5->FzV g w (ys j) 5 (cmL (M.log j))
 told:FzV g w tv 5 (M.told.flatMap FQ)
theorem OutF.ch(h:OutF g w ly tv ys M)(c:Cg B T g w g' w')(hz:Tg.z∉T:=by simp):OutF g' w' ly tv ys M:=⟨h.logs.ch c hz,λj hj=>(h.log j hj).ch c hz,h.told.ch c hz⟩
def Fa.ot(ly tv:S3)(ys:Nat->S3)(M:Meet):Fa:=⟨none,λg w=>OutF g w ly tv ys M,λhz _ c h=>h.ch c hz⟩
theorem Oo(h:OutW w M ly tv ys)(n:OutN B M ly tv ys)(G:∀ b,B<=b->g.t b=.z):OutF g w ly tv ys M :=
 ⟨⟨h.logs,λ_ a ha=>G _ (n.logs a ha)⟩,λj hj=>⟨(h.log j hj).rv,λhv a ha=>G _ (n.log j hj hv a ha)⟩,⟨h.told,λhv a ha=>G _ (n.told hv a ha)⟩⟩
theorem OutW.n5(h:OutW w M ly tv ys):ly.n=5:=by have:=h.logs.len;simp at this;omega
end
section
variable{P:Program}{fn:Func}{R:Ending->World->Prop}{w0:World}{Φ:List Fa}{g:Gh}{w:World}
theorem eu{P:Program}{W:World}(t ty e:TypeId)(i:TypeInfo)(ht:P.underlying t=some (.slice e))(hi:P.info? e=some i)(y:S3)(hy:y.n=0):(Builtin.append_ #[t,t] ty #[s30.v,y.v]).run P W=.ok s30.v W:=by
 obtain⟨ya,yn,yc⟩:=y;simp only at hy;subst hy;show(Builtin.append_ #[t,t] ty #[.slice none 0 0,.slice ya 0 yc]).run P W=.ok (.slice none 0 0) W;cases ya with
 | none=>simp[Builtin.append_,run_underlying ht,sizeOf,typeInfo,hi,Builtin.lenOf,run_firstCells_none]
 | some a =>
  have hf:=run_firstCells_some (P:=P) W i.size 0 a 0 yc [] (by simp) (by simp);simp[Builtin.append_,run_underlying ht,sizeOf,typeInfo,hi,Builtin.lenOf,run_firstCells_none,hf]
theorem gR{s:Xs}(i:Nat)(r:Nat)(y:S3)(news:List Value)(t ty e:TypeId)(sz bytes:Nat)(z:Value)(hy:AllF g w Φ->RdV w y sz news)(Ψ:List Fa)(hΨ:AllF g w Φ->AllF g w Ψ)(hro:Ψ.all (λf=>f.ro != some r)=true)(hrT:Tg.n 60 r∈TQ)
  (h1:∀ u∈news,u.oneCell'=true)(h63:y.n<=maxLen)(hbytes:y.n*bytes<=140737488355328)
  (hk:∀ x' g' w',x'.n=y.n->GT P fn R w0 (Fa.ow r e sz x' news::Ψ) (nxt s i (S3.v x') s.L).s g' w')(hsz:0<sz:=by decide)
  (ht:P.underlying t=some (.slice e):=by kernel_rfl)(hinfo:(P.info? e).map (λi=>(i.zero,i.size,i.bytes))=some (some z,sz,bytes):=by kernel_rfl)(hzs:Nat.beq z.cells.size sz=true:=by kernel_rfl)
  (hsem:De s i=some (Builtin.append_ #[t,t] ty #[s30.v,y.v]>>=λv=>pure (.value v)):=by kernel_rfl)(hob:(nxt s i undef s.L).o.map Ob.l'=(nxt s i undef s.L).o.map Ob.r':=by kernel_rfl)(hT:s.L.all (λy=>[Tg.n 60 r].all λt=>y.t.ne t)=true:=by kernel_rfl):GT P fn R w0 Φ s g w:=by
 refine tF λF C=>?_;have hR:=hy F;by_cases h0:y.n=0
 .obtain⟨inf,hi⟩:∃ inf,P.info? e=some inf:=by cases hh:P.info? e with|none=>rw[hh]at hinfo;cases hinfo|some j=>exact⟨j,rfl⟩
  obtain rfl:news=[]:=iN (by rw[hR.len,h0,mB]);refine tV i s30.v (λ_ _=>eu t ty e inf ht hi y h0) ?_ hsem hob;exact tCv (Fa.ow r e sz s30 []::Ψ) (λF=>⟨OwnS.nil _ _ _ _ _ _,hΨ F⟩) (hk s30 g w h0.symm)
 .obtain⟨b,off,ha,_,_⟩:=hR.spot (i:=0) (by omega);obtain⟨ya,m,c⟩:=y;simp only at ha h0 h63 hbytes hk hsem hR;subst ha;refine JR i r (x:=s30) (xs:=[]) t ty e sz bytes z ⟨b,off,none⟩ m c news (λ_=>OwnS.nil _ _ _ _ _ _) Ψ hΨ hro hrT hR.len h1 (λF _ j u hj=>?_) (by show 0+m<=_;omega) (by show(0+m)*bytes<=_;rw[jm];exact hbytes) (λx' g' w' hn=>?_) (Nat.pos_of_ne_zero h0) hsz ht hinfo hzs hsem hob hT
  .rcases(hy F).ex with h2|⟨b2,off2,k1,k2,k3⟩
   .exact absurd h2 h0
   .cases k1;have:(⟨b,off,none⟩:Addr).add j=⟨b,off+j,none⟩:=by unfold Addr.add;split<;>simp_all
    rw[this];exact k3 j u hj
  .rw[j5];exact hk x' g' w' (by rw[hn];show 0+m=m;omega)
end
end
section
structure Alw where
 ca:Bool
 ld:Bool
 cr:Bool
 st:Bool
structure NInv(A:Alw)(i:Nat)(D:List Int->Prop)(Q:Let->Prop)(P:Nod->Prop):Prop where
 take:A.ca=true->∀ p l,P p->Q l->l.dst=i->p.up=true->P (p.take l)
 one:∀ p c,P p->p.up=true->p.agreed[p.done]?=some c->doE p.sto c=0->P (Nod.unwant { p with sto:=doS p.sto c,done:=p.done+1 } c)
 ask:∀ p,P p->p.up=true->P (p.askd i).1/\∀ l∈(p.askd i).2,Q l
 prop:∀ p,P p->p.up=true->P p.propose
 syn:∀ p,P p->p.up=true->P p.syn
 run:∀ p q l,P p->p.up=true->p.pend=q::l->¬ p.sy<(p.d.length:Int)->P { p.runP i q with pend:=l }/\∀ m∈p.sentP i q,Q m
 teach:∀ p,P p->p.up=true->p.leads=true->P (Iq p i 5)/\∀ l∈D2 p i 5,Q l
 lead:A.ld=true->∀ p,P p->p.up=true->P (p.lead i)
 sub:∀ p d ts,P p->D d->p.up=true->P (p.subm i d ts).1
 crash:A.cr=true->∀ p k,P p->0<=k->p.up=true->P (p.crash k)
 start:A.st=true->∀ p,P p->p.up=false->P p.start
theorem Nr(p:Nod)(i:Nat)(q:Pend)(x:List Pend):({ p with pend:=x }:Nod).runP i q={ p.runP i q with pend:=x }:=by
 cases q with
 | began b vs=>unfold Nod.runP;simp only;split<;>rfl
 | prop v =>
  unfold Nod.runP Nod.count;simp only;split
  .rfl
  .split<;>rfl
 | _=>rfl
theorem Gk(p:Nod)(i:Nat)(q:Pend):(p.runP i q).pend=p.pend/\(p.runP i q).up=p.up/\(p.runP i q).d=p.d/\(p.runP i q).sy=p.sy:=by
 cases q with
 | began b vs=>unfold Nod.runP;simp only;split<;>exact⟨rfl,rfl,rfl,rfl⟩
 | prop v =>
  unfold Nod.runP Nod.count;simp only;split
  .exact⟨rfl,rfl,rfl,rfl⟩
  .split<;>exact⟨rfl,rfl,rfl,rfl⟩
 | _=>exact⟨rfl,rfl,rfl,rfl⟩
theorem Lz(p:Nod)(i:Nat)(q:Pend)(x:List Pend):({ p with pend:=x }:Nod).sentP i q=p.sentP i q:=by cases q<;>rfl
theorem Eh(p:Nod)(c:Cmd):(p.unwant c).up=p.up/\(p.unwant c).agreed=p.agreed/\(p.unwant c).done=p.done/\(p.unwant c).sto=p.sto:=by unfold Nod.unwant;split<;>exact⟨rfl,rfl,rfl,rfl⟩
theorem Re(p:Nod)(l:List Cmd):(p.enqueue l).up=p.up:=by unfold Nod.enqueue;split<;>rfl
theorem NI(p:Nod)(i:Nat):(p.askd i).1.up=p.up:=by
 unfold Nod.askd;split
 .rfl
 .split
  .exact Re _ _
  .rfl
theorem bZ(p:Nod)(v:Vt):(p.vote v).1.up=p.up:=by
 unfold Nod.vote;split
 .rfl
 .split
  .rfl
  .split<;>rfl
theorem GX(p:Nod):p.propose.up=p.up:=by
 unfold Nod.propose;split
 .rfl
 .split
  .rfl
  .split
   .rfl
   .exact bZ p _
theorem eX(p:Nod):p.syn.up=p.up:=by unfold Nod.syn;split<;>rfl
section
variable{A:Alw}{i:Nat}{D:List Int->Prop}{Q:Let->Prop}{P:Nod->Prop}
theorem NInv.doP(h:NInv A i D Q P)(l:List Cmd)(p:Nod)(ts:List Tol)(hp:P p)(hu:p.up=true)(hl:p.agreed.drop p.done=l):P (doP i l p ts).1/\(Go.Proofs.YtalbmmghmoggcadGreatDoor.doP i l p ts).1.up=true:=by
 induction l generalizing p ts with
 | nil=>exact⟨hp,hu⟩
 | cons c l ih =>
  rw[Go.Proofs.YtalbmmghmoggcadGreatDoor.doP];split
  .exact⟨hp,hu⟩
  .rename_i he
   have hc:p.agreed[p.done]?=some c:=by
    have:=congrArg (·[0]?) hl;simpa using this
   have hk:=Eh { p with sto:=doS p.sto c,done:=p.done+1 } c;refine ih _ _ (h.one p c hp hu hc (iY.1 he)) (hk.1.trans hu) ?_;rw[hk.2.1,hk.2.2.1];show p.agreed.drop (p.done+1)=l;rw[<- kz,hl];rfl
theorem NInv.doneP(h:NInv A i D Q P)(l:List Pend)(p:Nod)(ls:List Let)(hp:P { p with pend:=l })(hu:p.up=true)(h0:p.pend=[])(hs:¬ p.sy<(p.d.length:Int))(hl:∀ m∈ls,Q m):P (doneP i l p ls).1/\(∀ m∈(Go.Proofs.YtalbmmghmoggcadGreatDoor.doneP i l p ls).2,Q m)/\(Go.Proofs.YtalbmmghmoggcadGreatDoor.doneP i l p ls).1.up=true:=by
 induction l generalizing p ls with
 | nil =>
  refine⟨?_,hl,hu⟩;have:({ p with pend:=[] }:Nod)=p:=by cases p;simp_all
  rw[this]at hp;exact hp
 | cons q l ih =>
  have hk:=Gk p i q;obtain⟨h1,h2⟩:=h.run { p with pend:=q::l } q l hp hu rfl hs;rw[Nr]at h1
  rw[Lz]at h2
  exact ih (p.runP i q) (ls++p.sentP i q) h1 (hk.2.1.trans hu) (hk.1.trans h0) (by rw[hk.2.2.1,hk.2.2.2];exact hs) λm hm=>(V'.1 hm).elim (hl m) (h2 m)
theorem NInv.piece(h:NInv A i D Q P)(p:Nod)(ls:List Let)(ts:List Tol)(hp:P p)(hu:p.up=true)(hl:∀ m∈ls,Q m):P (p.piece i ls ts).1/\∀ m∈(p.piece i ls ts).2.1,Q m:=by
 obtain⟨a1,a2⟩:=h.doP _ p ts hp hu rfl;unfold Nod.piece;simp only;obtain⟨b1,b2⟩:=h.ask _ a1 a2;have bu:=(NI (Go.Proofs.YtalbmmghmoggcadGreatDoor.doP i (p.agreed.drop p.done) p ts).1 i).trans a2;have c1:=h.prop _ b1 bu;have cu:=(GX ((Go.Proofs.YtalbmmghmoggcadGreatDoor.doP i (p.agreed.drop p.done) p ts).1.askd i).1).trans bu;have hls:∀ m∈ls++((Go.Proofs.YtalbmmghmoggcadGreatDoor.doP i (p.agreed.drop p.done) p ts).1.askd i).2,Q m:=λm hm=>(V'.1 hm).elim (hl m) (b2 m);generalize ls++((Go.Proofs.YtalbmmghmoggcadGreatDoor.doP i (p.agreed.drop p.done) p ts).1.askd i).2=k at hls ⊢;generalize ((Go.Proofs.YtalbmmghmoggcadGreatDoor.doP i (p.agreed.drop p.done) p ts).1.askd i).1.propose=r at c1 cu ⊢;have hd:P (r.syncd i k).1/\(∀ m∈(r.syncd i k).2,Q m)/\(r.syncd i k).1.up=true:=by
  unfold Nod.syncd;split
  .exact⟨c1,hls,cu⟩
  .rename_i hn
   have hp2:=h.syn r c1 cu;have hpd:r.syn.pend=r.pend:=by unfold Nod.syn;split<;>rfl
   refine h.doneP r.pend { r.syn with pend:=[] } k (by rw[<- hpd];exact hp2) ((eX r).trans cu) rfl ?_ hls;show ¬ r.syn.sy<(r.syn.d.length:Int);unfold Nod.syn;split
   .rename_i h1
    have:CS r.d r.sy=0:=iY.1 λe=>hn ⟨h1,e⟩;have hT:Bd r.d r.sy:=by
     unfold CS at this;split at this
     .assumption
     .cases this
    show ¬ In r.d r.sy<((Hd r.d r.sy).length:Int);unfold In Hd;rw[if_pos hT,if_pos hT];exact Int.lt_irrefl _
   .rename_i h1;exact h1
 unfold Nod.taught;split
 .rename_i hL
  obtain⟨e1,e2⟩:=h.teach _ hd.1 hd.2.2 hL;exact⟨e1,λm hm=>(V'.1 hm).elim (hd.2.1 m) (e2 m)⟩
 .exact⟨hd.1,hd.2.1⟩
end
section
structure GInv(Q:Let->Prop)(P:Nat->Nod->Prop)(M:Meet):Prop where
 node:∀ i,i<5->P i (M.node i)
 lets:∀ l∈M.lets,Q l
variable{A:Alw}{D:Nat->List Int->Prop}{M:Meet}{P:Nat->Nod->Prop}{Q:Let->Prop}{R:List Tol->Prop}{i n:Nat}{x:Lac}
theorem GInv.set(h:GInv Q P M){p:Nod}{ls:List Let}{ts:List Tol}(hp:P i p)(hl:∀ l∈ls,Q l):GInv Q P (M.set i p ls ts) :=
 ⟨λj hj=>by
  show P j (upN M.node i p j);unfold upN;split
  .rename_i e;rw[e];exact hp
  .exact h.node j hj,hl⟩
theorem GInv.come(hI:∀ i,i<5->NInv A i (D i) Q (P i))(hc:A.ca=true)(h:GInv Q P M){l:Let}(hl:Q l)(hd:l.dst<5):GInv Q P (M.come l):=by
 unfold Meet.come;split
 .rename_i hu
  exact h.set (ls:=M.lets) (ts:=M.told) ((hI _ hd).take hc _ l (h.node _ hd) hl rfl hu) h.lets
 .exact h
theorem GInv.comes(hI:∀ i,i<5->NInv A i (D i) Q (P i))(hc:A.ca=true)(l:List Let)(h:GInv Q P M)(hl:∀ m∈l,Q m/\m.dst<5):GInv Q P (l.foldl (λM l=>M.come l) M):=by
 induction l generalizing M with
 | nil=>exact h
 | cons x l ih=>exact ih (h.come hI hc (hl x U').1 (hl x U').2) λm hm=>hl m (P' _ hm)
structure Alw.Ok(A:Alw)(x:Lac):Prop where
 ca:x.k=4\/x.k=6\/x.k=7->A.ca=true
 ld:x.k=2->A.ld=true
 cr:x.k=8->A.cr=true
 st:x.k=9->A.st=true
theorem GInv.act(hI:∀ i,i<5->NInv A i (D i) Q (P i))(h:GInv Q P M)(hM:MOk n M)(hx:LacOk x)(hA:A.Ok x)(hD:x.k=1->D x.n.toNat x.d):GInv Q P (M.act x):=by
 have hnode:∀ {k:Int},x.k=k->Fi k=true->x.n.toNat<5:=λ{k} e e2=>by have:=hx.n (by rw[e];exact e2);omega
 unfold Meet.act;simp only;by_cases h1:x.k=1
 .rw[if_pos h1];have hi:=hnode h1 rfl;refine h.set ?_ h.lets;unfold Nod.subm;by_cases hu:(M.node x.n.toNat).up=true
  .exact(hI _ hi).sub _ x.d M.told (h.node _ hi) (hD h1) hu
  .unfold Nod.sub0;rw[if_pos (by simpa using hu)];exact h.node _ hi
 .rw[if_neg h1];by_cases h2:x.k=2
  .rw[if_pos h2];have hi:=hnode h2 rfl;refine h.set ?_ h.lets;split
   .rename_i hu;exact(hI _ hi).lead (hA.ld h2) _ (h.node _ hi) hu
   .exact h.node _ hi
  .rw[if_neg h2];by_cases h3:x.k=3
   .rw[if_pos h3];have hi:=hnode h3 rfl;by_cases hu:(M.node x.n.toNat).up=true
    .have:=(hI _ hi).piece _ M.lets M.told (h.node _ hi) hu h.lets;rw[if_pos hu,if_pos hu,if_pos hu];exact h.set this.1 this.2
    .rw[if_neg hu,if_neg hu,if_neg hu];exact h.set (h.node _ hi) h.lets
   .rw[if_neg h3];by_cases h4:x.k=4\/x.k=5\/x.k=6
    .rw[if_pos h4];unfold Meet.move;split
     .exact h
     .rename_i l hl
      have hm:=jg hl;have hB:GInv Q P (if x.k≠6 then{ M with lets:=M.lets.eraseIdx (x.a.toNat%M.lets.length) }else M):=by
       split
       .exact⟨h.node,λm hm=>h.lets m (k9 hm)⟩
       .exact h
      simp only;split
      .rename_i h5
       exact hB.come hI (hA.ca (by omega)) (h.lets l hm) (hM.lets l hm).dst
      .exact hB
    .rw[if_neg h4];by_cases h7:x.k=7
     .rw[if_pos h7];unfold Meet.comeAll;exact GInv.comes hI (hA.ca (by omega)) _ ⟨h.node,λl hl=>by cases hl⟩ λm hm=>⟨h.lets m hm,(hM.lets m hm).dst⟩
     .rw[if_neg h7];by_cases h8:x.k=8
      .rw[if_pos h8];have hi:=hnode h8 rfl;refine h.set ?_ h.lets;split
       .rename_i hu;exact(hI _ hi).crash (hA.cr h8) _ x.p (h.node _ hi) (hx.p (by rw[h8];rfl)).1 hu
       .exact h.node _ hi
      .rw[if_neg h8];by_cases h9:x.k=9
       .rw[if_pos h9];have hi:=hnode h9 rfl;refine h.set ?_ h.lets;split
        .exact h.node _ hi
        .rename_i hu;exact(hI _ hi).start (hA.st h9) _ (h.node _ hi) (by simpa using hu)
       .rw[if_neg h9];exact h
structure TInv(i:Nat)(D:List Int->Prop)(P:Nod->Prop)(R:List Tol->Prop):Prop where
 one:∀ p c ts,P p->p.up=true->p.agreed[p.done]?=some c->doE p.sto c=0->(p.asked c).isSome=true->R ts->R (ts++[⟨i,c.c,c.s,doC p.sto c,doA p.sto c⟩])
 sub:∀ p d ts,P p->D d->p.up=true->opE d (p.done:Int)=0->Li d (p.done:Int)∈p.agreed.take p.done->R ts->R (ts++[⟨i,(Li d (p.done:Int)).c,(Li d (p.done:Int)).s,doC p.sto (Li d (p.done:Int)),doA p.sto (Li d (p.done:Int))⟩])
theorem TInv.doP{D:List Int->Prop}{P:Nod->Prop}(h:NInv A i D Q P)(t:TInv i D P R)(l:List Cmd)(p:Nod)(ts:List Tol)(hp:P p)(hu:p.up=true)(hl:p.agreed.drop p.done=l)(hr:R ts):R (doP i l p ts).2:=by
 induction l generalizing p ts with
 | nil=>exact hr
 | cons c l ih =>
  rw[Go.Proofs.YtalbmmghmoggcadGreatDoor.doP];split
  .exact hr
  .rename_i he
   have hc:p.agreed[p.done]?=some c:=by
    have:=congrArg (·[0]?) hl;simpa using this
   have hk:=Eh { p with sto:=doS p.sto c,done:=p.done+1 } c;refine ih _ _ (h.one p c hp hu hc (iY.1 he)) (hk.1.trans hu) ?_ ?_
   .rw[hk.2.1,hk.2.2.1];show p.agreed.drop (p.done+1)=l;rw[<- kz,hl];rfl
   .split
    .rename_i ha;exact t.one p c ts hp hu hc (iY.1 he) ha hr
    .exact hr
theorem MK(M:Meet)(l:Let):(M.come l).told=M.told:=by unfold Meet.come;split<;>rfl
theorem QS(l:List Let)(M:Meet):(l.foldl (λM l=>M.come l) M).told=M.told:=by
 induction l generalizing M with
 | nil=>rfl
 | cons x l ih=>exact(ih _).trans (MK M x)
theorem UF(M:Meet)(k:Int)(a:Nat):(M.move k a).told=M.told:=by
 unfold Meet.move;split
 .rfl
 .simp only;split
  .rw[MK];split<;>rfl
  .split<;>rfl
theorem VD(M:Meet)(h1:x.k≠1)(h3:x.k≠3):(M.act x).told=M.told:=by
 unfold Meet.act;simp only;rw[if_neg h1];split
 .rfl
 .split
  .exact UF _ _ _
  .split
   .exact QS _ _
   .split
    .rfl
    .split<;>rfl
theorem GInv.told(hI:∀ i,i<5->NInv A i (D i) Q (P i))(hT:∀ i,i<5->TInv i (D i) (P i) R)(h:GInv Q P M)(hr:R M.told)(hx:LacOk x)(hD:x.k=1->D x.n.toNat x.d):R (M.act x).told:=by
 by_cases h1:x.k=1
 .have hi:x.n.toNat<5:=by have:=hx.n (by rw[h1];rfl);omega
  unfold Meet.act;simp only;rw[if_pos h1];show R (Nod.subm _ _ _ _).2;unfold Nod.subm Nod.sub0;split
  .exact hr
  .rename_i hu
   split
   .exact hr
   .rename_i he
    split
    .rename_i hm
     exact(hT _ hi).sub _ _ _ (h.node _ hi) (hD h1) (by simpa using hu) (iY.1 he) hm hr
    .exact hr
 .by_cases h3:x.k=3
  .have hi:x.n.toNat<5:=by have:=hx.n (by rw[h3];rfl);omega
   unfold Meet.act;simp only;rw[if_neg h1,if_neg (by omega),if_pos h3];show R (if _ then _ else _);split
   .rename_i hu
    exact TInv.doP (hI _ hi) (hT _ hi) _ _ _ (h.node _ hi) hu rfl hr
   .exact hr
  .rw[VD M h1 h3];exact hr
theorem GInv.acts(hI:∀ i,i<5->NInv A i (D i) Q (P i))(hT:∀ i,i<5->TInv i (D i) (P i) R)(L:List Lac)(hM:MOk n M)(hn:n+L.length<=1000000)(h:GInv Q P M)(hr:R M.told)(hx:∀ x∈L,LacOk x/\A.Ok x/\(x.k=1->D x.n.toNat x.d)):GInv Q P (M.acts L)/\R (M.acts L).told/\MOk (n+L.length) (M.acts L):=by
 induction L generalizing n M with
 | nil=>exact⟨h,hr,hM⟩
 | cons x L ih =>
  have h1:=hx x U';rw[jo]at hn
  have:=ih (hM.act (by omega) h1.1) (by omega) (h.act hI hM h1.1 h1.2.1 h1.2.2) (h.told hI hT hr h1.1 h1.2.2) λy hy=>hx y (P' _ hy);rw[jo,show n+(L.length+1)=n+1+L.length by omega];exact this
theorem TInv.all(i:Nat)(D:List Int->Prop)(P:Nod->Prop):TInv i D P λ_=>True:=⟨λ_ _ _ _ _ _ _ _ _=>trivial,λ_ _ _ _ _ _ _ _ _=>trivial⟩
structure Wh where
 d:Nat->List Int->Prop
 ld:Prop
 cr:Prop
 dr:Prop
 tk:Prop
 st:Prop
def Wh.may(D:Wh)(x:Lac):Prop:=(x.k=1->D.d x.n.toNat x.d)/\(x.k=2->D.ld)/\(x.k=8->D.cr)/\(x.k=4\/x.k=5\/x.k=6\/x.k=7->D.dr/\D.tk)/\(x.k=9->D.st)
inductive Stp (D:Wh):Nat->Meet->Meet->Prop
 | take (M:Meet) (l:Let) (hl:l∈M.lets) (hd:l.src<5/\l.dst<5) (hu:(M.node l.dst).up=true) (ht:D.tk):Stp D 0 M (M.set l.dst ((M.node l.dst).take l) M.lets M.told)
 | lets (M:Meet) (ls:List Let) (h:∀ l∈ls,l∈M.lets) (hd:D.dr):Stp D 0 M { M with lets:=ls }
 | one (M:Meet) (i:Nat) (c:Cmd) (hi:i<5) (hu:(M.node i).up=true) (hc:(M.node i).agreed[(M.node i).done]?=some c) (he:doE (M.node i).sto c=0) :
   Stp D 0 M (M.set i (Nod.unwant { M.node i with sto:=doS (M.node i).sto c,done:=(M.node i).done+1 } c) M.lets (if((M.node i).asked c).isSome=true then M.told++[⟨i,c.c,c.s,doC (M.node i).sto c,doA (M.node i).sto c⟩]else M.told))
 | ask (M:Meet) (i:Nat) (hi:i<5) (hu:(M.node i).up=true):Stp D 0 M (M.set i ((M.node i).askd i).1 (M.lets++((M.node i).askd i).2) M.told)
 | prop (M:Meet) (i:Nat) (hi:i<5) (hu:(M.node i).up=true):Stp D 1 M (M.set i (M.node i).propose M.lets M.told)
 | syn (M:Meet) (i:Nat) (hi:i<5) (hu:(M.node i).up=true) (h:(M.node i).sy<((M.node i).d.length:Int)) (hT:Bd (M.node i).d (M.node i).sy):Stp D 0 M (M.set i { M.node i with sy:=((M.node i).d.length:Int) } M.lets M.told)
 | run (M:Meet) (i:Nat) (hi:i<5) (hu:(M.node i).up=true) (q:Pend) (l:List Pend) (hp:(M.node i).pend=q::l) (hs:¬ (M.node i).sy<((M.node i).d.length:Int)):Stp D 0 M (M.set i { (M.node i).runP i q with pend:=l } (M.lets++(M.node i).sentP i q) M.told)
 | teach (M:Meet) (i:Nat) (hi:i<5) (hu:(M.node i).up=true) (hL:(M.node i).leads=true):Stp D 0 M (M.set i (Iq (M.node i) i 5) (M.lets++D2 (M.node i) i 5) M.told)
 | lead (M:Meet) (i:Nat) (hi:i<5) (hu:(M.node i).up=true) (hL:D.ld):Stp D 0 M (M.set i ((M.node i).lead i) M.lets M.told)
 | sub (M:Meet) (i:Nat) (d:List Int) (hi:i<5) (hu:(M.node i).up=true) (hD:D.d i d):Stp D 0 M (M.set i ((M.node i).subm i d M.told).1 M.lets ((M.node i).subm i d M.told).2)
 | crash (M:Meet) (i:Nat) (k:Int) (hi:i<5) (hu:(M.node i).up=true) (hk:0<=k) (hC:D.cr):Stp D 0 M (M.set i ((M.node i).crash k) M.lets M.told)
 | start (M:Meet) (i:Nat) (hi:i<5) (hu:(M.node i).up=false) (hs:D.st):Stp D 0 M (M.set i (M.node i).start M.lets M.told)
inductive Sts (D:Wh):Nat->Meet->Meet->Prop
 | nil (n:Nat) (M:Meet):Sts D n M M
 | snoc {n c m:Nat} {M N K:Meet} (h:Sts D n M N) (s:Stp D c N K) (hm:n+c<=m):Sts D m M K
end
section
variable{D:Wh}
section
variable{K M N:Meet}{i m n:Nat}{ls:List Let}{ts:List Tol}{α:Type}
theorem Sts.mono(h:Sts D n M N)(hn:n<=m):Sts D m M N:=by
 cases h with
 | nil=>exact .nil m M
 | snoc h s hm=>exact .snoc h s (by omega)
theorem Sts.trans(h:Sts D n M N)(k:Sts D m N K):Sts D (n+m) M K:=by
 induction k with
 | nil=>exact h.mono (by omega)
 | snoc _ s hm ih=>exact(ih h).snoc s (by omega)
theorem Sts.s0(h:Sts D n M N)(s:Stp D 0 N K):Sts D n M K:=h.snoc s (A' _)
theorem Stp.s(h:Stp D 0 M N):Sts D n M N:=(Sts.nil n M).s0 h
theorem LM(f:Nat->α)(i:Nat):upN f i (f i)=f:=by funext j;unfold upN;split<;>simp_all
theorem T3(f:Nat->α)(i:Nat)(x y:α):upN (upN f i x) i y=upN f i y:=by funext j;unfold upN;split<;>rfl
theorem Gl(M:Meet)(i:Nat)(p q:Nod)(ls ms:List Let)(ts us:List Tol):(M.set i p ls ts).set i q ms us=M.set i q ms us:=by unfold Meet.set;simp only[T3]
theorem IM(M:Meet)(i:Nat)(p:Nod)(ls:List Let)(ts:List Tol):(M.set i p ls ts).node i=p:=Ew M.node i p
theorem MJ(M:Meet)(l:Let):(M.come l).lets=M.lets:=by unfold Meet.come;split<;>rfl
theorem ML(M:Meet)(l:Let)(ls:List Let):({ M with lets:=ls }:Meet).come l={ M.come l with lets:=ls }:=by
 unfold Meet.come;show(if(M.node l.dst).up=true then _ else _)=_;split<;>rfl
theorem QT(l:List Let)(M:Meet)(ls:List Let):l.foldl (λM l=>M.come l) ({ M with lets:=ls }:Meet)={ l.foldl (λM l=>M.come l) M with lets:=ls }:=by
 induction l generalizing M with
 | nil=>rfl
 | cons x l ih=>rw[mD,ML,ih];rfl
theorem Sts.come(ht:D.tk)(h:Sts D n M N){l:Let}(hl:l∈N.lets)(hd:l.src<5/\l.dst<5):Sts D n M (N.come l):=by
 unfold Meet.come;split
 .rename_i hu;exact h.s0 (.take N l hl hd hu ht)
 .exact h
theorem Sts.comes(ht:D.tk)(l:List Let)(h:Sts D n M N)(hl:∀ m∈l,m∈N.lets/\m.src<5/\m.dst<5):Sts D n M (l.foldl (λM l=>M.come l) N):=by
 induction l generalizing N with
 | nil=>exact h
 | cons x l ih=>exact ih (h.come ht (hl x U').1 (hl x U').2) λm hm=>by rw[MJ];exact hl m (P' _ hm)
theorem Sts.doP(hi:i<5)(l:List Cmd)(p:Nod)(h:Sts D n M (M.set i p ls ts))(hu:p.up=true)(hl:p.agreed.drop p.done=l) :
  Sts D n M (M.set i (doP i l p ts).1 ls (Go.Proofs.YtalbmmghmoggcadGreatDoor.doP i l p ts).2)/\(Go.Proofs.YtalbmmghmoggcadGreatDoor.doP i l p ts).1.up=true:=by
 induction l generalizing p ts with
 | nil=>exact⟨h,hu⟩
 | cons c l ih =>
  rw[Go.Proofs.YtalbmmghmoggcadGreatDoor.doP];split
  .exact⟨h,hu⟩
  .rename_i he
   have hc:p.agreed[p.done]?=some c:=by have:=congrArg (·[0]?) hl;simpa using this
   have hk:=Eh { p with sto:=doS p.sto c,done:=p.done+1 } c;have e:=IM M i p ls ts;have s:=Stp.one (D:=D) (M.set i p ls ts) i c hi (by rw[e];exact hu) (by rw[e];exact hc) (by rw[e];exact iY.1 he);rw[e,Gl]at s
   refine ih _ (h.s0 s) (hk.1.trans hu) ?_;rw[hk.2.1,hk.2.2.1];show p.agreed.drop (p.done+1)=l;rw[<- kz,hl];rfl
theorem Sts.doneP(hi:i<5)(l:List Pend)(p:Nod)(h:Sts D n M (M.set i { p with pend:=l } ls ts))(hu:p.up=true)(h0:p.pend=[])(hs:¬ p.sy<(p.d.length:Int)) :
  Sts D n M (M.set i (doneP i l p ls).1 (Go.Proofs.YtalbmmghmoggcadGreatDoor.doneP i l p ls).2 ts)/\(Go.Proofs.YtalbmmghmoggcadGreatDoor.doneP i l p ls).1.up=true:=by
 induction l generalizing p ls with
 | nil =>
  have:({ p with pend:=[] }:Nod)=p:=by cases p;simp_all
  rw[this]at h;exact⟨h,hu⟩
 | cons q l ih =>
  have hk:=Gk p i q;have e:=IM M i { p with pend:=q::l } ls ts;have s:=Stp.run (D:=D) (M.set i { p with pend:=q::l } ls ts) i hi (by rw[e];exact hu) q l (by rw[e]) (by rw[e];exact hs);rw[e,Gl,Nr,Lz]at s
  exact ih (p.runP i q) (h.s0 s) (hk.2.1.trans hu) (hk.1.trans h0) (by rw[hk.2.2.1,hk.2.2.2];exact hs)
theorem Sts.piece(hi:i<5)(M:Meet)(hu:(M.node i).up=true):Sts D 1 M (M.set i ((M.node i).piece i M.lets M.told).1 ((M.node i).piece i M.lets M.told).2.1 ((M.node i).piece i M.lets M.told).2.2):=by
 have h0:Sts D 0 M (M.set i (M.node i) M.lets M.told):=by rw[show M.set i (M.node i) M.lets M.told=M by unfold Meet.set;rw[LM]];exact .nil 0 M
 obtain⟨ha,au⟩:=Sts.doP hi _ (M.node i) h0 hu rfl;unfold Nod.piece;simp only;generalize Go.Proofs.YtalbmmghmoggcadGreatDoor.doP i ((M.node i).agreed.drop (M.node i).done) (M.node i) M.told=a at ha au ⊢;have e:=IM M i a.1 M.lets a.2;have s:=Stp.ask (D:=D) (M.set i a.1 M.lets a.2) i hi (by rw[e];exact au);rw[e,Gl]at s
 have hb:=ha.s0 s;have bu:=(NI a.1 i).trans au;clear e s ha;generalize (a.1.askd i)=b at hb bu ⊢;have e:=IM M i b.1 (M.lets++b.2) a.2;have s:=Stp.prop (D:=D) (M.set i b.1 (M.lets++b.2) a.2) i hi (by rw[e];exact bu);rw[e,Gl]at s
 have hc:=hb.snoc s (m:=1) (by omega);have cu:=(GX b.1).trans bu;clear e s hb;change Sts D 1 M (M.set i b.1.propose (M.lets++b.2) a.2)at hc;generalize b.1.propose=r at hc cu ⊢;generalize M.lets++b.2=k at hc ⊢;have hd:Sts D 1 M (M.set i (r.syncd i k).1 (r.syncd i k).2 a.2)/\(r.syncd i k).1.up=true:=by
  unfold Nod.syncd;split
  .exact⟨hc,cu⟩
  .rename_i hn
   have e:=IM M i r k a.2;unfold Nod.syn;split
   .rename_i h1
    have h2:CS r.d r.sy=0:=iY.1 λe=>hn ⟨h1,e⟩;have hT:Bd r.d r.sy:=by
     unfold CS at h2;split at h2
     .assumption
     .cases h2
    have s:=Stp.syn (D:=D) (M.set i r k a.2) i hi (by rw[e];exact cu) (by rw[e];exact h1) (by rw[e];exact hT);rw[e,Gl]at s
    have e1:Hd r.d r.sy=r.d:=if_pos hT;have e2:In r.d r.sy=(r.d.length:Int):=if_pos hT;rw[e1,e2];exact Sts.doneP hi r.pend { r with sy:=(r.d.length:Int),pend:=[] } (hc.s0 s) cu rfl (Int.lt_irrefl _)
   .rename_i h1
    exact Sts.doneP hi r.pend { r with pend:=[] } hc cu rfl h1
 generalize r.syncd i k=f at hd ⊢;unfold Nod.taught;split
 .rename_i hL
  have e:=IM M i f.1 f.2 a.2;have s:=Stp.teach (D:=D) (M.set i f.1 f.2 a.2) i hi (by rw[e];exact hd.2) (by rw[e];exact hL);rw[e,Gl]at s
  exact hd.1.s0 s
 .exact hd.1
theorem Ik(M:Meet)(i:Nat):M.set i (M.node i) M.lets M.told=M:=by unfold Meet.set;rw[LM]
theorem YX(hM:MOk n M){x:Lac}(hx:LacOk x)(hD:D.may x):Sts D 1 M (M.act x):=by
 obtain⟨hD,h2,h8,h4,hS⟩:=hD;have hnode:∀ {k:Int},x.k=k->Fi k=true->x.n.toNat<5:=λ{k} e e2=>by have:=hx.n (by rw[e];exact e2);omega
 unfold Meet.act;simp only;split
 .rename_i h1
  by_cases hu:(M.node x.n.toNat).up=true
  .exact(Stp.sub M _ x.d (hnode h1 rfl) hu (hD h1)).s
  .unfold Nod.subm Nod.sub0;rw[if_pos (by simpa using hu)];rw[Ik];exact .nil 1 M
 .split
  .rename_i hk
   split
   .rename_i hu;exact(Stp.lead M _ (hnode hk rfl) hu (h2 hk)).s
   .rw[Ik];exact .nil 1 M
  .split
   .rename_i h3
    by_cases hu:(M.node x.n.toNat).up=true
    .rw[if_pos hu,if_pos hu,if_pos hu];exact Sts.piece (hnode h3 rfl) M hu
    .rw[if_neg hu,if_neg hu,if_neg hu,Ik];exact .nil 1 M
   .split
    .rename_i hk4
     obtain⟨hdr,htk⟩:=h4 (by omega);unfold Meet.move;split
     .exact .nil 1 M
     .rename_i l hl
      have hm:=jg hl;have hd:=And.intro (hM.lets l hm).src (hM.lets l hm).dst;have hA:∀ N:Meet,Sts D 1 M N->N.lets=M.lets->Sts D 1 M (if x.k≠6 then{ N with lets:=M.lets.eraseIdx (x.a.toNat%M.lets.length) }else N):=λN h e=>by
       split
       .exact h.s0 (.lets N _ (λm hm=>by rw[e];exact k9 hm) hdr)
       .exact h
      simp only;split
      .have:=hA (M.come l) ((Sts.nil 1 M).come htk hm hd) (MJ M l);by_cases h6:x.k≠6
       .rw[if_pos h6]at this ⊢;rw[ML];exact this
       .rw[if_neg h6]at this ⊢;exact this
      .exact hA M (.nil 1 M) rfl
    .split
     .rename_i hk7
      unfold Meet.comeAll;rw[QT];exact(Sts.comes (h4 (by omega)).2 M.lets (.nil 1 M) λm hm=>⟨hm,(hM.lets m hm).src,(hM.lets m hm).dst⟩).s0 (.lets _ [] (λl hl=>by cases hl) (h4 (by omega)).1)
     .split
      .rename_i hk
       split
       .rename_i hu;exact(Stp.crash M _ x.p (hnode hk rfl) hu (hx.p (by rw[hk];rfl)).1 (h8 hk)).s
       .rw[Ik];exact .nil 1 M
      .split
       .rename_i h9
        split
        .rw[Ik];exact .nil 1 M
        .rename_i hu;exact(Stp.start M _ (hnode h9 rfl) (by simpa using hu) (hS h9)).s
       .exact .nil 1 M
theorem OH(L:List Lac)(hM:MOk n M)(hn:n+L.length<=1000000)(hx:∀ x∈L,LacOk x/\D.may x):Sts D L.length M (M.acts L):=by
 induction L generalizing n M with
 | nil=>exact .nil _ M
 | cons x L ih =>
  have h1:=hx x U';rw[jo]at hn
  rw[jo,mx];exact(YX hM h1.1 h1.2).trans (ih (hM.act (by omega) h1.1) (by omega) λy hy=>hx y (P' _ hy))
end
end
section
def whT:Wh:=⟨λ_ _=>True,True,True,True,True,True⟩
theorem TB(x:Lac):whT.may x:=⟨λ_=>trivial,λ_=>trivial,λ_=>trivial,λ_=>⟨trivial,trivial⟩,λ_=>trivial⟩
inductive Rk where
 | pr (b:Bal)
 | vt (v:Vt)
def Rk.body:Rk->List Int
 | .pr b=>Bn b
 | .vt v=>Be v
def Rk.ap(a:Acc):Rk->Acc
 | .pr b=>⟨b,a.vs⟩
 | .vt v=>⟨v.b,Ba a.vs v⟩
def Rk.err(a:Acc):Rk->Int
 | .pr b=>BQ a b
 | .vt v=>AQ a v
def Rk.ok(a:Acc):Rk->Prop
 | .pr b=>BQ a b=0/\a.p≠b
 | .vt v=>AQ a v=0/\v∉a.vs
variable{a:Acc}{b:Bal}{c:Cmd}{dr qs rs:List Rk}{i j n s:Nat}{l:List Cmd}{p:Nod}{r:Rk}{v:Vt}{vs:List Vt}
theorem Rk.ok.err(h:Rk.ok a r):Rk.err a r=0:=by cases r<;>exact h.1
def BF(rs:List Rk):Acc:=rs.foldl Rk.ap a0
theorem BS(rs:List Rk)(r:Rk):BF (rs++[r])=Rk.ap (BF rs) r:=by unfold BF;rw[mf];rfl
def AX(rs:List Rk):Prop:=∀ i r,rs[i]?=some r->Rk.ok (BF (rs.take i)) r
theorem AX.nil:AX []:=λi r h=>by simp at h
theorem AX.left(h:AX (rs++qs)):AX rs:=λi r e=>by
 have hi:=(Q'.1 e).1;have:=h i r (by rw[iT hi];exact e)
 rwa [jk (by omega)]at this
theorem AX.pre(h:AX qs)(hp:rs <+: qs):AX rs:=by obtain⟨x,rfl⟩:=hp;exact h.left
theorem AX.snoc(h:AX rs)(he:Rk.ok (BF rs) r):AX (rs++[r]):=λi q e=>by
 rcases jt i rs.length with hi|hi
 .rw[iT hi]at e
  rw[jk (by omega)];exact h i q e
 .have:=(Q'.1 e).1;rw[G',kJ]at this
  obtain rfl:i=rs.length:=by omega
  rw[iV (A' _)]at e
  simp at e;subst e;rw[jk (A' _),jU];exact he
theorem AX.last(h:AX (rs++[r])):Rk.ok (BF rs) r:=by
 have:=h rs.length r (by simp)
 rwa [jk (A' _),jU]at this
theorem AX.ind{P:List Rk->Prop}(h0:P [])(hs:∀ rs r,AX rs->Rk.ok (BF rs) r->P rs->P (rs++[r]))(h:AX rs):P rs:=by
 have:∀ k,k<=rs.length->P (rs.take k):=by
  intro k;induction k with
  | zero=>intro _;exact h0
  | succ k ih =>
   intro hk;have e:rs.take (k+1)=rs.take k++[rs[k]]:=by rw[iW (by omega)]
   rw[e];exact hs _ _ (h.pre (kY _ _)) (h k _ (E' (by omega))) (ih (by omega))
 have:=this rs.length (A' _)
 rwa [jU]at this
theorem An.prm(h:An a)(hb:Ab b)(hl:¬ b.lt a.p):An ⟨b,a.vs⟩:=by
 refine⟨.inl hb,λv hv=>⟨(h.2.1 v hv).1,λg=>?_⟩,h.2.2⟩;have h1:=(h.2.1 v hv).1.2.1;have h2:=(h.2.1 v hv).2;rw[IF hb.pr h1.pr]at g
 rw[IF h.1 h1.pr]at h2
 rw[IF hb.pr h.1]at hl
 omega
theorem An.vot(h:An a)(hv:Ak v)(hl:¬ v.b.lt a.p):An ⟨v.b,Ba a.vs v⟩:=by
 refine⟨.inl hv.2.1,λu hu=>?_,IC v h.2.2⟩;rcases(Cw h.2.2).1 hu with rfl|⟨hu,_⟩
 .refine⟨hv,λg=>?_⟩;change u.b.lt u.b at g;unfold Bal.lt at g;omega
 .exact(h.prm hv.2.1 hl).2.1 u hu
theorem Kb:An a0:=⟨.inr ⟨rfl,rfl⟩,λv hv=>(M' hv).elim,trivial⟩
theorem Rk.may(h:An a)(he:Rk.err a r=0):An (Rk.ap a r):=by
 cases r with
 | pr b=>have:=Dd he;exact h.prm this.2.1 this.2.2
 | vt v=>have:=AH he;exact h.vot this.2.1 this.2.2
theorem AX.acc(h:AX rs):An (BF rs):=h.ind (P:=λrs=>An (BF rs)) Kb λrs r _ he ih=>by rw[BS];exact Rk.may ih he.err
theorem BM{a:Bal}(ha:Aw a)(hb:Aw b)(h:¬ a.lt b):b.key<=a.key:=by rw[IF ha hb]at h;omega
theorem Rk.rises(h:An a)(he:Rk.err a r=0):a.p.key<=(Rk.ap a r).p.key:=by
 cases r with
 | pr b=>have:=Dd he;exact BM this.2.1.pr h.1 this.2.2
 | vt v=>have:=AH he;exact BM this.2.1.2.1.pr h.1 this.2.2
theorem Qe(h:AX rs):∀ v∈(BF rs).vs,Rk.vt v∈rs:=h.ind (P:=λrs=>∀ v∈(BF rs).vs,Rk.vt v∈rs) (λv hv=>by cases hv) λrs r hk he ih v hv=>by
 rw[BS]at hv
 cases r with
 | pr b=>exact jl _ (ih v hv)
 | vt u =>
  rcases(Cw hk.acc.2.2).1 hv with rfl|⟨hv,_⟩
  .exact jx _ U'
  .exact jl _ (ih v hv)
theorem An.le(h:An a)(hv:v∈a.vs):v.b.key<=a.p.key:=BM h.1 (h.2.1 v hv).1.2.1.pr (h.2.1 v hv).2
theorem KT(h:An a)(he:AQ a v=0){u:Vt}(hu:u∈a.vs):∃ x∈Ba a.vs v,x.slot=u.slot/\u.b.key<=x.b.key:=by
 have hz:=AH he;by_cases e:u.slot=v.slot
 .exact⟨v,(Cw h.2.2).2 (.inl rfl),e.symm,jp (h.le hu) (BM hz.2.1.2.1.pr h.1 hz.2.2)⟩
 .exact⟨u,(Cw h.2.2).2 (.inr ⟨hu,e⟩),rfl,jH _⟩
theorem Yk(h:AX rs):∀ v,Rk.vt v∈rs->v.b.key<=(BF rs).p.key/\∃ u∈(BF rs).vs,u.slot=v.slot/\v.b.key<=u.b.key:=h.ind (P:=λrs=>∀ v,Rk.vt v∈rs->v.b.key<=(BF rs).p.key/\∃ u∈(BF rs).vs,u.slot=v.slot/\v.b.key<=u.b.key) (λv hv=>by cases hv) λrs r hk he ih v hv=>by
 have hr:=Rk.rises hk.acc he.err;rw[BS];rcases V'.1 hv with hv|hv
 .obtain⟨h1,u,h2,h3,h4⟩:=ih v hv;refine⟨jp h1 hr,?_⟩;cases r with
  | pr b=>exact⟨u,h2,h3,h4⟩
  | vt w =>
   obtain⟨x,x1,x2,x3⟩:=KT hk.acc he.err h2;exact⟨x,x1,x2.trans h3,jp h4 x3⟩
 .rw[<- O'.1 hv]at he ⊢
  exact⟨jH _,v,(Cw hk.acc.2.2).2 (.inl rfl),rfl,jH _⟩
theorem EA(h:AX (rs++qs)):(BF rs).p.key<=(BF (rs++qs)).p.key/\∀ v,Rk.vt v∈qs->(BF rs).p.key<=v.b.key:=by
 have:∀ k,k<=qs.length->(BF rs).p.key<=(BF (rs++qs.take k)).p.key/\∀ v,Rk.vt v∈qs.take k->(BF rs).p.key<=v.b.key:=by
  intro k;induction k with
  | zero=>intro _;rw[jY,jy];exact⟨jH _,λv hv=>by cases hv⟩
  | succ k ih =>
   intro hk;obtain⟨h1,h2⟩:=ih (by omega);have e:qs.take (k+1)=qs.take k++[qs[k]]:=by rw[iW (by omega)]
   have hok:AX (rs++qs.take k++[qs[k]]):=h.pre (by rw[iR,<- e];exact List.prefix_append_right_inj rs |>.2 (kY _ _));have hr:=Rk.rises hok.left.acc hok.last.err;rw[<- BS]at hr
   rw[e,<- iR];refine⟨jp h1 hr,λv hv=>?_⟩;rcases V'.1 hv with hv|hv
   .exact h2 v hv
   .have hl:=hok.last;rw[<- O'.1 hv]at hl
    have hz:=AH hl.err;exact jp h1 (BM hz.2.1.2.1.pr hok.left.acc.1 hz.2.2)
 have:=this qs.length (A' _)
 rwa [jU]at this
def fl(rs:List Rk):List Int:=Az (rs.map Rk.body)
theorem ZG(rs:List Rk)(r:Rk):fl (rs++[r])=fl rs++AI r.body:=by unfold fl;rw[iS,Ck];simp[Az]
theorem Rl(rs qs:List Rk):fl (rs++qs)=fl rs++fl qs:=by unfold fl;rw[iS,Ck]
theorem WF(h:rs <+: qs):(fl rs).length<=(fl qs).length:=by obtain⟨x,rfl⟩:=h;rw[Rl,G'];omega
theorem fO(h:rs <+: qs)(he:(fl qs).length<=(fl rs).length):rs=qs:=by
 obtain⟨x,rfl⟩:=h;rw[Rl,G']at he
 have:=Pn (x.map Rk.body);rw[jc]at this
 unfold fl at he;obtain rfl:x=[]:=iN (by omega);rw[jy]
theorem AX.chn(h:AX rs):Chn ((List.range (rs.length+1)).map λj=>BF (rs.take j)) (rs.map Rk.body):=by
 refine⟨by simp,by simp[BF],λi b a c hb ha hc=>?_⟩;simp only[jh,j0]at hb ha hc;obtain⟨r,hr,rfl⟩:=hb;obtain⟨j,hj,rfl⟩:=ha;obtain⟨k,hk,rfl⟩:=hc;have hi:=(Q'.1 hr).1;rw[j8 (by omega)]at hj hk
 cases hj;cases hk;have he:=(h i r hr).err;have hq:rs[i]=r:=by rw[E' hi]at hr;exact jJ hr
 rw[iW hi,BS,hq];generalize BF (rs.take i)=a at he ⊢;cases r with
 | pr b=>show Dp a (Bn b)=_;rw[Wu a (Dd he).2.1];exact if_pos he
 | vt v=>show Dp a (Be v)=_;rw[Wv a (AH he).2.1];exact if_pos he
structure TpU(p:Nod)(dr rs:List Rk):Prop where
 ok:AX rs
 pre:dr <+: rs
 d:p.d=fl rs
 sy:p.sy=((fl dr).length:Int)
 vo:p.vo=BF rs
 len:p.d.length<=100000
structure TpD(p:Nod)(dr:List Rk):Prop where
 ok:AX dr
 rcv:DU p.d=((fl dr).length,BF dr)
 tk:p.d.take (fl dr).length=fl dr
 sy:p.sy=(p.d.length:Int)
 len:p.d.length<=100000
theorem TpU.tap(h:TpU p dr rs):Bd p.d p.sy:=by
 have:=WF h.pre;have:=h.d;refine⟨h.len,by rw[h.sy];omega,?_⟩;rw[h.sy,h.d];omega
theorem TpU.zero:TpU CV [] []:=⟨AX.nil,jM _,rfl,rfl,rfl,by decide⟩
theorem TpU.all(h:TpU p dr rs)(hs:¬ p.sy<(p.d.length:Int)):dr=rs:=fO h.pre (by rw[h.sy,h.d]at hs;omega)
theorem TpU.crash(h:TpU p dr rs){k:Int}(hk:0<=k):∃ dr',dr <+: dr'/\dr' <+: rs/\TpD (p.crash k) dr':=by
 have hT:=h.tap;have hc:Hm p.d p.sy k=0:=by unfold Hm;rw[if_neg (λe=>e hT),if_neg (by omega)]
 have hT':=hT;unfold Bd at hT';have hN:p.sy<=F5 p.d p.sy k/\F5 p.d p.sy k<=(p.d.length:Int):=by unfold F5;split<;>omega
 obtain⟨j,a,h1,h2,h3,h4,h5⟩:=h.ok.chn.torn (F5 p.d p.sy k).toNat;rw[jc]at h1 h5
 rw[jh,j8 (by omega)]at h2
 obtain rfl:BF (rs.take j)=a:=by simpa using h2
 have hfj:Az ((rs.map Rk.body).take j)=fl (rs.take j):=by unfold fl;rw[lV]
 rw[hfj]at h3 h4
 have hd:(p.crash k).d=(fl rs).take (F5 p.d p.sy k).toNat:=by
  unfold Nod.crash;rw[if_neg (λe=>e hc)];show JF p.d p.sy k=_;unfold JF;rw[if_pos hc,h.d]
 have hs:(p.crash k).sy=F5 p.d p.sy k:=by
  unfold Nod.crash;rw[if_neg (λe=>e hc)];show JG p.d p.sy k=_;unfold JG;rw[if_pos hc]
 have hl:((fl rs).take (F5 p.d p.sy k).toNat).length=(F5 p.d p.sy k).toNat:=by rw[iO,<- h.d];omega
 refine⟨rs.take j,?_,kY _ _,h.ok.pre (kY _ _),by rw[hd];exact h3,?_,?_,?_⟩
 .obtain⟨x,hx⟩:=h.pre;rcases jt j dr.length with g|g
  .exfalso;rcases h5 with h5|h5
   .rw[<- hx,G']at h5;omega
   .have hp:rs.take (j+1) <+: dr:=by rw[<- hx,jk (by omega)];exact kY _ _
    have:=WF hp;rw[show Az ((rs.map Rk.body).take (j+1))=fl (rs.take (j+1))by unfold fl;rw[lV]]at h5
    have:=h.sy;omega
  .rw[<- hx,List.take_append];rw[iU g];exact kg _ _
 .rw[hd,kl,jR h4];have e:fl rs=fl (rs.take j)++fl (rs.drop j):=by rw[<- Rl,jz]
  rw[show(fl rs).take (fl (rs.take j)).length=(fl (rs.take j)++fl (rs.drop j)).take (fl (rs.take j)).length by rw[<- e],jk (A' _),jU]
 .rw[hs,hd,hl];omega
 .rw[hd,hl];have:=h.len;omega
theorem TpD.start(h:TpD p dr):TpU p.start dr dr:=by
 have hT:Bd p.d p.sy:=⟨h.len,by rw[h.sy];omega,by rw[h.sy];omega⟩;have e0:CS p.d p.sy=0:=if_pos hT;have e1:Ms p.d p.sy=((fl dr).length:Int):=by unfold Ms;rw[if_pos hT,h.rcv]
 have e2:FJ p.d p.sy=BF dr:=by unfold FJ;rw[if_pos hT,h.rcv]
 have hle:=Tq p.d;rw[h.rcv]at hle
 have hle:(fl dr).length<=p.d.length:=hle;have hlen:=h.len;unfold Nod.start;rw[if_neg (λe=>e e0),e1,e2];split
 .rename_i hlt
  have e3:IK p.d p.sy=fl dr:=by unfold IK;rw[if_pos hT,h.rcv];exact h.tk
  have e4:Lv p.d p.sy=((fl dr).length:Int):=by unfold Lv;rw[if_pos hT,h.rcv];exact if_pos (by rw[h.sy];exact hlt)
  exact⟨h.ok,jM _,e3,e4,rfl,by show(IK p.d p.sy).length<=_;rw[e3];omega⟩
 .rename_i hge
  have e3:p.d=fl dr:=by have:=h.tk;rwa [iU (by omega)]at this
  exact⟨h.ok,jM _,e3,by show p.sy=_;rw[h.sy,<- e3],rfl,hlen⟩
theorem TpU.syn(h:TpU p dr rs):TpU { p with sy:=(p.d.length:Int) } rs rs:=⟨h.ok,jM _,h.d,by show(p.d.length:Int)=_;rw[h.d],h.vo,h.len⟩
def Nod.tv(p:Nod)(d:List Int)(s:Int)(a:Acc):Nod:={ p with d:=d,sy:=s,vo:=a }
theorem TpU.write(h:TpU p dr rs)(he:Rk.ok p.vo r)(hl:p.d.length+(r.body.length+5)<=100000):TpU (p.tv (p.d++AI r.body) p.sy (Rk.ap p.vo r)) dr (rs++[r]):=by
 rw[h.vo]at he
 refine⟨h.ok.snoc he,h.pre.trans (kg _ _),?_,h.sy,?_,?_⟩
 .show p.d++_=_;rw[h.d,ZG]
 .show Rk.ap p.vo r=_;rw[h.vo,BS]
 .show(p.d++AI r.body).length<=_;rw[G',Bg];omega
theorem TpU.promise(h:TpU p dr rs)(b:Bal):((p.promise b).2.2≠0/\(p.promise b).1=p) \/
  ((p.promise b).2.2=0/\BQ p.vo b=0/\(p.promise b).2.1=p.vo.vs/\∃ rs',rs <+: rs'/\TpU (p.promise b).1 dr rs'/\(∀ v,Rk.vt v∈rs'↔Rk.vt v∈rs)/\(BF rs').p=b/\(BF rs').vs=p.vo.vs/\∃ d a,(p.promise b).1=p.tv d p.sy a):=by
 unfold Nod.promise;split
 .rename_i h1;exact .inl ⟨h1,rfl⟩
 .rename_i h1
  have h1:=iY.1 h1;split
  .rename_i h2
   refine .inr ⟨rfl,h1,rfl,rs,jM _,?_,λ_=>Iff.rfl,?_,?_,p.d,p.vo,?_⟩
   .rw[h2];exact h
   .rw[<- h.vo];exact h2.symm
   .rw[<- h.vo]
   .rw[h2];rfl
  .rename_i h2
   split
   .rename_i h3;exact .inl ⟨h3,rfl⟩
   .rename_i h3
    have h3:=iY.1 h3;have hw:=IZ h3;have e1:Fl p.d p.sy (Ab b) (Bn b)=p.d++AI (Bn b):=if_pos h3;have e2:FX p.d p.sy (Ab b) (Bn b)=p.sy:=if_pos h3;rw[e1,e2];refine .inr ⟨rfl,h1,rfl,rs++[Rk.pr b],kg _ _,(h.write (r:=.pr b) ⟨h1,λe=>h2 e.symm⟩ hw.2.1),λv=>by simp,?_,?_,_,_,rfl⟩
    .rw[BS];rfl
    .rw[BS,h.vo];rfl
theorem Uw{l:List Vt}(h:BA l)(hv:v∈l):Ba l v=l:=by
 induction l with
 | nil=>cases hv
 | cons u us ih =>
  rw[Ba];rcases iX.1 hv with rfl|hv
  .rw[if_neg (Int.lt_irrefl _),if_pos rfl]
  .rw[if_pos (h.1 v hv),ih h.2 hv]
theorem TpU.vote(h:TpU p dr rs)(v:Vt):((p.vote v).2≠0/\(p.vote v).1=p) \/
  ((p.vote v).2=0/\AQ p.vo v=0/\∃ rs',rs <+: rs'/\TpU (p.vote v).1 dr rs'/\(∀ u,Rk.vt u∈rs'↔u=v\/Rk.vt u∈rs)/\(BF rs').p=v.b/\∃ d a,(p.vote v).1=p.tv d p.sy a):=by
 unfold Nod.vote;split
 .rename_i h1;exact .inl ⟨h1,rfl⟩
 .rename_i h1
  have h1:=iY.1 h1;have hz:=AH h1;split
  .rename_i h2
   have hle:=hz.1.le h2;have hge:=BM hz.2.1.2.1.pr hz.1.1 hz.2.2;have e:v.b=p.vo.p:=Hw hz.2.1.2.1.pr hz.1.1 (by omega);have e2:(⟨v.b,Ba p.vo.vs v⟩:Acc)=p.vo:=by rw[Uw hz.1.2.2 h2,e]
   rw[e2];refine .inr ⟨rfl,h1,rs,jM _,h,λu=>⟨.inr,λhu=>?_⟩,by rw[<- h.vo];exact e.symm,p.d,p.vo,rfl⟩;rcases hu with rfl|hu
   .exact Qe h.ok u (by rw[<- h.vo];exact h2)
   .exact hu
  .rename_i h2
   split
   .rename_i h3;exact .inl ⟨h3,rfl⟩
   .rename_i h3
    have h3:=iY.1 h3;have hw:=IZ h3;have e1:Fl p.d p.sy (Ak v) (Be v)=p.d++AI (Be v):=if_pos h3;have e2:FX p.d p.sy (Ak v) (Be v)=p.sy:=if_pos h3;rw[e1,e2];refine .inr ⟨rfl,h1,rs++[Rk.vt v],kg _ _,h.write (r:=.vt v) ⟨h1,h2⟩ hw.2.1,λu=>?_,by rw[BS];rfl,_,_,rfl⟩;rw[V',O'];exact⟨λg=>g.elim .inr λe=>.inl (Rk.vt.inj e),λg=>g.elim (λe=>.inr (by rw[e])) .inl⟩
structure Gs where
 dr:Nat->List Rk
 W:Bal->Nat->Cmd->Prop
def Gs.held(σ:Gs)(n:Nat)(v:Vt):Prop:=Rk.vt v∈σ.dr n
def Gs.H(σ:Gs)(n s:Nat)(b:Int)(c:Cmd):Prop:=∃ v,σ.held n v/\v.slot=(s:Int)/\v.b.key=b/\v.w=c
def Gs.P(σ:Gs)(n:Nat):Int:=(BF (σ.dr n)).p.key
def Gs.vok(σ:Gs)(v:Vt):Prop:=Ak v/\σ.W v.b v.slot.toNat v.w
def Gs.chs(σ:Gs)(s:Nat)(c:Cmd):Prop:=∃ b,Ch σ.H s b c
structure GsI(σ:Gs):Prop where
 ok:∀ n,AX (σ.dr n)
 pinv:PInv σ.H σ.P
 w1:∀ b s c c',σ.W b s c->σ.W b s c'->c=c'
 w2:∀ b s c,σ.W b s c->Ab b/\DA σ.H σ.P s b.key c
 w3:∀ b s c,σ.W b s c->b.key<=σ.P b.n.toNat
 hv:∀ n v,σ.held n v->σ.vok v
structure Gs.le(σ τ:Gs):Prop where
 pre:∀ n,σ.dr n <+: τ.dr n
 W:∀ b s c,σ.W b s c->τ.W b s c
theorem Gs.le.refl(σ:Gs):σ.le σ:=⟨λ_=>jM _,λ_ _ _ h=>h⟩
variable{σ τ:Gs}
theorem Gs.le.trans{υ:Gs}(h:σ.le τ)(k:τ.le υ):σ.le υ:=⟨λn=>(h.pre n).trans (k.pre n),λb s c g=>k.W b s c (h.W b s c g)⟩
theorem Gs.le.held(h:σ.le τ)(g:σ.held n v):τ.held n v:=(h.pre n).subset g
theorem Gs.le.H(h:σ.le τ){b:Int}(g:σ.H n s b c):τ.H n s b c:=by obtain⟨v,h1,h2⟩:=g;exact⟨v,h.held h1,h2⟩
theorem Gs.le.vok(h:σ.le τ)(g:σ.vok v):τ.vok v:=⟨g.1,h.W _ _ _ g.2⟩
theorem Gs.le.chs(h:σ.le τ)(g:σ.chs s c):τ.chs s c:=by obtain⟨b,Q,h1,h2⟩:=g;exact⟨b,Q,h1,λq hq hQ=>h.H (h2 q hq hQ)⟩
theorem Gs.le.P(h:σ.le τ)(hI:GsI τ)(n:Nat):σ.P n<=τ.P n:=by
 obtain⟨x,hx⟩:=h.pre n;have:=hI.ok n;unfold Gs.P;rw[<- hx]at this ⊢
 exact(EA this).1
structure Gs.by_(i:Nat)(σ τ:Gs):Prop where
 le:σ.le τ
 new:∀ b s c,τ.W b s c->σ.W b s c\/b.n=(i:Int)
 oth:∀ n,n≠i->τ.dr n=σ.dr n
theorem Gs.by_.refl(i:Nat)(σ:Gs):Gs.by_ i σ σ:=⟨.refl σ,λ_ _ _ h=>.inl h,λ_ _=>rfl⟩
def Gs.ext(σ:Gs)(i:Nat)(qs:List Rk):Gs:=⟨upN σ.dr i (σ.dr i++qs),σ.W⟩
theorem GI(σ:Gs)(i:Nat)(qs:List Rk):(σ.ext i qs).dr i=σ.dr i++qs:=Ew _ _ _
theorem KF(σ:Gs)(qs:List Rk)(h:n≠i):(σ.ext i qs).dr n=σ.dr n:=FT _ _ h
theorem NV(σ:Gs)(i:Nat)(qs:List Rk):Gs.by_ i σ (σ.ext i qs):=⟨⟨λn=>by
 by_cases e:n=i
 .subst e;rw[GI];exact kg _ _
 .rw[KF σ qs e];exact jM _,λ_ _ _ h=>h⟩,λ_ _ _ h=>.inl h,λn h=>KF σ qs h⟩
theorem Pk(σ:Gs)(i:Nat)(r:Rk):(σ.ext i [r]).P=upP σ.P i (Rk.ap (BF (σ.dr i)) r).p.key:=by
 funext n
 unfold Gs.P upP;split
 .rename_i e;subst e;rw[GI,BS]
 .rename_i e;rw[KF σ _ e]
theorem Hu:(σ.ext i qs).held n v↔σ.held n v\/(n=i/\Rk.vt v∈qs):=by
 unfold Gs.held;by_cases e:n=i
 .subst e;rw[GI,V'];simp
 .rw[KF σ qs e];simp[e]
theorem GsI.ext1(h:GsI σ)(he:Rk.ok (BF (σ.dr i)) r)(hv:∀ v,r=.vt v->σ.vok v):GsI (σ.ext i [r]):=by
 have hacc:=(h.ok i).acc;have hris:=Rk.rises hacc he.err;have hle:=(NV σ i [r]).le;have hok:∀ n,AX ((σ.ext i [r]).dr n):=λn=>by
  by_cases e:n=i
  .subst e;rw[GI];exact(h.ok n).snoc he
  .rw[KF σ _ e];exact h.ok n
 have hPi:σ.P i<=(Rk.ap (BF (σ.dr i)) r).p.key:=hris;have hP:∀ n,σ.P n<=(σ.ext i [r]).P n:=λn=>by rw[Pk];exact LN hPi n
 have hhv:∀ n v,(σ.ext i [r]).held n v->(σ.ext i [r]).vok v:=λn v g=>by
  rcases Hu.1 g with g|⟨_,g⟩
  .exact hle.vok (h.hv n v g)
  .exact hle.vok (hv v (O'.1 g).symm)
 cases r with
 | pr b =>
  have hH:(σ.ext i [.pr b]).H=σ.H:=by
   funext n s b' c
   exact propext ⟨λ⟨v,g,k⟩=>⟨v,(Hu.1 g).resolve_right λe=>by simp at e,k⟩,λ⟨v,g,k⟩=>⟨v,hle.held g,k⟩⟩
  refine⟨hok,?_,h.w1,λb' s c g=>⟨(h.w2 b' s c g).1,?_⟩,λb' s c g=>jp (h.w3 b' s c g) (hP _),hhv⟩
  .rw[hH,Pk];exact h.pinv.promise hPi
  .rw[hH,Pk];exact(h.w2 b' s c g).2.up hPi
 | vt v =>
  obtain⟨hm,hW⟩:=hv v rfl;have hs:v.slot=(v.slot.toNat:Int):=by have:=hm.1;omega
  have hH:(σ.ext i [.vt v]).H=db σ.H i v.slot.toNat v.b.key v.w:=by
   funext n s b' c
   refine propext ⟨λ⟨u,g,k1,k2,k3⟩=>?_,λg=>?_⟩
   .rcases Hu.1 g with g|⟨g1,g2⟩
    .exact .inl ⟨u,g,k1,k2,k3⟩
    .have e:u=v:=Rk.vt.inj (O'.1 g2);subst e;exact .inr ⟨g1,by omega,k2.symm,k3.symm⟩
   .rcases g with⟨u,g,k⟩|⟨rfl,rfl,rfl,rfl⟩
    .exact⟨u,hle.held g,k⟩
    .exact⟨v,Hu.2 (.inr ⟨rfl,O'.2 rfl⟩),hs,rfl,rfl⟩
  refine⟨hok,?_,h.w1,λb' s c g=>⟨(h.w2 b' s c g).1,?_⟩,λb' s c g=>jp (h.w3 b' s c g) (hP _),hhv⟩
  .rw[hH,Pk];refine h.pinv.vote hPi (by have:=hm.2.1.pos;show 0<v.b.key;omega) (h.w2 _ _ _ hW).2 λm c' ⟨u,g,k1,k2,k3⟩=>?_;have hu:=h.hv m u g;have e:u.b=v.b:=Hw hu.1.2.1.pr hm.2.1.pr k2;have h2:=hu.2;rw[e,show u.slot.toNat=v.slot.toNat by omega,k3]at h2
   exact h.w1 _ _ _ _ h2 hW
  .rw[hH,Pk];exact(h.w2 b' s c g).2.vote hPi
theorem ZC(σ:Gs)(i:Nat)(r:Rk)(qs:List Rk):(σ.ext i [r]).ext i qs=σ.ext i (r::qs):=by unfold Gs.ext;simp only[Ew,T3,iR,List.singleton_append]
theorem GsI.ext(h:GsI σ)(qs:List Rk)(hk:AX (σ.dr i++qs))(hv:∀ v,Rk.vt v∈qs->σ.vok v):GsI (σ.ext i qs):=by
 induction qs generalizing σ with
 | nil =>
  have:σ.ext i []=σ:=by unfold Gs.ext;rw[jy,LM]
  rw[this];exact h
 | cons r qs ih =>
  rw[<- ZC];have h1:AX (σ.dr i++[r]):=hk.pre ⟨qs,by simp⟩;refine ih (h.ext1 h1.last λv e=>hv v (by rw[e];exact U')) ?_ λv g=>(NV σ i [r]).le.vok (hv v (P' _ g));rw[GI,iR];exact hk
structure PrmOk(dr:List Rk)(b:Bal)(vs:List Vt):Prop where
 le:b.key<=(BF dr).p.key
 sub:∀ v∈vs,Rk.vt v∈dr/\v.b.key<=b.key
 dom:∀ v,Rk.vt v∈dr->v.b.key<b.key->∃ u∈vs,u.slot=v.slot/\v.b.key<=u.b.key
 acc:An ⟨b,vs⟩
theorem PrmOk.mono(h:PrmOk dr b vs)(hp:dr <+: rs)(hk:AX rs):PrmOk rs b vs:=by
 obtain⟨x,rfl⟩:=hp;have hr:=EA hk;refine⟨jp h.le hr.1,λv hv=>⟨jl _ (h.sub v hv).1,(h.sub v hv).2⟩,λv hv hlt=>?_,h.acc⟩;rcases V'.1 hv with hv|hv
 .exact h.dom v hv hlt
 .have:=hr.2 v hv;have:=h.le;omega
theorem PrmOk.of(hk:AX rs)(hb:(BF rs).p=b)(hv:(BF rs).vs=vs):PrmOk rs b vs:=by
 subst hb hv;exact⟨jH _,λv hv=>⟨Qe hk v hv,hk.acc.le hv⟩,λv hv _=>(Yk hk v hv).2,hk.acc⟩
structure RdI(σ:Gs)(i:Nat)(r:Rnd):Prop where
 bal:r.bal=Cc\/(Ab r.bal/\r.bal.n=(i:Int))
 next:∀ s c,σ.W r.bal s c->s<r.next
 own:∀ j,j<5->r.pro j=true->r.bal.key<=σ.P i
 heard:∀ j,j<5->∀ v∈(r.heard j).vs,σ.held j v/\v.b.key<=r.bal.key/\(r.pro j=false->v.b=r.bal)
 prom:∀ j,j<5->r.pro j=true->r.bal.key<=σ.P j/\∀ v,σ.held j v->v.b.key<r.bal.key->∃ u∈(r.heard j).vs,u.slot=v.slot/\v.b.key<=u.b.key
 acc:∀ j,j<5->An (r.heard j)/\(r.pro j=true->(r.heard j).p=r.bal)
def PnI(σ:Gs)(rs:List Rk)(r:Rnd):Pend->Prop
 | .began b vs=>PrmOk rs b vs/\b.key<=r.bal.key
 | .prom _ b vs=>PrmOk rs b vs/\b.key<=σ.P b.n.toNat
 | .voted _ v=>Rk.vt v∈rs
 | .prop v=>Rk.vt v∈rs
 | .refuse _ b=>Aw b/\b.key<=(BF rs).p.key
 | _=>True
structure UpI(σ:Gs)(i:Nat)(p:Nod)(rs:List Rk):Prop where
 tp:TpU p (σ.dr i) rs
 vok:∀ v,Rk.vt v∈rs->σ.vok v
 rd:RdI σ i p.rnd
 bp:p.rnd.bal.key<=p.vo.p.key
 pe:∀ q∈p.pend,PnI σ rs p.rnd q
def AgL(σ:Gs)(l:List Cmd)(k:Nat):Prop:=∀ s c,l[s]?=some c->σ.chs (k+s) c
structure NdI(σ:Gs)(i:Nat)(p:Nod):Prop where
 up:p.up=true->∃ rs,UpI σ i p rs
 dn:p.up=false->TpD p (σ.dr i)
 ag:AgL σ p.agreed 0
structure LtI(σ:Gs)(l:Let):Prop where
 k0:l.kind=0->l.bal.key<=σ.P l.bal.n.toNat
 k1:l.kind=1->PrmOk (σ.dr l.src) l.bal l.votes/\l.bal.key<=σ.P l.bal.n.toNat/\AgL σ l.what 0
 k2:l.kind=2->Aw l.bal/\l.bal.key<=σ.P l.src
 k3:l.kind=3->σ.vok l.vote
 k4:l.kind=4->σ.held l.src l.vote
 k5:l.kind=5->AgL σ l.what l.slot
structure AgI(σ:Gs)(M:Meet):Prop where
 gs:GsI σ
 nd:∀ i,i<5->NdI σ i (M.node i)
 lt:∀ l∈M.lets,LtI σ l
theorem AgL.mono(h:σ.le τ){k:Nat}(g:AgL σ l k):AgL τ l k:=λs c e=>h.chs (g s c e)
theorem RdI.mono(h:σ.le τ)(hI:GsI τ){r:Rnd}(g:RdI σ i r)(hn:∀ s c,τ.W r.bal s c->s<r.next):RdI τ i r:=by
 refine⟨g.bal,hn,λj hj hp=>jp (g.own j hj hp) (h.P hI i),λj hj v hv=>⟨h.held (g.heard j hj v hv).1,(g.heard j hj v hv).2⟩,λj hj hp=>⟨jp (g.prom j hj hp).1 (h.P hI j),λv hv hlt=>?_⟩,g.acc⟩;obtain⟨x,hx⟩:=h.pre j;have hk:=hI.ok j;have hv':Rk.vt v∈τ.dr j:=hv;rw[<- hx]at hk hv'
 rcases V'.1 hv' with hv'|hv'
 .exact(g.prom j hj hp).2 v hv' hlt
 .have h1:=(EA hk).2 v hv';have h2:=(g.prom j hj hp).1;have h3:σ.P j<=v.b.key:=h1;omega
theorem PnI.mono(h:σ.le τ)(hI:GsI τ){rs':List Rk}(hp:rs <+: rs')(hk:AX rs'){r r':Rnd}(hr:r.bal.key<=r'.bal.key){q:Pend}(g:PnI σ rs r q):PnI τ rs' r' q:=by
 cases q with
 | began b vs=>exact⟨g.1.mono hp hk,jp g.2 hr⟩
 | prom to b vs=>exact⟨g.1.mono hp hk,jp g.2 (h.P hI _)⟩
 | voted to v=>exact hp.subset g
 | prop v=>exact hp.subset g
 | refuse to b=>obtain⟨x,rfl⟩:=hp;exact⟨g.1,jp g.2 (EA hk).1⟩
 | _=>trivial
theorem NdI.mono(h:Gs.by_ i σ τ)(hI:GsI τ)(hσ:GsI σ)(hj:j≠i)(g:NdI σ j p):NdI τ j p:=by
 have e:=h.oth j hj;refine⟨λhu=>?_,λhd=>by rw[e];exact g.dn hd,g.ag.mono h.le⟩;obtain⟨rs,k⟩:=g.up hu;refine⟨rs,by rw[e];exact k.tp,λv hv=>h.le.vok (k.vok v hv),k.rd.mono h.le hI λs c hW=>?_,k.bp,λq hq=>(k.pe q hq).mono h.le hI (jM _) k.tp.ok (jH _)⟩;rcases h.new _ _ _ hW with hW|hW
 .exact k.rd.next s c hW
 .rcases k.rd.bal with hb|⟨_,hb⟩
  .have:=(hI.w2 _ _ _ ‹_›).1;rw[hb]at this
   exact absurd this (by decide)
  .rw[hb]at hW;omega
theorem LtI.mono(h:σ.le τ)(hI:GsI τ){l:Let}(g:LtI σ l):LtI τ l :=
 ⟨λe=>jp (g.k0 e) (h.P hI _),λe=>⟨(g.k1 e).1.mono (h.pre _) (hI.ok _),jp (g.k1 e).2.1 (h.P hI _),(g.k1 e).2.2.mono h⟩,λe=>⟨(g.k2 e).1,jp (g.k2 e).2 (h.P hI _)⟩,λe=>h.vok (g.k3 e),λe=>h.held (g.k4 e),λe=>(g.k5 e).mono h⟩
theorem AgI.set{M:Meet}(h:AgI σ M)(hb:Gs.by_ i σ τ)(hI:GsI τ)(hp:NdI τ i p){ls:List Let}(hl:∀ l∈ls,l∈M.lets\/LtI τ l)(ts:List Tol):AgI τ (M.set i p ls ts) :=
 ⟨hI,λj hj=>by
  show NdI τ j (upN M.node i p j);unfold upN;split
  .rename_i e;rw[e];exact hp
  .rename_i e;exact(h.nd j hj).mono hb hI h.gs e,λl hm=>(hl l hm).elim (λk=>(h.lt l k).mono hb.le hI) id⟩
theorem YV{r:Rnd}(h:∀ j,j<5->∀ v∈(r.heard j).vs,σ.held j v)(he:CZ r.accs (s:Int)=0):σ.chs s (Cv r.accs (s:Int)):=by
 have hC:Cv r.accs (s:Int)=((Hk (En r.accs (s:Int)) r.accs.length).map (·.w)).getD ⟨0,0,0,0,0⟩:=if_pos he;unfold CZ at he;split at he
 .cases he
 .split at he
  .cases he
  .rename_i hA
   have hA:=iY.1 hA;split at he
   .rename_i hO
    obtain⟨v,hv⟩:=lf.1 hO;rw[hC,hv];have hp:=List.find?_some hv;have h5:5<2*BN (En r.accs (s:Int)) v:=jn hp;have e:En r.accs (s:Int)=Af (r.heard 0).vs (s:Int)++(Af (r.heard 1).vs (s:Int)++(Af (r.heard 2).vs (s:Int)++(Af (r.heard 3).vs (s:Int)++Af (r.heard 4).vs (s:Int)))):=by
     unfold En Rnd.accs Af;simp[List.filter_append]
    rw[e,EX,EX,EX,EX]at h5
    have hR:∀ j,j<5->BA (r.heard j).vs:=λj hj=>(hA (r.heard j) (by unfold Rnd.accs;rcases five hj with rfl|rfl|rfl|rfl|rfl<;>simp)).2.2;have g0:=H9 (hR 0 (by omega)) (s:Int) v;have g1:=H9 (hR 1 (by omega)) (s:Int) v;have g2:=H9 (hR 2 (by omega)) (s:Int) v;have g3:=H9 (hR 3 (by omega)) (s:Int) v;have g4:=H9 (hR 4 (by omega)) (s:Int) v;refine⟨v.b.key,λq=>decide (v∈(r.heard q).vs/\v.slot=(s:Int)),?_,λq hq hqQ=>?_⟩
    .show 3<=(decide (v∈(r.heard 0).vs/\v.slot=(s:Int))).toNat+(decide (v∈(r.heard 1).vs/\v.slot=(s:Int))).toNat+(decide (v∈(r.heard 2).vs/\v.slot=(s:Int))).toNat+(decide (v∈(r.heard 3).vs/\v.slot=(s:Int))).toNat+(decide (v∈(r.heard 4).vs/\v.slot=(s:Int))).toNat;omega
    .obtain⟨h1,h2⟩:=jn hqQ;exact⟨v,h q hq v h1,h2,rfl,rfl⟩
   .cases he
theorem AgL.snoc(h:AgL σ l 0)(hc:σ.chs l.length c):AgL σ (l++[c]) 0:=λs d e=>by
 rcases jt s l.length with g|g
 .rw[iT g]at e;exact h s d e
 .have:=(Q'.1 e).1;rw[G',kJ]at this
  obtain rfl:s=l.length:=by omega
  rw[iV (A' _)]at e
  simp at e;subst e;rw[jm];exact hc
theorem Te{r:Rnd}(h:∀ j,j<5->∀ v∈(r.heard j).vs,σ.held j v)(k:Nat)(hl:AgL σ l 0):AgL σ (KW k r l) 0:=by
 induction k generalizing l with
 | zero=>exact hl
 | succ k ih =>
  rw[KW];split
  .rename_i he;exact ih (hl.snoc (YV h he))
  .exact hl
theorem P3{what:List Cmd}{slot:Nat}(hl:AgL σ l 0)(hw:AgL σ what slot)(hs:slot<=l.length):AgL σ (l++what.drop (l.length-slot)) 0:=λs c e=>by
 rcases jt s l.length with g|g
 .rw[iT g]at e;exact hl s c e
 .rw[iV g,jB]at e
  have:=hw _ c e
  rwa [show slot+(l.length-slot+(s-l.length))=0+s by omega]at this
theorem Uu(a:Acc)(l:List Vt):∀ v∈(CX a l).vs,v∈a.vs\/v∈l:=by
 induction l generalizing a with
 | nil=>exact λv hv=>.inl hv
 | cons u l ih =>
  intro v hv;rw[CX]at hv
  rcases ih _ v hv with h|h
  .by_cases he:AQ a u=0
   .rw[if_pos he]at h
    have h:v∈Ca a u:=h;rw[(Fj he).2]at h
    rcases(Cw (AH he).1.2.2).1 h with rfl|⟨h,_⟩
    .exact .inr U'
    .exact .inl h
   .rw[if_neg he]at h;exact .inl h
  .exact .inr (P' _ h)
theorem Ut(a:Acc)(l:List Vt):∀ u∈a.vs,∃ x∈(CX a l).vs,x.slot=u.slot/\u.b.key<=x.b.key:=by
 induction l generalizing a with
 | nil=>exact λu hu=>⟨u,hu,rfl,jH _⟩
 | cons w l ih =>
  intro u hu;rw[CX];by_cases he:AQ a w=0
  .rw[if_pos he];obtain⟨x,h1,h2,h3⟩:=KT (AH he).1 he hu;obtain⟨y,k1,k2,k3⟩:=ih ⟨BR a w,Ca a w⟩ x (by show x∈Ca a w;rw[(Fj he).2];exact h1);exact⟨y,k1,k2.trans h2,jp h3 k3⟩
  .rw[if_neg he];exact ih a u hu
theorem Us(a:Acc)(l:List Vt)(ha:An a)(hp:a.p=b)(hl:∀ v∈l,v.b.key<=b.key):An (CX a l)/\(CX a l).p=b:=by
 induction l generalizing a with
 | nil=>exact⟨ha,hp⟩
 | cons u l ih =>
  rw[CX];by_cases he:AQ a u=0
  .rw[if_pos he];have hz:=AH he;have e:u.b=b:=by
    have h1:=BM hz.2.1.2.1.pr ha.1 hz.2.2;have h2:=hl u U';rw[hp]at h1
    exact Hw hz.2.1.2.1.pr (hp▸ha.1) (by omega)
   have e1:(⟨BR a u,Ca a u⟩:Acc)=⟨u.b,Ba a.vs u⟩:=by rw[(Fj he).1,(Fj he).2]
   rw[e1];exact ih _ (ha.vot hz.2.1 hz.2.2) e λv hv=>hl v (P' _ hv)
  .rw[if_neg he];exact ih a ha hp λv hv=>hl v (P' _ hv)
theorem RdI.hear{r:Rnd}(h:RdI σ i r)(hp:PrmOk (σ.dr j) r.bal vs)(ho:r.bal.key<=σ.P i):RdI σ i (r.hear j vs):=by
 refine⟨h.bal,h.next,λ_ _ _=>ho,λk hk v hv=>?_,λk hk hq=>?_,λk hk=>?_⟩
 rotate_right
 .show An (upN r.heard j (CX ⟨r.bal,vs⟩ (r.heard j).vs) k)/\(upN r.pro j true k=true->(upN r.heard j (CX ⟨r.bal,vs⟩ (r.heard j).vs) k).p=r.bal);unfold upN;split
  .rename_i e;subst e
   have:=Us (b:=r.bal) ⟨r.bal,vs⟩ (r.heard k).vs hp.acc rfl λv hv=>(h.heard k hk v hv).2.1;exact⟨this.1,λ_=>this.2⟩
  .exact h.acc k hk
 .have hv:v∈(upN r.heard j (CX ⟨r.bal,vs⟩ (r.heard j).vs) k).vs:=hv;by_cases e:k=j
  .subst e;rw[Ew]at hv
   rcases Uu _ _ v hv with g|g
   .exact⟨(hp.sub v g).1,(hp.sub v g).2,λe=>by rw[show(r.hear k vs).pro k=true from Ew _ _ _]at e;cases e⟩
   .have:=h.heard k hk v g;exact⟨this.1,this.2.1,λe=>by rw[show(r.hear k vs).pro k=true from Ew _ _ _]at e;cases e⟩
  .rw[FT _ _ e]at hv
   have:=h.heard k hk v hv;exact⟨this.1,this.2.1,λe'=>this.2.2 (by rwa [show(r.hear j vs).pro k=r.pro k from FT _ _ e]at e')⟩
 .by_cases e:k=j
  .subst e;refine⟨hp.le,λv hv hlt=>?_⟩;obtain⟨u,h1,h2,h3⟩:=hp.dom v hv hlt;obtain⟨x,k1,k2,k3⟩:=Ut ⟨r.bal,vs⟩ (r.heard k).vs u h1;exact⟨x,by show x∈(upN r.heard k _ k).vs;rw[Ew];exact k1,k2.trans h2,jp h3 k3⟩
  .rw[show(r.hear j vs).pro k=r.pro k from FT _ _ e]at hq
   have:=h.prom k hk hq;exact⟨this.1,λv hv hlt=>by
    obtain⟨u,h1,h2⟩:=this.2 v hv hlt;exact⟨u,by show u∈(upN r.heard j _ k).vs;rw[FT _ _ e];exact h1,h2⟩⟩
theorem RdI.count{r:Rnd}(h:RdI σ i r)(hb:v.b=r.bal)(he:AQ (r.heard j) v=0)(hh:σ.held j v):RdI σ i { r with heard:=upN r.heard j ⟨BR (r.heard j) v,Ca (r.heard j) v⟩ }:=by
 have hz:=AH he;have hL:Ca (r.heard j) v=Ba (r.heard j).vs v:=(Fj he).2;refine⟨h.bal,h.next,h.own,λk hk u hu=>?_,λk hk hq=>⟨(h.prom k hk hq).1,λu hu hlt=>?_⟩,λk hk=>?_⟩
 rotate_right
 .show An (upN r.heard j ⟨BR (r.heard j) v,Ca (r.heard j) v⟩ k)/\(r.pro k=true->(upN r.heard j ⟨BR (r.heard j) v,Ca (r.heard j) v⟩ k).p=r.bal);unfold upN;split
  .rw[(Fj he).1,hL];exact⟨hz.1.vot hz.2.1 hz.2.2,λ_=>hb⟩
  .exact h.acc k hk
 .have hu:u∈(upN r.heard j ⟨BR (r.heard j) v,Ca (r.heard j) v⟩ k).vs:=hu;by_cases e:k=j
  .subst e;rw[Ew]at hu
   have hu:u∈Ca (r.heard k) v:=hu;rw[hL]at hu
   rcases(Cw hz.1.2.2).1 hu with rfl|⟨hu,_⟩
   .exact⟨hh,by rw[hb];exact jH _,λ_=>hb⟩
   .exact h.heard k hk u hu
  .rw[FT _ _ e]at hu;exact h.heard k hk u hu
 .obtain⟨x,h1,h2,h3⟩:=(h.prom k hk hq).2 u hu hlt;by_cases e:k=j
  .subst e;obtain⟨y,k1,k2,k3⟩:=KT hz.1 he h1;exact⟨y,by show y∈(upN r.heard k _ k).vs;rw[Ew];show y∈Ca (r.heard k) v;rw[hL];exact k1,k2.trans h2,jp h3 k3⟩
  .exact⟨x,by show x∈(upN r.heard j _ k).vs;rw[FT _ _ e];exact h1,h2,h3⟩
theorem UpI.keep{q:Nod}(h:UpI σ i p rs)(hd:q.d=p.d)(hs:q.sy=p.sy)(hv:q.vo=p.vo)(hr:RdI σ i q.rnd)(hb:q.rnd.bal=p.rnd.bal)(hp:∀ x∈q.pend,x∈p.pend\/PnI σ rs q.rnd x):UpI σ i q rs :=
 ⟨⟨h.tp.ok,h.tp.pre,hd.trans h.tp.d,hs.trans h.tp.sy,hv.trans h.tp.vo,by rw[hd];exact h.tp.len⟩,h.vok,hr,by rw[hb,hv];exact h.bp,λx hx=>(hp x hx).elim (λg=>by
  have:=h.pe x g;cases x<;>first|exact this|exact trivial|(refine⟨this.1,?_⟩;first|exact this.2|(rw[hb];exact this.2))) id⟩
theorem UpI.count(h:UpI σ i p rs)(ha:AgL σ p.agreed 0)(hh:σ.held j v):UpI σ i (p.count j v) rs/\AgL σ (p.count j v).agreed 0:=by
 unfold Nod.count;split
 .exact⟨h,ha⟩
 .rename_i hb
  have hb:=iY.1 hb;split
  .exact⟨h,ha⟩
  .rename_i he
   have hr:=h.rd.count hb (iY.1 he) hh;exact⟨h.keep rfl rfl rfl hr rfl λx hx=>.inl hx,Te (λj hj v hv=>(hr.heard j hj v hv).1) 41 ha⟩
end
end
end Go.Proofs.YtalbmmghmoggcadGreatDoor
