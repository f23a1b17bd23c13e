/- Part 18 of the walk. -/
import Derived.Lib.SmallJoins
import Derived.Test.YtalbmmghmoggcabGreatDoorZ17
set_option maxRecDepth 100000
set_option maxHeartbeats 4000000
open Go.Proofs.Tryz
set_option linter.unusedVariables false
namespace Go.Proofs.YtalbmmghmoggcabGreatDoor
section
open Go.RowKit
section
def OW(p:Nod)(i j:Nat):Bool:=decide (j≠i/\p.rnd.taught j<p.agreed.length)
def Jl(p:Nod)(i k:Nat):Nat->Nat:=λj=>if decide (j<k)&&OW p i j then p.agreed.length else p.rnd.taught j
def Iq(p:Nod)(i k:Nat):Nod:={ p with rnd:={ p.rnd with taught:=Jl p i k } }
def D3(p:Nod)(i:Nat):Nat->List Let
 | 0=>[]
 | k+1=>D3 p i k++(if OW p i k then[{ Ca 5 with src:=i,dst:=k,slot:=p.rnd.taught k,what:=p.agreed.drop (p.rnd.taught k) }]else[])
theorem RL(p:Nod)(i k:Nat):(D3 p i k).length<=k:=by
 induction k with
 | zero=>exact A' _
 | succ k ih=>unfold D3;rw[N'];split<;>simp<;>omega
theorem TG(p:Nod)(i:Nat):Iq p i 0=p:=by unfold Iq Jl;simp
variable{i k:Nat}{p:Nod}
theorem RM(h:OW p i k=false):Jl p i (k+1)=Jl p i k:=by
 funext j
 unfold Jl;by_cases e:j=k
 .subst e;simp[h]
 .rw[show decide (j<k+1)=decide (j<k)from gE.2 (by omega)]
theorem WP(h:OW p i k=true):upN (Jl p i k) k p.agreed.length=Jl p i (k+1):=by
 funext j
 unfold upN Jl;by_cases e:j=k
 .subst e;simp[h]
 .rw[if_neg e,show decide (j<k+1)=decide (j<k)from gE.2 (by omega)]
theorem TH{g:Gh}{w:World}{nb ob:Nat}{ls:List Let}{ts:List Tol}(h:NS i nb ob g w p ls ts)(hb:ls.length<90000000) :
  Calls prog 62 #[pt nb 0] w (NP i nb ob g w (.tuple #[]) (if p.leads then Iq p i 5 else p) (if p.leads then ls++D3 p i 5 else ls) ts):=by
 obtain⟨x,lt,tl,hN,hO,hg⟩:=h;refine gI (fn:=f62) (TN i) g func62 hg ?_;refine qN hN ?_;refine qO hO ?_;refine qR [] 4 [] λs1 g1 w1 c1=>?_;by_cases h1:p.leads=false
 .refine Ae λK=>?_;have N3:NS i nb ob g1 w1 p ls ts:=(nsC hN hO c1 K);refine qC 1 (Ed N3 h1) ?_;rintro e' w4 ⟨rfl,b4⟩;refine⟨_,rfl,b4,?_⟩;have c4:=Cg.ofBelow (B:=w.heap.size) (T:=[]) (g:=g1) b4;refine qR [] 3 [] λs5 g5 w5 c5=>?_;refine qE (.tuple #[]) λK=>?_;rw[h1,if_neg (by simp),if_neg (by simp)];exact⟨_,rfl,(nsC hN hO ((c1.n c4).n c5) K),(((c1.nil (TN i)).n c4).n c5)⟩
 .have h10:p.leads=true:=by simpa using h1
  refine Ae λK=>?_;have N8:NS i nb ob g1 w1 p ls ts:=(nsC hN hO c1 K);refine qC 1 (Ed N8 h10) ?_;rintro e' w9 ⟨rfl,b9⟩;refine⟨_,rfl,b9,?_⟩;have c9:=Cg.ofBelow (B:=w.heap.size) (T:=[]) (g:=g1) b9;rw[if_pos h10,if_pos h10];refine qR [] 15 [0] λs10 g10 w10 c10=>?_;refine Br 51 [(0,pt nb 0),(12,.agg #[iv (p.rnd.taught 0:Int),iv (p.rnd.taught 1:Int),iv (p.rnd.taught 2:Int),iv (p.rnd.taught 3:Int),iv (p.rnd.taught 4:Int)]),(13,iv 0)] [false,false] [] (λk g' w' e L=>∃ k0:Nat,k=5-k0/\k0<=5/\e=[(0,pt nb 0),(12,.agg #[iv (p.rnd.taught 0:Int),iv (p.rnd.taught 1:Int),iv (p.rnd.taught 2:Int),iv (p.rnd.taught 3:Int),iv (p.rnd.taught 4:Int)]),(13,iv (k0:Int))]/\L=[]/\NS i nb ob g' w' (Iq p i k0) (ls++D3 p i k0) ts/\Cg w.heap.size (TN i) g w g' w') (by kernel_rfl) (by kernel_rfl) (by kernel_rfl) (by kernel_rfl) 5 (λK=>?_) ?_
  .have C11:=(c1.n c9).n c10;exact⟨0,rfl,by omega,rfl,rfl,(by rw[TG,show ls++D3 p i 0=ls from fZ _];exact(nsC hN hO C11 K)),(((c1.nil (TN i)).n c9).n c10)⟩
  .rintro k gr wr _ zr _ ⟨k0,rfl,hk0,rfl,rfl,hM,hC⟩ J hJ;obtain⟨xr,ltr,tlr,hNr,hOr,hgr⟩:=hM;have htl:=RL p i k0;refine qN hNr ?_;refine qO hOr ?_;have han:xr.agreed.n=p.agreed.length:=hNr.agreed.num;refine qR [] 5 [] λs12 g12 w12 c12=>?_;by_cases h2:k0<5
   .refine qI ((decide ((k0:Int)<5))) true (I' (by omega)) ?_;refine qR [] 6 [] λs13 g13 w13 c13=>?_;refine XM 1 (iv (p.rnd.taught k0:Int)) (λK=>(by rcases five h2 with rfl|rfl|rfl|rfl|rfl<;>kernel_rfl)) (by kernel_rfl) ?_;refine qR [] 10 [0] λs14 g14 w14 c14=>?_;by_cases h3:k0≠i
    .refine qV 5 (.bool true) (E7 (t:=3) (m:=(k0:Int)) (n:=(i:Int)) (x:=(.tmp 17)) (y:=(.tmp 21)) (by simp;omega)) ?_;refine qR [] 11 [0] λs15 g15 w15 c15=>?_;by_cases h4:(p.rnd.taught k0:Int)<(xr.agreed.n:Int)
     .have hx:OW p i k0=true:=I' ⟨by omega,by omega⟩;refine qI ((decide ((p.rnd.taught k0:Int)<(xr.agreed.n:Int)))) true (I' (by omega)) ?_;refine qR [] 5 [] λs16 g16 w16 c16=>?_;refine qS 3 [false,false] hNr hOr ((((c12.n c13).n c14).n c15).n c16) (λN17=>Hi N17 (by rw[N'];omega) k0 (p.rnd.taught k0) (by show _<=p.agreed.length;omega)) λg17 w17 x17 lt17 tl17 hN17 hO17 c17=>?_;refine qR [] 14 [13,0,2,4,6,8,10,12,0,14,16,18,20,22] λs19 g19 w19 c19=>?_;have han1:x17.agreed.n=p.agreed.length:=hN17.agreed.num;refine BG 51 (λg' w' e L=>e=[(0,pt nb 0),(12,.agg #[iv (p.rnd.taught 0:Int),iv (p.rnd.taught 1:Int),iv (p.rnd.taught 2:Int),iv (p.rnd.taught 3:Int),iv (p.rnd.taught 4:Int)]),(13,iv (k0:Int))]/\L=[⟨nb,.cells (Ax i ob ({ p with rnd:={ p.rnd with taught:=upN (Jl p i k0) k0 x17.agreed.n } }) x17) 95,.n 0 i,false⟩,⟨ob,.cells #[S3.v lt17,S3.v tl17] 65,.n 50 0,false⟩]/\True/\Cg w.heap.size ([.n 0 i]:List Tg) g19 w19 g' w') (by kernel_rfl) ?_ ?_
      .intro J hJ;rcases five h2 with rfl|rfl|rfl|rfl|rfl <;>
       (refine qR [.n 0 i] 3 [24,27,0,1] λs21 g21 w21 c21=>?_;exact qB [true,true] λz K0 K=>hJ _ _ _ z _ ⟨rfl,rfl,trivial,c21⟩ K)
      rintro g20 w20 _ z20 _ ⟨rfl,rfl,_,c20⟩;refine qR [] 2 [] λs22 g22 w22 c22=>?_;refine qV 0 (iv ((k0:Int)+1)) (AK (x:=(.tmp 13)) (y:=(.const (iv 1))) (k0:Int) 1 underlying3 (by omega)) ?_;refine qR [] 2 [] λs23 g23 w23 c23=>?_;refine qB [false,false] λz K0 K=>hJ (5-(k0+1)) _ _ _ z _ (by omega) ⟨k0+1,rfl,by omega,rfl,rfl,?_,((((((((((hC.n c12).n c13).n c14).n c15).n c16).trans c17).n c19).trans (c20.mono (by simp[TN]))).n c22).n c23)⟩ K;have C24:=(((c19.nil ([.n 0 i]:List Tg)).trans (c20)).n c22).n c23;rw[show Iq p i (k0+1)={ p with rnd:={ p.rnd with taught:=upN (Jl p i k0) k0 x17.agreed.n } }from by unfold Iq;rw[<- WP hx,han1],show ls++D3 p i (k0+1)=(ls++D3 p i k0++[{ Ca 5 with src:=i,dst:=k0,slot:=p.rnd.taught k0,what:=p.agreed.drop (p.rnd.taught k0) }])from by show ls++(D3 p i k0++_)=_;rw[hx,if_pos rfl,fF]];exact⟨x17,lt17,tl17,K0.ndu 0 hN17 C24,hO17.ch C24 (hn:=by simp<;>omega),K0.new⟩
     .have hx:OW p i k0=false:=D' (λh=>h4 (by omega));refine qI ((decide ((p.rnd.taught k0:Int)<(xr.agreed.n:Int)))) false (D' (by omega)) ?_;refine qR [] 3 [] λs25 g25 w25 c25=>?_;refine qV 0 (iv ((k0:Int)+1)) (AK (x:=(.tmp 13)) (y:=(.const (iv 1))) (k0:Int) 1 underlying3 (by omega)) ?_;refine qR [] 2 [] λs26 g26 w26 c26=>?_;refine qB [false,false] λz K0 K=>hJ (5-(k0+1)) _ _ _ z _ (by omega) ⟨k0+1,rfl,by omega,rfl,rfl,?_,((((((hC.n c12).n c13).n c14).n c15).n c25).n c26)⟩ K;rw[show Iq p i (k0+1)={ p with rnd:={ p.rnd with taught:=Jl p i k0 } }from by unfold Iq;rw[RM hx],show ls++D3 p i (k0+1)=ls++D3 p i k0 from by show ls++(D3 p i k0++_)=_;rw[hx];simp];exact(nsC hNr hOr (((((c12.n c13).n c14).n c15).n c25).n c26) K0)
    .have hx:OW p i k0=false:=D' (λh=>h.1 (by omega));refine qV 5 (.bool false) (E7 (t:=3) (m:=(k0:Int)) (n:=(i:Int)) (x:=(.tmp 17)) (y:=(.tmp 21)) (by simp;omega)) ?_;refine qR [] 15 [] λs28 g28 w28 c28=>?_;refine qV 0 (iv ((k0:Int)+1)) (AK (x:=(.tmp 13)) (y:=(.const (iv 1))) (k0:Int) 1 underlying3 (by omega)) ?_;refine qR [] 2 [] λs29 g29 w29 c29=>?_;refine qB [false,false] λz K0 K=>hJ (5-(k0+1)) _ _ _ z _ (by omega) ⟨k0+1,rfl,by omega,rfl,rfl,?_,(((((hC.n c12).n c13).n c14).n c28).n c29)⟩ K;rw[show Iq p i (k0+1)={ p with rnd:={ p.rnd with taught:=Jl p i k0 } }from by unfold Iq;rw[RM hx],show ls++D3 p i (k0+1)=ls++D3 p i k0 from by show ls++(D3 p i k0++_)=_;rw[hx];simp];exact(nsC hNr hOr ((((c12.n c13).n c14).n c28).n c29) K0)
   .refine qI ((decide ((k0:Int)<5))) false (D' (by omega)) ?_;refine qR [] 1 [] λs31 g31 w31 c31=>?_;obtain rfl:k0=5:=by omega
    exact qF hNr hOr (c12.n c31) ((hC.n c12).n c31)
end
end
section
section
def Bn(l:List Vt):Prop:=B2 l/\∀ v∈l,0<=v.slot/\v.slot<=39
theorem We(l:List Vt)(a:Int)(h:B2 l)(hb:∀ v∈l,a<=v.slot/\v.slot<=39):l.length<=(40-a).toNat:=by
 induction l generalizing a with
 | nil=>exact fP _
 | cons u l ih =>
  obtain⟨h1,h2⟩:=h;have hu:=hb u V';have:=ih (u.slot+1) h2 λv hv=>⟨by have:=h1 v hv;omega,(hb v (Q' _ hv)).2⟩;rw[fR];omega
variable{a:Acc}{b:Bal}{l:List Vt}{v:Vt}
theorem Bn.len(h:Bn l):l.length<=40:=We l 0 h.1 h.2
theorem Bn.nil:Bn []:=⟨trivial,λv h=>by cases h⟩
theorem Ej(h:AX a v=0):AC a/\Am v/\¬ v.b.lt a.p:=by
 unfold AX at h;by_cases h1:AC a
 .rw[if_neg (λg=>g h1)]at h
  by_cases h2:Am v
  .rw[if_neg (λg=>g h2)]at h
   by_cases h3:v.b.lt a.p
   .rw[if_pos h3]at h;cases h
   .exact⟨h1,h2,h3⟩
  .rw[if_pos h2]at h;cases h
 .rw[if_pos h1]at h;cases h
theorem LN(h:BN a b=0):AC a/\Ad b/\¬ b.lt a.p:=by
 unfold BN at h;by_cases h1:AC a
 .rw[if_neg (λg=>g h1)]at h
  by_cases h2:Ad b
  .rw[if_neg (λg=>g h2)]at h
   by_cases h3:b.lt a.p
   .rw[if_pos h3]at h;cases h
   .exact⟨h1,h2,h3⟩
  .rw[if_pos h2]at h;cases h
 .rw[if_pos h1]at h;cases h
theorem EZ(h:Bn l)(hv:Am v):Bn (Bk l v) :=
 ⟨L9 v h.1,λu hu=>by
  rcases(JX h.1).1 hu with rfl|⟨h2,_⟩
  .exact hv.1
  .exact h.2 u h2⟩
theorem SF(a:Acc)(l:List Vt)(h:Bn a.vs):Bn (FQ a l).vs:=by
 induction l generalizing a with
 | nil=>exact h
 | cons v l ih =>
  rw[FQ];refine ih _ ?_;by_cases hv:AX a v=0
  .rw[if_pos hv];show Bn (Dc a v);rw[(QU hv).2];exact EZ h (Ej hv).2.1
  .rw[if_neg hv];exact h
def POk(k:Nat):Pend->Prop
 | .began b vs=>Bn vs
 | .prom to b vs=>to<5/\Bm b/\Bn vs
 | .voted to v=>to<5
 | .refuse to b=>to<5/\Bm b
 | .prop v=>True
 | .askNews to=>to<5
 | .start=>True
 | .tell to slot=>to<5/\slot<=k
theorem POk.mono{k m:Nat}{q:Pend}(h:POk k q)(hk:k<=m):POk m q:=by
 cases q<;>first|exact h|exact⟨h.1,fy h.2 hk⟩
def Pend.wt:Pend->Nat
 | .began _ _=>4
 | .prop _=>4
 | .start=>4
 | _=>1
def At:List Pend->Nat
 | []=>0
 | q::l=>q.wt+At l
theorem E5(l:List Pend)(q:Pend):At (l++[q])=At l+q.wt:=by
 induction l with
 | nil=>simp[At]
 | cons x l ih=>simp only[List.cons_append,At,ih];omega
theorem Dj(l:List Pend):l.length<=At l:=by
 induction l with
 | nil=>exact A' _
 | cons x l ih =>
  rw[At,fR];have:1<=x.wt:=by cases x<;>simp[Pend.wt]
  omega
structure NOk(n:Nat)(p:Nod):Prop where
 ag:p.agreed.length<=40
 dn:p.done<=p.agreed.length
 qu:p.rnd.queue.length<=40
 wa:p.wants.length<=n
 ask:∀ c,(p.asked c).isSome=true->c∈p.wants
 ro:0<=p.rounds/\p.rounds<=65536
 vp:Bm p.vo.p
 vs:Bn p.vo.vs
 he:∀ j,Bn (p.rnd.heard j).vs
 pe:∀ q∈p.pend,POk p.agreed.length q
structure LOk(l:Let):Prop where
 kd:l.kind<7
 src:l.src<5
 dst:l.dst<5
 bal:Bm l.bal
 vs:Bn l.votes
 wh:l.what.length<=40
 sl:l.kind=5->l.slot+l.what.length<=40
theorem Bm.b0:Bm Cr:=.inr ⟨rfl,rfl⟩
theorem Bm.rng(h:Bm b):0<=b.r/\b.r<=65536/\0<=b.n/\b.n<=4:=by
 rcases h with⟨h1,h2⟩|⟨h1,h2⟩<;>omega
end
section
variable{n:Nat}{p:Nod}
theorem NOk.wait(h:NOk n p){q:Pend}(hq:POk p.agreed.length q):NOk n (p.wait q) :=
 { h with pe:=λr hr=>(Y'.1 hr).elim (h.pe r) λh1=>(O'.1 h1)▸hq }
theorem NOk.promise(h:NOk n p)(b:Bal):NOk n (p.promise b).1/\(p.promise b).1.pend=p.pend/\(p.promise b).1.agreed=p.agreed/\Bn (p.promise b).2.1/\((p.promise b).2.2=0->Ad b):=by
 unfold Nod.promise;by_cases h1:BN p.vo b≠0
 .rw[if_pos h1];exact⟨h,rfl,rfl,Bn.nil,λg=>absurd g h1⟩
 .rw[if_neg h1];have h2:=LN (gv h1);by_cases h3:b=p.vo.p
  .rw[if_pos h3];exact⟨{ h with vp:=.inl h2.2.1,vs:=h.vs },rfl,rfl,h.vs,λ_=>h2.2.1⟩
  .rw[if_neg h3];by_cases h4:CN p.d p.sy (Ad b) (BA b)≠0
   .rw[if_pos h4];exact⟨h,rfl,rfl,Bn.nil,λg=>absurd g h4⟩
   .rw[if_neg h4];exact⟨{ h with vp:=.inl h2.2.1,vs:=h.vs },rfl,rfl,h.vs,λ_=>h2.2.1⟩
theorem NOk.vote(h:NOk n p)(v:Vt):NOk n (p.vote v).1/\(p.vote v).1.pend=p.pend/\(p.vote v).1.agreed=p.agreed/\(p.vote v).1.rnd=p.rnd:=by
 unfold Nod.vote;by_cases h1:AX p.vo v≠0
 .rw[if_pos h1];exact⟨h,rfl,rfl,rfl⟩
 .rw[if_neg h1];have h2:=Ej (gv h1);by_cases h3:v∈p.vo.vs
  .rw[if_pos h3];exact⟨{ h with vp:=.inl h2.2.1.2.1,vs:=EZ h.vs h2.2.1 },rfl,rfl,rfl⟩
  .rw[if_neg h3];by_cases h4:CN p.d p.sy (Am v) (B1 v)≠0
   .rw[if_pos h4];exact⟨h,rfl,rfl,rfl⟩
   .rw[if_neg h4];exact⟨{ h with vp:=.inl h2.2.1.2.1,vs:=EZ h.vs h2.2.1 },rfl,rfl,rfl⟩
theorem NOk.refuse(h:NOk n p){to:Nat}(hto:to<5)(e:Int):NOk n (p.refuse to e)/\(p.refuse to e).agreed=p.agreed/\At (p.refuse to e).pend<=At p.pend+1:=by
 unfold Nod.refuse;split
 .exact⟨h.wait ⟨hto,h.vp⟩,rfl,by show At (p.pend++[_])<=_;rw[E5];exact A' _⟩
 .exact⟨h,rfl,gk _⟩
theorem Ye(k:Nat)(r:Rnd)(l:List Cmd)(h:l.length<=40):(Ja k r l).length<=40/\l.length<=(Ja k r l).length:=by
 induction k generalizing l with
 | zero=>exact⟨h,A' _⟩
 | succ k ih =>
  rw[Ja];split
  .rename_i h1
   have h2:=Uw h1;have:=ih (l++[Ct r.accs (l.length:Int)]) (by simp;omega);simp at this;exact⟨this.1,by omega⟩
  .exact⟨h,A' _⟩
theorem NOk.grow(h:NOk n p){l:List Cmd}(h1:l.length<=40)(h2:p.agreed.length<=l.length):NOk n { p with agreed:=l } :=
 { h with ag:=h1,dn:=fy h.dn h2,pe:=λq hq=>(h.pe q hq).mono h2 }
theorem NOk.learnC(h:NOk n p):NOk n p.learnC/\p.learnC.pend=p.pend/\p.agreed.length<=p.learnC.agreed.length :=
 have:=Ye 41 p.rnd p.agreed h.ag
 ⟨h.grow this.1 this.2,rfl,this.2⟩
theorem NOk.learn(h:NOk n p){slot:Nat}{what:List Cmd}(h1:slot<=p.agreed.length)(h2:slot+what.length<=40):NOk n (p.learn slot what)/\(p.learn slot what).pend=p.pend/\p.agreed.length<=(p.learn slot what).agreed.length:=by
 have ha:=h.ag;refine⟨h.grow ?_ ?_,rfl,?_⟩
 .rw[N',fA];omega
 .rw[N'];omega
 .show _<=(p.agreed++_).length;rw[N'];omega
theorem WT{α:Type}{f:Nat->α}{P:α->Prop}(h:∀ j,P (f j))(i:Nat){x:α}(hx:P x):∀ j,P (upN f i x j):=by
 intro j;unfold upN;split
 .exact hx
 .exact h j
theorem NOk.hear(h:NOk n p)(j:Nat){vs:List Vt}(hv:Bn vs):NOk n { p with rnd:=p.rnd.hear j vs } :=
 { h with qu:=h.qu,he:=WT (P:=λa:Acc=>Bn a.vs) h.he j (SF _ _ hv) }
theorem NOk.count(h:NOk n p)(j:Nat)(v:Vt):NOk n (p.count j v)/\(p.count j v).pend=p.pend/\p.agreed.length<=(p.count j v).agreed.length:=by
 unfold Nod.count;by_cases h1:v.b≠p.rnd.bal
 .rw[if_pos h1];exact⟨h,rfl,A' _⟩
 .rw[if_neg h1];by_cases h2:AX (p.rnd.heard j) v≠0
  .rw[if_pos h2];exact⟨h,rfl,A' _⟩
  .rw[if_neg h2];have h3:=gv h2;have:NOk n { p with rnd:={ p.rnd with heard:=upN p.rnd.heard j ⟨BX (p.rnd.heard j) v,Dc (p.rnd.heard j) v⟩ } } :=
    { h with qu:=h.qu,he:=WT (P:=λa:Acc=>Bn a.vs) h.he j (by show Bn (Dc _ v);rw[(QU h3).2];exact EZ (h.he j) (Ej h3).2.1) }
   exact this.learnC
theorem NOk.enqueue(h:NOk n p)(l:List Cmd):NOk n (p.enqueue l)/\(p.enqueue l).pend=p.pend/\(p.enqueue l).agreed=p.agreed:=by
 unfold Nod.enqueue;split
 .exact⟨{ h with qu:=XB _ _ h.qu,he:=h.he },rfl,rfl⟩
 .exact⟨h,rfl,rfl⟩
theorem NOk.take(h:NOk n p){l:Let}(hl:LOk l):NOk n (p.take l)/\At (p.take l).pend<=At p.pend+1/\p.agreed.length<=(p.take l).agreed.length:=by
 have ha:=h.ag;unfold Nod.take;have hw:∀ {P:Nod} {q:Pend},P.pend=p.pend->q.wt=1->At (P.wait q).pend<=At p.pend+1:=λ{P q} e e2=>by
  show At (P.pend++[q])<=_;rw[E5,e,e2];exact A' _
 split
 .have hp:=h.promise l.bal;split
  .have:=h.refuse hl.src (p.promise l.bal).2.2;exact⟨this.1,this.2.2,by rw[this.2.1];exact A' _⟩
  .rename_i h1
   exact⟨hp.1.wait ⟨hl.src,.inl (hp.2.2.2.2 (gv h1)),hp.2.2.2.1⟩,hw hp.2.1 rfl,by show _<=(p.promise l.bal).1.agreed.length;rw[hp.2.2.1];exact A' _⟩
 .have hk:=h.learn (slot:=0) (what:=l.what) (fP _) (by have:=hl.wh;omega);simp only;split
  .exact⟨hk.1,by rw[hk.2.1];omega,hk.2.2⟩
  .have h2:=hk.1.hear l.src (vs:=l.votes) hl.vs;have h3:NOk n { p.learn 0 l.what with rnd:={ (p.learn 0 l.what).rnd.hear l.src l.votes with taught:=upN (p.learn 0 l.what).rnd.taught l.src l.what.length } }:={ h2 with qu:=h2.qu,he:=h2.he };have h4:=h3.learnC;exact⟨h4.1,by rw[h4.2.1];show At (p.learn 0 l.what).pend<=_;rw[hk.2.1];omega,fy hk.2.2 h4.2.2⟩
 .have hr:=h.ro;have hb:=hl.bal.rng;exact⟨{ h with ro:=by show 0<=max p.rounds l.bal.r/\max p.rounds l.bal.r<=65536;omega },gk _,A' _⟩
 .have hp:=h.vote l.vote;split
  .have:=h.refuse hl.src (p.vote l.vote).2;exact⟨this.1,this.2.2,by rw[this.2.1];exact A' _⟩
  .exact⟨hp.1.wait hl.src,hw hp.2.1 rfl,by show _<=(p.vote l.vote).1.agreed.length;rw[hp.2.2.1];exact A' _⟩
 .have:=h.count l.src l.vote;exact⟨this.1,by rw[this.2.1];omega,this.2.2⟩
 .rename_i hk
  split
  .exact⟨h.wait hl.src,hw rfl rfl,A' _⟩
  .have:=h.learn (slot:=l.slot) (what:=l.what) (by omega) (hl.sl hk);exact⟨this.1,by rw[this.2.1];omega,this.2.2⟩
 .have he:=h.enqueue l.what;simp only;split
  .rename_i h1
   exact⟨he.1.wait ⟨hl.src,ie h1⟩,hw he.2.1 rfl,by show _<=(p.enqueue l.what).agreed.length;rw[he.2.2];exact A' _⟩
  .exact⟨he.1,by rw[he.2.1];omega,by rw[he.2.2];exact A' _⟩
 .exact⟨h,gk _,A' _⟩
end
end
section
open Go.RowKit
section
def EY(l:List Int)(n:Nat):List Int:=l++List.replicate (n-l.length) 0
def GH(l:List Int):List Int:=if 64<l.length then dig l else l
def fk(l:List Int):List Int:=EY (GH l) 64
def AV(k:List Int)(m:Int):List Int:=k.map λx=>bits .xor .u8 x m
def D4(key b:List Int):List Int:=dig (AV (fk key) 92++dig (AV (fk key) 54++b))
theorem KV(l:List Int)(n:Nat)(h:l.length<=n):(EY l n).length=n:=by simp[EY];omega
variable{l:List Int}{n:Nat}{w:World}
theorem NG(h:∀ x∈l,0<=x/\x<256)(n:Nat):∀ x∈EY l n,0<=x/\x<256:=by
 intro x hx;rcases Y'.1 hx with h1|h1
 .exact h x h1
 .rw[List.eq_of_mem_replicate h1];omega
theorem Mu(l:List Int):(GH l).length<=64:=by
 unfold GH;split
 .rw[Ay];omega
 .omega
theorem PW(h:∀ x∈l,0<=x/\x<256):∀ x∈GH l,0<=x/\x<256:=by
 unfold GH;split
 .exact CU l
 .exact h
theorem Ea(l:List Int):(fk l).length=64:=KV _ _ (Mu l)
theorem XG(h:∀ x∈l,0<=x/\x<256):∀ x∈fk l,0<=x/\x<256:=NG (PW h) 64
theorem Ew(l:List Int)(m:Int):(AV l m).length=l.length:=by simp[AV]
theorem JZ(h:∀ x∈l,0<=x/\x<256){m:Int}(hm:0<=m/\m<256):∀ x∈AV l m,0<=x/\x<256:=by
 intro x hx;obtain⟨y,hy,rfl⟩:=fS.1 hx;have hb:=h y hy;rw[u8_xor _ _ hb.1 hb.2 hm.1 hm.2];have:y.toNat ^^^ m.toNat<256:=iK (n:=8) (by omega) (by omega);omega
theorem CW(k b:List Int):(D4 k b).length=32:=rfl
theorem LF(k b:List Int):∀ x∈D4 k b,0<=x/\x<256:=CU _
theorem L8:(prog.info? 5).map (·.size)=some 1:=by kernel_rfl
theorem IL(l:List Int):splice ((List.replicate 64 (0:Int)).map (Value.int .u8)) 0 (l.map (Value.int .u8))=(EY l 64).map (Value.int .u8):=by
 have e:(List.replicate 64 (0:Int)).map (Value.int .u8)=List.replicate 64 (Value.int .u8 0):=iL;rw[e];simp only[splice,EY,gD,it,fM,fV,List.drop_replicate,fG,iL]
theorem Hr{P:Program}{ops:Array Oper}{rest:List Oper}{o:Oper}{a:Act}{Q:Exit->Act->World->Prop}(hgd:o.guard=none)(ty:TypeId)(x y:Operand)(ho:o.op=.store ty x y)(g:Nat)(cells:Array Value)(hx:a.eval x=.pointer (some ⟨g,0,none⟩))(hy:a.eval y=.agg cells)(t:TypeId)(old:Array Value)(hg:w.heap[g]?=some (.cells old t (0,0)))(hi:(P.info? ty).map (·.size)=some cells.size)(hold:old.size=cells.size)(h1:cells.all (·.oneCell')=true)(B:Nat)(w0:World)(hb:Below B w0 w)(hBg:B<=g)(h:∀ w',w'.heap[g]?=some (.cells cells t (0,0))->Below B w0 w'->wpList P ops Q rest (a.put o.dst undef) w'):wpList P ops Q (o::rest) a w :=
 wpList_store_row hgd ty x y ho g cells hx hy t old hg hi hold h1 (h _ (setRow_heap w g _ _ t _ hg) (Bo hb hBg _))
theorem Sl.copySrc{sp:Option Addr}{c:Nat}(h:Sl w (.slice sp n c) l)(hp:0<l.length):∃ ad,sp=some ad/\∀ (j:Nat) (v:Value),(l.map (Value.int .u8))[j]?=some v->w.cell? (ad.add j)=some v:=by
 obtain⟨⟨a,cap,e,hc,hn,h1⟩,hla,hba⟩:=h;simp only[Value.slice.injEq]at e;obtain⟨rfl,rfl,rfl⟩:=e;rcases h1 with rfl|⟨b,off,rfl,_,hcell⟩
 .simp at hp
 .refine⟨_,rfl,λj v hj=>?_⟩;have hjl:j<l.length:=by
   have:=(P'.1 hj).1;simpa using this
  have hadd:(⟨b,off,none⟩:Addr).add j=⟨b,off+j,none⟩:=by unfold Addr.add;split<;>simp_all
  rw[hadd,hcell j hjl];simp[List.getElem?_eq_getElem hjl]at hj
  rw[AL hjl,hj]
theorem NH(v:Value)(l:List Int)(w:World)(h:Sl w v l)(hl:l.length<=100000)(ht:AA w) :
  Calls prog 142 #[v] w λe w'=>e=.returned (.agg (AI (fk l)))/\Bw w w':=by
 have hs:=h;obtain⟨⟨a,cap,rfl,hc,hn,h1⟩,hla,hba⟩:=h;have H1:Hid _:=h1;have hsz:(prog.info? 222).map (·.size)=some (AI (fk l)).size:=by rw[Aw,Ea];kernel_rfl
 clear h1 hba;by_cases hk:64<l.length
 .have ek:GH l=dig l:=by unfold GH;rw[if_pos hk]
  have EK:Hid (fk l=EY (dig l) 64):=by unfold Hid fk;rw[ek]
  clear ek;go_enter func142,ntmps142
  go_wp2_with fail
  generalize hW0:w.alloc _=W0;have hb0:Bw w W0:=by rw[<- hW0];exact(Below.refl _ _).alloc (A' _) _
  have hr0:W0.heap[w.heap.size]?=some (.cells (AI (List.replicate 64 0)) 222 (0,0)):=by rw[<- hW0];exact heap_alloc_new _ _
  have hs0:W0.heap.size=w.heap.size+1:=by rw[<- hW0];simp
  clear hW0;refine(Et _ l W0 (hs.below hb0) hl (ht.below hb0)).mono ?_;rintro e w1 ⟨v1,rfl,ho1,hb1⟩;obtain⟨g1,c1,hv,hgB,hgs,hcp,hcell,_⟩:=Dv ho1 (Ez (Ay l));subst hv;have hr1:w1.heap[w.heap.size]?=some (.cells (AI (List.replicate 64 0)) 222 (0,0)):=(hb1.block _ (by omega)).trans hr0;have hB1:Bw w w1:=hb0.trans (hb1.mono hb0.size);have hz1:w.heap.size<w1.heap.size:=(G'.1 hr1).1;have s1:Sl w1 (.slice (some ⟨g1,0,none⟩) (dig l).length c1) (dig l):=Sl.ofOwns ho1 (by rw[Ay];omega) (CU l);go_wp2_with (refine wpList_copy_splice rfl _ _ 25 25 rfl 5 underlying25 L8 _ _ _ _ _ _ rfl rfl w1.heap.size 0 ((List.replicate 64 (0:Int)).map (Value.int .u8)) 222 (heap_alloc_new _ _) ((dig l).map (Value.int .u8)) (by rw[fM,Ay];rfl) (λ_=>⟨rfl,(s1.below ((Below.refl _ _).alloc (A' _) _)).copySrc (by rw[Ay];omega)⟩) (by rw[fM,Ay];simp) (Ec _) w1.heap.size _ (Below.refl _ _) (A' _) ?_)
  intro w2 H2 hb2;have hr2:w2.heap[w1.heap.size]?=some (.cells (AI (fk l)) 222 (0,0)):=by
   have h3:w2.heap[w1.heap.size]?=some (.cells (splice ((List.replicate 64 (0:Int)).map (Value.int .u8)) 0 ((dig l).map (Value.int .u8))).toArray 222 (0,0)):=H2.out;rw[IL]at h3
   rw[EK.out];exact h3
  have hB2:Bw w w2:=(hB1.alloc hB1.size _).trans (hb2.mono (by omega));have hq2:w2.heap[w.heap.size]?=some (.cells (AI (List.replicate 64 0)) 222 (0,0)):=by
   rw[hb2.block _ hz1,heap_alloc_old _ _ hz1];exact hr1
  clear H2 hb2 hr1 hr0 hs0 hb0 hb1 hcell ho1 s1 hgs hgB;go_wp2_with (first|(refine wpList_load_row rfl 222 _ rfl w1.heap.size rfl 222 _ (0,0) _ hr2 underlying222 rfl hsz ?_)|(refine wpList_store_row rfl 222 _ _ rfl w.heap.size _ rfl rfl 222 _ hq2 hsz (by rw[Aw,Aw,Ea];rfl) (J5 _) ?_))
  refine bodyPost_ret (v:=.agg (AI (fk l))) (results_cell_row rfl _ _ w.heap.size 222 _ (0,0) _ rfl (setRow_heap w2 w.heap.size _ _ 222 _ hq2) underlying222 rfl hsz) rfl ⟨rfl,Bo hB2 (A' _) _⟩
 .have ek:GH l=l:=by unfold GH;rw[if_neg hk]
  have EK:Hid (fk l=EY l 64):=by unfold Hid fk;rw[ek]
  clear ek;go_enter func142,ntmps142
  go_wp2_with (refine wpList_copy_splice rfl _ _ 25 25 rfl 5 underlying25 L8 _ _ _ _ _ _ rfl rfl (w.heap.size+1) 0 ((List.replicate 64 (0:Int)).map (Value.int .u8)) 222 (heap_alloc2_new _ _ _) (l.map (Value.int .u8)) (by rw[fM];exact(gP (show l.length<=64 by omega)).symm) (λhp=>⟨rfl,(hs.below (((Below.refl _ _).alloc (A' _) _).alloc (by simp) _)).copySrc (by simpa using hp)⟩) (by rw[fM,fM,gM];omega) (Ec _) (w.heap.size+1) _ (Below.refl _ _) (A' _) ?_)
  intro w2 H2 hb2;have hr2:w2.heap[w.heap.size+1]?=some (.cells (AI (fk l)) 222 (0,0)):=by
   have h3:w2.heap[w.heap.size+1]?=some (.cells (splice ((List.replicate 64 (0:Int)).map (Value.int .u8)) 0 (l.map (Value.int .u8))).toArray 222 (0,0)):=H2.out;rw[IL]at h3
   rw[EK.out];exact h3
  have hB2:Bw w w2:=(((Below.refl _ _).alloc (A' _) _).alloc (by simp) _).trans (hb2.mono (by omega));have hq2:w2.heap[w.heap.size]?=some (.cells (AI (List.replicate 64 0)) 222 (0,0)):=by
   rw[hb2.block _ (by omega)];exact heap_alloc2_old _ _ _
  clear H2 hb2;go_wp2_with (first|(refine wpList_load_row rfl 222 _ rfl (w.heap.size+1) rfl 222 _ (0,0) _ hr2 underlying222 rfl hsz ?_)|(refine wpList_store_row rfl 222 _ _ rfl w.heap.size _ rfl rfl 222 _ hq2 hsz (by rw[Aw,Aw,Ea];rfl) (J5 _) ?_))
  refine bodyPost_ret (v:=.agg (AI (fk l))) (results_cell_row rfl _ _ w.heap.size 222 _ (0,0) _ rfl (setRow_heap w2 w.heap.size _ _ 222 _ hq2) underlying222 rfl hsz) rfl ⟨rfl,Bo hB2 (A' _) _⟩
theorem XV(l:List Int)(hl:l.length=64)(j:Nat)(hj:j<64):∀ w,(Instr.index 222 (.agg (AI l)) (.int .i64 (j:Int))).run prog w=.ok (.int .u8 (l.getD j 0)) w:=by
 intro w;have hg:(AI l)[j]?=some (.int .u8 (l.getD j 0)):=by
  simp[AI,List.getElem?_eq_getElem (show j<l.length by omega),List.getD]
 have h0:(0:Int)<=j/\(j:Int)<64:=by omega
 simp[Instr.index,run_underlying underlying222,asIntOf,h0,part,hg];intro h;omega
theorem Ka(k:List Int)(m:Int)(w:World)(hk:k.length=64)(hm:0<=m/\m<256)(hb:∀ x∈k,0<=x/\x<256) :
  Calls prog 144 #[.agg (AI k),.int .u8 m] w λe w'=>∃ v',e=.returned v'/\w'.ownsRow w.heap.size 5 1 v' (AV k m).length ((AV k m).map (Value.int .u8))/\Bw w w':=by
 obtain⟨i0,hi,hz0,hz1,hz2⟩:=info_parts As;have hsz:(prog.info? 222).map (·.size)=some (AI k).size:=by rw[Aw,hk];kernel_rfl
 have HK:Hid (k.length=64):=hk;clear hk;go_enter func144,ntmps144
 go_wp2_with (at_make;refine wpList_make_own _ rfl _ _ 25 rfl w.heap.size 5 i0 (.int .u8 0) 1 underlying25 hi hz0 hz1 _ _ _ 64 rfl rfl (by omega) (by rw[hz2];omega) (by unfold maxLen;omega) (by simp) ?_)
 intro w1 ho1 hg1;have hb1:Bw w w1:=((Below.refl _ _).alloc (A' _) _).grown hg1 (by simp) (by simp);have hrow:w1.heap[w.heap.size]?=some (.cells (AI k) 222 (0,0)):=by
  rw[hg1.block w.heap.size (by simp) (by simp)];exact heap_alloc_new _ _
 have ho1':w1.ownsRow w.heap.size 5 1 (.slice (some ⟨w.heap.size+1,0,none⟩) 0 64) (AV (k.take 0) m).length ((AV (k.take 0) m).map (Value.int .u8)):=ho1;clear ho1 hg1;go_wp2_with (refine wpList_load_row rfl 222 _ rfl w.heap.size rfl 222 _ (0,0) _ hrow underlying222 rfl hsz ?_)
 go_loopw [5,10] (λv i wr=>∃ j:Nat,j<=64/\i=.int .i64 j/\wr.ownsRow w.heap.size 5 1 v (AV (k.take j) m).length ((AV (k.take j) m).map (Value.int .u8))/\Bw w wr) (λ_ i _=>64-(intOf i).toNat)
 case atStart=>exact⟨0,by omega,rfl,ho1',hb1⟩
 case round =>
  clear ho1' hb1 hrow;obtain⟨j,hj,rfl,hown,hbw⟩:=hrel;have hlt:=hown.lt;by_cases hj64:j<64
  .have hix:=XV k HK.out j hj64;have hlen:(AV (k.take j) m).length<=64:=by rw[Ew,fx];omega
   have HT:Hid (AV (k.take (j+1)) m=AV (k.take j) m++[bits .xor .u8 (k.getD j 0) m]):=by
    unfold Hid;have hjl:j<k.length:=by rw[HK.out];exact hj64
    rw[fJ hjl,AL hjl,AV,fG];rfl
   have hxb:=Aj hb j;have hyb:0<=bits .xor .u8 (k.getD j 0) m/\bits .xor .u8 (k.getD j 0) m<256:=by
    rw[u8_xor _ _ hxb.1 hxb.2 hm.1 hm.2];have:(k.getD j 0).toNat ^^^ m.toNat<256:=iK (n:=8) (by omega) (by omega);omega
   have HY:Hid (0<=bits .xor .u8 (k.getD j 0) m/\bits .xor .u8 (k.getD j 0) m<256):=hyb;generalize AV (k.take j) m=pre at hown HT hlen;generalize k.getD j 0=x at hix HT hxb hyb HY;clear hyb hxb;go_wp2_with (at_builtin;refine Aa _ rfl _ _ 25 rfl w.heap.size 5 underlying25 As _ _ rfl rfl pre _ (hown.alloc _) (Sl.one _ _ _ rfl HY.out) (by simp;omega) (by have:=hbw.size;simp;omega) ?_)
   intro v' w' ho hg;have ho':w'.ownsRow w.heap.size 5 1 v' (pre++[bits .xor .u8 x m]).length ((pre++[bits .xor .u8 x m]).map (Value.int .u8)):=by simpa using ho
   have hb':Bw w w':=(hbw.alloc hbw.size _).grown hg (by have:=hbw.size;simp;omega) (λk hk=>(hlt k hk).1);clear ho hg hown hlt hbw;go_wp2
   go_roundw
   case rel=>exact⟨j+1,by omega,by go_num,by rw[HT.out];exact ho',hb'⟩
   case measure=>simp[intOf];omega
  .have HJ:Hid (k.take j=k):=by unfold Hid;exact fB (by rw[HK.out];omega)
   go_wp2
   go_ret;refine⟨u5,rfl,?_,hbw⟩;rw[HJ.out]at hown
   exact hown
theorem Mx(vk vb:Value)(k b:List Int)(w:World)(hk:Sl w vk k)(hb:Sl w vb b)(hkl:k.length<=100000)(hbl:b.length<=90000)(ht:AA w) :
  Calls prog 111 #[vk,vb] w λe w'=>∃ v',e=.returned v'/\Fresh w w' v' (D4 k b):=by
 have hsz:(prog.info? 222).map (·.size)=some (AI (fk k)).size:=by rw[Aw,Ea];kernel_rfl
 have hfb:=XG hk.byte;have hfl:=Ea k;have HF:Hid (D4 k b=dig (AV (fk k) 92++dig (AV (fk k) 54++b))):=rfl;go_enter func111,ntmps111
 go_wp2_with fail
 refine(NH vk k w hk hkl ht).mono ?_;rintro e w1 ⟨rfl,hb1⟩;generalize fk k=K at hsz hfb hfl HF ⊢;go_wp2_with (refine Hr rfl 222 _ _ rfl w1.heap.size _ rfl rfl 222 _ (heap_alloc_new _ _) hsz (by rw[Aw,hfl];rfl) (J5 _) w.heap.size w (hb1.alloc hb1.size _) hb1.size ?_)
 intro w2 hrow hb2;have hz:w1.heap.size<w2.heap.size:=(G'.1 hrow).1;go_wp2_with (refine wpList_load_row rfl 222 _ rfl w1.heap.size rfl 222 _ (0,0) _ hrow underlying222 rfl hsz ?_)
 refine(Ka K 54 w2 hfl (by omega) hfb).mono ?_;rintro e w3 ⟨v3,rfl,ho3,hb3⟩;have hB3:Bw w w3:=hb2.trans (hb3.mono hb2.size);have hlt3:=ho3.lt;have lm54:(AV K 54).length=64:=by rw[Ew,hfl]
 have lm92:(AV K 92).length=64:=by rw[Ew,hfl]
 have bm54:=JZ hfb (m:=54) (by omega);have bm92:=JZ hfb (m:=92) (by omega);go_wp2_with (at_builtin;refine Aa _ rfl _ _ 25 rfl w2.heap.size 5 underlying25 As _ _ rfl rfl (AV K 54) b ho3 (hb.below hB3) (by omega) hb3.size ?_)
 intro v4 w4 ho4 hg4;have hb4:Bw w2 w4:=hb3.grown hg4 hb3.size (λk hk=>(hlt3 k hk).1);have hB4:Bw w w4:=hb2.trans (hb4.mono hb2.size);have ho4':w4.ownsRow w2.heap.size 5 1 v4 (AV K 54++b).length ((AV K 54++b).map (Value.int .u8)):=by simpa[lm54]using ho4
 have by4:∀ x∈AV K 54++b,0<=x/\x<256:=λx hx=>by
  rcases Y'.1 hx with h|h
  .exact bm54 x h
  .exact hb.byte x h
 have ly4:(AV K 54++b).length<=91000:=by rw[N',lm54];omega
 clear ho4 hg4 ho3 hlt3;generalize AV K 54++b=L4 at ho4' by4 ly4 HF;go_wp2_with fail
 refine(Et v4 L4 w4 (Sl.ofOwns ho4' (by omega) by4) (by omega) (ht.below hB4)).mono ?_;rintro e w5 ⟨v5,rfl,ho5,hb5⟩;have hb5':Bw w2 w5:=hb4.trans (hb5.mono hb4.size);have s5:Sl w5 v5 (dig L4):=Sl.ofOwns ho5 (by rw[Ay];omega) (CU L4);have l5:=Ay L4;have y5:=CU L4;generalize dig L4=D at s5 HF l5 y5;have hrow5:w5.heap[w1.heap.size]?=some (.cells (AI K) 222 (0,0)):=(hb5'.block _ hz).trans hrow;clear ho4' ho5;go_wp2_with (refine wpList_load_row rfl 222 _ rfl w1.heap.size rfl 222 _ (0,0) _ hrow5 underlying222 rfl hsz ?_)
 refine(Ka K 92 w5 hfl (by omega) hfb).mono ?_;rintro e w6 ⟨v6,rfl,ho6,hb6⟩;have hlt6:=ho6.lt;go_wp2_with (at_builtin;refine Aa _ rfl _ _ 25 rfl w5.heap.size 5 underlying25 As _ _ rfl rfl (AV K 92) D ho6 (s5.below hb6) (by omega) hb6.size ?_)
 intro v7 w7 ho7 hg7;have hb7:Bw w5 w7:=hb6.grown hg7 hb6.size (λk hk=>(hlt6 k hk).1);have hB5:Bw w w5:=hb2.trans (hb5'.mono hb2.size);have hB7:Bw w w7:=hB5.trans (hb7.mono hB5.size);have ho7':w7.ownsRow w5.heap.size 5 1 v7 (AV K 92++D).length ((AV K 92++D).map (Value.int .u8)):=by simpa[lm92,l5]using ho7
 have by7:∀ x∈AV K 92++D,0<=x/\x<256:=λx hx=>by
  rcases Y'.1 hx with h|h
  .exact bm92 x h
  .exact y5 x h
 have ly7:(AV K 92++D).length<=96:=by rw[N',lm92];omega
 clear ho7 hg7 ho6 hlt6;generalize AV K 92++D=L7 at ho7' by7 ly7 HF;go_wp2_with fail
 refine(Et v7 L7 w7 (Sl.ofOwns ho7' (by omega) by7) (by omega) (ht.below hB7)).mono ?_;rintro e w8 ⟨v8,rfl,ho8,hb8⟩;go_wp2
 go_ret;refine⟨v8,rfl,?_⟩;rw[HF.out];exact Fresh.ofOwns (AN ho8 hB7.size) (Ez (Ay L7)) (by rw[Ay];omega) (CU L7) (hB7.trans (hb8.mono hB7.size))
theorem ZI(vk vb:Value)(k b:List Int)(w:World)(hk:Sl w vk k)(hb:Sl w vb b)(hkl:k.length<=256)(hbl:b.length<=2000)(ht:AA w) :
  Calls prog 109 #[vk,vb] w λe w'=>∃ v',e=.returned (.tuple #[v',.int .i64 0])/\Fresh w w' v' (D4 k b):=by
 have hs:=hk;have hs2:=hb;obtain⟨⟨a,cap,rfl,_,_,_⟩,hla,hba⟩:=hk;obtain⟨⟨a2,cap2,rfl,_,_,_⟩,hla2,hba2⟩:=hb;clear hba hba2;go_enter func109,ntmps109
 go_wp2_with fail
 refine(Mx _ _ k b w hs hs2 (by omega) (by omega) ht).mono ?_;rintro e w1 ⟨v1,rfl,hf⟩;go_wp2
 go_ret2
 exact⟨v1,rfl,hf⟩
theorem M2(va vi:Value)(a i:List Int)(c:Int)(w:World)(ha:Sl w va a)(hi:Sl w vi i)(hal:a.length<=1000)(hil:i.length<=1000)(hc:0<=c/\c<256) :
  Calls prog 141 #[va,vi,.int .u8 c] w λe w'=>∃ v',e=.returned v'/\w'.ownsRow w.heap.size 5 1 v' (a++i++[c]).length ((a++i++[c]).map (Value.int .u8))/\Bw w w':=by
 obtain⟨i0,hi0,hz0,hz1,hz2⟩:=info_parts As;have hs:=ha;have hs2:=hi;obtain⟨⟨aa,cap,rfl,_,_,_⟩,hla,hba⟩:=ha;obtain⟨⟨a2,cap2,rfl,_,_,_⟩,hla2,hba2⟩:=hi;clear hba hba2;go_enter func141,ntmps141
 go_wp2_with (at_make;refine wpList_make_own _ rfl _ _ 25 rfl w.heap.size 5 i0 (.int .u8 0) 1 underlying25 hi0 hz0 hz1 _ _ _ (a.length+i.length+1) rfl rfl (by omega) (by rw[hz2];omega) (by unfold maxLen;omega) (A' _) ?_)
 intro w1 ho1 hg1;have hb1:Bw w w1:=(Below.refl _ _).grown hg1 (A' _) (by simp);have ho1':w1.ownsRow w.heap.size 5 1 (.slice (some ⟨w.heap.size,0,none⟩) 0 (a.length+i.length+1)) ([]:List Int).length (([]:List Int).map (Value.int .u8)):=ho1;clear ho1 hg1;go_wp2_with (at_builtin;refine Aa _ rfl _ _ 25 rfl w.heap.size 5 underlying25 As _ _ rfl rfl [] a ho1' (hs.below hb1) (by simp;omega) hb1.size ?_)
 intro v2 w2 ho2 hg2;have ho2':w2.ownsRow w.heap.size 5 1 v2 a.length (a.map (Value.int .u8)):=by simpa using ho2
 have hb2:Bw w w2:=hb1.grown hg2 hb1.size (by simp[Value.ownBlock]);have hlt2:=ho2'.lt;clear ho1' hg2 hb1 ho2;go_wp2_with (at_builtin;refine Aa _ rfl _ _ 25 rfl w.heap.size 5 underlying25 As _ _ rfl rfl a i ho2' (hs2.below hb2) (by omega) hb2.size ?_)
 intro v3 w3 ho3 hg3;have ho3':w3.ownsRow w.heap.size 5 1 v3 (a++i).length ((a++i).map (Value.int .u8)):=by simpa using ho3
 have hb3:Bw w w3:=hb2.grown hg3 hb2.size (λk hk=>(hlt2 k hk).1);have hlt3:=ho3'.lt;clear ho2' hg3 hb2 ho3 hlt2;go_wp2_with (at_builtin;refine Aa _ rfl _ _ 25 rfl w.heap.size 5 underlying25 As _ _ rfl rfl (a++i) [c] (ho3'.alloc _) (Sl.one _ _ _ rfl hc) (by simp;omega) (by have:=hb3.size;simp;omega) ?_)
 intro v4 w4 ho4 hg4;have ho4':w4.ownsRow w.heap.size 5 1 v4 (a++i++[c]).length ((a++i++[c]).map (Value.int .u8)):=by simpa using ho4
 have hb4:Bw w w4:=(hb3.alloc hb3.size _).grown hg4 (by have:=hb3.size;simp;omega) (λk hk=>(hlt3 k hk).1);clear ho3' hg4 hb3 ho4 hlt3;go_wp2
 go_ret;exact⟨v4,rfl,ho4',hb4⟩
theorem Sl.grown{w':World}{b off cap:Nat}{row:Option Nat}(h:Sl w (.slice (some ⟨b,off,none⟩) n cap) l)(hg:w.grownBy w' row)(hne:some b≠row):Sl w' (.slice (some ⟨b,off,none⟩) n cap) l:=by
 obtain⟨⟨a,cap',e,hc,hn,h1⟩,h2,h3⟩:=h;refine⟨⟨a,cap',e,hc,hn,?_⟩,h2,h3⟩;simp only[Value.slice.injEq]at e;obtain⟨rfl,_,_⟩:=e;rcases h1 with h1|⟨b',off',e',hbs,hcell⟩
 .exact .inl h1
 .simp only[U',Addr.mk.injEq,and_true]at e';obtain⟨rfl,rfl⟩:=e';refine .inr ⟨b,off,rfl,Z' hbs hg.size,λi hi=>?_⟩;rw[<- hcell i hi];exact World.cell?_of_block (w:=w) (hg.block b hbs hne)
def blk(key info:List Int):Nat->List Int
 | 0=>[]
 | i+1=>D4 key (blk key info i++info++[(i:Int)+1])
def AT(key info:List Int):Nat->List Int
 | 0=>[]
 | i+1=>AT key info i++blk key info (i+1)
def EX(key info:List Int)(n:Nat):List Int:=(AT key info 16).take n
theorem Gb(key info:List Int)(i:Nat):(blk key info (i+1)).length=32:=CW _ _
theorem Ul(key info:List Int)(i:Nat):∀ x∈blk key info i,0<=x/\x<256:=by
 cases i with
 | zero=>intro x hx;cases hx
 | succ i=>exact LF _ _
theorem ZX(key info:List Int)(i:Nat):(blk key info i).length<=32:=by
 cases i with
 | zero=>simp[blk]
 | succ i=>rw[Gb];omega
theorem Cd(key info:List Int)(i:Nat):(AT key info i).length=32*i:=by
 induction i with
 | zero=>rfl
 | succ i ih=>rw[AT,N',ih,Gb];omega
theorem ON(key info:List Int)(i:Nat):∀ x∈AT key info i,0<=x/\x<256:=by
 induction i with
 | zero=>intro x hx;cases hx
 | succ i ih =>
  intro x hx;rcases Y'.1 hx with h|h
  .exact ih x h
  .exact Ul key info (i+1) x h
theorem OO(key info:List Int)(n i j:Nat)(hn:n<=32*i):(AT key info (i+j)).take n=(AT key info i).take n:=by
 induction j with
 | zero=>rfl
 | succ j ih=>rw[<- go,AT,jb (by rw[Cd];omega),ih]
theorem Sy(key info:List Int)(n i:Nat):(AT key info (i+1)).take n=(AT key info i).take n++(blk key info (i+1)).take (n-32*i):=by
 rw[AT,List.take_append,Cd]
theorem PG(vk vi:Value)(k i:List Int)(n:Nat)(w:World)(hk:Sl w vk k)(hi:Sl w vi i)(hkl:k.length<=1000)(hil:i.length<=900)(hn:n<=512)(ht:AA w) :
  Calls prog 110 #[vk,vi,.int .i64 n] w λe w'=>∃ v',e=.returned v'/\w'.ownsRow w.heap.size 5 1 v' (EX k i n).length ((EX k i n).map (Value.int .u8))/\Bw w w':=by
 obtain⟨i0,hi0,hz0,hz1,hz2⟩:=info_parts As;go_enter func110,ntmps110
 go_wp2_with (at_make;refine wpList_make_own _ rfl _ _ 25 rfl w.heap.size 5 i0 (.int .u8 0) 1 underlying25 hi0 hz0 hz1 _ _ _ n rfl rfl (by omega) (by rw[hz2];omega) (by unfold maxLen;omega) (A' _) ?_)
 intro w1 ho1 hg1;have hb1:Bw w w1:=(Below.refl _ _).grown hg1 (A' _) (by simp);have ho1':w1.ownsRow w.heap.size 5 1 (.slice (some ⟨w.heap.size,0,none⟩) 0 n) ((AT k i 0).take n).length (((AT k i 0).take n).map (Value.int .u8)):=by simpa[AT]using ho1
 clear ho1 hg1;go_wp2_with fail
 go_loopw [7,8,9] (λv b c wr=>∃ j:Nat,j<=16/\c=.int .u8 ((j:Int)+1)/\(∃ m cap,v=.slice (some ⟨m,0,none⟩) (min (32*j) n) cap)/\Sl wr b (blk k i j)/\wr.ownsRow w.heap.size 5 1 v ((AT k i j).take n).length (((AT k i j).take n).map (Value.int .u8))/\Bw w wr) (λ_ _ c _=>(17-intOf c).toNat)
 case atStart=>exact⟨0,by omega,rfl,⟨w.heap.size,n,by simp⟩,Sl.nil _ _,ho1',hb1⟩
 case round =>
  clear ho1' hb1;obtain⟨j,hj,rfl,⟨m,cap,rfl⟩,sb,hown,hb⟩:=hrel;have hlt:=hown.lt;by_cases hc:32*j<n
  .have hmin:min (32*j) n=32*j:=by omega
   rw[hmin]at hown hlt ⊢
   have hmw:m<wr.heap.size:=(hlt m rfl).2;have hlen:((AT k i j).take n).length=32*j:=by rw[fx,Cd];omega
   have hbl:=ZX k i j;have hj15:j<=15:=by omega
   have HB:Hid (blk k i (j+1)=D4 k (blk k i j++i++[(j:Int)+1])):=rfl;have HS:=Sy k i n j;have HSS:Hid _:=HS;have yb:∀ x∈blk k i j++i++[(j:Int)+1],0<=x/\x<256:=λx hx=>by
    rcases Y'.1 hx with h|h
    .rcases Y'.1 h with h|h
     .exact sb.byte x h
     .exact hi.byte x h
    .obtain rfl:x=(j:Int)+1:=by simpa using h
     omega
   clear HS hmin;go_wp2_with fail
   refine(M2 _ vi (blk k i j) i ((j:Int)+1) wr sb (hi.below hb) (by omega) (by omega) (by omega)).mono ?_;rintro e w2 ⟨v2,rfl,ho2,hb2⟩;have hB2:Bw w w2:=hb.trans (hb2.mono hb.size);have l2:(blk k i j++i++[(j:Int)+1]).length<=2000:=by simp;omega
   have s2:=Sl.ofOwns ho2 (by omega) yb;go_wp2_with fail
   refine(Mx vk v2 k _ w2 (hk.below hB2) s2 (by omega) (by omega) (ht.below hB2)).mono ?_;rintro e w3 ⟨v3,rfl,f3⟩;rw[<- HB.out]at f3
   obtain⟨g3,c3,hv3,_,hc3⟩:=f3.shape;have s3:=f3.sl;have hb3:=f3.bel;have l3:=Gb k i j;rw[l3]at hv3 hc3
   subst hv3;clear HB f3 s2 ho2 l2 yb sb;have ho3:=hown;have hown3:w3.ownsRow w.heap.size 5 1 (.slice (some ⟨m,0,none⟩) (32*j) cap) ((AT k i j).take n).length (((AT k i j).take n).map (Value.int .u8)):=by
    refine hown.kept (row:=none) ⟨(hb2.trans (hb3.mono hb2.size)).os,(hb2.trans (hb3.mono hb2.size)).tape,(hb2.trans (hb3.mono hb2.size)).output,(hb2.trans (hb3.mono hb2.size)).size,λq hq _=>(hb2.trans (hb3.mono hb2.size)).block q hq⟩ (.inr (by simp[Value.ownBlock]))
   have hB3:Bw w w3:=hB2.trans (hb3.mono hB2.size);have hlt3:=hown3.lt;have HL:Hid ((AT k i (j+1)).take n=(AT k i j).take n++(blk k i (j+1)).take (n-32*j)):=HSS.out;clear HSS ho3 hown hlt;have hM:((blk k i (j+1)).take (n-32*j)).length=min (n-32*j) 32:=by rw[fx,l3]
   have sM:Sl w3 (.slice (some ⟨g3,0,none⟩) (min (n-32*j) 32) c3) ((blk k i (j+1)).take (n-32*j)):=by
    by_cases hq:n-32*j<=32
    .rw[gP hq];exact s3.take (n-32*j) (by omega)
    .rw[Nat.min_eq_right (by omega),fB (by omega)];exact s3
   have HN:=s3;have hlt2:((AT k i (j+1)).take n).length=min (32*(j+1)) n:=by rw[fx,Cd];omega
   have HL2:Hid (((AT k i (j+1)).take n).length=min (32*(j+1)) n):=hlt2;clear HN hlt2;generalize (blk k i (j+1)).take (n-32*j)=M at sM hM HL;generalize (AT k i j).take n=P at hown3 hlt3 hlen HL;have SB:Sl w3 (.slice (some ⟨g3,0,none⟩) 32 c3) (blk k i (j+1)):=s3;clear s3;have hmin:(min (32:Int) ((n:Int)-32*(j:Int))).toNat=min (n-32*j) 32:=by omega
   have sM':Sl w3 (.slice (some ⟨g3,0,none⟩) (min (32:Int) ((n:Int)-32*(j:Int))).toNat c3) M:=by rw[hmin];exact sM
   have hmlt:m<w2.heap.size:=Z' hmw hb2.size;clear hmin sM;go_wp2_with (at_builtin;refine Aa _ rfl _ _ 25 rfl w.heap.size 5 underlying25 As _ _ rfl rfl P M hown3 sM' (by omega) hB3.size ?_)
   intro v4 w4 ho4 hg4;have ho4':w4.ownsRow w.heap.size 5 1 v4 (P++M).length ((P++M).map (Value.int .u8)):=by simpa[hlen,hM]using ho4
   have hb4:Bw w w4:=hB3.grown hg4 hB3.size (λk hk=>(hlt3 k hk).1);have SB4:Sl w4 (.slice (some ⟨g3,0,none⟩) 32 c3) (blk k i (j+1)):=SB.grown hg4 (by simp[Value.ownBlock];omega);obtain⟨g4,c4,hv4,_,_,_,_,_⟩:=Dv ho4' (by intro e;have:=congrArg List.length e;rw[N',hlen,hM]at this;simp at this;omega);have hPM:(P++M).length=min (32*(j+1)) n:=by rw[<- HL.out];exact HL2.out
   rw[<- HL.out]at ho4'
   rw[hPM]at hv4
   subst hv4;clear ho4 hg4 hown3 hlt3 hB3 SB sM' hM HL HL2 hPM hlen;go_wp2
   go_roundw
   case rel=>exact⟨j+1,by omega,by go_num,⟨g4,c4,rfl⟩,SB4,ho4',hb4⟩
   case measure=>simp[intOf];omega
  .have hmin:min (32*j) n=n:=by omega
   rw[hmin]at hown ⊢
   have HQ:Hid (EX k i n=(AT k i j).take n):=by
    unfold Hid EX;have:=OO k i n j (16-j) (by omega);rw[show j+(16-j)=16 by omega]at this
    exact this
   go_wp2
   go_ret;refine⟨_,rfl,?_,hb⟩;rw[HQ.out];exact hown
theorem GA(k i:List Int)(n:Nat)(h:n<=512):(EX k i n).length=n:=by
 unfold EX;rw[fx,Cd];omega
theorem JJ(k i:List Int)(n:Nat):∀ x∈EX k i n,0<=x/\x<256:=λx hx=>ON k i 16 x (fK hx)
theorem QY(v0 v1 v2:Value)(l0 l1 l2:List Int)(n:Nat)(w:World)(h0:Sl w v0 l0)(h1:Sl w v1 l1)(h2:Sl w v2 l2)(hl0:l0.length<=256)(hl1:l1.length<=256)(hl2:l2.length<=256)(hn:n<=512)(ht:AA w) :
  Calls prog 72 #[v0,v1,v2,.int .i64 n] w λe w'=>∃ v',e=.returned (.tuple #[v',.int .i64 0])/\w'.ownsRow w.heap.size 5 1 v' (EX (D4 l1 l0) l2 n).length ((EX (D4 l1 l0) l2 n).map (Value.int .u8))/\Bw w w':=by
 have s0:=h0;have s1:=h1;have s2:=h2;obtain⟨⟨a0,c0,rfl,_,_,_⟩,_,_⟩:=h0;obtain⟨⟨a1,c1,rfl,_,_,_⟩,_,_⟩:=h1;obtain⟨⟨a2,c2,rfl,_,_,_⟩,_,_⟩:=h2;have d0:decide ((256:Int)<(l0.length:Int))=false:=by simp;omega
 have d1:decide ((256:Int)<(l1.length:Int))=false:=by simp;omega
 have d2:decide ((256:Int)<(l2.length:Int))=false:=by simp;omega
 have d3:decide ((n:Int)<0)=false:=by simp
 have d4:decide ((512:Int)<(n:Int))=false:=by simp;omega
 go_enter func72,ntmps72
 go_wp2_with fail
 refine(Mx _ _ l1 l0 w s1 s0 (by omega) (by omega) ht).mono ?_;rintro e w1 ⟨v1,rfl,f1⟩;have lm:=CW l1 l0;go_wp2_with fail
 refine(PG v1 _ (D4 l1 l0) l2 n w1 f1.sl (s2.below f1.bel) (by omega) (by omega) hn (ht.below f1.bel)).mono ?_;rintro e w2 ⟨v2,rfl,ho2,hb2⟩;go_wp2
 go_ret2
 exact⟨v2,rfl,AN ho2 f1.bel.size,f1.bel.trans (hb2.mono f1.bel.size)⟩
def FI(c:Int):List Int:=EX (D4 [99,108,105,101,110,116] [c]) [] 32
def FH:List Int:=EX (D4 [105,115,115,117,101,114] [255]) [] 32
theorem Fb(c:Int):(FI c).length=32:=GA _ _ 32 (by omega)
theorem I7:FH.length=32:=GA _ _ 32 (by omega)
theorem SL(c:Int):∀ x∈FI c,0<=x/\x<256:=JJ _ _ _
theorem SH:∀ x∈FH,0<=x/\x<256:=JJ _ _ _
theorem Sl.sixM(w:World)(l:List Int)(e:TypeId)(fr:Nat × Nat){g:Nat}(hg:g=w.heap.size)(hl:l.length=6)(hb:∀ x∈l,0<=x/\x<256):Sl (w.alloc (.cells (l.map (Value.int .u8)).toArray e fr)) (.slice (some ⟨g,0,none⟩) 6 6) l:=by
 subst hg;refine⟨⟨_,6,by rw[hl],by omega,by simp,.inr ⟨w.heap.size,0,rfl,by simp,λi hi=>?_⟩⟩,by omega,hb⟩;rw[cell_of_row _ _ (0+i) _ _ _ (heap_alloc_new w _)];simp[List.getElem?_eq_getElem hi,List.getD]
end
end
end Go.Proofs.YtalbmmghmoggcabGreatDoor
