/- Part 25 of the walk. -/
import Derived.Test.YtaeckakjdagddadGreatDoorZ24
set_option maxRecDepth 100000
set_option maxHeartbeats 4000000
open Go.Proofs.Tryz
set_option linter.unusedVariables false
namespace Go.Proofs.YtaeckakjdagddadGreatDoor
section
open Go.RowKit
def RB(p:Nod)(i j:Nat):Bool:=decide (j≠i∧p.rnd.taught j<p.agreed.length)
def Jy(p:Nod)(i k:Nat):Nat→Nat:=fun j=>if decide (j<k)&&RB p i j then p.agreed.length else p.rnd.taught j
def I4(p:Nod)(i k:Nat):Nod:={ p with rnd:={ p.rnd with taught:=Jy p i k } }
def Ed(p:Nod)(i:Nat):Nat→List Let
 | 0=>[]
 | k+1=>Ed p i k++(if RB p i k then[{ Cd 5 with src:=i,dst:=k,slot:=p.rnd.taught k,what:=p.agreed.drop (p.rnd.taught k) }]else[])
theorem SA(p:Nod)(i k:Nat):(Ed p i k).length≤k:=by
 induction k with
 | zero=>exact Nat.le_refl _
 | succ k ih=>unfold Ed;rw[List.length_append];split<;>simp<;>omega
theorem UC(p:Nod)(i:Nat):I4 p i 0=p:=by unfold I4 Jy;simp
theorem SC{p:Nod}{i k:Nat}(h:RB p i k=false):Jy p i (k+1)=Jy p i k:=by
 funext j
 unfold Jy;by_cases e:j=k
 ·subst e;simp[h]
 ·rw[show decide (j<k+1)=decide (j<k)from decide_eq_decide.2 (by omega)]
theorem XK{p:Nod}{i k:Nat}(h:RB p i k=true):upN (Jy p i k) k p.agreed.length=Jy p i (k+1):=by
 funext j
 unfold upN Jy;by_cases e:j=k
 ·subst e;simp[h]
 ·rw[if_neg e,show decide (j<k+1)=decide (j<k)from decide_eq_decide.2 (by omega)]
theorem UD{g:Gh}{w:World}{i nb ob:Nat}{p:Nod}{ls:List Let}{ts:List Tol}(h:NS i nb ob g w p ls ts)(hb:ls.length<90000000) :
  Calls prog 82 #[pt nb 0] w (NP i nb ob g w (.tuple #[]) (if p.leads then I4 p i 5 else p) (if p.leads then ls++Ed p i 5 else ls) ts):=by
 obtain⟨x,lt,tl,hN,hO,hg⟩:=h;refine gI (fn:=f82) (TN i) g func82 hg ?_;refine qN hN ?_;refine qO hO ?_;refine qR [] 4 [] fun s1 g1 w1 c1=>?_;by_cases h1:p.leads=false
 ·refine Ae fun K=>?_;have N3:NS i nb ob g1 w1 p ls ts:=(nsC hN hO c1 K);refine qC 1 (En N3 h1) ?_;rintro e' w4 ⟨rfl,b4⟩;refine⟨_,rfl,b4,?_⟩;have c4:=Cg.ofBelow (B:=w.heap.size) (T:=[]) (g:=g1) b4;refine qR [] 3 [] fun s5 g5 w5 c5=>?_;refine qE (.tuple #[]) fun K=>?_;rw[h1,if_neg (by simp),if_neg (by simp)];exact⟨_,rfl,(nsC hN hO ((c1.n c4).n c5) K),(((c1.nil (TN i)).n c4).n c5)⟩
 ·have h10:p.leads=true:=by simpa using h1
  refine Ae fun K=>?_;have N8:NS i nb ob g1 w1 p ls ts:=(nsC hN hO c1 K);refine qC 1 (En N8 h10) ?_;rintro e' w9 ⟨rfl,b9⟩;refine⟨_,rfl,b9,?_⟩;have c9:=Cg.ofBelow (B:=w.heap.size) (T:=[]) (g:=g1) b9;rw[if_pos h10,if_pos h10];refine qR [] 15 [0] fun s10 g10 w10 c10=>?_;refine Bz 51 [(0,pt nb 0),(12,.agg #[iv (p.rnd.taught 0:Int),iv (p.rnd.taught 1:Int),iv (p.rnd.taught 2:Int),iv (p.rnd.taught 3:Int),iv (p.rnd.taught 4:Int)]),(13,iv 0)] [false,false] [] (fun k g' w' e L=>∃ k0:Nat,k=5-k0∧k0≤5∧e=[(0,pt nb 0),(12,.agg #[iv (p.rnd.taught 0:Int),iv (p.rnd.taught 1:Int),iv (p.rnd.taught 2:Int),iv (p.rnd.taught 3:Int),iv (p.rnd.taught 4:Int)]),(13,iv (k0:Int))]∧L=[]∧NS i nb ob g' w' (I4 p i k0) (ls++Ed p i k0) ts∧Cg w.heap.size (TN i) g w g' w') (by kernel_rfl) (by kernel_rfl) (by kernel_rfl) (by kernel_rfl) 5 (fun K=>?_) ?_
  ·have C11:=(c1.n c9).n c10;exact⟨0,rfl,by omega,rfl,rfl,(by rw[UC,show ls++Ed p i 0=ls from List.append_nil _];exact(nsC hN hO C11 K)),(((c1.nil (TN i)).n c9).n c10)⟩
  ·rintro k gr wr _ zr _ ⟨k0,rfl,hk0,rfl,rfl,hM,hC⟩ J hJ;obtain⟨xr,ltr,tlr,hNr,hOr,hgr⟩:=hM;have htl:=SA p i k0;refine qN hNr ?_;refine qO hOr ?_;have han:xr.agreed.n=p.agreed.length:=hNr.agreed.num;refine qR [] 5 [] fun s12 g12 w12 c12=>?_;by_cases h2:k0<5
   ·refine qI ((decide ((k0:Int)<5))) true (decide_eq_true (by omega)) ?_;refine qR [] 6 [] fun s13 g13 w13 c13=>?_;refine YE 1 (iv (p.rnd.taught k0:Int)) (fun K=>(by rcases five h2 with rfl|rfl|rfl|rfl|rfl<;>kernel_rfl)) (by kernel_rfl) ?_;refine qR [] 10 [0] fun s14 g14 w14 c14=>?_;by_cases h3:k0≠i
    ·refine qV 5 (.bool true) (EW (t:=3) (m:=(k0:Int)) (n:=(i:Int)) (x:=(.tmp 17)) (y:=(.tmp 21)) (by simp;omega)) ?_;refine qR [] 11 [0] fun s15 g15 w15 c15=>?_;by_cases h4:(p.rnd.taught k0:Int)<(xr.agreed.n:Int)
     ·have hx:RB p i k0=true:=decide_eq_true ⟨by omega,by omega⟩;refine qI ((decide ((p.rnd.taught k0:Int)<(xr.agreed.n:Int)))) true (decide_eq_true (by omega)) ?_;refine qR [] 5 [] fun s16 g16 w16 c16=>?_;refine qS 3 [false,false] hNr hOr ((((c12.n c13).n c14).n c15).n c16) (fun N17=>Hv N17 (by rw[List.length_append];omega) k0 (p.rnd.taught k0) (by show _≤p.agreed.length;omega)) fun g17 w17 x17 lt17 tl17 hN17 hO17 c17=>?_;refine qR [] 14 [13,0,2,4,6,8,10,12,0,14,16,18,20,22] fun s19 g19 w19 c19=>?_;have han1:x17.agreed.n=p.agreed.length:=hN17.agreed.num;refine BI 51 (fun g' w' e L=>e=[(0,pt nb 0),(12,.agg #[iv (p.rnd.taught 0:Int),iv (p.rnd.taught 1:Int),iv (p.rnd.taught 2:Int),iv (p.rnd.taught 3:Int),iv (p.rnd.taught 4:Int)]),(13,iv (k0:Int))]∧L=[⟨nb,.cells (Ax i ob ({ p with rnd:={ p.rnd with taught:=upN (Jy p i k0) k0 x17.agreed.n } }) x17) 113,.n 0 i,false⟩,⟨ob,.cells #[S3.v lt17,S3.v tl17] 84,.n 50 0,false⟩]∧True∧Cg w.heap.size ([.n 0 i]:List Tg) g19 w19 g' w') (by kernel_rfl) ?_ ?_
      ·intro J hJ;rcases five h2 with rfl|rfl|rfl|rfl|rfl <;>
       (refine qR [.n 0 i] 3 [24,27,0,1] fun s21 g21 w21 c21=>?_;exact qB [true,true] fun z K0 K=>hJ _ _ _ z _ ⟨rfl,rfl,trivial,c21⟩ K)
      rintro g20 w20 _ z20 _ ⟨rfl,rfl,_,c20⟩;refine qR [] 2 [] fun s22 g22 w22 c22=>?_;refine qV 0 (iv ((k0:Int)+1)) (AB (x:=(.tmp 13)) (y:=(.const (iv 1))) (k0:Int) 1 underlying3 (by omega)) ?_;refine qR [] 2 [] fun s23 g23 w23 c23=>?_;refine qB [false,false] fun z K0 K=>hJ (5-(k0+1)) _ _ _ z _ (by omega) ⟨k0+1,rfl,by omega,rfl,rfl,?_,((((((((((hC.n c12).n c13).n c14).n c15).n c16).trans c17).n c19).trans (c20.mono (by simp[TN]))).n c22).n c23)⟩ K;have C24:=(((c19.nil ([.n 0 i]:List Tg)).trans (c20)).n c22).n c23;rw[show I4 p i (k0+1)={ p with rnd:={ p.rnd with taught:=upN (Jy p i k0) k0 x17.agreed.n } }from by unfold I4;rw[← XK hx,han1],show ls++Ed p i (k0+1)=(ls++Ed p i k0++[{ Cd 5 with src:=i,dst:=k0,slot:=p.rnd.taught k0,what:=p.agreed.drop (p.rnd.taught k0) }])from by show ls++(Ed p i k0++_)=_;rw[hx,if_pos rfl,List.append_assoc]];exact⟨x17,lt17,tl17,K0.ndu 0 hN17 C24,hO17.ch C24 (hn:=by simp<;>omega),K0.new⟩
     ·have hx:RB p i k0=false:=decide_eq_false (fun h=>h4 (by omega));refine qI ((decide ((p.rnd.taught k0:Int)<(xr.agreed.n:Int)))) false (decide_eq_false (by omega)) ?_;refine qR [] 3 [] fun s25 g25 w25 c25=>?_;refine qV 0 (iv ((k0:Int)+1)) (AB (x:=(.tmp 13)) (y:=(.const (iv 1))) (k0:Int) 1 underlying3 (by omega)) ?_;refine qR [] 2 [] fun s26 g26 w26 c26=>?_;refine qB [false,false] fun z K0 K=>hJ (5-(k0+1)) _ _ _ z _ (by omega) ⟨k0+1,rfl,by omega,rfl,rfl,?_,((((((hC.n c12).n c13).n c14).n c15).n c25).n c26)⟩ K;rw[show I4 p i (k0+1)={ p with rnd:={ p.rnd with taught:=Jy p i k0 } }from by unfold I4;rw[SC hx],show ls++Ed p i (k0+1)=ls++Ed p i k0 from by show ls++(Ed p i k0++_)=_;rw[hx];simp];exact(nsC hNr hOr (((((c12.n c13).n c14).n c15).n c25).n c26) K0)
    ·have hx:RB p i k0=false:=decide_eq_false (fun h=>h.1 (by omega));refine qV 5 (.bool false) (EW (t:=3) (m:=(k0:Int)) (n:=(i:Int)) (x:=(.tmp 17)) (y:=(.tmp 21)) (by simp;omega)) ?_;refine qR [] 15 [] fun s28 g28 w28 c28=>?_;refine qV 0 (iv ((k0:Int)+1)) (AB (x:=(.tmp 13)) (y:=(.const (iv 1))) (k0:Int) 1 underlying3 (by omega)) ?_;refine qR [] 2 [] fun s29 g29 w29 c29=>?_;refine qB [false,false] fun z K0 K=>hJ (5-(k0+1)) _ _ _ z _ (by omega) ⟨k0+1,rfl,by omega,rfl,rfl,?_,(((((hC.n c12).n c13).n c14).n c28).n c29)⟩ K;rw[show I4 p i (k0+1)={ p with rnd:={ p.rnd with taught:=Jy p i k0 } }from by unfold I4;rw[SC hx],show ls++Ed p i (k0+1)=ls++Ed p i k0 from by show ls++(Ed p i k0++_)=_;rw[hx];simp];exact(nsC hNr hOr ((((c12.n c13).n c14).n c28).n c29) K0)
   ·refine qI ((decide ((k0:Int)<5))) false (decide_eq_false (by omega)) ?_;refine qR [] 1 [] fun s31 g31 w31 c31=>?_;obtain rfl:k0=5:=by omega
    exact qF hNr hOr (c12.n c31) ((hC.n c12).n c31)
end
section
def Bn(l:List Vt):Prop:=BB l∧∀ v∈l,0≤v.slot∧v.slot≤39
theorem Xg(l:List Vt)(a:Int)(h:BB l)(hb:∀ v∈l,a≤v.slot∧v.slot≤39):l.length≤(40-a).toNat:=by
 induction l generalizing a with
 | nil=>exact Nat.zero_le _
 | cons u l ih =>
  obtain⟨h1,h2⟩:=h;have hu:=hb u List.mem_cons_self;have:=ih (u.slot+1) h2 fun v hv=>⟨by have:=h1 v hv;omega,(hb v (List.mem_cons_of_mem _ hv)).2⟩;rw[List.length_cons];omega
theorem Bn.len{l:List Vt}(h:Bn l):l.length≤40:=Xg l 0 h.1 h.2
theorem Bn.nil:Bn []:=⟨trivial,fun v h=>by cases h⟩
theorem Eu{a:Acc}{v:Vt}(h:AX a v=0):AD a∧Am v∧¬ v.b.lt a.p:=by
 unfold AX at h;by_cases h1:AD a
 ·rw[if_neg (fun g=>g h1)]at h
  by_cases h2:Am v
  ·rw[if_neg (fun g=>g h2)]at h
   by_cases h3:v.b.lt a.p
   ·rw[if_pos h3]at h;cases h
   ·exact⟨h1,h2,h3⟩
  ·rw[if_pos h2]at h;cases h
 ·rw[if_pos h1]at h;cases h
theorem Ms{a:Acc}{b:Bal}(h:BO a b=0):AD a∧Ad b∧¬ b.lt a.p:=by
 unfold BO at h;by_cases h1:AD a
 ·rw[if_neg (fun g=>g h1)]at h
  by_cases h2:Ad b
  ·rw[if_neg (fun g=>g h2)]at h
   by_cases h3:b.lt a.p
   ·rw[if_pos h3]at h;cases h
   ·exact⟨h1,h2,h3⟩
  ·rw[if_pos h2]at h;cases h
 ·rw[if_pos h1]at h;cases h
theorem Fj{l:List Vt}{v:Vt}(h:Bn l)(hv:Am v):Bn (Bk l v) :=
 ⟨Mf v h.1,fun u hu=>by
  rcases(Ks h.1).1 hu with rfl|⟨h2,_⟩
  ·exact hv.1
  ·exact h.2 u h2⟩
theorem T7(a:Acc)(l:List Vt)(h:Bn a.vs):Bn (IK a l).vs:=by
 induction l generalizing a with
 | nil=>exact h
 | cons v l ih =>
  rw[IK];refine ih _ ?_;by_cases hv:AX a v=0
  ·rw[if_pos hv];show Bn (Dg a v);rw[(RE hv).2];exact Fj h (Eu hv).2.1
  ·rw[if_neg hv];exact h
def POk(k:Nat):Pend→Prop
 | .began b vs=>Bn vs
 | .prom to b vs=>to<5∧Bm b∧Bn vs
 | .voted to v=>to<5
 | .refuse to b=>to<5∧Bm b
 | .prop v=>True
 | .askNews to=>to<5
 | .start=>True
 | .tell to slot=>to<5∧slot≤k
theorem POk.mono{k m:Nat}{q:Pend}(h:POk k q)(hk:k≤m):POk m q:=by
 cases q<;>first|exact h|exact⟨h.1,Nat.le_trans h.2 hk⟩
def Pend.wt:Pend→Nat
 | .began _ _=>4
 | .prop _=>4
 | .start=>4
 | _=>1
def At:List Pend→Nat
 | []=>0
 | q::l=>q.wt+At l
theorem EE(l:List Pend)(q:Pend):At (l++[q])=At l+q.wt:=by
 induction l with
 | nil=>simp[At]
 | cons x l ih=>simp only[List.cons_append,At,ih];omega
theorem Dp(l:List Pend):l.length≤At l:=by
 induction l with
 | nil=>exact Nat.le_refl _
 | cons x l ih =>
  rw[At,List.length_cons];have:1≤x.wt:=by cases x<;>simp[Pend.wt]
  omega
structure NOk(n:Nat)(p:Nod):Prop where
 ag:p.agreed.length≤40
 dn:p.done≤p.agreed.length
 qu:p.rnd.queue.length≤40
 wa:p.wants.length≤n
 ask:∀ c,(p.asked c).isSome=true→c∈p.wants
 ro:0≤p.rounds∧p.rounds≤65536
 vp:Bm p.vo.p
 vs:Bn p.vo.vs
 he:∀ j,Bn (p.rnd.heard j).vs
 pe:∀ q∈p.pend,POk p.agreed.length q
structure LOk(l:Let):Prop where
 kd:l.kind<7
 src:l.src<5
 dst:l.dst<5
 bal:Bm l.bal
 vs:Bn l.votes
 wh:l.what.length≤40
 sl:l.kind=5→l.slot+l.what.length≤40
theorem Bm.b0:Bm Cu:=.inr ⟨rfl,rfl⟩
theorem Bm.rng{b:Bal}(h:Bm b):0≤b.r∧b.r≤65536∧0≤b.n∧b.n≤4:=by
 rcases h with⟨h1,h2⟩|⟨h1,h2⟩<;>omega
section
variable{n:Nat}{p:Nod}
theorem NOk.wait(h:NOk n p){q:Pend}(hq:POk p.agreed.length q):NOk n (p.wait q) :=
 { h with pe:=fun r hr=>(List.mem_append.1 hr).elim (h.pe r) fun h1=>(List.mem_singleton.1 h1)▸hq }
theorem NOk.promise(h:NOk n p)(b:Bal):NOk n (p.promise b).1∧(p.promise b).1.pend=p.pend∧(p.promise b).1.agreed=p.agreed∧Bn (p.promise b).2.1∧((p.promise b).2.2=0→Ad b):=by
 unfold Nod.promise;by_cases h1:BO p.vo b≠0
 ·rw[if_pos h1];exact⟨h,rfl,rfl,Bn.nil,fun g=>absurd g h1⟩
 ·rw[if_neg h1];have h2:=Ms (Decidable.byContradiction h1);by_cases h3:b=p.vo.p
  ·rw[if_pos h3];exact⟨{ h with vp:=.inl h2.2.1,vs:=h.vs },rfl,rfl,h.vs,fun _=>h2.2.1⟩
  ·rw[if_neg h3];by_cases h4:Cy p.d p.sy (Ad b) (BC b)≠0
   ·rw[if_pos h4];exact⟨h,rfl,rfl,Bn.nil,fun g=>absurd g h4⟩
   ·rw[if_neg h4];exact⟨{ h with vp:=.inl h2.2.1,vs:=h.vs },rfl,rfl,h.vs,fun _=>h2.2.1⟩
theorem NOk.vote(h:NOk n p)(v:Vt):NOk n (p.vote v).1∧(p.vote v).1.pend=p.pend∧(p.vote v).1.agreed=p.agreed∧(p.vote v).1.rnd=p.rnd:=by
 unfold Nod.vote;by_cases h1:AX p.vo v≠0
 ·rw[if_pos h1];exact⟨h,rfl,rfl,rfl⟩
 ·rw[if_neg h1];have h2:=Eu (Decidable.byContradiction h1);by_cases h3:v∈p.vo.vs
  ·rw[if_pos h3];exact⟨{ h with vp:=.inl h2.2.1.2.1,vs:=Fj h.vs h2.2.1 },rfl,rfl,rfl⟩
  ·rw[if_neg h3];by_cases h4:Cy p.d p.sy (Am v) (BA v)≠0
   ·rw[if_pos h4];exact⟨h,rfl,rfl,rfl⟩
   ·rw[if_neg h4];exact⟨{ h with vp:=.inl h2.2.1.2.1,vs:=Fj h.vs h2.2.1 },rfl,rfl,rfl⟩
theorem NOk.refuse(h:NOk n p){to:Nat}(hto:to<5)(e:Int):NOk n (p.refuse to e)∧(p.refuse to e).agreed=p.agreed∧At (p.refuse to e).pend≤At p.pend+1:=by
 unfold Nod.refuse;split
 ·exact⟨h.wait ⟨hto,h.vp⟩,rfl,by show At (p.pend++[_])≤_;rw[EE];exact Nat.le_refl _⟩
 ·exact⟨h,rfl,Nat.le_succ _⟩
theorem YW(k:Nat)(r:Rnd)(l:List Cmd)(h:l.length≤40):(Ng k r l).length≤40∧l.length≤(Ng k r l).length:=by
 induction k generalizing l with
 | zero=>exact⟨h,Nat.le_refl _⟩
 | succ k ih =>
  rw[Ng];split
  ·rename_i h1
   have h2:=Vm h1;have:=ih (l++[Cv r.accs (l.length:Int)]) (by simp;omega);simp at this;exact⟨this.1,by omega⟩
  ·exact⟨h,Nat.le_refl _⟩
theorem NOk.grow(h:NOk n p){l:List Cmd}(h1:l.length≤40)(h2:p.agreed.length≤l.length):NOk n { p with agreed:=l } :=
 { h with ag:=h1,dn:=Nat.le_trans h.dn h2,pe:=fun q hq=>(h.pe q hq).mono h2 }
theorem NOk.learnC(h:NOk n p):NOk n p.learnC∧p.learnC.pend=p.pend∧p.agreed.length≤p.learnC.agreed.length :=
 have:=YW 41 p.rnd p.agreed h.ag
 ⟨h.grow this.1 this.2,rfl,this.2⟩
theorem NOk.learn(h:NOk n p){slot:Nat}{what:List Cmd}(h1:slot≤p.agreed.length)(h2:slot+what.length≤40):NOk n (p.learn slot what)∧(p.learn slot what).pend=p.pend∧p.agreed.length≤(p.learn slot what).agreed.length:=by
 have ha:=h.ag;refine⟨h.grow ?_ ?_,rfl,?_⟩
 ·rw[List.length_append,List.length_drop];omega
 ·rw[List.length_append];omega
 ·show _≤(p.agreed++_).length;rw[List.length_append];omega
theorem XP{α:Type}{f:Nat→α}{P:α→Prop}(h:∀ j,P (f j))(i:Nat){x:α}(hx:P x):∀ j,P (upN f i x j):=by
 intro j;unfold upN;split
 ·exact hx
 ·exact h j
theorem NOk.hear(h:NOk n p)(j:Nat){vs:List Vt}(hv:Bn vs):NOk n { p with rnd:=p.rnd.hear j vs } :=
 { h with qu:=h.qu,he:=XP (P:=fun a:Acc=>Bn a.vs) h.he j (T7 _ _ hv) }
theorem NOk.count(h:NOk n p)(j:Nat)(v:Vt):NOk n (p.count j v)∧(p.count j v).pend=p.pend∧p.agreed.length≤(p.count j v).agreed.length:=by
 unfold Nod.count;by_cases h1:v.b≠p.rnd.bal
 ·rw[if_pos h1];exact⟨h,rfl,Nat.le_refl _⟩
 ·rw[if_neg h1];by_cases h2:AX (p.rnd.heard j) v≠0
  ·rw[if_pos h2];exact⟨h,rfl,Nat.le_refl _⟩
  ·rw[if_neg h2];have h3:=Decidable.byContradiction h2;have:NOk n { p with rnd:={ p.rnd with heard:=upN p.rnd.heard j ⟨Ca (p.rnd.heard j) v,Dg (p.rnd.heard j) v⟩ } } :=
    { h with qu:=h.qu,he:=XP (P:=fun a:Acc=>Bn a.vs) h.he j (by show Bn (Dg _ v);rw[(RE h3).2];exact Fj (h.he j) (Eu h3).2.1) }
   exact this.learnC
theorem NOk.enqueue(h:NOk n p)(l:List Cmd):NOk n (p.enqueue l)∧(p.enqueue l).pend=p.pend∧(p.enqueue l).agreed=p.agreed:=by
 unfold Nod.enqueue;split
 ·exact⟨{ h with qu:=Y4 _ _ h.qu,he:=h.he },rfl,rfl⟩
 ·exact⟨h,rfl,rfl⟩
theorem NOk.take(h:NOk n p){l:Let}(hl:LOk l):NOk n (p.take l)∧At (p.take l).pend≤At p.pend+1∧p.agreed.length≤(p.take l).agreed.length:=by
 have ha:=h.ag;unfold Nod.take;have hw:∀ {P:Nod} {q:Pend},P.pend=p.pend→q.wt=1→At (P.wait q).pend≤At p.pend+1:=fun{P q} e e2=>by
  show At (P.pend++[q])≤_;rw[EE,e,e2];exact Nat.le_refl _
 split
 ·have hp:=h.promise l.bal;split
  ·have:=h.refuse hl.src (p.promise l.bal).2.2;exact⟨this.1,this.2.2,by rw[this.2.1];exact Nat.le_refl _⟩
  ·rename_i h1
   exact⟨hp.1.wait ⟨hl.src,.inl (hp.2.2.2.2 (Decidable.byContradiction h1)),hp.2.2.2.1⟩,hw hp.2.1 rfl,by show _≤(p.promise l.bal).1.agreed.length;rw[hp.2.2.1];exact Nat.le_refl _⟩
 ·have hk:=h.learn (slot:=0) (what:=l.what) (Nat.zero_le _) (by have:=hl.wh;omega);simp only;split
  ·exact⟨hk.1,by rw[hk.2.1];omega,hk.2.2⟩
  ·have h2:=hk.1.hear l.src (vs:=l.votes) hl.vs;have h3:NOk n { p.learn 0 l.what with rnd:={ (p.learn 0 l.what).rnd.hear l.src l.votes with taught:=upN (p.learn 0 l.what).rnd.taught l.src l.what.length } }:={ h2 with qu:=h2.qu,he:=h2.he };have h4:=h3.learnC;exact⟨h4.1,by rw[h4.2.1];show At (p.learn 0 l.what).pend≤_;rw[hk.2.1];omega,Nat.le_trans hk.2.2 h4.2.2⟩
 ·have hr:=h.ro;have hb:=hl.bal.rng;exact⟨{ h with ro:=by show 0≤max p.rounds l.bal.r∧max p.rounds l.bal.r≤65536;omega },Nat.le_succ _,Nat.le_refl _⟩
 ·have hp:=h.vote l.vote;split
  ·have:=h.refuse hl.src (p.vote l.vote).2;exact⟨this.1,this.2.2,by rw[this.2.1];exact Nat.le_refl _⟩
  ·exact⟨hp.1.wait hl.src,hw hp.2.1 rfl,by show _≤(p.vote l.vote).1.agreed.length;rw[hp.2.2.1];exact Nat.le_refl _⟩
 ·have:=h.count l.src l.vote;exact⟨this.1,by rw[this.2.1];omega,this.2.2⟩
 ·rename_i hk
  split
  ·exact⟨h.wait hl.src,hw rfl rfl,Nat.le_refl _⟩
  ·have:=h.learn (slot:=l.slot) (what:=l.what) (by omega) (hl.sl hk);exact⟨this.1,by rw[this.2.1];omega,this.2.2⟩
 ·have he:=h.enqueue l.what;simp only;split
  ·rename_i h1
   exact⟨he.1.wait ⟨hl.src,Nat.le_of_lt h1⟩,hw he.2.1 rfl,by show _≤(p.enqueue l.what).agreed.length;rw[he.2.2];exact Nat.le_refl _⟩
  ·exact⟨he.1,by rw[he.2.1];omega,by rw[he.2.2];exact Nat.le_refl _⟩
 ·exact⟨h,Nat.le_succ _,Nat.le_refl _⟩
end
end
end Go.Proofs.YtaeckakjdagddadGreatDoor
